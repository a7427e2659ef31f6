import Derived.Test.YtoopipljedoeeaaSd
import Derived.Deep.RegionHeld3
namespace Go.Proofs.Ytoopipljedoeeaa
open Go.RowKit

set_option maxHeartbeats 1000000 in
theorem eqQ_same (a b : Int) (w : World) :
    Calls Try.prog 28 #[.agg #[.int .i64 a, .int .i64 b], .agg #[.int .i64 a, .int .i64 b]] w fun e w' => e = .returned (.bool true) ∧ Below w.heap.size w w' := by
  go_enter Try.func28, Try.ntmps28
  go_wp2
  go_ret
  exact ⟨rfl, Joins.below_alloc2 _ _ _⟩

set_option maxHeartbeats 1000000 in
theorem eqV_same (a b c d : Int) (w : World) :
    Calls Try.prog 14 #[.agg #[.int .i64 a, .int .i64 b, .int .i64 c, .int .i64 d], .agg #[.int .i64 a, .int .i64 b, .int .i64 c, .int .i64 d]] w fun e w' => e = .returned (.bool true) ∧ Below w.heap.size w w' := by
  go_enter Try.func14, Try.ntmps14
  go_wp2_with fail
  refine (eqQ_same _ _ _).mono ?_
  rintro e w1 ⟨rfl, hb1⟩
  obtain ⟨hc1, hf1⟩ := bcell hb1
  have HB1 : Hid _ := hb1
  clear hb1
  go_wp2_with fail
  refine (eqQ_same _ _ _).mono ?_
  rintro e w2 ⟨rfl, hb2⟩
  have HB2 : Hid (Below _ _ w2) := HB1.out.trans (hb2.mono HB1.out.size)
  clear hb2 HB1 hc1 hf1
  go_wp2
  go_ret
  exact ⟨rfl, (Joins.below_alloc2 _ _ _).trans (HB2.out.mono (by simp; omega))⟩

theorem Ar.newp {w w1 : World} {o1 o2 : Obj} (hb : Below (((w.alloc o1).alloc o2).alloc (.cells #[.int .i64 0, .int .i64 0, .int .i64 0, .int .i64 0] 40)).drew.heap.size (((w.alloc o1).alloc o2).alloc (.cells #[.int .i64 0, .int .i64 0, .int .i64 0, .int .i64 0] 40)).drew w1) : Ar w1 (w.heap.size + 1 + 1) #[.int .i64 0, .int .i64 0, .int .i64 0, .int .i64 0] := by
  refine Ar.below (w := (((w.alloc o1).alloc o2).alloc (.cells #[.int .i64 0, .int .i64 0, .int .i64 0, .int .i64 0] 40)).drew) ⟨fun j => ?_, fun j => ?_, ?_⟩ hb
  · go_simp
  · go_simp
  · show w.heap.size + 1 + 1 < (((w.alloc o1).alloc o2).alloc (.cells #[.int .i64 0, .int .i64 0, .int .i64 0, .int .i64 0] 40)).heap.size
    simp
theorem Ar.newq {w1 w2 : World} (hb : Below (w1.alloc (.cells #[.int .i64 0, .int .i64 0, .int .i64 0, .int .i64 0] 40)).heap.size (w1.alloc (.cells #[.int .i64 0, .int .i64 0, .int .i64 0, .int .i64 0] 40)) w2) : Ar w2 w1.heap.size #[.int .i64 0, .int .i64 0, .int .i64 0, .int .i64 0] := by
  refine Ar.below (w := w1.alloc (.cells #[.int .i64 0, .int .i64 0, .int .i64 0, .int .i64 0] 40)) ⟨fun j => ?_, fun j => ?_, ?_⟩ hb
  · go_simp
  · go_simp
  · simp
theorem Ar.newd {W w1 : World} (hb : Below (W.alloc (.cells #[.int .i64 0, .int .i64 0, .int .i64 0, .int .i64 0] 40)).drew.heap.size (W.alloc (.cells #[.int .i64 0, .int .i64 0, .int .i64 0, .int .i64 0] 40)).drew w1) : Ar w1 W.heap.size #[.int .i64 0, .int .i64 0, .int .i64 0, .int .i64 0] := by
  refine Ar.below (w := (W.alloc (.cells #[.int .i64 0, .int .i64 0, .int .i64 0, .int .i64 0] 40)).drew) ⟨fun j => ?_, fun j => ?_, ?_⟩ hb
  · go_simp
  · go_simp
  · show W.heap.size < (W.alloc (.cells #[.int .i64 0, .int .i64 0, .int .i64 0, .int .i64 0] 40)).heap.size
    simp
theorem Ar.newx (w3 : World) (A : Array Value) : Ar (w3.alloc (.cells A 40)) w3.heap.size A := ⟨fun j => by go_simp, fun j => by go_simp, by simp⟩
theorem Ar.drew {w : World} {b : Nat} {A : Array Value} (h : Ar w b A) : Ar w.drew b A := h.below (Below.refl _ _).drew
theorem Ar.put4 {w : World} {b : Nat} {z0 z1 z2 z3 : Value} (h : Ar w b #[z0, z1, z2, z3]) {u0 u1 u2 u3 : Value} : Ar ((((w.setCell ⟨b, 0, none⟩ u0).setCell ⟨b, 1, none⟩ u1).setCell ⟨b, 2, none⟩ u2).setCell ⟨b, 3, none⟩ u3) b #[u0, u1, u2, u3] := by
  obtain ⟨c, fz, sz⟩ := h
  have c0 := c 0
  have c1 := c 1
  have c2 := c 2
  have c3 := c 3
  refine ⟨fun j => ?_, fun j => by have := fz j; go_simp, by simpa using sz⟩
  match j with
  | 0 => go_simp
  | 1 => go_simp
  | 2 => go_simp
  | 3 => go_simp
  | j + 4 => have := c (j + 4); go_simp
theorem Ar.far4 {w : World} {b g : Nat} {A : Array Value} (h : Ar w g A) (hg : g ≠ b) {u0 u1 u2 u3 : Value} : Ar ((((w.setCell ⟨b, 0, none⟩ u0).setCell ⟨b, 1, none⟩ u1).setCell ⟨b, 2, none⟩ u2).setCell ⟨b, 3, none⟩ u3) g A :=
  ⟨fun i => by have := h.c i; go_simp, fun i => by have := h.fz i; go_simp, by simpa using h.sz⟩
theorem B2d {w w1 : World} {o1 o2 : Obj} (hb : Below ((w.alloc o1).alloc o2).drew.heap.size ((w.alloc o1).alloc o2).drew w1) : Below w.heap.size w w1 := (Joins.below_alloc2 w _ _).drew.trans (hb.mono (by simp; omega))
theorem B3d {w w1 : World} {o1 o2 o3 : Obj} (hb : Below (((w.alloc o1).alloc o2).alloc o3).drew.heap.size (((w.alloc o1).alloc o2).alloc o3).drew w1) : Below w.heap.size w w1 := (Joins.below_alloc3 w _ _ _).drew.trans (hb.mono (by simp; omega))
theorem Bc {w w1 w2 : World} (h : Below w.heap.size w w1) (hb : Below w1.heap.size w1 w2) : Below w.heap.size w w2 := h.trans (hb.mono h.size)
theorem Bd {w w1 w2 : World} (h : Below w.heap.size w w1) (hb : Below w1.drew.heap.size w1.drew w2) : Below w.heap.size w w2 := h.drew.trans (hb.mono h.size)
theorem Ba {w w1 w2 : World} {o : Obj} (h : Below w.heap.size w w1) (hb : Below (w1.alloc o).heap.size (w1.alloc o) w2) : Below w.heap.size w w2 := Bc (h.trans ((Joins.below_alloc1 w1 o).mono h.size)) hb
theorem Bad {w w1 w2 : World} {o : Obj} (h : Below w.heap.size w w1) (hb : Below (w1.alloc o).drew.heap.size (w1.alloc o).drew w2) : Below w.heap.size w w2 := Bd (h.trans ((Joins.below_alloc1 w1 o).mono h.size)) hb
theorem Bs4 {w w' : World} {b : Nat} (h : Below w.heap.size w w') (hb : w.heap.size ≤ b) {u0 u1 u2 u3 : Value} : Below w.heap.size w ((((w'.setCell ⟨b, 0, none⟩ u0).setCell ⟨b, 1, none⟩ u1).setCell ⟨b, 2, none⟩ u2).setCell ⟨b, 3, none⟩ u3) :=
  (((h.setCell (p := ⟨b, 0, none⟩) hb u0).setCell (p := ⟨b, 1, none⟩) hb u1).setCell (p := ⟨b, 2, none⟩) hb u2).setCell (p := ⟨b, 3, none⟩) hb u3
theorem S2z.alloc {N g : Nat} {A0 A1 : Array Value} {w' : World} (h : S2z N g A0 A1 w') {o : Obj} : S2z N g A0 A1 (w'.alloc o) := h.call (Joins.below_alloc1 _ _)
theorem S2z.drew {N g : Nat} {A0 A1 : Array Value} {w' : World} (h : S2z N g A0 A1 w') : S2z N g A0 A1 w'.drew := h.call (Below.refl _ _).drew

set_option maxHeartbeats 1000000 in
theorem lawDrop_of (a b c d k l m n p q r s t u x0 x1 x2 x3 : Int) (bb : Bool) (w : World)
    (hs : ∀ w, Calls Try.prog 12 #[.agg #[.int .i64 a, .int .i64 b, .int .i64 c, .int .i64 d, .int .i64 k, .int .i64 l, .int .i64 m, .int .i64 n], .agg #[.int .i64 p, .int .i64 q, .int .i64 r, .int .i64 s, .int .i64 t, .int .i64 u]] w fun e w' => e = .returned (.tuple #[.agg #[.int .i64 x0, .int .i64 x1, .int .i64 x2, .int .i64 x3], .bool bb]) ∧ Below w.heap.size w w')
    (hi : ∀ w, Calls Try.prog 13 #[.agg #[.int .i64 a, .int .i64 b, .int .i64 c, .int .i64 d, .int .i64 k, .int .i64 l, .int .i64 m, .int .i64 n], .agg #[.int .i64 p, .int .i64 q, .int .i64 r, .int .i64 s, .int .i64 t, .int .i64 u]] w fun e w' => e = .returned (.tuple #[.agg #[.int .i64 x0, .int .i64 x1, .int .i64 x2, .int .i64 x3], .bool bb]) ∧ Below w.heap.size w w') :
    Calls Try.prog 5 #[.agg #[.int .i64 a, .int .i64 b, .int .i64 c, .int .i64 d, .int .i64 k, .int .i64 l, .int .i64 m, .int .i64 n], .agg #[.int .i64 p, .int .i64 q, .int .i64 r, .int .i64 s, .int .i64 t, .int .i64 u]] w fun e w' => e = .returned (.bool true) ∧ Below w.heap.size w w' := by
  have HS : Hid _ := hs
  have HI : Hid _ := hi
  clear hs hi
  have H0 : Hid (S2z w.heap.size (w.heap.size + 1) #[.int .i64 a, .int .i64 b, .int .i64 c, .int .i64 d, .int .i64 k, .int .i64 l, .int .i64 m, .int .i64 n] #[.int .i64 p, .int .i64 q, .int .i64 r, .int .i64 s, .int .i64 t, .int .i64 u] ((w.alloc (.cells #[.int .i64 a, .int .i64 b, .int .i64 c, .int .i64 d, .int .i64 k, .int .i64 l, .int .i64 m, .int .i64 n] 33)).alloc (.cells #[.int .i64 p, .int .i64 q, .int .i64 r, .int .i64 s, .int .i64 t, .int .i64 u] 25))) := ⟨⟨fun j => by go_simp, by simp; omega⟩, ⟨fun j => by go_simp, by simp⟩⟩
  go_enter Try.func5, Try.ntmps5
  go_wp2_with fail
  generalize hQQ : Exit.then _ _ = QQ
  suffices hT : ∀ (g : Nat) (W : World), S2z w.heap.size (w.heap.size + 1) #[.int .i64 a, .int .i64 b, .int .i64 c, .int .i64 d, .int .i64 k, .int .i64 l, .int .i64 m, .int .i64 n] #[.int .i64 p, .int .i64 q, .int .i64 r, .int .i64 s, .int .i64 t, .int .i64 u] W → Ar W g #[.int .i64 x0, .int .i64 x1, .int .i64 x2, .int .i64 x3] → Below w.heap.size w W → w.heap.size + 1 < g → QQ Exit.normal { tmps := #[.agg #[.int .i64 a, .int .i64 b, .int .i64 c, .int .i64 d, .int .i64 k, .int .i64 l, .int .i64 m, .int .i64 n], .agg #[.int .i64 p, .int .i64 q, .int .i64 r, .int .i64 s, .int .i64 t, .int .i64 u], .pointer (some ⟨w.heap.size, 0, none⟩), .pointer (some ⟨w.heap.size + 1, 0, none⟩), .bool false, .pointer (some ⟨g, 0, none⟩), .bool bb, undef, undef, .tuple #[.agg #[.int .i64 x0, .int .i64 x1, .int .i64 x2, .int .i64 x3], .bool bb], .agg #[.int .i64 a, .int .i64 b, .int .i64 c, .int .i64 d, .int .i64 k, .int .i64 l, .int .i64 m, .int .i64 n], .agg #[.int .i64 a, .int .i64 b, .int .i64 c, .int .i64 d, .int .i64 k, .int .i64 l, .int .i64 m, .int .i64 n], .agg #[.int .i64 p, .int .i64 q, .int .i64 r, .int .i64 s, .int .i64 t, .int .i64 u], .agg #[.int .i64 p, .int .i64 q, .int .i64 r, .int .i64 s, .int .i64 t, .int .i64 u], .tuple #[.agg #[.int .i64 x0, .int .i64 x1, .int .i64 x2, .int .i64 x3], .bool bb], .agg #[.int .i64 x0, .int .i64 x1, .int .i64 x2, .int .i64 x3], .bool bb, undef, undef, undef, undef, undef, undef, undef, undef, undef, undef, undef, undef, undef, undef, undef, undef, undef], defers := [] } W by
    subst hQQ
    go_region_held3 (fun w' => S2z w.heap.size (w.heap.size + 1) #[.int .i64 a, .int .i64 b, .int .i64 c, .int .i64 d, .int .i64 k, .int .i64 l, .int .i64 m, .int .i64 n] #[.int .i64 p, .int .i64 q, .int .i64 r, .int .i64 s, .int .i64 t, .int .i64 u] w') (first | with_reducible assumption | with_reducible exact S2z.drew H0.out | with_reducible exact S2z.drew (S2z.alloc H0.out) | with_reducible exact S2z.call (by assumption) (by assumption) | with_reducible exact S2z.alloc (by assumption) | with_reducible exact S2z.alloc T3 | with_reducible exact S2z.set4 (by assumption) (by omega) (by omega))
      (first
        | (go_at_call 10; refine (toPlane_any _ _ _ _ _ _ _ _ _).mono ?_; rintro e w1 ⟨rfl, hb1⟩; have hz1 : w.heap.size + 1 < w1.heap.size := (by have := hb1.size; simp at this; omega); (first | (have B1 := B2d (w := w) hb1) | (have B1 := B3d (w := w) hb1)); first | (have K1 := Ar.newp hb1) | skip)
        | (go_at_call 7; refine (toV3_any _ _ _ _ _ _ _).mono ?_; rintro e w2 ⟨rfl, hb2⟩; have hz2 : w1.heap.size ≤ w2.heap.size := (by have := hb2.size; first | omega | (simp at this; omega)); (first | (have B2 := Bc B1 hb2) | (have B2 := Ba B1 hb2)); first | (have K2 := Ar.below K1 hb2) | (have K2 := Ar.newq hb2) | skip)
        | (go_at_call 12; refine (HS.out _).mono ?_; rintro e w3 ⟨rfl, hb3⟩; have T3 := S2z.call (N := w.heap.size) (g := w.heap.size + 1) (A0 := #[.int .i64 a, .int .i64 b, .int .i64 c, .int .i64 d, .int .i64 k, .int .i64 l, .int .i64 m, .int .i64 n]) (A1 := #[.int .i64 p, .int .i64 q, .int .i64 r, .int .i64 s, .int .i64 t, .int .i64 u]) (by assumption) hb3; have hz3 : w2.heap.size ≤ w3.heap.size := (by have := hb3.size; first | omega | (simp at this; omega)); (first | (have B3 := Bc B2 hb3) | (have B3 := Ba B2 hb3)); first | (have K3 := Ar.below K2 hb3; have y := K3.c; have yf := K3.fz; have ys := K3.sz; have y0 := y 0; have y1 := y 1; have y2 := y 2; have y3 := y 3) | (have K3 := Ar.newq hb3; have y := K3.c; have yf := K3.fz; have ys := K3.sz; have y0 := y 0; have y1 := y 1; have y2 := y 2; have y3 := y 3) | skip))
    · exact hT _ _ (S2z.alloc T3) (Ar.newx _ _) (B3.alloc B3.size _) (by omega)
    all_goals exact hT _ _ (S2z.set4 T3 (by omega) (by omega)) (Ar.put4 K3) (Bs4 B3 (by omega)) (by omega)
  intro g W hS hA hB hg
  subst hQQ
  have hgW := hA.sz
  have HS2 : Hid _ := hS
  have HA2 : Hid _ := hA
  have HB2 : Hid _ := hB
  clear hS hA hB HS H0
  go_wp2_with fail
  generalize hQQ : Exit.then _ _ = QQ
  suffices hT : ∀ (g' : Nat) (W' : World), Ar W' g #[.int .i64 x0, .int .i64 x1, .int .i64 x2, .int .i64 x3] → Ar W' g' #[.int .i64 x0, .int .i64 x1, .int .i64 x2, .int .i64 x3] → Below w.heap.size w W' → QQ Exit.normal { tmps := #[.agg #[.int .i64 a, .int .i64 b, .int .i64 c, .int .i64 d, .int .i64 k, .int .i64 l, .int .i64 m, .int .i64 n], .agg #[.int .i64 p, .int .i64 q, .int .i64 r, .int .i64 s, .int .i64 t, .int .i64 u], .pointer (some ⟨w.heap.size, 0, none⟩), .pointer (some ⟨w.heap.size + 1, 0, none⟩), .bool false, .pointer (some ⟨g, 0, none⟩), .bool bb, .pointer (some ⟨g', 0, none⟩), .bool bb, .tuple #[.agg #[.int .i64 x0, .int .i64 x1, .int .i64 x2, .int .i64 x3], .bool bb], .agg #[.int .i64 a, .int .i64 b, .int .i64 c, .int .i64 d, .int .i64 k, .int .i64 l, .int .i64 m, .int .i64 n], .agg #[.int .i64 a, .int .i64 b, .int .i64 c, .int .i64 d, .int .i64 k, .int .i64 l, .int .i64 m, .int .i64 n], .agg #[.int .i64 p, .int .i64 q, .int .i64 r, .int .i64 s, .int .i64 t, .int .i64 u], .agg #[.int .i64 p, .int .i64 q, .int .i64 r, .int .i64 s, .int .i64 t, .int .i64 u], .tuple #[.agg #[.int .i64 x0, .int .i64 x1, .int .i64 x2, .int .i64 x3], .bool bb], .agg #[.int .i64 x0, .int .i64 x1, .int .i64 x2, .int .i64 x3], .bool bb, .tuple #[.agg #[.int .i64 x0, .int .i64 x1, .int .i64 x2, .int .i64 x3], .bool bb], .agg #[.int .i64 a, .int .i64 b, .int .i64 c, .int .i64 d, .int .i64 k, .int .i64 l, .int .i64 m, .int .i64 n], .agg #[.int .i64 a, .int .i64 b, .int .i64 c, .int .i64 d, .int .i64 k, .int .i64 l, .int .i64 m, .int .i64 n], .agg #[.int .i64 p, .int .i64 q, .int .i64 r, .int .i64 s, .int .i64 t, .int .i64 u], .agg #[.int .i64 p, .int .i64 q, .int .i64 r, .int .i64 s, .int .i64 t, .int .i64 u], .tuple #[.agg #[.int .i64 x0, .int .i64 x1, .int .i64 x2, .int .i64 x3], .bool bb], .agg #[.int .i64 x0, .int .i64 x1, .int .i64 x2, .int .i64 x3], .bool bb, undef, undef, undef, undef, undef, undef, undef, undef, undef], defers := [] } W' by
    subst hQQ
    go_region_held3 (fun w' => S2z w.heap.size (w.heap.size + 1) #[.int .i64 a, .int .i64 b, .int .i64 c, .int .i64 d, .int .i64 k, .int .i64 l, .int .i64 m, .int .i64 n] #[.int .i64 p, .int .i64 q, .int .i64 r, .int .i64 s, .int .i64 t, .int .i64 u] w') (first | with_reducible assumption | with_reducible exact S2z.drew HS2.out | with_reducible exact S2z.drew (S2z.alloc HS2.out) | with_reducible exact S2z.call (by assumption) (by assumption) | with_reducible exact S2z.alloc (by assumption) | with_reducible exact S2z.alloc T6 | with_reducible exact S2z.set4 (by assumption) (by omega) (by omega))
      (first
        | (go_at_call 10; refine (toPlane_any _ _ _ _ _ _ _ _ _).mono ?_; rintro e w4 ⟨rfl, hb4⟩; have hz4 : W.heap.size ≤ w4.heap.size := (by have := hb4.size; simp at this; omega); (first | (have B4 := Bd HB2.out hb4; have L4 := HA2.out.drew.below hb4) | (have B4 := Bad HB2.out hb4; have L4 := (HA2.out.below (Joins.below_alloc1 _ _)).drew.below hb4)); first | (have K4 := Ar.newd hb4) | skip)
        | (go_at_call 7; refine (toV3_any _ _ _ _ _ _ _).mono ?_; rintro e w5 ⟨rfl, hb5⟩; have hz5 : w4.heap.size ≤ w5.heap.size := (by have := hb5.size; first | omega | (simp at this; omega)); (first | (have B5 := Bc B4 hb5; have L5 := L4.below hb5) | (have B5 := Ba B4 hb5; have L5 := (L4.below (Joins.below_alloc1 _ _)).below hb5)); first | (have K5 := Ar.below K4 hb5) | (have K5 := Ar.newq hb5) | skip)
        | (go_at_call 13; refine (HI.out _).mono ?_; rintro e w6 ⟨rfl, hb6⟩; have T6 := S2z.call (N := w.heap.size) (g := w.heap.size + 1) (A0 := #[.int .i64 a, .int .i64 b, .int .i64 c, .int .i64 d, .int .i64 k, .int .i64 l, .int .i64 m, .int .i64 n]) (A1 := #[.int .i64 p, .int .i64 q, .int .i64 r, .int .i64 s, .int .i64 t, .int .i64 u]) (by assumption) hb6; have hz6 : w5.heap.size ≤ w6.heap.size := (by have := hb6.size; first | omega | (simp at this; omega)); (first | (have B6 := Bc B5 hb6; have L6 := L5.below hb6) | (have B6 := Ba B5 hb6; have L6 := (L5.below (Joins.below_alloc1 _ _)).below hb6)); first | (have K6 := Ar.below K5 hb6; have y := K6.c; have yf := K6.fz; have ys := K6.sz; have y0 := y 0; have y1 := y 1; have y2 := y 2; have y3 := y 3) | (have K6 := Ar.newq hb6; have y := K6.c; have yf := K6.fz; have ys := K6.sz; have y0 := y 0; have y1 := y 1; have y2 := y 2; have y3 := y 3) | skip))
    · exact hT _ _ (L6.below (Joins.below_alloc1 _ _)) (Ar.newx _ _) (B6.alloc B6.size _)
    all_goals exact hT _ _ (L6.far4 (by omega)) (Ar.put4 K6) (Bs4 B6 (by omega))
  intro g' W' hA' hC' hB'
  subst hQQ
  have HB3 : Hid _ := hB'
  obtain ⟨y, yf, ys⟩ := hA'
  obtain ⟨z, zf, zs⟩ := hC'
  have y0 := y 0
  have y1 := y 1
  have y2 := y 2
  have y3 := y 3
  have z0 := z 0
  have z1 := z 1
  have z2 := z 2
  have z3 := z 3
  clear hB' HS2 HA2 HB2 HI yf zf y z
  cases bb
  all_goals
    go_wp2_with fail
    refine (eqV_same x0 x1 x2 x3 _).mono ?_
    rintro e w9 ⟨rfl, hb9⟩
    have HB9 : Hid _ := Bc HB3.out hb9
    clear hb9
    go_wp2
    go_ret
    exact ⟨rfl, HB9.out⟩
end Go.Proofs.Ytoopipljedoeeaa
