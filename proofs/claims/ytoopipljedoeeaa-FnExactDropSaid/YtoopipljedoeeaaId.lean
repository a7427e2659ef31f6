import Derived.Test.YtoopipljedoeeaaSv
import Derived.Deep.RegionHeld3
namespace Go.Proofs.Ytoopipljedoeeaa
open Go.RowKit

theorem qok_b {n d : Int} (h : qok n d = true) : (-1000000000000000000 ≤ n ∧ n ≤ 1000000000000000000) ∧ (1 ≤ d ∧ d ≤ 1000000000000000000) ∧ Nat.gcd n.natAbs d.natAbs = 1 := by
  unfold qok at h
  split at h
  · rename_i c
    unfold gcdOne at h
    exact ⟨⟨c.2.2.1, c.2.2.2⟩, ⟨c.1, c.2.1⟩, by simpa using h⟩
  · cases h
/-- The two arguments and the result's place, as they lie. -/
structure A3 (w : World) (a b c d k l m n p q r s t u : Int) (w' : World) : Prop where
  fp : Ar w' w.heap.size #[.int .i64 a, .int .i64 b, .int .i64 c, .int .i64 d, .int .i64 k, .int .i64 l, .int .i64 m, .int .i64 n]
  fv : Ar w' (w.heap.size + 1) #[.int .i64 p, .int .i64 q, .int .i64 r, .int .i64 s, .int .i64 t, .int .i64 u]
  fr : Ar w' (w.heap.size + 1 + 1) #[.int .i64 0, .int .i64 0, .int .i64 0, .int .i64 0]
  fb : Below w.heap.size w w'
theorem A3.start (w : World) (a b c d k l m n p q r s t u : Int) : A3 w a b c d k l m n p q r s t u (((w.alloc (.cells #[.int .i64 a, .int .i64 b, .int .i64 c, .int .i64 d, .int .i64 k, .int .i64 l, .int .i64 m, .int .i64 n] 36)).alloc (.cells #[.int .i64 p, .int .i64 q, .int .i64 r, .int .i64 s, .int .i64 t, .int .i64 u] 29)).alloc (.cells #[.int .i64 0, .int .i64 0, .int .i64 0, .int .i64 0] 40)) :=
  ⟨⟨fun j => by go_simp, fun j => by go_simp, by simp; omega⟩, ⟨fun j => by go_simp, fun j => by go_simp, by simp⟩, ⟨fun j => by go_simp, fun j => by go_simp, by simp⟩, Joins.below_alloc3 _ _ _ _⟩
theorem A3.call {w w' w1 : World} {a b c d k l m n p q r s t u : Int} (h : A3 w a b c d k l m n p q r s t u w') (hb : Below w'.heap.size w' w1) : A3 w a b c d k l m n p q r s t u w1 :=
  ⟨h.fp.below hb, h.fv.below hb, h.fr.below hb, h.fb.trans (hb.mono h.fb.size)⟩

set_option maxHeartbeats 1000000 in
theorem implDrop_no0 (a b c d k l m n p q r s t u : Int) (w : World) (hp : pok a b c d k l m n = false) :
    Calls Try.prog 13 #[.agg #[.int .i64 a, .int .i64 b, .int .i64 c, .int .i64 d, .int .i64 k, .int .i64 l, .int .i64 m, .int .i64 n], .agg #[.int .i64 p, .int .i64 q, .int .i64 r, .int .i64 s, .int .i64 t, .int .i64 u]] w fun e w' => e = .returned (.tuple #[.agg #[.int .i64 0, .int .i64 0, .int .i64 0, .int .i64 0], .bool false]) ∧ Below w.heap.size w w' := by
  have H0 : Hid (A3 w a b c d k l m n p q r s t u _) := A3.start w a b c d k l m n p q r s t u
  go_enter Try.func13, Try.ntmps13
  go_wp2_with fail
  refine (implPlaneOk_any _ _ _ _ _ _ _ _ _).mono ?_
  rintro e w1 ⟨rfl, hb1⟩
  rw [hp]
  have H1 : Hid (A3 w a b c d k l m n p q r s t u w1) := H0.out.call hb1
  clear hb1 H0
  obtain ⟨y, yf, ys⟩ := H1.out.fr
  go_wp2
  exact bodyPost_ret (v := .tuple #[.agg #[.int .i64 0, .int .i64 0, .int .i64 0, .int .i64 0], .bool false]) (by simp [results, Try.results13, go_sem, y]) rfl ⟨rfl, ((((H1.out.fb.setCell (p := ⟨w.heap.size + 1 + 1, 0, none⟩) (by simp; omega) _).setCell (p := ⟨w.heap.size + 1 + 1, 1, none⟩) (by simp; omega) _).setCell (p := ⟨w.heap.size + 1 + 1, 2, none⟩) (by simp; omega) _).setCell (p := ⟨w.heap.size + 1 + 1, 3, none⟩) (by simp; omega) _)⟩

set_option maxHeartbeats 1000000 in
theorem implDrop_no1 (a b c d k l m n p q r s t u : Int) (w : World) (hp : pok a b c d k l m n = true) (hv : (qok p q && qok r s && qok t u) = false) :
    Calls Try.prog 13 #[.agg #[.int .i64 a, .int .i64 b, .int .i64 c, .int .i64 d, .int .i64 k, .int .i64 l, .int .i64 m, .int .i64 n], .agg #[.int .i64 p, .int .i64 q, .int .i64 r, .int .i64 s, .int .i64 t, .int .i64 u]] w fun e w' => e = .returned (.tuple #[.agg #[.int .i64 0, .int .i64 0, .int .i64 0, .int .i64 0], .bool false]) ∧ Below w.heap.size w w' := by
  have H0 : Hid (A3 w a b c d k l m n p q r s t u _) := A3.start w a b c d k l m n p q r s t u
  go_enter Try.func13, Try.ntmps13
  go_wp2_with fail
  refine (implPlaneOk_any _ _ _ _ _ _ _ _ _).mono ?_
  rintro e w1 ⟨rfl, hb1⟩
  rw [hp]
  have H1 : Hid (A3 w a b c d k l m n p q r s t u w1) := H0.out.call hb1
  clear hb1 H0
  obtain ⟨x, xf, xs⟩ := H1.out.fv
  go_wp2_with fail
  refine (implV3Ok_any _ _ _ _ _ _ _).mono ?_
  rintro e w2 ⟨rfl, hb2⟩
  rw [hv]
  have H2 : Hid (A3 w a b c d k l m n p q r s t u w2) := H1.out.call hb2
  clear hb2 H1 x xf xs
  obtain ⟨y, yf, ys⟩ := H2.out.fr
  go_wp2
  exact bodyPost_ret (v := .tuple #[.agg #[.int .i64 0, .int .i64 0, .int .i64 0, .int .i64 0], .bool false]) (by simp [results, Try.results13, go_sem, y]) rfl ⟨rfl, ((((H2.out.fb.setCell (p := ⟨w.heap.size + 1 + 1, 0, none⟩) (by simp; omega) _).setCell (p := ⟨w.heap.size + 1 + 1, 1, none⟩) (by simp; omega) _).setCell (p := ⟨w.heap.size + 1 + 1, 2, none⟩) (by simp; omega) _).setCell (p := ⟨w.heap.size + 1 + 1, 3, none⟩) (by simp; omega) _)⟩
theorem S1.set4 {M : Nat} {A0 : Array Value} {w' : World} (h : S1 M A0 w') {b : Nat} (hb : M ≠ b) {u0 u1 u2 u3 : Value} : S1 M A0 ((((w'.setCell ⟨b, 0, none⟩ u0).setCell ⟨b, 1, none⟩ u1).setCell ⟨b, 2, none⟩ u2).setCell ⟨b, 3, none⟩ u3) :=
  ⟨fun j => by rw [cell_same ((set_other (set_other (set_other (set_other (fun g _ => rfl) 0 _) 1 _) 2 _) 3 _) M hb)]; exact h.1 j, by simpa using h.2⟩

theorem S2z.call {N g : Nat} {A0 A1 : Array Value} {w' w1 : World} (h : S2z N g A0 A1 w') (hb : Below w'.heap.size w' w1) : S2z N g A0 A1 w1 := ⟨h.1.call hb, h.2.call hb⟩
theorem S2z.set4 {N g : Nat} {A0 A1 : Array Value} {w' : World} (h : S2z N g A0 A1 w') {b : Nat} (h1 : N ≠ b) (h2 : g ≠ b) {u0 u1 u2 u3 : Value} : S2z N g A0 A1 ((((w'.setCell ⟨b, 0, none⟩ u0).setCell ⟨b, 1, none⟩ u1).setCell ⟨b, 2, none⟩ u2).setCell ⟨b, 3, none⟩ u3) := ⟨h.1.set4 h1, h.2.set4 h2⟩
theorem A3.s2 {w w' : World} {a b c d k l m n p q r s t u : Int} (h : A3 w a b c d k l m n p q r s t u w') : S2z w.heap.size (w.heap.size + 1) #[.int .i64 a, .int .i64 b, .int .i64 c, .int .i64 d, .int .i64 k, .int .i64 l, .int .i64 m, .int .i64 n] #[.int .i64 p, .int .i64 q, .int .i64 r, .int .i64 s, .int .i64 t, .int .i64 u] w'.drew := S2z.call ⟨⟨h.fp.c, h.fp.sz⟩, ⟨h.fv.c, h.fv.sz⟩⟩ (Below.refl _ _).drew

set_option maxHeartbeats 1000000 in
theorem implDrop_0 (a b c d k l m n p q r s t u : Int) (w : World) (hp : pok a b c d k l m n = true) (hq1 : qok p q = true) (hq2 : qok r s = true) (hq3 : qok t u = true) (hk : k ≠ 0) :
    Calls Try.prog 13 #[.agg #[.int .i64 a, .int .i64 b, .int .i64 c, .int .i64 d, .int .i64 k, .int .i64 l, .int .i64 m, .int .i64 n], .agg #[.int .i64 p, .int .i64 q, .int .i64 r, .int .i64 s, .int .i64 t, .int .i64 u]] w fun e w' => e = .returned (.tuple #[.agg #[.int .i64 p, .int .i64 q, .int .i64 r, .int .i64 s], .bool true]) ∧ Below w.heap.size w w' := by
  have B1 : Hid _ := qok_b hq1
  have B2 : Hid _ := qok_b hq2
  have B3 : Hid _ := qok_b hq3
  have hv : (qok p q && qok r s && qok t u) = true := by rw [hq1, hq2, hq3]; rfl
  clear hq1 hq2 hq3
  have H0 : Hid (A3 w a b c d k l m n p q r s t u _) := A3.start w a b c d k l m n p q r s t u
  go_enter Try.func13, Try.ntmps13
  go_wp2_with fail
  refine (implPlaneOk_any _ _ _ _ _ _ _ _ _).mono ?_
  rintro e w1 ⟨rfl, hb1⟩
  rw [hp]
  have H1 : Hid (A3 w a b c d k l m n p q r s t u w1) := H0.out.call hb1
  clear hb1 H0
  obtain ⟨x, xf, xs⟩ := H1.out.fv
  go_wp2_with fail
  refine (implV3Ok_any _ _ _ _ _ _ _).mono ?_
  rintro e w2 ⟨rfl, hb2⟩
  rw [hv]
  have H2 : Hid (A3 w a b c d k l m n p q r s t u w2) := H1.out.call hb2
  clear hb2 H1 x xf xs
  clear hv
  go_wp2_with fail
  go_region_held3 (fun w' => S2z w.heap.size (w.heap.size + 1) #[.int .i64 a, .int .i64 b, .int .i64 c, .int .i64 d, .int .i64 k, .int .i64 l, .int .i64 m, .int .i64 n] #[.int .i64 p, .int .i64 q, .int .i64 r, .int .i64 s, .int .i64 t, .int .i64 u] w') (first | with_reducible exact A3.s2 H2.out | with_reducible exact S2z.call (by assumption) (by assumption) | with_reducible exact S2z.set4 (by assumption) (by omega) (by omega))
    (first
      | (go_at_call 24; refine (level_any _ _ _ _ _ _ _ _ _).mono ?_; rintro e w3 ⟨rfl, hb3⟩)
      | (go_at_call 26; refine (vector_any _ _ _ _ _ _ _).mono ?_; rintro e w4 ⟨rfl, hb4⟩)
      | (go_at_call 25; refine (drop_0 _ _ _ _ _ _ _ _ _ _ _ _ _ _ _ hk).mono ?_; rintro e w5 ⟨rfl, hb5⟩)
      | (go_at_call 27; refine (v_any _ _ _ _ _ B1.out.1.1 B1.out.1.2 B2.out.1.1 B2.out.1.2 B1.out.2.1.1 B1.out.2.1.2 B2.out.2.1.1 B2.out.2.1.2).mono ?_; rintro e w6 ⟨rfl, hb6⟩; have H6 : Hid (A3 w a b c d k l m n p q r s t u w6) := ((((H2.out.call (Below.refl _ _).drew).call hb3).call hb4).call hb5).call hb6; obtain ⟨y, yf, ys⟩ := H6.out.fr; have y0 := y 0; have y1 := y 1; have y2 := y 2; have y3 := y 3))
  clear hb3 hb4 hb5 hb6 H2
  go_wp2
  exact bodyPost_ret (v := .tuple #[.agg #[.int .i64 p, .int .i64 q, .int .i64 r, .int .i64 s], .bool true]) (by simp [results, Try.results13, go_sem, y]) rfl ⟨rfl, ((((H6.out.fb.setCell (p := ⟨w.heap.size + 1 + 1, 0, none⟩) (by simp; omega) _).setCell (p := ⟨w.heap.size + 1 + 1, 1, none⟩) (by simp; omega) _).setCell (p := ⟨w.heap.size + 1 + 1, 2, none⟩) (by simp; omega) _).setCell (p := ⟨w.heap.size + 1 + 1, 3, none⟩) (by simp; omega) _)⟩

set_option maxHeartbeats 1000000 in
theorem implDrop_1 (a b c d l m n p q r s t u : Int) (w : World) (hp : pok a b c d 0 l m n = true) (hq1 : qok p q = true) (hq2 : qok r s = true) (hq3 : qok t u = true) (hc : c ≠ 0) :
    Calls Try.prog 13 #[.agg #[.int .i64 a, .int .i64 b, .int .i64 c, .int .i64 d, .int .i64 0, .int .i64 l, .int .i64 m, .int .i64 n], .agg #[.int .i64 p, .int .i64 q, .int .i64 r, .int .i64 s, .int .i64 t, .int .i64 u]] w fun e w' => e = .returned (.tuple #[.agg #[.int .i64 p, .int .i64 q, .int .i64 t, .int .i64 u], .bool true]) ∧ Below w.heap.size w w' := by
  have B1 : Hid _ := qok_b hq1
  have B2 : Hid _ := qok_b hq2
  have B3 : Hid _ := qok_b hq3
  have hv : (qok p q && qok r s && qok t u) = true := by rw [hq1, hq2, hq3]; rfl
  clear hq1 hq2 hq3
  have H0 : Hid (A3 w a b c d 0 l m n p q r s t u _) := A3.start w a b c d 0 l m n p q r s t u
  go_enter Try.func13, Try.ntmps13
  go_wp2_with fail
  refine (implPlaneOk_any _ _ _ _ _ _ _ _ _).mono ?_
  rintro e w1 ⟨rfl, hb1⟩
  rw [hp]
  have H1 : Hid (A3 w a b c d 0 l m n p q r s t u w1) := H0.out.call hb1
  clear hb1 H0
  obtain ⟨x, xf, xs⟩ := H1.out.fv
  go_wp2_with fail
  refine (implV3Ok_any _ _ _ _ _ _ _).mono ?_
  rintro e w2 ⟨rfl, hb2⟩
  rw [hv]
  have H2 : Hid (A3 w a b c d 0 l m n p q r s t u w2) := H1.out.call hb2
  clear hb2 H1 x xf xs
  clear hv
  go_wp2_with fail
  go_region_held3 (fun w' => S2z w.heap.size (w.heap.size + 1) #[.int .i64 a, .int .i64 b, .int .i64 c, .int .i64 d, .int .i64 0, .int .i64 l, .int .i64 m, .int .i64 n] #[.int .i64 p, .int .i64 q, .int .i64 r, .int .i64 s, .int .i64 t, .int .i64 u] w') (first | with_reducible exact A3.s2 H2.out | with_reducible exact S2z.call (by assumption) (by assumption) | with_reducible exact S2z.set4 (by assumption) (by omega) (by omega))
    (first
      | (go_at_call 24; refine (level_any _ _ _ _ _ _ _ _ _).mono ?_; rintro e w3 ⟨rfl, hb3⟩)
      | (go_at_call 26; refine (vector_any _ _ _ _ _ _ _).mono ?_; rintro e w4 ⟨rfl, hb4⟩)
      | (go_at_call 25; refine (drop_1 _ _ _ _ _ _ _ _ _ _ _ _ _ _ hc).mono ?_; rintro e w5 ⟨rfl, hb5⟩)
      | (go_at_call 27; refine (v_any _ _ _ _ _ B1.out.1.1 B1.out.1.2 B3.out.1.1 B3.out.1.2 B1.out.2.1.1 B1.out.2.1.2 B3.out.2.1.1 B3.out.2.1.2).mono ?_; rintro e w6 ⟨rfl, hb6⟩; have H6 : Hid (A3 w a b c d 0 l m n p q r s t u w6) := ((((H2.out.call (Below.refl _ _).drew).call hb3).call hb4).call hb5).call hb6; obtain ⟨y, yf, ys⟩ := H6.out.fr; have y0 := y 0; have y1 := y 1; have y2 := y 2; have y3 := y 3))
  clear hb3 hb4 hb5 hb6 H2
  go_wp2
  exact bodyPost_ret (v := .tuple #[.agg #[.int .i64 p, .int .i64 q, .int .i64 t, .int .i64 u], .bool true]) (by simp [results, Try.results13, go_sem, y]) rfl ⟨rfl, ((((H6.out.fb.setCell (p := ⟨w.heap.size + 1 + 1, 0, none⟩) (by simp; omega) _).setCell (p := ⟨w.heap.size + 1 + 1, 1, none⟩) (by simp; omega) _).setCell (p := ⟨w.heap.size + 1 + 1, 2, none⟩) (by simp; omega) _).setCell (p := ⟨w.heap.size + 1 + 1, 3, none⟩) (by simp; omega) _)⟩

set_option maxHeartbeats 1000000 in
theorem implDrop_2 (a b d l m n p q r s t u : Int) (w : World) (hp : pok a b 0 d 0 l m n = true) (hq1 : qok p q = true) (hq2 : qok r s = true) (hq3 : qok t u = true)  :
    Calls Try.prog 13 #[.agg #[.int .i64 a, .int .i64 b, .int .i64 0, .int .i64 d, .int .i64 0, .int .i64 l, .int .i64 m, .int .i64 n], .agg #[.int .i64 p, .int .i64 q, .int .i64 r, .int .i64 s, .int .i64 t, .int .i64 u]] w fun e w' => e = .returned (.tuple #[.agg #[.int .i64 r, .int .i64 s, .int .i64 t, .int .i64 u], .bool true]) ∧ Below w.heap.size w w' := by
  have B1 : Hid _ := qok_b hq1
  have B2 : Hid _ := qok_b hq2
  have B3 : Hid _ := qok_b hq3
  have hv : (qok p q && qok r s && qok t u) = true := by rw [hq1, hq2, hq3]; rfl
  clear hq1 hq2 hq3
  have H0 : Hid (A3 w a b 0 d 0 l m n p q r s t u _) := A3.start w a b 0 d 0 l m n p q r s t u
  go_enter Try.func13, Try.ntmps13
  go_wp2_with fail
  refine (implPlaneOk_any _ _ _ _ _ _ _ _ _).mono ?_
  rintro e w1 ⟨rfl, hb1⟩
  rw [hp]
  have H1 : Hid (A3 w a b 0 d 0 l m n p q r s t u w1) := H0.out.call hb1
  clear hb1 H0
  obtain ⟨x, xf, xs⟩ := H1.out.fv
  go_wp2_with fail
  refine (implV3Ok_any _ _ _ _ _ _ _).mono ?_
  rintro e w2 ⟨rfl, hb2⟩
  rw [hv]
  have H2 : Hid (A3 w a b 0 d 0 l m n p q r s t u w2) := H1.out.call hb2
  clear hb2 H1 x xf xs
  clear hv
  go_wp2_with fail
  go_region_held3 (fun w' => S2z w.heap.size (w.heap.size + 1) #[.int .i64 a, .int .i64 b, .int .i64 0, .int .i64 d, .int .i64 0, .int .i64 l, .int .i64 m, .int .i64 n] #[.int .i64 p, .int .i64 q, .int .i64 r, .int .i64 s, .int .i64 t, .int .i64 u] w') (first | with_reducible exact A3.s2 H2.out | with_reducible exact S2z.call (by assumption) (by assumption) | with_reducible exact S2z.set4 (by assumption) (by omega) (by omega))
    (first
      | (go_at_call 24; refine (level_any _ _ _ _ _ _ _ _ _).mono ?_; rintro e w3 ⟨rfl, hb3⟩)
      | (go_at_call 26; refine (vector_any _ _ _ _ _ _ _).mono ?_; rintro e w4 ⟨rfl, hb4⟩)
      | (go_at_call 25; refine (drop_2 _ _ _ _ _ _ _ _ _ _ _ _ _).mono ?_; rintro e w5 ⟨rfl, hb5⟩)
      | (go_at_call 27; refine (v_any _ _ _ _ _ B2.out.1.1 B2.out.1.2 B3.out.1.1 B3.out.1.2 B2.out.2.1.1 B2.out.2.1.2 B3.out.2.1.1 B3.out.2.1.2).mono ?_; rintro e w6 ⟨rfl, hb6⟩; have H6 : Hid (A3 w a b 0 d 0 l m n p q r s t u w6) := ((((H2.out.call (Below.refl _ _).drew).call hb3).call hb4).call hb5).call hb6; obtain ⟨y, yf, ys⟩ := H6.out.fr; have y0 := y 0; have y1 := y 1; have y2 := y 2; have y3 := y 3))
  clear hb3 hb4 hb5 hb6 H2
  go_wp2
  exact bodyPost_ret (v := .tuple #[.agg #[.int .i64 r, .int .i64 s, .int .i64 t, .int .i64 u], .bool true]) (by simp [results, Try.results13, go_sem, y]) rfl ⟨rfl, ((((H6.out.fb.setCell (p := ⟨w.heap.size + 1 + 1, 0, none⟩) (by simp; omega) _).setCell (p := ⟨w.heap.size + 1 + 1, 1, none⟩) (by simp; omega) _).setCell (p := ⟨w.heap.size + 1 + 1, 2, none⟩) (by simp; omega) _).setCell (p := ⟨w.heap.size + 1 + 1, 3, none⟩) (by simp; omega) _)⟩
end Go.Proofs.Ytoopipljedoeeaa
