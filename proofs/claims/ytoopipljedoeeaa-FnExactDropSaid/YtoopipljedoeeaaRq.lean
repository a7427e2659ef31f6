import Derived.Test.YtoopipljedoeeaaRat
import Derived.Deep.RegionHeld3
import Derived.Deep.RegionWith
namespace Go.Proofs.Ytoopipljedoeeaa
open Go.RowKit


/-- A block's cells, to be written too. -/
structure Ar (w : World) (b : Nat) (A : Array Value) : Prop where
  c : ∀ j, w.cell? ⟨b, j, none⟩ = A[j]?
  fz : ∀ j, w.frozen? ⟨b, j, none⟩ = false
  sz : b < w.heap.size
theorem Ar.below {w w' : World} {b : Nat} {A : Array Value} (h : Ar w b A) (hb : Below w.heap.size w w') : Ar w' b A :=
  ⟨fun j => by rw [hb.cell (p := ⟨b, j, none⟩) h.sz]; exact h.c j, fun j => by rw [hb.frozen (p := ⟨b, j, none⟩) h.sz]; exact h.fz j, Nat.lt_of_lt_of_le h.sz hb.size⟩


abbrev S1 (N : Nat) (A0 : Array Value) (w' : World) : Prop := (∀ j, w'.cell? ⟨N, j, none⟩ = A0[j]?) ∧ N < w'.heap.size
theorem S1.call {N : Nat} {A0 : Array Value} {w' w1 : World} (h : S1 N A0 w') (hb : Below w'.heap.size w' w1) : S1 N A0 w1 :=
  ⟨fun j => by rw [← h.1 j]; exact hb.cell (p := ⟨N, j, none⟩) h.2, Nat.lt_of_lt_of_le h.2 hb.size⟩
theorem S1.start3 {w : World} {A0 A1 A2 : Array Value} {t0 t1 t2 : TypeId} : S1 w.heap.size A0 (((w.alloc (.cells A0 t0)).alloc (.cells A1 t1)).alloc (.cells A2 t2)).drew := by
  refine ⟨fun j => ?_, ?_⟩
  · go_simp
  · show w.heap.size < (((w.alloc (.cells A0 t0)).alloc (.cells A1 t1)).alloc (.cells A2 t2)).heap.size
    simp; omega
theorem S1.set {N : Nat} {A0 : Array Value} {w' : World} (h : S1 N A0 w') {b : Nat} (hb : N ≠ b) (u0 u1 : Value) : S1 N A0 ((w'.setCell ⟨b, 0, none⟩ u0).setCell ⟨b, 1, none⟩ u1) :=
  ⟨fun j => by rw [cell_same (set2_other w' b u0 u1 N hb)]; exact h.1 j, by simpa using h.2⟩

theorem l1ZOf_open (x : Int) (w : World) (h1 : -9223372036854775808 ≤ x) (h2 : x ≤ 9223372036854775807) :
    Calls Try.prog 44 #[.int .i64 x] w fun e w' => ∃ a n c f, e = .returned (.agg #[.bool (decide (x < 0)), .slice a n c]) ∧ Mag w' a n c f x.natAbs ∧ Below w.heap.size w w' :=
  (l1ZOf_any x w h1 h2).mono fun e w' ⟨v, he, ⟨a, n, c, f, hv, hm⟩, hb⟩ => ⟨a, n, c, f, by rw [he, hv], hm, hb⟩

/-- Two results of two cells written into their places. -/
theorem res22 {w w2 : World} {a1 a2 : Option Addr} {n1 n2 c1 c2 : Nat} {f1 f2 : Nat → Nat} {m1 m2 : Nat} (h1 : Mag w2 a1 n1 c1 f1 m1) (h2 : Mag w2 a2 n2 c2 f2 m2) {u u' : Bool} (k0 : w2.cell? ⟨w.heap.size + 1, 0, none⟩ = some (.bool u)) (k2 : w2.cell? ⟨w.heap.size + 1 + 1, 0, none⟩ = some (.bool u')) (hb : Below w.heap.size w w2) (x0 x1 x2 x3 : Value) :
    Mag ((((w2.setCell ⟨w.heap.size + 1, 0, none⟩ x0).setCell ⟨w.heap.size + 1, 1, none⟩ x1).setCell ⟨w.heap.size + 1 + 1, 0, none⟩ x2).setCell ⟨w.heap.size + 1 + 1, 1, none⟩ x3) a1 n1 c1 f1 m1 ∧
    Mag ((((w2.setCell ⟨w.heap.size + 1, 0, none⟩ x0).setCell ⟨w.heap.size + 1, 1, none⟩ x1).setCell ⟨w.heap.size + 1 + 1, 0, none⟩ x2).setCell ⟨w.heap.size + 1 + 1, 1, none⟩ x3) a2 n2 c2 f2 m2 ∧
    Below w.heap.size w ((((w2.setCell ⟨w.heap.size + 1, 0, none⟩ x0).setCell ⟨w.heap.size + 1, 1, none⟩ x1).setCell ⟨w.heap.size + 1 + 1, 0, none⟩ x2).setCell ⟨w.heap.size + 1 + 1, 1, none⟩ x3) := by
  have k2' : ((w2.setCell ⟨w.heap.size + 1, 0, none⟩ x0).setCell ⟨w.heap.size + 1, 1, none⟩ x1).cell? ⟨w.heap.size + 1 + 1, 0, none⟩ = some (.bool u') := by
    rw [cell_same (set2_other w2 (w.heap.size + 1) x0 x1 (w.heap.size + 1 + 1) (by omega))]; exact k2
  have p1 := res2 h1 k0 (notG_bool _) hb (by omega) x0 x1
  have p2 := res2 h2 k0 (notG_bool _) hb (by omega) x0 x1
  have q1 := res2 p1.1 k2' (notG_bool _) p1.2 (by omega) x2 x3
  have q2 := res2 p2.1 k2' (notG_bool _) p1.2 (by omega) x2 x3
  exact ⟨q1.1, q2.1, q1.2⟩

set_option maxHeartbeats 1000000 in
theorem l1rZ_small (P : Int) (Q : Nat) (w : World) (h : smallR P Q) :
    Calls Try.prog 39 #[.agg #[.int .i64 P, .int .i64 Q, .slice none 0 0]] w fun e w' => ∃ v1 v2, e = .returned (.tuple #[v1, v2]) ∧ ZIs w' v1 P ∧ ZIs w' v2 Q ∧ Below w.heap.size w w' := by
  obtain ⟨h1, h2⟩ := h
  have hb3 := Joins.below_alloc3 w (.cells #[.int .i64 P, .int .i64 Q, .slice none 0 0] 52) (.cells #[.bool false, .slice none 0 0] 91) (.cells #[.bool false, .slice none 0 0] 91)
  have HB3 : Hid _ := hb3
  clear hb3
  go_enter Try.func39, Try.ntmps39
  go_wp2_with fail
  go_region_held3 (fun w' => S1 w.heap.size #[.int .i64 P, .int .i64 Q, .slice none 0 0] w') (first | with_reducible exact S1.start3 | with_reducible exact S1.call (by assumption) (by assumption) | with_reducible exact S1.set (by assumption) (by omega) _ _)
    (first
      | (go_at_call_of 44 (Value.int IntKind.i64 P); refine (l1ZOf_open _ _ (by omega) (by omega)).mono ?_; rintro e w1 ⟨a1, n1, c1, f1, rfl, hm1, hb1⟩)
      | (go_at_call 44; refine (l1ZOf_open _ _ (by omega) (by omega)).mono ?_; rintro e w2 ⟨a2, n2, c2, f2, rfl, hm2, hb2⟩; have hb12 := hb1.trans (hb2.mono hb1.size); have hz2 : w.heap.size + 1 + 1 < w2.heap.size := (by have := hb12.size; simp at this; omega); have k0 : w2.cell? ⟨w.heap.size + 1, 0, none⟩ = some (.bool false) := (by rw [hb12.cell (p := ⟨w.heap.size + 1, 0, none⟩) (by simp)]; go_simp); have k1 : w2.cell? ⟨w.heap.size + 1, 1, none⟩ = some (.slice none 0 0) := (by rw [hb12.cell (p := ⟨w.heap.size + 1, 1, none⟩) (by simp)]; go_simp); have k2 : w2.cell? ⟨w.heap.size + 1 + 1, 0, none⟩ = some (.bool false) := (by rw [hb12.cell (p := ⟨w.heap.size + 1 + 1, 0, none⟩) (by simp)]; go_simp); have k3 : w2.cell? ⟨w.heap.size + 1 + 1, 1, none⟩ = some (.slice none 0 0) := (by rw [hb12.cell (p := ⟨w.heap.size + 1 + 1, 1, none⟩) (by simp)]; go_simp); have kf : ∀ j, w2.frozen? ⟨w.heap.size + 1, j, none⟩ = false := fun j => (by rw [hb12.frozen (p := ⟨w.heap.size + 1, j, none⟩) (by simp)]; go_simp); have kg : ∀ j, w2.frozen? ⟨w.heap.size + 1 + 1, j, none⟩ = false := fun j => (by rw [hb12.frozen (p := ⟨w.heap.size + 1 + 1, j, none⟩) (by simp)]; go_simp)))
  have HM : Hid _ := res22 (hm1.below hb2) hm2 k0 k2 (HB3.out.trans ((Below.refl _ _).drew.trans (hb12.mono (by simp; omega))))
  clear hm1 hm2 hb1 hb2 hb12
  go_wp2
  refine bodyPost_ret (v := .tuple #[.agg #[.bool (decide (P < 0)), .slice a1 n1 c1], .agg #[.bool (decide ((Q : Int) < 0)), .slice a2 n2 c2]]) (by simp [results, Try.results39, go_sem, k0, k1, k2, k3]) rfl ⟨_, _, rfl, ⟨_, _, _, f1, rfl, (HM.out _ _ _ _).1⟩, ⟨_, _, _, f2, rfl, (HM.out _ _ _ _).2.1⟩, (HM.out _ _ _ _).2.2⟩

abbrev S2z (N g : Nat) (A0 A1 : Array Value) (w' : World) : Prop := S1 N A0 w' ∧ S1 g A1 w'

set_option maxHeartbeats 1000000 in
theorem l1rZ_big (P : Int) (Q : Nat) (g : Nat) (a b : Option Addr) (n m c d : Nat) (f h : Nat → Nat) (w : World) (hc : ∀ j, w.cell? ⟨g, j, none⟩ = #[Value.bool (decide (P < 0)), .slice a n c, .bool false, .slice b m d][j]?) (h1 : Mag w a n c f P.natAbs) (h2 : Mag w b m d h Q) :
    Calls Try.prog 39 #[.agg #[.int .i64 0, .int .i64 0, .slice (some ⟨g, 0, none⟩) 2 2]] w fun e w' => ∃ v1 v2, e = .returned (.tuple #[v1, v2]) ∧ ZIs w' v1 P ∧ ZIs w' v2 Q ∧ Below w.heap.size w w' := by
  have hg : g < w.heap.size := World.block_lt_of_cell? w ⟨g, 0, none⟩ (u := .bool (decide (P < 0))) (hc 0)
  have HS : Hid (∀ o1 o2 o3, S1 g #[Value.bool (decide (P < 0)), .slice a n c, .bool false, .slice b m d] (((w.alloc o1).alloc o2).alloc o3).drew) := fun o1 o2 o3 =>
    ⟨fun j => by rw [((Joins.below_alloc3 w o1 o2 o3).trans (Below.refl _ _).drew).cell (p := ⟨g, j, none⟩) hg]; exact hc j, by show g < (((w.alloc _).alloc _).alloc _).heap.size; simp; omega⟩
  have HM : Hid (∀ o1 o2 o3, Mag (((w.alloc o1).alloc o2).alloc o3).drew a n c f P.natAbs ∧ Mag (((w.alloc o1).alloc o2).alloc o3).drew b m d h Q ∧ Below w.heap.size w (((w.alloc o1).alloc o2).alloc o3).drew) := fun o1 o2 o3 =>
    ⟨h1.below ((Joins.below_alloc3 w o1 o2 o3).trans (Below.refl _ _).drew), h2.below ((Joins.below_alloc3 w o1 o2 o3).trans (Below.refl _ _).drew), (Joins.below_alloc3 w o1 o2 o3).trans (Below.refl _ _).drew⟩
  clear hc h1 h2
  go_enter Try.func39, Try.ntmps39
  go_wp2_with fail
  go_region_held3 (fun w' => S2z w.heap.size g #[.int .i64 0, .int .i64 0, .slice (some ⟨g, 0, none⟩) 2 2] #[Value.bool (decide (P < 0)), .slice a n c, .bool false, .slice b m d] w') (with_reducible exact ⟨S1.start3, HS.out _ _ _⟩) (fail)
  go_wp2
  exact bodyPost_ret (v := .tuple #[.agg #[.bool (decide (P < 0)), .slice a n c], .agg #[.bool false, .slice b m d]]) (by simp [results, Try.results39, go_sem]) rfl ⟨_, _, rfl, ⟨_, _, _, f, rfl, (HM.out _ _ _).1⟩, ⟨_, _, _, h, by rw [show decide ((Q : Int) < 0) = false by simp], (HM.out _ _ _).2.1⟩, (HM.out _ _ _).2.2⟩

theorem l1rZ_any (P : Int) (Q : Nat) (v : Value) (w : World) (h : RIs w v P Q) :
    Calls Try.prog 39 #[v] w fun e w' => ∃ v1 v2, e = .returned (.tuple #[v1, v2]) ∧ ZIs w' v1 P ∧ ZIs w' v2 Q ∧ Below w.heap.size w w' := by
  rcases h with ⟨hs, rfl⟩ | ⟨_, g, a, n, c, f, b, m, d, k, rfl, hc, h1, h2⟩
  · exact l1rZ_small P Q w hs
  · exact l1rZ_big P Q g a b n m c d f k w hc h1 h2


/-- What a fraction is told as. -/
def qfit (P : Int) (Q : Nat) : Bool := decide (P.natAbs ≤ 1000000000000000000 ∧ Q ≤ 1000000000000000000)
def qres (P : Int) (Q : Nat) : Value := .tuple #[.agg #[.int .i64 (if qfit P Q then P else 0), .int .i64 (if qfit P Q then (Q : Int) else 0)], .bool (qfit P Q)]

set_option maxHeartbeats 1000000 in
theorem l1rQ_small (P : Int) (Q : Nat) (w : World) (hs : smallR P Q) (hQ : 0 < Q) (hg : Nat.gcd P.natAbs Q = 1) :
    Calls Try.prog 33 #[.agg #[.int .i64 P, .int .i64 Q, .slice none 0 0]] w fun e w' => e = .returned (qres P Q) ∧ Below w.heap.size w w' := by
  obtain ⟨h1, h2⟩ := hs
  have hf : qfit P Q = true := by unfold qfit; simp; omega
  have HR : Hid (.tuple #[.agg #[.int .i64 P, .int .i64 Q], .bool true] = qres P Q) := by unfold Hid qres; rw [hf]; rfl
  have HG : Hid (Nat.gcd P.natAbs Q = 1) := hg
  have ewq : IntKind.i64.wrap (Q : Int) = (Q : Int) := by simp only [IntKind.wrap, IntKind.bits, IntKind.signed]; simp; omega
  have ewp : IntKind.i64.wrap P = P := by simp only [IntKind.wrap, IntKind.bits, IntKind.signed]; simp; omega
  clear hf hg
  go_enter Try.func33, Try.ntmps33
  go_wp2
  go_quiet ((first | (go_at_call 30; exact Calls.quiet_of_same (l1Abs_any _ _ (by omega) (by omega))) | (go_at_call 29; exact Calls.quiet_of (l1Gcd_any _ _ _ (by omega) (by omega)))))
  rw [HG.out]
  go_wp2
  go_region_with (fail)
  all_goals (
    go_wp2
    exact bodyPost_ret (v := .tuple #[.agg #[.int .i64 P, .int .i64 Q], .bool true]) (by simp [results, Try.results33, go_sem]) rfl ⟨by rw [HR.out], below_set2 ((Joins.below_alloc2 w _ _).trans (Joins.below_draws _ _ _)) (by omega) _ _⟩)



set_option maxHeartbeats 1000000 in
theorem l1rQ_big (P : Int) (Q : Nat) (v : Value) (g : Nat) (w : World) (h : RIs w v P Q) (hv : v = .agg #[.int .i64 0, .int .i64 0, .slice (some ⟨g, 0, none⟩) 2 2]) :
    Calls Try.prog 33 #[v] w fun e w' => e = .returned (qres P Q) ∧ Below w.heap.size w w' := by
  subst hv
  have HA : Hid (∀ o1 o2, RIs ((w.alloc o1).alloc o2) (.agg #[.int .i64 0, .int .i64 0, .slice (some ⟨g, 0, none⟩) 2 2]) P Q ∧ Below w.heap.size w ((w.alloc o1).alloc o2)) := fun o1 o2 => ⟨h.below (Joins.below_alloc2 w o1 o2), Joins.below_alloc2 w o1 o2⟩
  have HZ : Hid (∀ o1, Ar ((w.alloc o1).alloc (.cells #[.int .i64 0, .int .i64 0] 27)) (w.heap.size + 1) #[.int .i64 0, .int .i64 0]) := fun o1 => ⟨fun j => by go_simp, fun j => by go_simp, by simp⟩
  clear h
  go_enter Try.func33, Try.ntmps33
  go_wp2_with fail
  refine (l1rZ_any P Q _ _ (HA.out _ _).1).mono ?_
  rintro e w1 ⟨v1, v2, rfl, ⟨a1, n1, c1, f1, rfl, hm1⟩, ⟨a2, n2, c2, f2, rfl, hm2⟩, hb1⟩
  have H1 : Hid (Mag w1 a1 n1 c1 f1 P.natAbs ∧ Mag w1 a2 n2 c2 f2 Q ∧ Below w.heap.size w w1 ∧ Ar w1 (w.heap.size + 1) #[.int .i64 0, .int .i64 0]) := ⟨hm1, by simpa using hm2, (HA.out _ _).2.trans (hb1.mono (by simp; omega)), (HZ.out _).below hb1⟩
  clear hm1 hm2 hb1 HA HZ
  go_wp2_with fail
  have hW := Joins.below_alloc2 w1 (.cells #[.bool (decide (P < 0)), .slice a1 n1 c1] 91) (.cells #[.bool (decide ((Q : Int) < 0)), .slice a2 n2 c2] 91)
  have H2 : Hid (Mag ((w1.alloc (.cells #[.bool (decide (P < 0)), .slice a1 n1 c1] 91)).alloc (.cells #[.bool (decide ((Q : Int) < 0)), .slice a2 n2 c2] 91)) a1 n1 c1 f1 P.natAbs ∧ Mag ((w1.alloc (.cells #[.bool (decide (P < 0)), .slice a1 n1 c1] 91)).alloc (.cells #[.bool (decide ((Q : Int) < 0)), .slice a2 n2 c2] 91)) a2 n2 c2 f2 Q ∧ Below w.heap.size w ((w1.alloc (.cells #[.bool (decide (P < 0)), .slice a1 n1 c1] 91)).alloc (.cells #[.bool (decide ((Q : Int) < 0)), .slice a2 n2 c2] 91)) ∧ Ar ((w1.alloc (.cells #[.bool (decide (P < 0)), .slice a1 n1 c1] 91)).alloc (.cells #[.bool (decide ((Q : Int) < 0)), .slice a2 n2 c2] 91)) (w.heap.size + 1) #[.int .i64 0, .int .i64 0] ∧ Ar ((w1.alloc (.cells #[.bool (decide (P < 0)), .slice a1 n1 c1] 91)).alloc (.cells #[.bool (decide ((Q : Int) < 0)), .slice a2 n2 c2] 91)) (w1.heap.size + 1) #[.bool (decide ((Q : Int) < 0)), .slice a2 n2 c2]) :=
    ⟨H1.out.1.below hW, H1.out.2.1.below hW, H1.out.2.2.1.trans (hW.mono H1.out.2.2.1.size), H1.out.2.2.2.below hW, ⟨fun j => by go_simp, fun j => by go_simp, by simp⟩⟩
  clear hW H1
  refine (l1ZInt_any _ _ _ _ f1 P.natAbs 1000000000000000000 _ H2.out.1 (by omega)).mono ?_
  rintro e w2 ⟨rfl, hb2⟩
  have H3 : Hid (Mag w2 a2 n2 c2 f2 Q ∧ Below w.heap.size w w2 ∧ Ar w2 (w.heap.size + 1) #[.int .i64 0, .int .i64 0] ∧ Ar w2 (w1.heap.size + 1) #[.bool (decide ((Q : Int) < 0)), .slice a2 n2 c2]) :=
    ⟨H2.out.2.1.below hb2, H2.out.2.2.1.trans (hb2.mono H2.out.2.2.1.size), H2.out.2.2.2.1.below hb2, H2.out.2.2.2.2.below hb2⟩
  clear hb2 H2
  obtain ⟨q, qf, qs⟩ := H3.out.2.2.2
  go_wp2_with fail
  refine (l1ZInt_any _ _ _ _ f2 Q 1000000000000000000 _ H3.out.1 (by omega)).mono ?_
  rintro e w3 ⟨rfl, hb3⟩
  have H4 : Hid (Below w.heap.size w w3 ∧ Ar w3 (w.heap.size + 1) #[.int .i64 0, .int .i64 0]) := ⟨H3.out.2.1.trans (hb3.mono H3.out.2.1.size), H3.out.2.2.1.below hb3⟩
  clear hb3 H3 q qf qs
  obtain ⟨k, kf, ks⟩ := H4.out.2
  have k0 := k 0
  have k1 := k 1
  by_cases h1 : P.natAbs ≤ 1000000000000000000
  · have e1 : zok P.natAbs 1000000000000000000 = true := by unfold zok; simpa using h1
    by_cases h2 : Q ≤ 1000000000000000000
    · have e2 : zok Q 1000000000000000000 = true := by unfold zok; simpa using h2
      have HR : Hid (.tuple #[.agg #[.int .i64 (zi (decide (P < 0)) P.natAbs 1000000000000000000), .int .i64 (zi (decide ((Q : Int) < 0)) Q 1000000000000000000)], .bool true] = qres P Q) := by
        unfold Hid qres
        rw [show qfit P Q = true from by unfold qfit; simp [h1, h2], zi_of P _ h1, show zi (decide ((Q : Int) < 0)) Q 1000000000000000000 = (Q : Int) from by
          rw [show decide ((Q : Int) < 0) = false from by simp]; unfold zi; rw [if_pos h2]; rfl]
        rfl
      clear h1 h2
      go_wp2
      exact bodyPost_ret (v := .tuple #[.agg #[.int .i64 (zi (decide (P < 0)) P.natAbs 1000000000000000000), .int .i64 (zi (decide ((Q : Int) < 0)) Q 1000000000000000000)], .bool true]) (by simp [results, Try.results33, go_sem, k0, k1]) rfl ⟨by rw [HR.out], below_set2 H4.out.1 (by omega) _ _⟩
    · have e2 : zok Q 1000000000000000000 = false := by unfold zok; simpa using h2
      have HR : Hid (.tuple #[.agg #[.int .i64 0, .int .i64 0], .bool false] = qres P Q) := by
        unfold Hid qres
        rw [show qfit P Q = false from by unfold qfit; simp; omega]
        rfl
      clear h1 h2
      go_wp2
      exact bodyPost_ret (v := .tuple #[.agg #[.int .i64 0, .int .i64 0], .bool false]) (by simp [results, Try.results33, go_sem, k0, k1]) rfl ⟨by rw [HR.out], below_set2 H4.out.1 (by omega) _ _⟩
  · have e1 : zok P.natAbs 1000000000000000000 = false := by unfold zok; simpa using h1
    have HR : Hid (.tuple #[.agg #[.int .i64 0, .int .i64 0], .bool false] = qres P Q) := by
      unfold Hid qres
      rw [show qfit P Q = false from by unfold qfit; simp; omega]
      rfl
    clear h1
    go_wp2
    exact bodyPost_ret (v := .tuple #[.agg #[.int .i64 0, .int .i64 0], .bool false]) (by simp [results, Try.results33, go_sem, k0, k1]) rfl ⟨by rw [HR.out], below_set2 H4.out.1 (by omega) _ _⟩

theorem l1rQ_any (P : Int) (Q : Nat) (v : Value) (w : World) (h : RIs w v P Q) (hQ : 0 < Q) (hg : Nat.gcd P.natAbs Q = 1) :
    Calls Try.prog 33 #[v] w fun e w' => e = .returned (qres P Q) ∧ Below w.heap.size w w' := by
  have h' := h
  rcases h with ⟨hs, rfl⟩ | ⟨_, g, a, n, c, f, b, m, d, k, rfl, _⟩
  · exact l1rQ_small P Q w hs hQ hg
  · exact l1rQ_big P Q _ g w h' rfl
end Go.Proofs.Ytoopipljedoeeaa
