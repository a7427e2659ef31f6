import Derived.Test.YtikepklkjbohmaaDot
namespace Go.Proofs.Ytikepklkjbohmaa
open Go.RowKit

set_option maxHeartbeats 400000 in
theorem l1ZNeg_any (y : Int) (b : Option Addr) (m d : Nat) (g : Nat → Nat) (w : World) (hb : Mag w b m d g y.natAbs) :
    Calls Try.prog 67 #[.agg #[.bool (decide (y < 0)), .slice b m d]] w fun e w' => e = .returned (.agg #[.bool (decide (0 < y)), .slice b m d]) ∧ Below w.heap.size w w' := by
  have hm8 := hb.sl.small
  rcases Int.lt_trichotomy y 0 with h1 | h1 | h1
  · rw [show decide (y < 0) = true by simpa using h1, show decide (0 < y) = false by simp; omega]
    clear hb h1
    go_enter Try.func67, Try.ntmps67
    go_wp2
    exact bodyPost_ret (v := .agg #[.bool false, .slice b m d]) (by simp [results, Try.results67, go_sem]) rfl ⟨rfl, Joins.below_alloc2 _ _ _⟩
  · subst h1
    have hm := hb.zero
    subst hm
    clear hb
    go_enter Try.func67, Try.ntmps67
    go_wp2
    exact bodyPost_ret (v := .agg #[.bool false, .slice b 0 d]) (by simp [results, Try.results67, go_sem]) rfl ⟨rfl, Joins.below_alloc2 _ _ _⟩
  · have hm := hb.pos (by omega)
    have hp : (0 : Int) < (m : Int) := by omega
    rw [show decide (y < 0) = false by simp; omega, show decide (0 < y) = true by simpa using h1]
    clear hb h1
    go_enter Try.func67, Try.ntmps67
    go_wp2
    exact bodyPost_ret (v := .agg #[.bool true, .slice b m d]) (by simp [results, Try.results67, go_sem]) rfl ⟨rfl, Joins.below_alloc2 _ _ _⟩

/-- What is known of the place of a result of two cells. -/
structure Res2At (w : World) (b : Nat) : Prop where
  c0 : w.cell? ⟨b, 0, none⟩ = some (.bool false)
  c1 : w.cell? ⟨b, 1, none⟩ = some (.slice none 0 0)
  fz : ∀ j, w.frozen? ⟨b, j, none⟩ = false
  sz : b < w.heap.size
theorem Res2At.below {w w' : World} {b : Nat} (h : Res2At w b) (hb : Below w.heap.size w w') : Res2At w' b :=
  ⟨by rw [hb.cell (p := ⟨b, 0, none⟩) h.sz]; exact h.c0, by rw [hb.cell (p := ⟨b, 1, none⟩) h.sz]; exact h.c1, fun j => by rw [hb.frozen (p := ⟨b, j, none⟩) h.sz]; exact h.fz j, Nat.lt_of_lt_of_le h.sz hb.size⟩
theorem Res2At.new3 (w : World) (o1 o2 : Obj) : Res2At (((w.alloc o1).alloc o2).alloc (.cells #[.bool false, .slice none 0 0] 63)) (w.heap.size + 1 + 1) :=
  ⟨by go_simp, by go_simp, fun j => by go_simp, by simp⟩
theorem S1.new3 (w : World) (A0 A1 A2 : Array Value) (t0 t1 t2 : TypeId) : S1 w.heap.size A0 (((w.alloc (.cells A0 t0)).alloc (.cells A1 t1)).alloc (.cells A2 t2)) ∧ S1 (w.heap.size + 1) A1 (((w.alloc (.cells A0 t0)).alloc (.cells A1 t1)).alloc (.cells A2 t2)) :=
  ⟨⟨fun j => by go_simp, by simp; omega⟩, ⟨fun j => by go_simp, by simp⟩⟩
abbrev S2p (b5 b6 : Nat) (A5 A6 : Array Value) (w' : World) : Prop := S1 b5 A5 w' ∧ S1 b6 A6 w'
theorem S2p.call {b5 b6 : Nat} {A5 A6 : Array Value} {w' w1 : World} (h : S2p b5 b6 A5 A6 w') (hb : Below w'.heap.size w' w1) : S2p b5 b6 A5 A6 w1 := ⟨h.1.call hb, h.2.call hb⟩
theorem S2p.drew {b5 b6 : Nat} {A5 A6 : Array Value} {w' : World} (h : S2p b5 b6 A5 A6 w') : S2p b5 b6 A5 A6 w'.drew := h.call (Below.refl _ _).drew
theorem S2p.set {b5 b6 : Nat} {A5 A6 : Array Value} {w' : World} (h : S2p b5 b6 A5 A6 w') {b : Nat} (h5 : b5 ≠ b) (h6 : b6 ≠ b) (u0 u1 : Value) : S2p b5 b6 A5 A6 ((w'.setCell ⟨b, 0, none⟩ u0).setCell ⟨b, 1, none⟩ u1) := ⟨h.1.set h5 _ _, h.2.set h6 _ _⟩
theorem ZIs.set2 {w : World} {v : Value} {x : Int} (h : ZIs w v x) (b : Nat) (hb : Res2At w b) (u0 u1 : Value) : ZIs ((w.setCell ⟨b, 0, none⟩ u0).setCell ⟨b, 1, none⟩ u1) v x := by
  obtain ⟨a, n, c, f, rfl, hm⟩ := h
  exact ⟨a, n, c, f, rfl, (res2 hm hb.c0 (notG_bool _) (Below.refl 0 w) (Nat.zero_le _) u0 u1).1⟩
theorem below_set2 {B b : Nat} {w w1 : World} (h : Below B w w1) (hB : B ≤ b) (u0 u1 : Value) : Below B w ((w1.setCell ⟨b, 0, none⟩ u0).setCell ⟨b, 1, none⟩ u1) :=
  (h.setCell (p := ⟨b, 0, none⟩) hB u0).setCell (p := ⟨b, 1, none⟩) hB u1
theorem ZIs.agg {w : World} {v : Value} {x : Int} (h : ZIs w v x) : ∃ s a n c, v = .agg #[.bool s, .slice a n c] := by
  obtain ⟨a, n, c, f, rfl, hm⟩ := h
  exact ⟨_, a, n, c, rfl⟩

set_option maxHeartbeats 1000000 in
theorem l1ZSub_any (x y : Int) (v u : Value) (w : World) (hx : ZIs w v x) (hy : ZIs w u y) (hxs : x.natAbs < 18446744073709551616) (hys : y.natAbs < 18446744073709551616) :
    Calls Try.prog 88 #[v, u] w fun e w' => ∃ r, e = .returned r ∧ ZIs w' r (x - y) ∧ Below w.heap.size w w' := by
  obtain ⟨a, n, c, f, rfl, ha⟩ := hx
  obtain ⟨b, m, d, g, rfl, hb⟩ := hy
  have HB3 := Joins.below_alloc3 w (.cells #[.bool (decide (x < 0)), .slice a n c] 63) (.cells #[.bool (decide (y < 0)), .slice b m d] 63) (.cells #[.bool false, .slice none 0 0] 63)
  have hS : S2p w.heap.size (w.heap.size + 1) _ _ _ := S1.new3 w #[.bool (decide (x < 0)), .slice a n c] #[.bool (decide (y < 0)), .slice b m d] #[.bool false, .slice none 0 0] 63 63 63
  have HA : Hid _ := ha.below HB3
  have HB : Hid _ := hb.below HB3
  have HR : Hid (_ ∧ _) := ⟨Res2At.new3 w (.cells #[.bool (decide (x < 0)), .slice a n c] 63) (.cells #[.bool (decide (y < 0)), .slice b m d] 63), HB3⟩
  have HL : Hid (x.natAbs < 18446744073709551616 ∧ (-y).natAbs < 18446744073709551616) := ⟨hxs, by omega⟩
  have hN : (-y).natAbs = y.natAbs := by omega
  have hP : decide (0 < y) = decide (-y < 0) := by rw [decide_eq_decide]; omega
  have ZA : Hid (∀ w6, Below (((w.alloc (.cells #[.bool (decide (x < 0)), .slice a n c] 63)).alloc (.cells #[.bool (decide (y < 0)), .slice b m d] 63)).alloc (.cells #[.bool false, .slice none 0 0] 63)).heap.size (((w.alloc (.cells #[.bool (decide (x < 0)), .slice a n c] 63)).alloc (.cells #[.bool (decide (y < 0)), .slice b m d] 63)).alloc (.cells #[.bool false, .slice none 0 0] 63)) w6 → ZIs w6 (.agg #[.bool (decide (x < 0)), .slice a n c]) x) := fun w6 h6 => ⟨_, _, _, f, rfl, HA.out.below h6⟩
  have ZB : Hid (∀ w6, Below (((w.alloc (.cells #[.bool (decide (x < 0)), .slice a n c] 63)).alloc (.cells #[.bool (decide (y < 0)), .slice b m d] 63)).alloc (.cells #[.bool false, .slice none 0 0] 63)).heap.size (((w.alloc (.cells #[.bool (decide (x < 0)), .slice a n c] 63)).alloc (.cells #[.bool (decide (y < 0)), .slice b m d] 63)).alloc (.cells #[.bool false, .slice none 0 0] 63)) w6 → ZIs w6 (.agg #[.bool (decide (0 < y)), .slice b m d]) (-y)) := fun w6 h6 => ⟨b, m, d, g, by rw [hP], by rw [hN]; exact HB.out.below h6⟩
  clear hN hP
  clear ha hb HB3 hxs hys
  go_enter Try.func88, Try.ntmps88
  go_wp2_with fail
  go_region_held3 (fun w' => S2p w.heap.size (w.heap.size + 1) #[.bool (decide (x < 0)), .slice a n c] #[.bool (decide (y < 0)), .slice b m d] w') (first | with_reducible exact S2p.drew hS | with_reducible exact S2p.call (by assumption) (by assumption) | with_reducible exact S2p.set (by assumption) (by omega) (by omega) _ _ | with_reducible assumption)
    (first
      | (go_at_call 67; refine (l1ZNeg_any y _ _ _ g _ (HB.out.below (Below.refl _ _).drew)).mono ?_; rintro e w6 ⟨rfl, hb6⟩; have Q6 : Hid (Below (((w.alloc (.cells #[.bool (decide (x < 0)), .slice a n c] 63)).alloc (.cells #[.bool (decide (y < 0)), .slice b m d] 63)).alloc (.cells #[.bool false, .slice none 0 0] 63)).heap.size (((w.alloc (.cells #[.bool (decide (x < 0)), .slice a n c] 63)).alloc (.cells #[.bool (decide (y < 0)), .slice b m d] 63)).alloc (.cells #[.bool false, .slice none 0 0] 63)) w6) := (Below.refl _ _).drew.trans (hb6.mono (Nat.le_refl _)))
      | (go_at_call 87; refine (l1ZAdd_any x (-y) _ _ _ (ZA.out _ Q6.out) (ZB.out _ Q6.out) HL.out.1 HL.out.2).mono ?_; rintro e w7 ⟨r7, rfl, z7, hb7⟩; obtain ⟨s7, a7, n7, c7, rfl⟩ := z7.agg; have Q7 : Hid (ZIs w7 (.agg #[.bool s7, .slice a7 n7 c7]) (x + -y) ∧ Below (((w.alloc (.cells #[.bool (decide (x < 0)), .slice a n c] 63)).alloc (.cells #[.bool (decide (y < 0)), .slice b m d] 63)).alloc (.cells #[.bool false, .slice none 0 0] 63)).heap.size (((w.alloc (.cells #[.bool (decide (x < 0)), .slice a n c] 63)).alloc (.cells #[.bool (decide (y < 0)), .slice b m d] 63)).alloc (.cells #[.bool false, .slice none 0 0] 63)) w7) := ⟨z7, Q6.out.trans (hb7.mono Q6.out.size)⟩; clear z7; obtain ⟨k0, k1, kf, ks⟩ := HR.out.1.below Q7.out.2))
  have HF : Hid (ZIs w7 (.agg #[.bool s7, .slice a7 n7 c7]) (x - y) ∧ Below w.heap.size w w7 ∧ Res2At w7 (w.heap.size + 1 + 1)) := ⟨Q7.out.1, HR.out.2.trans (Q7.out.2.mono HR.out.2.size), HR.out.1.below Q7.out.2⟩
  go_wp2
  exact bodyPost_ret (v := .agg #[.bool s7, .slice a7 n7 c7]) (by simp [results, Try.results88, go_sem, k0, k1]) rfl ⟨_, rfl, HF.out.1.set2 _ HF.out.2.2 _ _, below_set2 HF.out.2.1 (by omega) _ _⟩
end Go.Proofs.Ytikepklkjbohmaa
