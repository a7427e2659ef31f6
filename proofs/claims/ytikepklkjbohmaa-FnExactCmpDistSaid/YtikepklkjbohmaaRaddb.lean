import Derived.Test.YtikepklkjbohmaaRadd
namespace Go.Proofs.Ytikepklkjbohmaa
open Go.RowKit

theorem S1.set3 {N : Nat} {A0 : Array Value} {w' : World} (h : S1 N A0 w') {b : Nat} (hb : N ≠ b) (u0 u1 u2 : Value) : S1 N A0 (((w'.setCell ⟨b, 0, none⟩ u0).setCell ⟨b, 1, none⟩ u1).setCell ⟨b, 2, none⟩ u2) :=
  ⟨fun j => by rw [cell_same (set3_other w' b u0 u1 u2 N hb)]; exact h.1 j, by simpa using h.2⟩
abbrev S4z (b5 b6 b7 b8 : Nat) (A5 A6 A7 A8 : Array Value) (w' : World) : Prop := S1 b5 A5 w' ∧ S1 b6 A6 w' ∧ S1 b7 A7 w' ∧ S1 b8 A8 w'
theorem S4z.call {b5 b6 b7 b8 : Nat} {A5 A6 A7 A8 : Array Value} {w' w1 : World} (h : S4z b5 b6 b7 b8 A5 A6 A7 A8 w') (hb : Below w'.heap.size w' w1) : S4z b5 b6 b7 b8 A5 A6 A7 A8 w1 := ⟨h.1.call hb, h.2.1.call hb, h.2.2.1.call hb, h.2.2.2.call hb⟩
theorem S4z.drew {b5 b6 b7 b8 : Nat} {A5 A6 A7 A8 : Array Value} {w' : World} (h : S4z b5 b6 b7 b8 A5 A6 A7 A8 w') : S4z b5 b6 b7 b8 A5 A6 A7 A8 w'.drew := h.call (Below.refl _ _).drew
theorem S4z.set3 {b5 b6 b7 b8 : Nat} {A5 A6 A7 A8 : Array Value} {w' : World} (h : S4z b5 b6 b7 b8 A5 A6 A7 A8 w') {b : Nat} (h5 : b5 ≠ b) (h6 : b6 ≠ b) (h7 : b7 ≠ b) (h8 : b8 ≠ b) (u0 u1 u2 : Value) : S4z b5 b6 b7 b8 A5 A6 A7 A8 (((w'.setCell ⟨b, 0, none⟩ u0).setCell ⟨b, 1, none⟩ u1).setCell ⟨b, 2, none⟩ u2) :=
  ⟨h.1.set3 h5 _ _ _, h.2.1.set3 h6 _ _ _, h.2.2.1.set3 h7 _ _ _, h.2.2.2.set3 h8 _ _ _⟩
theorem S1.new (w : World) (A : Array Value) (t : TypeId) : S1 w.heap.size A (w.alloc (.cells A t)) := ⟨fun j => Joins.cell_alloc_mark_at _ _ _ _ _ _ rfl, by simp⟩

set_option maxHeartbeats 2000000 in
theorem l1rAdd_big (x y : Int) (p1 q1 p2 q2 : Int) (s1 s2 : Option Addr) (l1 l2 c1 c2 : Nat) (w : World) (hv : RIs w (.agg #[.int .i64 p1, .int .i64 q1, .slice s1 l1 c1]) x 1) (hu : RIs w (.agg #[.int .i64 p2, .int .i64 q2, .slice s2 l2 c2]) y 1)
    (hx : x.natAbs ≤ 4611686018427387904) (hy : y.natAbs ≤ 4611686018427387904) (hl1 : l1 ≤ 2) (hl2 : l2 ≤ 2) (hl : 0 < l1 + l2) :
    Calls Try.prog 77 #[.agg #[.int .i64 p1, .int .i64 q1, .slice s1 l1 c1], .agg #[.int .i64 p2, .int .i64 q2, .slice s2 l2 c2]] w fun e w' => ∃ p0 q0 s0 l0 c0, e = .returned (.agg #[.int .i64 p0, .int .i64 q0, .slice s0 l0 c0]) ∧ RIs w' (.agg #[.int .i64 p0, .int .i64 q0, .slice s0 l0 c0]) (x + y) 1 ∧ Below w.heap.size w w' := by
  have hne : ((l1 : Int) + (l2 : Int) == 0) = false := by simp; omega
  have HR := ResAt.new3 w (.cells #[.int .i64 p1, .int .i64 q1, .slice s1 l1 c1] 59) (.cells #[.int .i64 p2, .int .i64 q2, .slice s2 l2 c2] 59)
  have HB3 := Joins.below_alloc3 w (.cells #[.int .i64 p1, .int .i64 q1, .slice s1 l1 c1] 59) (.cells #[.int .i64 p2, .int .i64 q2, .slice s2 l2 c2] 59) (.cells #[.int .i64 0, .int .i64 0, .slice none 0 0] 59)
  have HU : Hid _ := hu.below HB3
  have HV : Hid _ := hv.below HB3
  have HH : Hid (_ ∧ _) := ⟨HR, HB3⟩
  clear HR HB3 hu hv
  go_enter Try.func77, Try.ntmps77
  go_wp2_with fail
  refine (l1rZ_open x _ _ HV.out).mono ?_
  rintro e w1 ⟨a1, n1, d1, f1, a2, n2, d2, f2, rfl, m1, m2, hb1⟩
  have hcu : ∀ j, (((w1.alloc (.cells #[.bool (decide (x < 0)), .slice a1 n1 d1] 63)).alloc (.cells #[.bool false, .slice a2 n2 d2] 63))).cell? ⟨w.heap.size + 1, j, none⟩ = #[Value.int .i64 p2, .int .i64 q2, .slice s2 l2 c2][j]? := fun j => by
    rw [((Joins.below_alloc2 w1 _ _)).cell (p := ⟨w.heap.size + 1, j, none⟩) (by show w.heap.size + 1 < w1.heap.size; have := hb1.size; simp at this; omega), hb1.cell (p := ⟨w.heap.size + 1, j, none⟩) (by simp)]; go_simp
  have hb1' := hb1.trans ((Joins.below_alloc2 w1 (.cells #[.bool (decide (x < 0)), .slice a1 n1 d1] 63) (.cells #[.bool false, .slice a2 n2 d2] 63)).mono hb1.size)
  go_wp2_with fail
  refine (l1rZ_open y _ _ (RIs.below HU.out hb1')).mono ?_
  rintro e w2 ⟨a3, n3, d3, f3, a4, n4, d4, f4, rfl, m3, m4, hb2⟩
  have hb25 := hb2.trans ((Joins.below_alloc2 w2 (.cells #[.bool (decide (y < 0)), .slice a3 n3 d3] 63) (.cells #[.bool false, .slice a4 n4 d4] 63)).mono hb2.size)
  have hW5 : Below w2.heap.size w2 ((w2.alloc (.cells #[.bool (decide (y < 0)), .slice a3 n3 d3] 63)).alloc (.cells #[.bool false, .slice a4 n4 d4] 63)) := Joins.below_alloc2 _ _ _
  have hn6 : (w1.alloc (.cells #[.bool (decide (x < 0)), .slice a1 n1 d1] 63)).heap.size = w1.heap.size + 1 := by simp
  have hn8 : (w2.alloc (.cells #[.bool (decide (y < 0)), .slice a3 n3 d3] 63)).heap.size = w2.heap.size + 1 := by simp
  have t5 := ((S1.new w1 #[.bool (decide (x < 0)), .slice a1 n1 d1] 63).call (Joins.below_alloc1 _ (.cells #[.bool false, .slice a2 n2 d2] 63))).call hb25
  have t6 := (S1.new (w1.alloc (.cells #[.bool (decide (x < 0)), .slice a1 n1 d1] 63)) #[.bool false, .slice a2 n2 d2] 63).call hb25
  rw [hn6] at t6
  have t7 := (S1.new w2 #[.bool (decide (y < 0)), .slice a3 n3 d3] 63).call (Joins.below_alloc1 _ (.cells #[.bool false, .slice a4 n4 d4] 63))
  have t8 := S1.new (w2.alloc (.cells #[.bool (decide (y < 0)), .slice a3 n3 d3] 63)) #[.bool false, .slice a4 n4 d4] 63
  rw [hn8] at t8
  have hS : S4z w1.heap.size (w1.heap.size + 1) w2.heap.size (w2.heap.size + 1) #[.bool (decide (x < 0)), .slice a1 n1 d1] #[.bool false, .slice a2 n2 d2] #[.bool (decide (y < 0)), .slice a3 n3 d3] #[.bool false, .slice a4 n4 d4] ((w2.alloc (.cells #[.bool (decide (y < 0)), .slice a3 n3 d3] 63)).alloc (.cells #[.bool false, .slice a4 n4 d4] 63)) := ⟨t5, t6, t7, t8⟩
  have z5 : ZIs ((w2.alloc (.cells #[.bool (decide (y < 0)), .slice a3 n3 d3] 63)).alloc (.cells #[.bool false, .slice a4 n4 d4] 63)) (.agg #[.bool (decide (x < 0)), .slice a1 n1 d1]) x := ⟨_, _, _, f1, rfl, (m1.below (Joins.below_alloc2 w1 (.cells #[.bool (decide (x < 0)), .slice a1 n1 d1] 63) (.cells #[.bool false, .slice a2 n2 d2] 63))).below hb25⟩
  have z6 : ZIs ((w2.alloc (.cells #[.bool (decide (y < 0)), .slice a3 n3 d3] 63)).alloc (.cells #[.bool false, .slice a4 n4 d4] 63)) (.agg #[.bool false, .slice a2 n2 d2]) 1 := ⟨_, _, _, f2, rfl, (m2.below (Joins.below_alloc2 w1 (.cells #[.bool (decide (x < 0)), .slice a1 n1 d1] 63) (.cells #[.bool false, .slice a2 n2 d2] 63))).below hb25⟩
  have z7 : ZIs ((w2.alloc (.cells #[.bool (decide (y < 0)), .slice a3 n3 d3] 63)).alloc (.cells #[.bool false, .slice a4 n4 d4] 63)) (.agg #[.bool (decide (y < 0)), .slice a3 n3 d3]) y := ⟨_, _, _, f3, rfl, m3.below hW5⟩
  have z8 : ZIs ((w2.alloc (.cells #[.bool (decide (y < 0)), .slice a3 n3 d3] 63)).alloc (.cells #[.bool false, .slice a4 n4 d4] 63)) (.agg #[.bool false, .slice a4 n4 d4]) 1 := ⟨_, _, _, f4, rfl, m4.below hW5⟩
  have hr5 := (HH.out.1.below hb1').below hb25
  have hw5 := HH.out.2.trans ((hb1'.trans (hb25.mono hb1'.size)).mono HH.out.2.size)
  have hsz1 : w.heap.size + 1 + 1 < w1.heap.size := by have := hb1.size; simp at this; omega
  have hsz2 : w.heap.size + 1 + 1 < w2.heap.size := by have := (hb1'.trans (hb2.mono hb1'.size)).size; simp at this; omega
  have Z5 : Hid (ZIs ((w2.alloc (.cells #[.bool (decide (y < 0)), .slice a3 n3 d3] 63)).alloc (.cells #[.bool false, .slice a4 n4 d4] 63)) (.agg #[.bool (decide (x < 0)), .slice a1 n1 d1]) x) := z5
  have Z6 : Hid (ZIs ((w2.alloc (.cells #[.bool (decide (y < 0)), .slice a3 n3 d3] 63)).alloc (.cells #[.bool false, .slice a4 n4 d4] 63)) (.agg #[.bool false, .slice a2 n2 d2]) 1) := z6
  have Z7 : Hid (ZIs ((w2.alloc (.cells #[.bool (decide (y < 0)), .slice a3 n3 d3] 63)).alloc (.cells #[.bool false, .slice a4 n4 d4] 63)) (.agg #[.bool (decide (y < 0)), .slice a3 n3 d3]) y) := z7
  have Z8 : Hid (ZIs ((w2.alloc (.cells #[.bool (decide (y < 0)), .slice a3 n3 d3] 63)).alloc (.cells #[.bool false, .slice a4 n4 d4] 63)) (.agg #[.bool false, .slice a4 n4 d4]) 1) := z8
  have R5 : Hid (ResAt ((w2.alloc (.cells #[.bool (decide (y < 0)), .slice a3 n3 d3] 63)).alloc (.cells #[.bool false, .slice a4 n4 d4] 63)) (w.heap.size + 1 + 1) ∧ Below w.heap.size w ((w2.alloc (.cells #[.bool (decide (y < 0)), .slice a3 n3 d3] 63)).alloc (.cells #[.bool false, .slice a4 n4 d4] 63))) := ⟨hr5, hw5⟩
  clear z5 z6 z7 z8 hr5 hw5 t5 t6 t7 t8 hn6 hn8 hW5 hb25 hb2 hb1' hcu hb1 m1 m2 m3 m4 HH HU HV
  go_wp2_with fail
  go_region_held3 (fun w' => S4z w1.heap.size (w1.heap.size + 1) w2.heap.size (w2.heap.size + 1) #[.bool (decide (x < 0)), .slice a1 n1 d1] #[.bool false, .slice a2 n2 d2] #[.bool (decide (y < 0)), .slice a3 n3 d3] #[.bool false, .slice a4 n4 d4] w') (first | with_reducible exact S4z.drew hS | with_reducible exact S4z.call (by assumption) (by assumption) | with_reducible exact S4z.set3 (by assumption) (by omega) (by omega) (by omega) (by omega) _ _ _)
    (first
      | (go_at_call_of 80 (Value.agg #[Value.bool (decide (x < 0)), Value.slice a1 n1 d1]); refine (l1ZMul_any x 1 _ _ _ (Z5.out.below (Below.refl _ _).drew) (Z8.out.below (Below.refl _ _).drew) (by omega) (by decide)).mono ?_; rintro e w6 ⟨r6, rfl, z6, hb6⟩; have hb56 := (Below.refl _ _).drew.trans (hb6.mono (Nat.le_refl _)); rw [Int.mul_one] at z6; have Q6 : Hid (ZIs w6 r6 x ∧ Below ((w2.alloc (.cells #[.bool (decide (y < 0)), .slice a3 n3 d3] 63)).alloc (.cells #[.bool false, .slice a4 n4 d4] 63)).heap.size ((w2.alloc (.cells #[.bool (decide (y < 0)), .slice a3 n3 d3] 63)).alloc (.cells #[.bool false, .slice a4 n4 d4] 63)) w6) := ⟨z6, hb56⟩; clear z6 hb56)
      | (go_at_call_of 80 (Value.agg #[Value.bool (decide (y < 0)), Value.slice a3 n3 d3]); refine (l1ZMul_any y 1 _ _ _ (Z7.out.below Q6.out.2) (Z6.out.below Q6.out.2) (by omega) (by decide)).mono ?_; rintro e w7 ⟨r7, rfl, z7, hb7⟩; rw [Int.mul_one] at z7; have Q7 : Hid (ZIs w7 r6 x ∧ ZIs w7 r7 y ∧ Below ((w2.alloc (.cells #[.bool (decide (y < 0)), .slice a3 n3 d3] 63)).alloc (.cells #[.bool false, .slice a4 n4 d4] 63)).heap.size ((w2.alloc (.cells #[.bool (decide (y < 0)), .slice a3 n3 d3] 63)).alloc (.cells #[.bool false, .slice a4 n4 d4] 63)) w7) := ⟨Q6.out.1.below hb7, z7, Q6.out.2.trans (hb7.mono Q6.out.2.size)⟩; clear z7)
      | (go_at_call 87; refine (l1ZAdd_any x y _ _ _ Q7.out.1 Q7.out.2.1 (by omega) (by omega)).mono ?_; rintro e w8 ⟨r8, rfl, z8, hb8⟩; have Q8 : Hid (ZIs w8 r8 (x + y) ∧ Below ((w2.alloc (.cells #[.bool (decide (y < 0)), .slice a3 n3 d3] 63)).alloc (.cells #[.bool false, .slice a4 n4 d4] 63)).heap.size ((w2.alloc (.cells #[.bool (decide (y < 0)), .slice a3 n3 d3] 63)).alloc (.cells #[.bool false, .slice a4 n4 d4] 63)) w8) := ⟨z8, Q7.out.2.2.trans (hb8.mono Q7.out.2.2.size)⟩; clear z8)
      | (go_at_call 80; refine (l1ZMul_any 1 1 _ _ _ (Z6.out.below Q8.out.2) (Z8.out.below Q8.out.2) (by decide) (by decide)).mono ?_; rintro e w9 ⟨r9, rfl, z9, hb9⟩; have Q9 : Hid (ZIs w9 r8 (x + y) ∧ ZIs w9 r9 1 ∧ Below ((w2.alloc (.cells #[.bool (decide (y < 0)), .slice a3 n3 d3] 63)).alloc (.cells #[.bool false, .slice a4 n4 d4] 63)).heap.size ((w2.alloc (.cells #[.bool (decide (y < 0)), .slice a3 n3 d3] 63)).alloc (.cells #[.bool false, .slice a4 n4 d4] 63)) w9) := ⟨Q8.out.1.below hb9, z9, Q8.out.2.trans (hb9.mono Q8.out.2.size)⟩; clear z9)
      | (go_at_call 33; refine (l1rBig_open (x + y) _ _ _ Q9.out.1 Q9.out.2.1).mono ?_; rintro e wA ⟨p0, q0, s0, l0, c0, rfl, hr, hbA⟩; have QA : Hid (RIs wA (.agg #[.int .i64 p0, .int .i64 q0, .slice s0 l0 c0]) (x + y) 1 ∧ Below ((w2.alloc (.cells #[.bool (decide (y < 0)), .slice a3 n3 d3] 63)).alloc (.cells #[.bool false, .slice a4 n4 d4] 63)).heap.size ((w2.alloc (.cells #[.bool (decide (y < 0)), .slice a3 n3 d3] 63)).alloc (.cells #[.bool false, .slice a4 n4 d4] 63)) wA) := ⟨hr, Q9.out.2.2.trans (hbA.mono Q9.out.2.2.size)⟩; clear hr; obtain ⟨k0, k1, k2, kf, ks⟩ := R5.out.1.below QA.out.2))
  have HF : Hid (RIs wA (.agg #[.int .i64 p0, .int .i64 q0, .slice s0 l0 c0]) (x + y) 1 ∧ Below w.heap.size w wA) := ⟨QA.out.1, R5.out.2.trans (QA.out.2.mono R5.out.2.size)⟩
  go_wp2
  exact bodyPost_ret (v := .agg #[.int .i64 p0, .int .i64 q0, .slice s0 l0 c0]) (by simp [results, Try.results77, go_sem, k0, k1, k2]) rfl ⟨_, _, _, _, _, rfl, RIs.set3 HF.out.1 _ _ k0 _ _ _, below_set3 HF.out.2 (by omega) _ _ _⟩
end Go.Proofs.Ytikepklkjbohmaa
