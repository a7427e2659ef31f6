import Derived.Test.YtikepklkjbohmaaCmp
namespace Go.Proofs.Ytikepklkjbohmaa
open Go.RowKit

set_option maxHeartbeats 1000000 in
theorem l1ZCmp_any (x y : Int) (v u : Value) (w : World) (hx : ZIs w v x) (hy : ZIs w u y) (hxs : x.natAbs < 9223372036854775808) (hys : y.natAbs < 9223372036854775808) :
    Calls Try.prog 79 #[v, u] w fun e w' => e = .returned (.int .i64 (sg3 (x - y))) ∧ Below w.heap.size w w' := by
  have HB2 := Joins.below_alloc2 w
  obtain ⟨a, n, c, f, rfl, ha⟩ := hx
  obtain ⟨b, m, d, g, rfl, hb⟩ := hy
  have HX : Hid (∀ o1 o2, ZIs ((w.alloc o1).alloc o2) (.agg #[.bool (decide (x < 0)), .slice a n c]) x ∧ ZIs ((w.alloc o1).alloc o2) (.agg #[.bool (decide (y < 0)), .slice b m d]) y) := fun o1 o2 =>
    ⟨⟨_, _, _, f, rfl, ha.below (HB2 o1 o2)⟩, ⟨_, _, _, g, rfl, hb.below (HB2 o1 o2)⟩⟩
  have HL : Hid (x.natAbs < 18446744073709551616 ∧ y.natAbs < 18446744073709551616) := ⟨by omega, by omega⟩
  have HB : Hid (∀ o1 o2, Below w.heap.size w ((w.alloc o1).alloc o2)) := HB2
  clear ha hb HB2 hxs hys
  go_enter Try.func79, Try.ntmps79
  go_wp2_with fail
  refine (l1ZSub_any x y _ _ _ (HX.out _ _).1 (HX.out _ _).2 HL.out.1 HL.out.2).mono ?_
  rintro e w6 ⟨r6, rfl, z6, hb6⟩
  obtain ⟨a7, n7, c7, f7, rfl, m7⟩ := z6
  have Q6 : Hid (Mag w6 a7 n7 c7 f7 (x - y).natAbs ∧ Below w.heap.size w w6) := ⟨m7, (HB.out _ _).trans (hb6.mono (HB.out _ _).size)⟩
  clear m7 hb6
  go_wp2_with fail
  refine (l1ZSign_any (x - y) _ _ _ f7 _ Q6.out.1).mono ?_
  rintro e w7 ⟨rfl, hb7⟩
  have HH : Hid (Below w.heap.size w w7) := Q6.out.2.trans (hb7.mono Q6.out.2.size)
  clear hb7
  go_wp2
  go_ret
  exact ⟨rfl, HH.out⟩

set_option maxHeartbeats 400000 in
theorem l1rCmp_small (x y : Int) (w : World) (hx : x.natAbs ≤ 2147483647) (hy : y.natAbs ≤ 2147483647) :
    Calls Try.prog 52 #[.agg #[.int .i64 x, .int .i64 1, .slice none 0 0], .agg #[.int .i64 y, .int .i64 1, .slice none 0 0]] w fun e w' => e = .returned (.int .i64 (sg3 (x - y))) ∧ Below w.heap.size w w' := by
  rcases Int.lt_trichotomy x y with h1 | h1 | h1
  · have HR : Hid (-1 = sg3 (x - y)) := by unfold Hid sg3; rw [if_pos (by omega)]
    go_enter Try.func52, Try.ntmps52
    go_wp2
    go_ret
    exact ⟨ret_int HR.out, Joins.below_alloc2 _ _ _⟩
  · subst h1
    have HR : Hid (0 = sg3 (x - x)) := by unfold Hid sg3; rw [if_neg (by omega), if_neg (by omega)]
    go_enter Try.func52, Try.ntmps52
    go_wp2
    go_ret
    exact ⟨ret_int HR.out, Joins.below_alloc2 _ _ _⟩
  · have HR : Hid (1 = sg3 (x - y)) := by unfold Hid sg3; rw [if_neg (by omega), if_pos (by omega)]
    have h2 : ¬ x < y := by omega
    go_enter Try.func52, Try.ntmps52
    go_wp2
    go_ret
    exact ⟨ret_int HR.out, Joins.below_alloc2 _ _ _⟩

set_option maxHeartbeats 2000000 in
theorem l1rCmp_big (x y : Int) (p1 q1 p2 q2 : Int) (s1 s2 : Option Addr) (l1 l2 c1 c2 : Nat) (w : World) (hv : RIs w (.agg #[.int .i64 p1, .int .i64 q1, .slice s1 l1 c1]) x 1) (hu : RIs w (.agg #[.int .i64 p2, .int .i64 q2, .slice s2 l2 c2]) y 1)
    (hx : x.natAbs ≤ 4611686018427387904) (hy : y.natAbs ≤ 4611686018427387904) (hl1 : l1 ≤ 2) (hl2 : l2 ≤ 2) (hl : 0 < l1 + l2) :
    Calls Try.prog 52 #[.agg #[.int .i64 p1, .int .i64 q1, .slice s1 l1 c1], .agg #[.int .i64 p2, .int .i64 q2, .slice s2 l2 c2]] w fun e w' => e = .returned (.int .i64 (sg3 (x - y))) ∧ Below w.heap.size w w' := by
  have hne : ((l1 : Int) + (l2 : Int) == 0) = false := by simp; omega
  have HB3 := Joins.below_alloc2 w (.cells #[.int .i64 p1, .int .i64 q1, .slice s1 l1 c1] 59) (.cells #[.int .i64 p2, .int .i64 q2, .slice s2 l2 c2] 59)
  have HU : Hid _ := hu.below HB3
  have HV : Hid _ := hv.below HB3
  have HH : Hid _ := HB3
  clear HB3 hu hv
  go_enter Try.func52, Try.ntmps52
  go_wp2_with fail
  refine (l1rZ_open x _ _ HV.out).mono ?_
  rintro e w1 ⟨a1, n1, d1, f1, a2, n2, d2, f2, rfl, m1, m2, hb1⟩
  have hcu : ∀ j, ((w1.alloc (.cells #[.bool (decide (x < 0)), .slice a1 n1 d1] 63)).alloc (.cells #[.bool false, .slice a2 n2 d2] 63)).cell? ⟨w.heap.size + 1, j, none⟩ = #[Value.int .i64 p2, .int .i64 q2, .slice s2 l2 c2][j]? := fun j => by
    rw [((Joins.below_alloc2 w1 _ _)).cell (p := ⟨w.heap.size + 1, j, none⟩) (by show w.heap.size + 1 < w1.heap.size; have := hb1.size; simp at this; omega), hb1.cell (p := ⟨w.heap.size + 1, j, none⟩) (by simp)]; go_simp
  have hb1' := hb1.trans ((Joins.below_alloc2 w1 (.cells #[.bool (decide (x < 0)), .slice a1 n1 d1] 63) (.cells #[.bool false, .slice a2 n2 d2] 63)).mono hb1.size)
  go_wp2_with fail
  refine (l1rZ_open y _ _ (RIs.below HU.out hb1')).mono ?_
  rintro e w2 ⟨a3, n3, d3, f3, a4, n4, d4, f4, rfl, m3, m4, hb2⟩
  have hb25 := hb2.trans ((Joins.below_alloc2 w2 (.cells #[.bool (decide (y < 0)), .slice a3 n3 d3] 63) (.cells #[.bool false, .slice a4 n4 d4] 63)).mono hb2.size)
  have hW5 : Below w2.heap.size w2 ((w2.alloc (.cells #[.bool (decide (y < 0)), .slice a3 n3 d3] 63)).alloc (.cells #[.bool false, .slice a4 n4 d4] 63)) := Joins.below_alloc2 _ _ _
  have hn6 : (w1.alloc (.cells #[.bool (decide (x < 0)), .slice a1 n1 d1] 63)).heap.size = w1.heap.size + 1 := by simp
  have hn8 : (w2.alloc (.cells #[.bool (decide (y < 0)), .slice a3 n3 d3] 63)).heap.size = w2.heap.size + 1 := by simp
  have t5 := ((S1.new w1 #[.bool (decide (x < 0)), .slice a1 n1 d1] 63).call (Joins.below_alloc1 _ (.cells #[.bool false, .slice a2 n2 d2] 63))).call hb25
  have t6 := (S1.new (w1.alloc (.cells #[.bool (decide (x < 0)), .slice a1 n1 d1] 63)) #[.bool false, .slice a2 n2 d2] 63).call hb25
  rw [hn6] at t6
  have t7 := (S1.new w2 #[.bool (decide (y < 0)), .slice a3 n3 d3] 63).call (Joins.below_alloc1 _ (.cells #[.bool false, .slice a4 n4 d4] 63))
  have t8 := S1.new (w2.alloc (.cells #[.bool (decide (y < 0)), .slice a3 n3 d3] 63)) #[.bool false, .slice a4 n4 d4] 63
  rw [hn8] at t8
  have hS : S4z w1.heap.size (w1.heap.size + 1) w2.heap.size (w2.heap.size + 1) #[.bool (decide (x < 0)), .slice a1 n1 d1] #[.bool false, .slice a2 n2 d2] #[.bool (decide (y < 0)), .slice a3 n3 d3] #[.bool false, .slice a4 n4 d4] ((w2.alloc (.cells #[.bool (decide (y < 0)), .slice a3 n3 d3] 63)).alloc (.cells #[.bool false, .slice a4 n4 d4] 63)) := ⟨t5, t6, t7, t8⟩
  have Z5 : Hid (ZIs ((w2.alloc (.cells #[.bool (decide (y < 0)), .slice a3 n3 d3] 63)).alloc (.cells #[.bool false, .slice a4 n4 d4] 63)) (.agg #[.bool (decide (x < 0)), .slice a1 n1 d1]) x) := ⟨_, _, _, f1, rfl, (m1.below (Joins.below_alloc2 w1 (.cells #[.bool (decide (x < 0)), .slice a1 n1 d1] 63) (.cells #[.bool false, .slice a2 n2 d2] 63))).below hb25⟩
  have Z6 : Hid (ZIs ((w2.alloc (.cells #[.bool (decide (y < 0)), .slice a3 n3 d3] 63)).alloc (.cells #[.bool false, .slice a4 n4 d4] 63)) (.agg #[.bool false, .slice a2 n2 d2]) 1) := ⟨_, _, _, f2, rfl, (m2.below (Joins.below_alloc2 w1 (.cells #[.bool (decide (x < 0)), .slice a1 n1 d1] 63) (.cells #[.bool false, .slice a2 n2 d2] 63))).below hb25⟩
  have Z7 : Hid (ZIs ((w2.alloc (.cells #[.bool (decide (y < 0)), .slice a3 n3 d3] 63)).alloc (.cells #[.bool false, .slice a4 n4 d4] 63)) (.agg #[.bool (decide (y < 0)), .slice a3 n3 d3]) y) := ⟨_, _, _, f3, rfl, m3.below hW5⟩
  have Z8 : Hid (ZIs ((w2.alloc (.cells #[.bool (decide (y < 0)), .slice a3 n3 d3] 63)).alloc (.cells #[.bool false, .slice a4 n4 d4] 63)) (.agg #[.bool false, .slice a4 n4 d4]) 1) := ⟨_, _, _, f4, rfl, m4.below hW5⟩
  have R5 : Hid (Below w.heap.size w ((w2.alloc (.cells #[.bool (decide (y < 0)), .slice a3 n3 d3] 63)).alloc (.cells #[.bool false, .slice a4 n4 d4] 63))) := HH.out.trans ((hb1'.trans (hb25.mono hb1'.size)).mono HH.out.size)
  clear t5 t6 t7 t8 hn6 hn8 hW5 hb25 hb2 hb1' hcu hb1 m1 m2 m3 m4 HH HU HV
  go_wp2_with fail
  go_region_held3 (fun w' => S4z w1.heap.size (w1.heap.size + 1) w2.heap.size (w2.heap.size + 1) #[.bool (decide (x < 0)), .slice a1 n1 d1] #[.bool false, .slice a2 n2 d2] #[.bool (decide (y < 0)), .slice a3 n3 d3] #[.bool false, .slice a4 n4 d4] w') (first | with_reducible exact S4z.drew hS | with_reducible exact S4z.call (by assumption) (by assumption) | with_reducible assumption)
    (first
      | (go_at_call_of 80 (Value.agg #[Value.bool (decide (x < 0)), Value.slice a1 n1 d1]); refine (l1ZMul_any x 1 _ _ _ (Z5.out.below (Below.refl _ _).drew) (Z8.out.below (Below.refl _ _).drew) (by omega) (by decide)).mono ?_; rintro e w6 ⟨r6, rfl, z6, hb6⟩; have hb56 := (Below.refl _ _).drew.trans (hb6.mono (Nat.le_refl _)); rw [Int.mul_one] at z6; have Q6 : Hid (ZIs w6 r6 x ∧ Below ((w2.alloc (.cells #[.bool (decide (y < 0)), .slice a3 n3 d3] 63)).alloc (.cells #[.bool false, .slice a4 n4 d4] 63)).heap.size ((w2.alloc (.cells #[.bool (decide (y < 0)), .slice a3 n3 d3] 63)).alloc (.cells #[.bool false, .slice a4 n4 d4] 63)) w6) := ⟨z6, hb56⟩; clear z6 hb56)
      | (go_at_call_of 80 (Value.agg #[Value.bool (decide (y < 0)), Value.slice a3 n3 d3]); refine (l1ZMul_any y 1 _ _ _ (Z7.out.below Q6.out.2) (Z6.out.below Q6.out.2) (by omega) (by decide)).mono ?_; rintro e w7 ⟨r7, rfl, z7, hb7⟩; rw [Int.mul_one] at z7; have Q7 : Hid (ZIs w7 r6 x ∧ ZIs w7 r7 y ∧ Below ((w2.alloc (.cells #[.bool (decide (y < 0)), .slice a3 n3 d3] 63)).alloc (.cells #[.bool false, .slice a4 n4 d4] 63)).heap.size ((w2.alloc (.cells #[.bool (decide (y < 0)), .slice a3 n3 d3] 63)).alloc (.cells #[.bool false, .slice a4 n4 d4] 63)) w7) := ⟨Q6.out.1.below hb7, z7, Q6.out.2.trans (hb7.mono Q6.out.2.size)⟩; clear z7)
      | (go_at_call 79; refine (l1ZCmp_any x y _ _ _ Q7.out.1 Q7.out.2.1 (by omega) (by omega)).mono ?_; rintro e w8 ⟨rfl, hb8⟩; have Q8 : Hid (Below ((w2.alloc (.cells #[.bool (decide (y < 0)), .slice a3 n3 d3] 63)).alloc (.cells #[.bool false, .slice a4 n4 d4] 63)).heap.size ((w2.alloc (.cells #[.bool (decide (y < 0)), .slice a3 n3 d3] 63)).alloc (.cells #[.bool false, .slice a4 n4 d4] 63)) w8) := Q7.out.2.2.trans (hb8.mono Q7.out.2.2.size)))
  have HF : Hid (Below w.heap.size w w8) := R5.out.trans (Q8.out.mono R5.out.size)
  go_wp2
  go_ret
  exact ⟨rfl, HF.out⟩

theorem l1rCmp_any (x y : Int) (v u : Value) (w : World) (hv : RIs w v x 1) (hu : RIs w u y 1) (hx : x.natAbs ≤ 4611686018427387904) (hy : y.natAbs ≤ 4611686018427387904) :
    Calls Try.prog 52 #[v, u] w fun e w' => e = .returned (.int .i64 (sg3 (x - y))) ∧ Below w.heap.size w w' := by
  have hv' := hv
  have hu' := hu
  rcases hv with ⟨s1, rfl⟩ | ⟨s1, g1, a1, n1, c1, f1, b1, m1, d1, k1, rfl, _⟩ <;> rcases hu with ⟨s2, rfl⟩ | ⟨s2, g2, a2, n2, c2, f2, b2, m2, d2, k2, rfl, _⟩
  · exact l1rCmp_small x y w s1.1 s2.1
  · exact l1rCmp_big x y _ _ _ _ _ _ _ _ _ _ w hv' hu' hx hy (by omega) (by omega) (by omega)
  · exact l1rCmp_big x y _ _ _ _ _ _ _ _ _ _ w hv' hu' hx hy (by omega) (by omega) (by omega)
  · exact l1rCmp_big x y _ _ _ _ _ _ _ _ _ _ w hv' hu' hx hy (by omega) (by omega) (by omega)
end Go.Proofs.Ytikepklkjbohmaa
