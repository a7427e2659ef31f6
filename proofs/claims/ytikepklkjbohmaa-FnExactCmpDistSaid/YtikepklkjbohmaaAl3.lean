import Derived.Test.YtikepklkjbohmaaAl2
namespace Go.Proofs.Ytikepklkjbohmaa
open Go.RowKit

theorem S4.arr {w : World} {A0 A1 A2 A3 : Array Value} {t : TypeId} (o : Obj) : S4 w.heap.size A0 A1 A2 A3 (((((w.alloc (.cells A0 t)).alloc (.cells A1 t)).alloc (.cells A2 t)).alloc (.cells A3 t)).alloc o) := S4.start (Joins.below_alloc1 _ _)

set_option maxHeartbeats 1000000 in
theorem specAlong_tame (hd : DotOK) (a0 a1 a2 b0 b1 b2 c0 c1 c2 d0 d1 d2 : Int) (w : World) (h : (inB3 a0 a1 a2 && inB3 b0 b1 b2 && inB3 c0 c1 c2 && inB3 d0 d1 d2) = true) :
    Calls Try.prog 19 #[V3i a0 a1 a2, V3i b0 b1 b2, V3i c0 c1 c2, V3i d0 d1 d2] w fun e w' => e = .returned (.int .i64 (sg3 ((b0 - a0) * (d0 - c0) + (b1 - a1) * (d1 - c1) + (b2 - a2) * (d2 - c2)))) ∧ Below w.heap.size w w' := by
  have H : Hid ((allB 4 fun j => inB3 (pick4 a0 b0 c0 d0 j) (pick4 a1 b1 c1 d1 j) (pick4 a2 b2 c2 d2 j)) = true) := by unfold Hid; rw [all4]; exact h
  have HT : Hid _ := tame4 h
  have HD : Hid DotOK := hd
  have HN : Hid ((b0 - a0).natAbs ≤ 134217728 ∧ (b1 - a1).natAbs ≤ 134217728 ∧ (b2 - a2).natAbs ≤ 134217728 ∧ (d0 - c0).natAbs ≤ 134217728 ∧ (d1 - c1).natAbs ≤ 134217728 ∧ (d2 - c2).natAbs ≤ 134217728) := by
    obtain ⟨⟨x0, x1, x2⟩, ⟨y0, y1, y2⟩, ⟨z0, z1, z2⟩, u0, u1, u2⟩ := tame4 h
    exact ⟨by omega, by omega, by omega, by omega, by omega, by omega⟩
  clear h hd
  go_enter Try.func19, Try.ntmps19
  go_wp2_with fail
  refine (l2Tame_any _ 4 _ (pick4 a0 b0 c0 d0) (pick4 a1 b1 c1 d1) (pick4 a2 b2 c2 d2) _ (by omega) ?_ ?_ ?_).mono ?_
  · refine lt4 ?_ ?_ ?_ ?_ <;> (rw [Joins.cell_alloc_mark_at _ _ _ _ _ _ (by simp)]; rfl)
  · refine lt4 ?_ ?_ ?_ ?_ <;> (rw [Joins.cell_alloc_mark_at _ _ _ _ _ _ (by simp)]; rfl)
  · refine lt4 ?_ ?_ ?_ ?_ <;> (rw [Joins.cell_alloc_mark_at _ _ _ _ _ _ (by simp)]; rfl)
  rw [H.out]
  rintro e w' ⟨rfl, rfl⟩
  go_wp2_with fail
  have hS : ∀ o, S4 w.heap.size #[.int .i64 a0, .int .i64 a1, .int .i64 a2] #[.int .i64 b0, .int .i64 b1, .int .i64 b2] #[.int .i64 c0, .int .i64 c1, .int .i64 c2] #[.int .i64 d0, .int .i64 d1, .int .i64 d2] (((((w.alloc (.cells #[.int .i64 a0, .int .i64 a1, .int .i64 a2] 41)).alloc (.cells #[.int .i64 b0, .int .i64 b1, .int .i64 b2] 41)).alloc (.cells #[.int .i64 c0, .int .i64 c1, .int .i64 c2] 41)).alloc (.cells #[.int .i64 d0, .int .i64 d1, .int .i64 d2] 41)).alloc o) := fun o => S4.arr o
  have hB : ∀ o, Below w.heap.size w (((((w.alloc (.cells #[.int .i64 a0, .int .i64 a1, .int .i64 a2] 41)).alloc (.cells #[.int .i64 b0, .int .i64 b1, .int .i64 b2] 41)).alloc (.cells #[.int .i64 c0, .int .i64 c1, .int .i64 c2] 41)).alloc (.cells #[.int .i64 d0, .int .i64 d1, .int .i64 d2] 41)).alloc o) := fun o => below_alloc5 w _ _ _ _ o
  go_region_held3 (fun w' => S4 w.heap.size #[.int .i64 a0, .int .i64 a1, .int .i64 a2] #[.int .i64 b0, .int .i64 b1, .int .i64 b2] #[.int .i64 c0, .int .i64 c1, .int .i64 c2] #[.int .i64 d0, .int .i64 d1, .int .i64 d2] w' ∧ Below w.heap.size w w') (first | with_reducible exact ⟨S4.drew (hS _), (hB _).drew⟩ | (have hh := ‹(S4 w.heap.size #[.int .i64 a0, .int .i64 a1, .int .i64 a2] #[.int .i64 b0, .int .i64 b1, .int .i64 b2] #[.int .i64 c0, .int .i64 c1, .int .i64 c2] #[.int .i64 d0, .int .i64 d1, .int .i64 d2] _ ∧ Below w.heap.size w _)›; first | with_reducible exact ⟨hh.1.call (by assumption), hh.2.trans (Below.mono (by assumption) hh.2.size)⟩ | with_reducible exact hh))
    (first
      | (go_at_call_of 48 (Value.agg #[Value.int IntKind.i64 b0, Value.int IntKind.i64 b1, Value.int IntKind.i64 b2]); refine (l2Sub3_any _ _ _ _ _ _ _ HT.out.2.1.1 HT.out.2.1.2.1 HT.out.2.1.2.2 HT.out.1.1 HT.out.1.2.1 HT.out.1.2.2).mono ?_; rintro e w6 ⟨g1, rfl, hs1, hb⟩; have Q6 : Hid (S1 g1 _ w6) := hs1; clear hs1)
      | (go_at_call_of 48 (Value.agg #[Value.int IntKind.i64 d0, Value.int IntKind.i64 d1, Value.int IntKind.i64 d2]); refine (l2Sub3_any _ _ _ _ _ _ _ HT.out.2.2.2.1 HT.out.2.2.2.2.1 HT.out.2.2.2.2.2 HT.out.2.2.1.1 HT.out.2.2.1.2.1 HT.out.2.2.1.2.2).mono ?_; rintro e w7 ⟨g2, rfl, hs2, hb⟩; have Q7 : Hid (S1 g1 _ w7 ∧ S1 g2 _ w7) := ⟨Q6.out.call hb, hs2⟩; clear hs2)
      | (go_at_call 47; refine (l2Dot_three HD.out _ _ _ _ _ _ _ _ _ Q7.out.1 Q7.out.2 HN.out.1 HN.out.2.1 HN.out.2.2.1 HN.out.2.2.2.1 HN.out.2.2.2.2.1 HN.out.2.2.2.2.2).mono ?_; rintro e w8 ⟨p0, q0, s0, l0, m0, rfl, hr8, hb⟩; have Q8 : Hid (RIs w8 _ _ 1) := hr8; clear hr8)
      | (go_at_call 39; refine (l1rSign_any _ 1 _ _ Q8.out).mono ?_; rintro e w9 ⟨rfl, hb⟩))
  have hh := ‹(S4 w.heap.size #[.int .i64 a0, .int .i64 a1, .int .i64 a2] #[.int .i64 b0, .int .i64 b1, .int .i64 b2] #[.int .i64 c0, .int .i64 c1, .int .i64 c2] #[.int .i64 d0, .int .i64 d1, .int .i64 d2] _ ∧ Below w.heap.size w _)›
  have HH : Hid _ := hh.2
  clear hh
  go_wp2
  go_ret
  exact ⟨rfl, HH.out⟩

set_option maxHeartbeats 1000000 in
theorem lawAlong_of (a0 a1 a2 b0 b1 b2 c0 c1 c2 d0 d1 d2 k : Int) (w : World)
    (hs : ∀ w, Calls Try.prog 19 #[.agg #[.int .i64 a0, .int .i64 a1, .int .i64 a2], .agg #[.int .i64 b0, .int .i64 b1, .int .i64 b2], .agg #[.int .i64 c0, .int .i64 c1, .int .i64 c2], .agg #[.int .i64 d0, .int .i64 d1, .int .i64 d2]] w fun e w' => e = .returned (.int .i64 k) ∧ Below w.heap.size w w')
    (hi : ∀ w, Calls Try.prog 21 #[.agg #[.int .i64 a0, .int .i64 a1, .int .i64 a2], .agg #[.int .i64 b0, .int .i64 b1, .int .i64 b2], .agg #[.int .i64 c0, .int .i64 c1, .int .i64 c2], .agg #[.int .i64 d0, .int .i64 d1, .int .i64 d2]] w fun e w' => e = .returned (.int .i64 k) ∧ Below w.heap.size w w') :
    Calls Try.prog 6 #[.agg #[.int .i64 a0, .int .i64 a1, .int .i64 a2], .agg #[.int .i64 b0, .int .i64 b1, .int .i64 b2], .agg #[.int .i64 c0, .int .i64 c1, .int .i64 c2], .agg #[.int .i64 d0, .int .i64 d1, .int .i64 d2]] w fun e w' => e = .returned (.bool true) ∧ Below w.heap.size w w' := by
  have HS : Hid (∀ w, Calls Try.prog 19 #[.agg #[.int .i64 a0, .int .i64 a1, .int .i64 a2], .agg #[.int .i64 b0, .int .i64 b1, .int .i64 b2], .agg #[.int .i64 c0, .int .i64 c1, .int .i64 c2], .agg #[.int .i64 d0, .int .i64 d1, .int .i64 d2]] w fun e w' => e = .returned (.int .i64 k) ∧ Below w.heap.size w w') := hs
  have HI : Hid (∀ w, Calls Try.prog 21 #[.agg #[.int .i64 a0, .int .i64 a1, .int .i64 a2], .agg #[.int .i64 b0, .int .i64 b1, .int .i64 b2], .agg #[.int .i64 c0, .int .i64 c1, .int .i64 c2], .agg #[.int .i64 d0, .int .i64 d1, .int .i64 d2]] w fun e w' => e = .returned (.int .i64 k) ∧ Below w.heap.size w w') := hi
  clear hs hi
  go_enter Try.func6, Try.ntmps6
  go_wp2_with fail
  have hS := S4.start (Below.refl (((((w.alloc (.cells #[.int .i64 a0, .int .i64 a1, .int .i64 a2] 39)).alloc (.cells #[.int .i64 b0, .int .i64 b1, .int .i64 b2] 39)).alloc (.cells #[.int .i64 c0, .int .i64 c1, .int .i64 c2] 39)).alloc (.cells #[.int .i64 d0, .int .i64 d1, .int .i64 d2] 39))).heap.size ((((w.alloc (.cells #[.int .i64 a0, .int .i64 a1, .int .i64 a2] 39)).alloc (.cells #[.int .i64 b0, .int .i64 b1, .int .i64 b2] 39)).alloc (.cells #[.int .i64 c0, .int .i64 c1, .int .i64 c2] 39)).alloc (.cells #[.int .i64 d0, .int .i64 d1, .int .i64 d2] 39)))
  have hB := below_alloc4 w (.cells #[.int .i64 a0, .int .i64 a1, .int .i64 a2] 39) (.cells #[.int .i64 b0, .int .i64 b1, .int .i64 b2] 39) (.cells #[.int .i64 c0, .int .i64 c1, .int .i64 c2] 39) (.cells #[.int .i64 d0, .int .i64 d1, .int .i64 d2] 39)
  go_region_held3 (fun w' => S4 w.heap.size #[.int .i64 a0, .int .i64 a1, .int .i64 a2] #[.int .i64 b0, .int .i64 b1, .int .i64 b2] #[.int .i64 c0, .int .i64 c1, .int .i64 c2] #[.int .i64 d0, .int .i64 d1, .int .i64 d2] w' ∧ Below w.heap.size w w') (first | with_reducible exact ⟨S4.drew hS, hB.drew⟩ | (have hh := ‹(S4 w.heap.size #[.int .i64 a0, .int .i64 a1, .int .i64 a2] #[.int .i64 b0, .int .i64 b1, .int .i64 b2] #[.int .i64 c0, .int .i64 c1, .int .i64 c2] #[.int .i64 d0, .int .i64 d1, .int .i64 d2] _ ∧ Below w.heap.size w _)›; first | with_reducible exact ⟨hh.1.call (by assumption), hh.2.trans (Below.mono (by assumption) hh.2.size)⟩ | with_reducible exact hh))
    (first
      | (go_at_call 20; refine (toP3_any _ _ _ _).mono ?_; rintro e w' ⟨rfl, hb⟩)
      | (go_at_call 19; refine (HS.out _).mono ?_; rintro e w' ⟨rfl, hb⟩))
  have hh := ‹(S4 w.heap.size #[.int .i64 a0, .int .i64 a1, .int .i64 a2] #[.int .i64 b0, .int .i64 b1, .int .i64 b2] #[.int .i64 c0, .int .i64 c1, .int .i64 c2] #[.int .i64 d0, .int .i64 d1, .int .i64 d2] _ ∧ Below w.heap.size w _)›
  clear hS hB
  go_wp2_with fail
  go_region_held3 (fun w' => S4 w.heap.size #[.int .i64 a0, .int .i64 a1, .int .i64 a2] #[.int .i64 b0, .int .i64 b1, .int .i64 b2] #[.int .i64 c0, .int .i64 c1, .int .i64 c2] #[.int .i64 d0, .int .i64 d1, .int .i64 d2] w' ∧ Below w.heap.size w w') (first | with_reducible exact ⟨S4.drew hh.1, hh.2.drew⟩ | (have hh' := ‹(S4 w.heap.size #[.int .i64 a0, .int .i64 a1, .int .i64 a2] #[.int .i64 b0, .int .i64 b1, .int .i64 b2] #[.int .i64 c0, .int .i64 c1, .int .i64 c2] #[.int .i64 d0, .int .i64 d1, .int .i64 d2] _ ∧ Below w.heap.size w _)›; first | with_reducible exact ⟨hh'.1.call (by assumption), hh'.2.trans (Below.mono (by assumption) hh'.2.size)⟩ | with_reducible exact hh'))
    (first
      | (go_at_call 20; refine (toP3_any _ _ _ _).mono ?_; rintro e w' ⟨rfl, hb⟩)
      | (go_at_call 21; refine (HI.out _).mono ?_; rintro e w' ⟨rfl, hb⟩))
  clear hh
  have hh := ‹(S4 w.heap.size #[.int .i64 a0, .int .i64 a1, .int .i64 a2] #[.int .i64 b0, .int .i64 b1, .int .i64 b2] #[.int .i64 c0, .int .i64 c1, .int .i64 c2] #[.int .i64 d0, .int .i64 d1, .int .i64 d2] _ ∧ Below w.heap.size w _)›
  have HH : Hid _ := hh.2
  clear hh
  go_wp2
  go_ret
  exact ⟨rfl, HH.out⟩

theorem lawAlong_of_dot (hd : DotOK) (a0 a1 a2 b0 b1 b2 c0 c1 c2 d0 d1 d2 : Int) (w : World) :
    Calls Try.prog 6 #[.agg #[.int .i64 a0, .int .i64 a1, .int .i64 a2], .agg #[.int .i64 b0, .int .i64 b1, .int .i64 b2], .agg #[.int .i64 c0, .int .i64 c1, .int .i64 c2], .agg #[.int .i64 d0, .int .i64 d1, .int .i64 d2]] w fun e w' => e = .returned (.bool true) ∧ Below w.heap.size w w' := by
  cases h : (inB3 a0 a1 a2 && inB3 b0 b1 b2 && inB3 c0 c1 c2 && inB3 d0 d1 d2)
  · exact lawAlong_of _ _ _ _ _ _ _ _ _ _ _ _ 2 w (fun w => specAlong_wild _ _ _ _ _ _ _ _ _ _ _ _ w h) (fun w => implAlong_wild _ _ _ _ _ _ _ _ _ _ _ _ w h)
  · exact lawAlong_of _ _ _ _ _ _ _ _ _ _ _ _ _ w (fun w => specAlong_tame hd _ _ _ _ _ _ _ _ _ _ _ _ w h) (fun w => implAlong_tame _ _ _ _ _ _ _ _ _ _ _ _ w h)
end Go.Proofs.Ytikepklkjbohmaa
