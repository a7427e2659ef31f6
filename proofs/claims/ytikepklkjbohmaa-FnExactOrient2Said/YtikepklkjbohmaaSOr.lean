import Derived.Test.YtikepklkjbohmaaDet0
namespace Go.Proofs.Ytikepklkjbohmaa
open Go.RowKit

theorem S3p.arr (w : World) (A0 A1 A2 : Array Value) (t : TypeId) (o : Obj) : S3p w.heap.size A0 A1 A2 ((((w.alloc (.cells A0 t)).alloc (.cells A1 t)).alloc (.cells A2 t)).alloc o) := (S3p.start w A0 A1 A2 t).call (Joins.below_alloc1 _ _)

set_option maxHeartbeats 4000000 in
theorem specOr_tame (hd : DetOK) (a0 a1 b0 b1 c0 c1 : Int) (w : World) (h : (inB2 a0 a1 && inB2 b0 b1 && inB2 c0 c1) = true) :
    Calls Try.prog 16 #[V2i a0 a1, V2i b0 b1, V2i c0 c1] w fun e w' => e = .returned (.int .i64 (sg3 ((b0 - a0) * (c1 - a1) - (c0 - a0) * (b1 - a1)))) ∧ Below w.heap.size w w' := by
  have H : Hid ((allB 3 fun j => inB2 (pick3 a0 b0 c0 j) (pick3 a1 b1 c1 j)) = true) := by unfold Hid; rw [all3p]; exact h
  have HT : Hid _ := tame3p h
  have HD : Hid DetOK := hd
  have HN : Hid ((b0 - a0).natAbs ≤ 134217728 ∧ (b1 - a1).natAbs ≤ 134217728 ∧ (c0 - a0).natAbs ≤ 134217728 ∧ (c1 - a1).natAbs ≤ 134217728) := by
    obtain ⟨⟨x0, x1⟩, ⟨y0, y1⟩, z0, z1⟩ := tame3p h
    exact ⟨by omega, by omega, by omega, by omega⟩
  clear h hd
  go_enter Try.func16, Try.ntmps16
  go_wp2_with fail
  refine (l2Tame2_any _ 3 _ (pick3 a0 b0 c0) (pick3 a1 b1 c1) _ (by omega) ?_ ?_).mono ?_
  · refine lt3 ?_ ?_ ?_ <;> (rw [Joins.cell_alloc_mark_at _ _ _ _ _ _ (by simp)]; rfl)
  · refine lt3 ?_ ?_ ?_ <;> (rw [Joins.cell_alloc_mark_at _ _ _ _ _ _ (by simp)]; rfl)
  rw [H.out]
  rintro e w' ⟨rfl, rfl⟩
  go_wp2_with fail
  have hS : ∀ o, S3p w.heap.size #[.int .i64 a0, .int .i64 a1] #[.int .i64 b0, .int .i64 b1] #[.int .i64 c0, .int .i64 c1] ((((w.alloc (.cells #[.int .i64 a0, .int .i64 a1] 35)).alloc (.cells #[.int .i64 b0, .int .i64 b1] 35)).alloc (.cells #[.int .i64 c0, .int .i64 c1] 35)).alloc o) := fun o => S3p.arr w _ _ _ 35 o
  have hB : ∀ o, Below w.heap.size w ((((w.alloc (.cells #[.int .i64 a0, .int .i64 a1] 35)).alloc (.cells #[.int .i64 b0, .int .i64 b1] 35)).alloc (.cells #[.int .i64 c0, .int .i64 c1] 35)).alloc o) := fun o => below_alloc4 w _ _ _ o
  go_region_held3 (fun w' => S3p w.heap.size #[.int .i64 a0, .int .i64 a1] #[.int .i64 b0, .int .i64 b1] #[.int .i64 c0, .int .i64 c1] w' ∧ Below w.heap.size w w') (first | with_reducible exact ⟨S3p.drew (hS _), (hB _).drew⟩ | (have hh := ‹(S3p w.heap.size #[.int .i64 a0, .int .i64 a1] #[.int .i64 b0, .int .i64 b1] #[.int .i64 c0, .int .i64 c1] _ ∧ Below w.heap.size w _)›; first | with_reducible exact ⟨hh.1.call (by assumption), hh.2.trans (Below.mono (by assumption) hh.2.size)⟩ | with_reducible exact hh | with_reducible exact ⟨hh.1.call (Joins.below_alloc1 _ _), hh.2.trans ((Joins.below_alloc1 _ _).mono hh.2.size)⟩))
    (first
      | (go_at_call_of 42 (Value.agg #[Value.int IntKind.i64 b0, Value.int IntKind.i64 b1]); refine (l2Sub2_any _ _ _ _ _ HT.out.2.1.1 HT.out.2.1.2 HT.out.1.1 HT.out.1.2).mono ?_; rintro e w6 ⟨g1, rfl, hs1, hb⟩; have Q6 : Hid (S1 g1 #[.int .i64 (b0 - a0), .int .i64 (b1 - a1)] w6) := hs1; clear hs1)
      | (go_at_call_of 42 (Value.agg #[Value.int IntKind.i64 c0, Value.int IntKind.i64 c1]); refine (l2Sub2_any _ _ _ _ _ HT.out.2.2.1 HT.out.2.2.2 HT.out.1.1 HT.out.1.2).mono ?_; rintro e w8 ⟨g3, rfl, hs3, hb⟩; have Q8 : Hid (S1 g3 #[.int .i64 (c0 - a0), .int .i64 (c1 - a1)] w8 ∧ RowAt w8 g2 (b0 - a0) (b1 - a1)) := ⟨hs3, Q7.out.1.call hb⟩; clear hs3)
      | (go_at_call 41; refine (l2Row_two g3 _ _ _ Q8.out.1 HN.out.2.2.1 HN.out.2.2.2).mono ?_; rintro e w9 ⟨g4, c4, rfl, hr4, hb⟩; have Q9 : Hid ((RowAt w9 g4 (c0 - a0) (c1 - a1) ∧ 2 ≤ c4 ∧ c4 ≤ maxLen) ∧ RowAt w9 g2 (b0 - a0) (b1 - a1)) := ⟨hr4, Q8.out.2.call hb⟩; clear hr4)
      | (go_at_call 41; refine (l2Row_two g1 _ _ _ Q6.out HN.out.1 HN.out.2.1).mono ?_; rintro e w7 ⟨g2, c2, rfl, hr2, hb⟩; have Q7 : Hid (RowAt w7 g2 (b0 - a0) (b1 - a1) ∧ 2 ≤ c2 ∧ c2 ≤ maxLen) := hr2; clear hr2)
      | (go_at_call 40; refine (HD.out w9.heap.size g2 g4 c2 c4 (b0 - a0) (b1 - a1) (c0 - a0) (c1 - a1) _ (by rw [Joins.cell_alloc_mark_at _ _ _ _ _ _ (by simp)]; rfl) (by rw [Joins.cell_alloc_mark_at _ _ _ _ _ _ (by simp)]; rfl) ⟨Q9.out.2.call (Joins.below_alloc1 _ _), Q7.out.2⟩ ⟨Q9.out.1.1.call (Joins.below_alloc1 _ _), Q9.out.1.2⟩ ⟨HN.out.1, HN.out.2.1, HN.out.2.2.1, HN.out.2.2.2⟩).mono ?_; rintro e w10 ⟨p0, q0, s0, l0, m0, rfl, hr10, hb⟩; have Q10 : Hid (RIs w10 _ _ 1) := hr10; clear hr10)
      | (go_at_call 39; refine (l1rSign_any _ 1 _ _ Q10.out).mono ?_; rintro e w11 ⟨rfl, hb⟩))
  have hh := ‹(S3p w.heap.size #[.int .i64 a0, .int .i64 a1] #[.int .i64 b0, .int .i64 b1] #[.int .i64 c0, .int .i64 c1] _ ∧ Below w.heap.size w _)›
  have HH : Hid _ := hh.2
  clear hh
  go_wp2
  go_ret
  exact ⟨rfl, HH.out⟩

theorem lawOr_of_det (hd : DetOK) (a0 a1 b0 b1 c0 c1 : Int) (w : World) :
    Calls Try.prog 5 #[.agg #[.int .i64 a0, .int .i64 a1], .agg #[.int .i64 b0, .int .i64 b1], .agg #[.int .i64 c0, .int .i64 c1]] w fun e w' => e = .returned (.bool true) ∧ Below w.heap.size w w' := by
  cases h : (inB2 a0 a1 && inB2 b0 b1 && inB2 c0 c1)
  · exact lawOr_of _ _ _ _ _ _ 2 w (fun w => specOr_wild _ _ _ _ _ _ w h) (fun w => implOr_wild _ _ _ _ _ _ w h)
  · exact lawOr_of _ _ _ _ _ _ _ w (fun w => specOr_tame hd _ _ _ _ _ _ w h) (fun w => by
      rw [Int.mul_comm (c0 - a0) (b1 - a1)]
      exact implOr_tame _ _ _ _ _ _ w h)
end Go.Proofs.Ytikepklkjbohmaa
