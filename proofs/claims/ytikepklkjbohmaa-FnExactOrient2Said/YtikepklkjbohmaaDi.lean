import Derived.Test.YtikepklkjbohmaaCmp2
import Derived.Test.YtikepklkjbohmaaAl2
namespace Go.Proofs.Ytikepklkjbohmaa
open Go.RowKit

abbrev S3p (N : Nat) (A0 A1 A2 : Array Value) (w' : World) : Prop := S1 N A0 w' ∧ S1 (N + 1) A1 w' ∧ S1 (N + 1 + 1) A2 w'
theorem S3p.call {N : Nat} {A0 A1 A2 : Array Value} {w' w1 : World} (h : S3p N A0 A1 A2 w') (hb : Below w'.heap.size w' w1) : S3p N A0 A1 A2 w1 := ⟨h.1.call hb, h.2.1.call hb, h.2.2.call hb⟩
theorem S3p.drew {N : Nat} {A0 A1 A2 : Array Value} {w' : World} (h : S3p N A0 A1 A2 w') : S3p N A0 A1 A2 w'.drew := h.call (Below.refl _ _).drew
theorem S3p.start (w : World) (A0 A1 A2 : Array Value) (t : TypeId) : S3p w.heap.size A0 A1 A2 (((w.alloc (.cells A0 t)).alloc (.cells A1 t)).alloc (.cells A2 t)) :=
  ⟨⟨fun j => by go_simp, by simp; omega⟩, ⟨fun j => by go_simp, by simp⟩, ⟨fun j => by go_simp, by simp⟩⟩
theorem all3 (a0 a1 a2 b0 b1 b2 c0 c1 c2 : Int) : (allB 3 fun j => inB3 (pick3 a0 b0 c0 j) (pick3 a1 b1 c1 j) (pick3 a2 b2 c2 j)) = (inB3 a0 a1 a2 && inB3 b0 b1 b2 && inB3 c0 c1 c2) := by
  simp [allB, pick3]
theorem tame3 {a0 a1 a2 b0 b1 b2 c0 c1 c2 : Int} (h : (inB3 a0 a1 a2 && inB3 b0 b1 b2 && inB3 c0 c1 c2) = true) :
    ((-67108864 ≤ a0 ∧ a0 ≤ 67108864) ∧ (-67108864 ≤ a1 ∧ a1 ≤ 67108864) ∧ (-67108864 ≤ a2 ∧ a2 ≤ 67108864)) ∧ ((-67108864 ≤ b0 ∧ b0 ≤ 67108864) ∧ (-67108864 ≤ b1 ∧ b1 ≤ 67108864) ∧ (-67108864 ≤ b2 ∧ b2 ≤ 67108864)) ∧
    ((-67108864 ≤ c0 ∧ c0 ≤ 67108864) ∧ (-67108864 ≤ c1 ∧ c1 ≤ 67108864) ∧ (-67108864 ≤ c2 ∧ c2 ≤ 67108864)) := by
  simp only [Bool.and_eq_true] at h
  exact ⟨inB3_out h.1.1, inB3_out h.1.2, inB3_out h.2⟩

set_option maxHeartbeats 1000000 in
theorem specDist_wild (a0 a1 a2 b0 b1 b2 c0 c1 c2 : Int) (w : World) (h : (inB3 a0 a1 a2 && inB3 b0 b1 b2 && inB3 c0 c1 c2) = false) :
    Calls Try.prog 22 #[V3i a0 a1 a2, V3i b0 b1 b2, V3i c0 c1 c2] w fun e w' => e = .returned (.int .i64 2) ∧ Below w.heap.size w w' := by
  have H : Hid ((allB 3 fun j => inB3 (pick3 a0 b0 c0 j) (pick3 a1 b1 c1 j) (pick3 a2 b2 c2 j)) = false) := by unfold Hid; rw [all3]; exact h
  clear h
  go_enter Try.func22, Try.ntmps22
  go_wp2_with fail
  refine (l2Tame_any _ 3 _ (pick3 a0 b0 c0) (pick3 a1 b1 c1) (pick3 a2 b2 c2) _ (by omega) ?_ ?_ ?_).mono ?_
  · refine lt3 ?_ ?_ ?_ <;> (rw [Joins.cell_alloc_mark_at _ _ _ _ _ _ (by simp)]; rfl)
  · refine lt3 ?_ ?_ ?_ <;> (rw [Joins.cell_alloc_mark_at _ _ _ _ _ _ (by simp)]; rfl)
  · refine lt3 ?_ ?_ ?_ <;> (rw [Joins.cell_alloc_mark_at _ _ _ _ _ _ (by simp)]; rfl)
  rw [H.out]
  rintro e w' ⟨rfl, rfl⟩
  go_wp2
  go_ret
  exact ⟨rfl, below_alloc4 _ _ _ _ _⟩

set_option maxHeartbeats 2000000 in
theorem specDist_tame (hd : DotOK) (a0 a1 a2 b0 b1 b2 c0 c1 c2 : Int) (w : World) (h : (inB3 a0 a1 a2 && inB3 b0 b1 b2 && inB3 c0 c1 c2) = true) :
    Calls Try.prog 22 #[V3i a0 a1 a2, V3i b0 b1 b2, V3i c0 c1 c2] w fun e w' => e = .returned (.int .i64 (sg3 (((b0 - a0) * (b0 - a0) + (b1 - a1) * (b1 - a1) + (b2 - a2) * (b2 - a2)) - ((c0 - a0) * (c0 - a0) + (c1 - a1) * (c1 - a1) + (c2 - a2) * (c2 - a2))))) ∧ Below w.heap.size w w' := by
  have H : Hid ((allB 3 fun j => inB3 (pick3 a0 b0 c0 j) (pick3 a1 b1 c1 j) (pick3 a2 b2 c2 j)) = true) := by unfold Hid; rw [all3]; exact h
  have HT : Hid _ := tame3 h
  have HD : Hid DotOK := hd
  have hN : (b0 - a0).natAbs ≤ 134217728 ∧ (b1 - a1).natAbs ≤ 134217728 ∧ (b2 - a2).natAbs ≤ 134217728 ∧ (c0 - a0).natAbs ≤ 134217728 ∧ (c1 - a1).natAbs ≤ 134217728 ∧ (c2 - a2).natAbs ≤ 134217728 := by
    obtain ⟨⟨x0, x1, x2⟩, ⟨y0, y1, y2⟩, ⟨z0, z1, z2⟩⟩ := tame3 h
    exact ⟨by omega, by omega, by omega, by omega, by omega, by omega⟩
  have HM : Hid (((b0 - a0) * (b0 - a0) + (b1 - a1) * (b1 - a1) + (b2 - a2) * (b2 - a2)).natAbs ≤ 4611686018427387904 ∧ ((c0 - a0) * (c0 - a0) + (c1 - a1) * (c1 - a1) + (c2 - a2) * (c2 - a2)).natAbs ≤ 4611686018427387904) := by
    have m0 := mul_le54 hN.1 hN.1
    have m1 := mul_le54 hN.2.1 hN.2.1
    have m2 := mul_le54 hN.2.2.1 hN.2.2.1
    have m3 := mul_le54 hN.2.2.2.1 hN.2.2.2.1
    have m4 := mul_le54 hN.2.2.2.2.1 hN.2.2.2.2.1
    have m5 := mul_le54 hN.2.2.2.2.2 hN.2.2.2.2.2
    exact ⟨by omega, by omega⟩
  have HN : Hid _ := hN
  clear h hd hN
  go_enter Try.func22, Try.ntmps22
  go_wp2_with fail
  refine (l2Tame_any _ 3 _ (pick3 a0 b0 c0) (pick3 a1 b1 c1) (pick3 a2 b2 c2) _ (by omega) ?_ ?_ ?_).mono ?_
  · refine lt3 ?_ ?_ ?_ <;> (rw [Joins.cell_alloc_mark_at _ _ _ _ _ _ (by simp)]; rfl)
  · refine lt3 ?_ ?_ ?_ <;> (rw [Joins.cell_alloc_mark_at _ _ _ _ _ _ (by simp)]; rfl)
  · refine lt3 ?_ ?_ ?_ <;> (rw [Joins.cell_alloc_mark_at _ _ _ _ _ _ (by simp)]; rfl)
  rw [H.out]
  rintro e w' ⟨rfl, rfl⟩
  go_wp2_with fail
  have hS : ∀ o, S3p w.heap.size #[.int .i64 a0, .int .i64 a1, .int .i64 a2] #[.int .i64 b0, .int .i64 b1, .int .i64 b2] #[.int .i64 c0, .int .i64 c1, .int .i64 c2] ((((w.alloc (.cells #[.int .i64 a0, .int .i64 a1, .int .i64 a2] 41)).alloc (.cells #[.int .i64 b0, .int .i64 b1, .int .i64 b2] 41)).alloc (.cells #[.int .i64 c0, .int .i64 c1, .int .i64 c2] 41)).alloc o) := fun o => (S3p.start w #[.int .i64 a0, .int .i64 a1, .int .i64 a2] #[.int .i64 b0, .int .i64 b1, .int .i64 b2] #[.int .i64 c0, .int .i64 c1, .int .i64 c2] 41).call (Joins.below_alloc1 _ o)
  have hB : ∀ o, Below w.heap.size w ((((w.alloc (.cells #[.int .i64 a0, .int .i64 a1, .int .i64 a2] 41)).alloc (.cells #[.int .i64 b0, .int .i64 b1, .int .i64 b2] 41)).alloc (.cells #[.int .i64 c0, .int .i64 c1, .int .i64 c2] 41)).alloc o) := fun o => below_alloc4 w _ _ _ o
  go_region_held3 (fun w' => S3p w.heap.size #[.int .i64 a0, .int .i64 a1, .int .i64 a2] #[.int .i64 b0, .int .i64 b1, .int .i64 b2] #[.int .i64 c0, .int .i64 c1, .int .i64 c2] w' ∧ Below w.heap.size w w') (first | with_reducible exact ⟨S3p.drew (hS _), (hB _).drew⟩ | (have hh := ‹(S3p w.heap.size #[.int .i64 a0, .int .i64 a1, .int .i64 a2] #[.int .i64 b0, .int .i64 b1, .int .i64 b2] #[.int .i64 c0, .int .i64 c1, .int .i64 c2] _ ∧ Below w.heap.size w _)›; first | with_reducible exact ⟨hh.1.call (by assumption), hh.2.trans (Below.mono (by assumption) hh.2.size)⟩ | with_reducible exact hh))
    (first
      | (go_at_call_of 48 (Value.agg #[Value.int IntKind.i64 b0, Value.int IntKind.i64 b1, Value.int IntKind.i64 b2]); have Q0 := Q1; refine (l2Sub3_any _ _ _ _ _ _ _ HT.out.2.1.1 HT.out.2.1.2.1 HT.out.2.1.2.2 HT.out.1.1 HT.out.1.2.1 HT.out.1.2.2).mono ?_; rintro e w2 ⟨g2, rfl, hs, hb⟩; have Q2 : Hid (S1 g1 _ w2 ∧ S1 g2 _ w2) := ⟨Q1.out.call hb, hs⟩; clear hs Q0)
      | (go_at_call_of 48 (Value.agg #[Value.int IntKind.i64 b0, Value.int IntKind.i64 b1, Value.int IntKind.i64 b2]); refine (l2Sub3_any _ _ _ _ _ _ _ HT.out.2.1.1 HT.out.2.1.2.1 HT.out.2.1.2.2 HT.out.1.1 HT.out.1.2.1 HT.out.1.2.2).mono ?_; rintro e w1 ⟨g1, rfl, hs, hb⟩; have Q1 : Hid (S1 g1 _ w1) := hs; clear hs)
      | (go_at_call_of 48 (Value.agg #[Value.int IntKind.i64 c0, Value.int IntKind.i64 c1, Value.int IntKind.i64 c2]); have Q0 := Q4; refine (l2Sub3_any _ _ _ _ _ _ _ HT.out.2.2.1 HT.out.2.2.2.1 HT.out.2.2.2.2 HT.out.1.1 HT.out.1.2.1 HT.out.1.2.2).mono ?_; rintro e w5 ⟨g5, rfl, hs, hb⟩; have Q5 : Hid (RIs w5 _ _ 1 ∧ S1 g4 _ w5 ∧ S1 g5 _ w5) := ⟨Q4.out.1.below hb, Q4.out.2.call hb, hs⟩; clear hs Q0)
      | (go_at_call_of 48 (Value.agg #[Value.int IntKind.i64 c0, Value.int IntKind.i64 c1, Value.int IntKind.i64 c2]); refine (l2Sub3_any _ _ _ _ _ _ _ HT.out.2.2.1 HT.out.2.2.2.1 HT.out.2.2.2.2 HT.out.1.1 HT.out.1.2.1 HT.out.1.2.2).mono ?_; rintro e w4 ⟨g4, rfl, hs, hb⟩; have Q4 : Hid (RIs w4 _ _ 1 ∧ S1 g4 _ w4) := ⟨Q3.out.below hb, hs⟩; clear hs)
      | (go_at_call 47; have Q0 := Q5; refine (l2Dot_three HD.out _ _ _ _ _ _ _ _ _ Q5.out.2.1 Q5.out.2.2 HN.out.2.2.2.1 HN.out.2.2.2.2.1 HN.out.2.2.2.2.2 HN.out.2.2.2.1 HN.out.2.2.2.2.1 HN.out.2.2.2.2.2).mono ?_; rintro e w6 ⟨p6, q6, s6, l6, m6, rfl, hr6, hb⟩; have Q6 : Hid (RIs w6 _ _ 1 ∧ RIs w6 _ _ 1) := ⟨Q5.out.1.below hb, hr6⟩; clear hr6 Q0)
      | (go_at_call 47; refine (l2Dot_three HD.out _ _ _ _ _ _ _ _ _ Q2.out.1 Q2.out.2 HN.out.1 HN.out.2.1 HN.out.2.2.1 HN.out.1 HN.out.2.1 HN.out.2.2.1).mono ?_; rintro e w3 ⟨p3, q3, s3, l3, m3, rfl, hr3, hb⟩; have Q3 : Hid (RIs w3 _ _ 1) := hr3; clear hr3)
      | (go_at_call 52; refine (l1rCmp_any _ _ _ _ _ Q6.out.1 Q6.out.2 HM.out.1 HM.out.2).mono ?_; rintro e w7 ⟨rfl, hb⟩))
  have hh := ‹(S3p w.heap.size #[.int .i64 a0, .int .i64 a1, .int .i64 a2] #[.int .i64 b0, .int .i64 b1, .int .i64 b2] #[.int .i64 c0, .int .i64 c1, .int .i64 c2] _ ∧ Below w.heap.size w _)›
  have HH : Hid _ := hh.2
  clear hh
  go_wp2
  go_ret
  exact ⟨rfl, HH.out⟩
end Go.Proofs.Ytikepklkjbohmaa
