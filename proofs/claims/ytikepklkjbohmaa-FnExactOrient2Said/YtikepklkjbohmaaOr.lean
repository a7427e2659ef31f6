import Derived.Test.YtikepklkjbohmaaDi3
import Derived.Test.YtikepklkjbohmaaC2
namespace Go.Proofs.Ytikepklkjbohmaa
open Go.RowKit

theorem tame3p {a0 a1 b0 b1 c0 c1 : Int} (h : (inB2 a0 a1 && inB2 b0 b1 && inB2 c0 c1) = true) :
    ((-67108864 ≤ a0 ∧ a0 ≤ 67108864) ∧ (-67108864 ≤ a1 ∧ a1 ≤ 67108864)) ∧ ((-67108864 ≤ b0 ∧ b0 ≤ 67108864) ∧ (-67108864 ≤ b1 ∧ b1 ≤ 67108864)) ∧ ((-67108864 ≤ c0 ∧ c0 ≤ 67108864) ∧ (-67108864 ≤ c1 ∧ c1 ≤ 67108864)) := by
  unfold inB2 at h
  simp only [Bool.and_eq_true] at h
  exact ⟨⟨inB_out h.1.1.1, inB_out h.1.1.2⟩, ⟨inB_out h.1.2.1, inB_out h.1.2.2⟩, ⟨inB_out h.2.1, inB_out h.2.2⟩⟩
theorem all3p (a0 a1 b0 b1 c0 c1 : Int) : (allB 3 fun j => inB2 (pick3 a0 b0 c0 j) (pick3 a1 b1 c1 j)) = (inB2 a0 a1 && inB2 b0 b1 && inB2 c0 c1) := by
  simp [allB, pick3]

set_option maxHeartbeats 1000000 in
theorem specOr_wild (a0 a1 b0 b1 c0 c1 : Int) (w : World) (h : (inB2 a0 a1 && inB2 b0 b1 && inB2 c0 c1) = false) :
    Calls Try.prog 16 #[V2i a0 a1, V2i b0 b1, V2i c0 c1] w fun e w' => e = .returned (.int .i64 2) ∧ Below w.heap.size w w' := by
  have H : Hid ((allB 3 fun j => inB2 (pick3 a0 b0 c0 j) (pick3 a1 b1 c1 j)) = false) := by unfold Hid; rw [all3p]; exact h
  clear h
  go_enter Try.func16, Try.ntmps16
  go_wp2_with fail
  refine (l2Tame2_any _ 3 _ (pick3 a0 b0 c0) (pick3 a1 b1 c1) _ (by omega) ?_ ?_).mono ?_
  · refine lt3 ?_ ?_ ?_ <;> (rw [Joins.cell_alloc_mark_at _ _ _ _ _ _ (by simp)]; rfl)
  · refine lt3 ?_ ?_ ?_ <;> (rw [Joins.cell_alloc_mark_at _ _ _ _ _ _ (by simp)]; rfl)
  rw [H.out]
  rintro e w' ⟨rfl, rfl⟩
  go_wp2
  go_ret
  exact ⟨rfl, below_alloc4 _ _ _ _ _⟩

set_option maxHeartbeats 1000000 in
theorem implOr_wild (a0 a1 b0 b1 c0 c1 : Int) (w : World) (h : (inB2 a0 a1 && inB2 b0 b1 && inB2 c0 c1) = false) :
    Calls Try.prog 18 #[V2i a0 a1, V2i b0 b1, V2i c0 c1] w fun e w' => e = .returned (.int .i64 2) ∧ Below w.heap.size w w' := by
  cases h1 : inB2 a0 a1
  · have g1 : (!inB2 a0 a1) = true := by rw [h1]; rfl
    clear h h1
    go_enter Try.func18, Try.ntmps18
    go_wp2_with fail
    refine (wild2_any _ _ _).mono ?_
    rintro e w1 ⟨rfl, hb1⟩
    go_wp2
    go_ret
    exact ⟨rfl, (Joins.below_alloc3 _ _ _ _).trans (hb1.mono (by simp; omega))⟩
  · have g1 : (!inB2 a0 a1) = false := by rw [h1]; rfl
    rw [h1, Bool.true_and] at h
    clear h1
    cases h2 : inB2 b0 b1
    · have g2 : (!inB2 b0 b1) = true := by rw [h2]; rfl
      clear h h2
      go_enter Try.func18, Try.ntmps18
      go_wp2_with fail
      refine (wild2_any _ _ _).mono ?_
      rintro e w1 ⟨rfl, hb1⟩
      obtain ⟨hc, hf⟩ := bcell hb1
      go_wp2_with fail
      refine (wild2_any _ _ _).mono ?_
      rintro e w2 ⟨rfl, hb2⟩
      go_wp2
      go_ret
      exact ⟨rfl, (Joins.below_alloc3 _ _ _ _).trans ((hb1.trans (hb2.mono hb1.size)).mono (by simp; omega))⟩
    · have g2 : (!inB2 b0 b1) = false := by rw [h2]; rfl
      rw [h2, Bool.true_and] at h
      have g3 : (!inB2 c0 c1) = true := by rw [h]; rfl
      clear h2 h
      go_enter Try.func18, Try.ntmps18
      go_wp2_with fail
      refine (wild2_any _ _ _).mono ?_
      rintro e w1 ⟨rfl, hb1⟩
      obtain ⟨hc, hf⟩ := bcell hb1
      go_wp2_with fail
      refine (wild2_any _ _ _).mono ?_
      rintro e w2 ⟨rfl, hb2⟩
      have hb12 := hb1.trans (hb2.mono hb1.size)
      obtain ⟨hc2, hf2⟩ := bcell hb12
      clear hc hf
      go_wp2_with fail
      refine (wild2_any _ _ _).mono ?_
      rintro e w3 ⟨rfl, hb3⟩
      go_wp2
      go_ret
      exact ⟨rfl, (Joins.below_alloc3 _ _ _ _).trans ((hb12.trans (hb3.mono hb12.size)).mono (by simp; omega))⟩


end Go.Proofs.Ytikepklkjbohmaa
