import Derived.Test.YtikepklkjbohmaaDot2
import Derived.Test.YtikepklkjbohmaaF3w
namespace Go.Proofs.Ytikepklkjbohmaa
open Go.RowKit

def cmp3 (x y : Int) : Int := if x < y then -1 else if y < x then 1 else 0
theorem order_any (x y : Int) (w : World) : Calls Try.prog 53 #[.int .i64 x, .int .i64 y] w fun e w' => e = .returned (.int .i64 (cmp3 x y)) ∧ w' = w := by
  rcases Int.lt_trichotomy x y with h1 | h1 | h1
  · have HR : Hid (-1 = cmp3 x y) := by unfold Hid cmp3; rw [if_pos h1]
    go_enter Try.func53, Try.ntmps53
    go_wp2
    go_ret
    exact ⟨ret_int HR.out, rfl⟩
  · subst h1
    have HR : Hid (0 = cmp3 x x) := by unfold Hid cmp3; rw [if_neg (by omega), if_neg (by omega)]
    go_enter Try.func53, Try.ntmps53
    go_wp2
    go_ret
    exact ⟨ret_int HR.out, rfl⟩
  · have HR : Hid (1 = cmp3 x y) := by unfold Hid cmp3; rw [if_neg (by omega), if_pos h1]
    have h2 : ¬ x < y := by omega
    go_enter Try.func53, Try.ntmps53
    go_wp2
    go_ret
    exact ⟨ret_int HR.out, rfl⟩
theorem cmp3_zero (x : Int) : cmp3 x 0 = sg3 x := rfl
theorem signOf_any (x : Int) (w : World) : Calls Try.prog 45 #[.int .i64 x] w fun e w' => e = .returned (.int .i64 (sg3 x)) ∧ w' = w := by
  go_enter Try.func45, Try.ntmps45
  go_wp2_with fail
  refine (order_any _ _ _).mono ?_
  rintro e w' ⟨rfl, rfl⟩
  go_wp2
  go_ret
  exact ⟨ret_int (cmp3_zero x), rfl⟩

set_option maxHeartbeats 400000 in
theorem stepDot_any (x0 x1 x2 y0 y1 y2 : Int) (w : World) (h0 : -18014398509481984 ≤ x0 * y0 ∧ x0 * y0 ≤ 18014398509481984) (h1 : -18014398509481984 ≤ x1 * y1 ∧ x1 * y1 ≤ 18014398509481984) (h2 : -18014398509481984 ≤ x2 * y2 ∧ x2 * y2 ≤ 18014398509481984) :
    Calls Try.prog 51 #[V3i x0 x1 x2, V3i y0 y1 y2] w fun e w' => e = .returned (.int .i64 (x0 * y0 + x1 * y1 + x2 * y2)) ∧ Below w.heap.size w w' := by
  obtain ⟨a0, b0⟩ := h0
  obtain ⟨a1, b1⟩ := h1
  obtain ⟨a2, b2⟩ := h2
  go_enter Try.func51, Try.ntmps51
  go_wp2
  go_ret
  exact ⟨rfl, Joins.below_alloc2 _ _ _⟩

set_option maxHeartbeats 1000000 in
theorem implAlong_wild (a0 a1 a2 b0 b1 b2 c0 c1 c2 d0 d1 d2 : Int) (w : World) (h : (inB3 a0 a1 a2 && inB3 b0 b1 b2 && inB3 c0 c1 c2 && inB3 d0 d1 d2) = false) :
    Calls Try.prog 21 #[V3i a0 a1 a2, V3i b0 b1 b2, V3i c0 c1 c2, V3i d0 d1 d2] w fun e w' => e = .returned (.int .i64 2) ∧ Below w.heap.size w w' := by
  cases h1 : inB3 a0 a1 a2
  · have g1 : (!inB3 a0 a1 a2) = true := by rw [h1]; rfl
    clear h h1
    go_enter Try.func21, Try.ntmps21
    go_wp2_with fail
    refine (wild3_any _ _ _ _).mono ?_
    rintro e w1 ⟨rfl, hb1⟩
    go_wp2
    go_ret
    exact ⟨rfl, (below_alloc4 _ _ _ _ _).trans (hb1.mono (by simp; omega))⟩
  · have g1 : (!inB3 a0 a1 a2) = false := by rw [h1]; rfl
    rw [h1, Bool.true_and] at h
    clear h1
    cases h2 : inB3 b0 b1 b2
    · have g2 : (!inB3 b0 b1 b2) = true := by rw [h2]; rfl
      clear h h2
      go_enter Try.func21, Try.ntmps21
      go_wp2_with fail
      refine (wild3_any _ _ _ _).mono ?_
      rintro e w1 ⟨rfl, hb1⟩
      obtain ⟨hc, hf⟩ := bcell hb1
      go_wp2_with fail
      refine (wild3_any _ _ _ _).mono ?_
      rintro e w2 ⟨rfl, hb2⟩
      go_wp2
      go_ret
      exact ⟨rfl, (below_alloc4 _ _ _ _ _).trans ((hb1.trans (hb2.mono hb1.size)).mono (by simp; omega))⟩
    · have g2 : (!inB3 b0 b1 b2) = false := by rw [h2]; rfl
      rw [h2, Bool.true_and] at h
      clear h2
      cases h3 : inB3 c0 c1 c2
      · have g3 : (!inB3 c0 c1 c2) = true := by rw [h3]; rfl
        clear h h3
        go_enter Try.func21, Try.ntmps21
        go_wp2_with fail
        refine (wild3_any _ _ _ _).mono ?_
        rintro e w1 ⟨rfl, hb1⟩
        obtain ⟨hc, hf⟩ := bcell hb1
        go_wp2_with fail
        refine (wild3_any _ _ _ _).mono ?_
        rintro e w2 ⟨rfl, hb2⟩
        have hb12 := hb1.trans (hb2.mono hb1.size)
        obtain ⟨hc2, hf2⟩ := bcell hb12
        go_wp2_with fail
        refine (wild3_any _ _ _ _).mono ?_
        rintro e w3 ⟨rfl, hb3⟩
        go_wp2
        go_ret
        exact ⟨rfl, (below_alloc4 _ _ _ _ _).trans ((hb12.trans (hb3.mono hb12.size)).mono (by simp; omega))⟩
      · have g3 : (!inB3 c0 c1 c2) = false := by rw [h3]; rfl
        rw [h3, Bool.true_and] at h
        have g4 : (!inB3 d0 d1 d2) = true := by rw [h]; rfl
        clear h h3
        go_enter Try.func21, Try.ntmps21
        go_wp2_with fail
        refine (wild3_any _ _ _ _).mono ?_
        rintro e w1 ⟨rfl, hb1⟩
        obtain ⟨hc, hf⟩ := bcell hb1
        go_wp2_with fail
        refine (wild3_any _ _ _ _).mono ?_
        rintro e w2 ⟨rfl, hb2⟩
        have hb12 := hb1.trans (hb2.mono hb1.size)
        obtain ⟨hc2, hf2⟩ := bcell hb12
        go_wp2_with fail
        refine (wild3_any _ _ _ _).mono ?_
        rintro e w3 ⟨rfl, hb3⟩
        have hb13 := hb12.trans (hb3.mono hb12.size)
        obtain ⟨hc3, hf3⟩ := bcell hb13
        go_wp2_with fail
        refine (wild3_any _ _ _ _).mono ?_
        rintro e w4 ⟨rfl, hb4⟩
        go_wp2
        go_ret
        exact ⟨rfl, (below_alloc4 _ _ _ _ _).trans ((hb13.trans (hb4.mono hb13.size)).mono (by simp; omega))⟩


set_option maxHeartbeats 1000000 in
theorem specAlong_wild (a0 a1 a2 b0 b1 b2 c0 c1 c2 d0 d1 d2 : Int) (w : World) (h : (inB3 a0 a1 a2 && inB3 b0 b1 b2 && inB3 c0 c1 c2 && inB3 d0 d1 d2) = false) :
    Calls Try.prog 19 #[V3i a0 a1 a2, V3i b0 b1 b2, V3i c0 c1 c2, V3i d0 d1 d2] w fun e w' => e = .returned (.int .i64 2) ∧ Below w.heap.size w w' := by
  have H : Hid ((allB 4 fun j => inB3 (pick4 a0 b0 c0 d0 j) (pick4 a1 b1 c1 d1 j) (pick4 a2 b2 c2 d2 j)) = false) := by unfold Hid; rw [all4]; exact h
  clear h
  go_enter Try.func19, Try.ntmps19
  go_wp2_with fail
  refine (l2Tame_any _ 4 _ (pick4 a0 b0 c0 d0) (pick4 a1 b1 c1 d1) (pick4 a2 b2 c2 d2) _ (by omega) ?_ ?_ ?_).mono ?_
  · refine lt4 ?_ ?_ ?_ ?_ <;> (rw [Joins.cell_alloc_mark_at _ _ _ _ _ _ (by simp)]; rfl)
  · refine lt4 ?_ ?_ ?_ ?_ <;> (rw [Joins.cell_alloc_mark_at _ _ _ _ _ _ (by simp)]; rfl)
  · refine lt4 ?_ ?_ ?_ ?_ <;> (rw [Joins.cell_alloc_mark_at _ _ _ _ _ _ (by simp)]; rfl)
  rw [H.out]
  rintro e w' ⟨rfl, rfl⟩
  go_wp2
  go_ret
  exact ⟨rfl, below_alloc5 _ _ _ _ _ _⟩


end Go.Proofs.Ytikepklkjbohmaa
