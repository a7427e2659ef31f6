import Derived.Test.YtikepklkjbohmaaDi
namespace Go.Proofs.Ytikepklkjbohmaa
open Go.RowKit

set_option maxHeartbeats 1000000 in
theorem implDist_wild (a0 a1 a2 b0 b1 b2 c0 c1 c2 : Int) (w : World) (h : (inB3 a0 a1 a2 && inB3 b0 b1 b2 && inB3 c0 c1 c2) = false) :
    Calls Try.prog 23 #[V3i a0 a1 a2, V3i b0 b1 b2, V3i c0 c1 c2] w fun e w' => e = .returned (.int .i64 2) ∧ Below w.heap.size w w' := by
  cases h1 : inB3 a0 a1 a2
  · have g1 : (!inB3 a0 a1 a2) = true := by rw [h1]; rfl
    clear h h1
    go_enter Try.func23, Try.ntmps23
    go_wp2_with fail
    refine (wild3_any _ _ _ _).mono ?_
    rintro e w1 ⟨rfl, hb1⟩
    go_wp2
    go_ret
    exact ⟨rfl, (Joins.below_alloc3 _ _ _ _).trans (hb1.mono (by simp; omega))⟩
  · have g1 : (!inB3 a0 a1 a2) = false := by rw [h1]; rfl
    rw [h1, Bool.true_and] at h
    clear h1
    cases h2 : inB3 b0 b1 b2
    · have g2 : (!inB3 b0 b1 b2) = true := by rw [h2]; rfl
      clear h h2
      go_enter Try.func23, Try.ntmps23
      go_wp2_with fail
      refine (wild3_any _ _ _ _).mono ?_
      rintro e w1 ⟨rfl, hb1⟩
      obtain ⟨hc, hf⟩ := bcell hb1
      go_wp2_with fail
      refine (wild3_any _ _ _ _).mono ?_
      rintro e w2 ⟨rfl, hb2⟩
      go_wp2
      go_ret
      exact ⟨rfl, (Joins.below_alloc3 _ _ _ _).trans ((hb1.trans (hb2.mono hb1.size)).mono (by simp; omega))⟩
    · have g2 : (!inB3 b0 b1 b2) = false := by rw [h2]; rfl
      rw [h2, Bool.true_and] at h
      have g3 : (!inB3 c0 c1 c2) = true := by rw [h]; rfl
      clear h2 h
      go_enter Try.func23, Try.ntmps23
      go_wp2_with fail
      refine (wild3_any _ _ _ _).mono ?_
      rintro e w1 ⟨rfl, hb1⟩
      obtain ⟨hc, hf⟩ := bcell hb1
      go_wp2_with fail
      refine (wild3_any _ _ _ _).mono ?_
      rintro e w2 ⟨rfl, hb2⟩
      have hb12 := hb1.trans (hb2.mono hb1.size)
      obtain ⟨hc2, hf2⟩ := bcell hb12
      clear hc hf
      go_wp2_with fail
      refine (wild3_any _ _ _ _).mono ?_
      rintro e w3 ⟨rfl, hb3⟩
      go_wp2
      go_ret
      exact ⟨rfl, (Joins.below_alloc3 _ _ _ _).trans ((hb12.trans (hb3.mono hb12.size)).mono (by simp; omega))⟩

theorem S3p.of_below {w w4 : World} {A0 A1 A2 : Array Value} {t : TypeId} (hb : Below (((w.alloc (.cells A0 t)).alloc (.cells A1 t)).alloc (.cells A2 t)).heap.size (((w.alloc (.cells A0 t)).alloc (.cells A1 t)).alloc (.cells A2 t)) w4) : S3p w.heap.size A0 A1 A2 w4 := (S3p.start w A0 A1 A2 t).call hb
end Go.Proofs.Ytikepklkjbohmaa
