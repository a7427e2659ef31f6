import Derived.Test.YtcmhfhhcodppbaaAt
namespace Go.Proofs.Ytcmhfhhcodppbaa
open Go.RowKit

set_option maxHeartbeats 1000000 in
theorem toV_any (a b c d : Int) (w : World) :
    Calls Try.prog 6 #[.agg #[.int .i64 a, .int .i64 b, .int .i64 c, .int .i64 d]] w fun e w' => e = .returned (.agg #[.int .i64 a, .int .i64 b, .int .i64 c, .int .i64 d]) ∧ Below w.heap.size w w' := by
  have h3 : At (((w.alloc (.cells #[.int .i64 a, .int .i64 b, .int .i64 c, .int .i64 d] 25)).alloc (.cells #[.int .i64 0, .int .i64 0, .int .i64 0, .int .i64 0] 29)).alloc (.cells #[.int .i64 0, .int .i64 0, .int .i64 0, .int .i64 0] 29)) w.heap.size #[.int .i64 a, .int .i64 b, .int .i64 c, .int .i64 d] ∧ At (((w.alloc (.cells #[.int .i64 a, .int .i64 b, .int .i64 c, .int .i64 d] 25)).alloc (.cells #[.int .i64 0, .int .i64 0, .int .i64 0, .int .i64 0] 29)).alloc (.cells #[.int .i64 0, .int .i64 0, .int .i64 0, .int .i64 0] 29)) (w.heap.size + 1) #[.int .i64 0, .int .i64 0, .int .i64 0, .int .i64 0] ∧ At (((w.alloc (.cells #[.int .i64 a, .int .i64 b, .int .i64 c, .int .i64 d] 25)).alloc (.cells #[.int .i64 0, .int .i64 0, .int .i64 0, .int .i64 0] 29)).alloc (.cells #[.int .i64 0, .int .i64 0, .int .i64 0, .int .i64 0] 29)) (w.heap.size + 1 + 1) #[.int .i64 0, .int .i64 0, .int .i64 0, .int .i64 0] := ⟨⟨fun j => by go_simp, fun j => by go_simp, by simp; omega⟩, ⟨fun j => by go_simp, fun j => by go_simp, by simp⟩, ⟨fun j => by go_simp, fun j => by go_simp, by simp⟩⟩
  have H0 : Hid (Below w.heap.size w (((w.alloc (.cells #[.int .i64 a, .int .i64 b, .int .i64 c, .int .i64 d] 25)).alloc (.cells #[.int .i64 0, .int .i64 0, .int .i64 0, .int .i64 0] 29)).alloc (.cells #[.int .i64 0, .int .i64 0, .int .i64 0, .int .i64 0] 29)) ∧ (((w.alloc (.cells #[.int .i64 a, .int .i64 b, .int .i64 c, .int .i64 d] 25)).alloc (.cells #[.int .i64 0, .int .i64 0, .int .i64 0, .int .i64 0] 29)).alloc (.cells #[.int .i64 0, .int .i64 0, .int .i64 0, .int .i64 0] 29)).heap.size = w.heap.size + 1 + 1 + 1) := ⟨Joins.below_alloc3 _ _ _ _, by simp⟩
  have H3 : Hid _ := h3
  clear h3
  go_enter Try.func6, Try.ntmps6
  go_wp2_with fail
  refine (toQ_any _ _ _).mono ?_
  rintro e w1 ⟨rfl, hb1⟩
  have hz1 := H0.out.2
  have H4 : Hid (At w1 w.heap.size #[.int .i64 a, .int .i64 b, .int .i64 c, .int .i64 d] ∧ At w1 (w.heap.size + 1) #[.int .i64 0, .int .i64 0, .int .i64 0, .int .i64 0] ∧ At w1 (w.heap.size + 1 + 1) #[.int .i64 0, .int .i64 0, .int .i64 0, .int .i64 0]) := ⟨H3.out.1.below hb1 (by omega), H3.out.2.1.below hb1 (by omega), H3.out.2.2.below hb1 (by omega)⟩
  have HB1 : Hid (Below w.heap.size w w1) := H0.out.1.trans (hb1.mono (by omega))
  clear hb1 hz1 H3 H0
  obtain ⟨p, _, _⟩ := H4.out.1
  obtain ⟨q, qf, qs⟩ := H4.out.2.2
  go_wp2_with fail
  refine (toQ_any _ _ _).mono ?_
  rintro e w2 ⟨rfl, hb2⟩
  have HB2 : Hid (Below w.heap.size w w2) := by
    have hs : w.heap.size ≤ w1.heap.size := HB1.out.size
    exact ((HB1.out.setCell (p := ⟨w.heap.size + 1 + 1, 0, none⟩) (by simp; try omega) _).setCell (p := ⟨w.heap.size + 1 + 1, 1, none⟩) (by simp; try omega) _).trans (hb2.mono (by simpa using hs))
  have H5 : Hid (At w2 (w.heap.size + 1) #[.int .i64 0, .int .i64 0, .int .i64 0, .int .i64 0] ∧ At w2 (w.heap.size + 1 + 1) #[.int .i64 a, .int .i64 b, .int .i64 0, .int .i64 0]) := by
    have k1 := H4.out.2.1.sz
    have k2 := H4.out.2.2.sz
    exact ⟨((H4.out.2.1.other (g := w.heap.size + 1 + 1) (by omega) 0 _).other (g := w.heap.size + 1 + 1) (by omega) 1 _).below hb2 (by simpa using k1), (H4.out.2.2.set4_0 _ _).below hb2 (by simpa using k2)⟩
  clear hb2 HB1 H4 p q qf qs
  obtain ⟨r, rf, rs⟩ := H5.out.1
  obtain ⟨q, qf, qs⟩ := H5.out.2
  go_wp2
  exact bodyPost_ret (v := .agg #[.int .i64 a, .int .i64 b, .int .i64 c, .int .i64 d]) (by simp [results, Try.results6, go_sem, r]) rfl ⟨rfl, by
    have hs : w.heap.size ≤ w2.heap.size := HB2.out.size
    exact ((((((HB2.out.setCell (p := ⟨w.heap.size + 1 + 1, 2, none⟩) (by simp; try omega) _).setCell (p := ⟨w.heap.size + 1 + 1, 3, none⟩) (by simp; try omega) _).setCell (p := ⟨w.heap.size + 1, 0, none⟩) (by simp; try omega) _).setCell (p := ⟨w.heap.size + 1, 1, none⟩) (by simp; try omega) _).setCell (p := ⟨w.heap.size + 1, 2, none⟩) (by simp; try omega) _).setCell (p := ⟨w.heap.size + 1, 3, none⟩) (by simp; try omega) _)⟩

set_option maxHeartbeats 400000 in
theorem specVOk_any (a b c d : Int) (w : World) :
    Calls Try.prog 5 #[.agg #[.int .i64 a, .int .i64 b, .int .i64 c, .int .i64 d]] w fun e w' => e = .returned (.bool (qok a b && qok c d)) ∧ Below w.heap.size w w' := by
  by_cases h1 : qok a b = true
  · go_enter Try.func5, Try.ntmps5
    go_wp2_with fail
    refine (specQOk_any _ _ _).mono ?_
    rintro e w1 ⟨rfl, hb1⟩
    obtain ⟨hc1, hf1⟩ := bcell hb1
    have HB1 : Hid _ := hb1
    clear hb1
    go_wp2_with fail
    refine (specQOk_any _ _ _).mono ?_
    rintro e w2 ⟨rfl, hb2⟩
    have HB2 : Hid _ := hb2
    clear hb2
    go_wp2
    go_ret
    exact ⟨by simp [h1], (Joins.below_alloc1 _ _).trans ((HB1.out.trans (HB2.out.mono HB1.out.size)).mono (by simp))⟩
  · have h2 : qok a b = false := by simpa using h1
    go_enter Try.func5, Try.ntmps5
    go_wp2_with fail
    refine (specQOk_any _ _ _).mono ?_
    rintro e w1 ⟨rfl, hb1⟩
    have HB1 : Hid _ := hb1
    clear hb1
    go_wp2
    go_ret
    exact ⟨by simp [h2], (Joins.below_alloc1 _ _).trans (HB1.out.mono (by simp))⟩

set_option maxHeartbeats 400000 in
theorem implVOk_any (a b c d : Int) (w : World) :
    Calls Try.prog 7 #[.agg #[.int .i64 a, .int .i64 b, .int .i64 c, .int .i64 d]] w fun e w' => e = .returned (.bool (qok a b && qok c d)) ∧ Below w.heap.size w w' := by
  by_cases h1 : qok a b = true
  · go_enter Try.func7, Try.ntmps7
    go_wp2_with fail
    refine (ok_any _ _ _).mono ?_
    rintro e w1 ⟨rfl, hb1⟩
    obtain ⟨hc1, hf1⟩ := bcell hb1
    have HB1 : Hid _ := hb1
    clear hb1
    go_wp2_with fail
    refine (ok_any _ _ _).mono ?_
    rintro e w2 ⟨rfl, hb2⟩
    have HB2 : Hid _ := hb2
    clear hb2
    go_wp2
    go_ret
    exact ⟨by simp [h1], (Joins.below_alloc1 _ _).trans ((HB1.out.trans (HB2.out.mono HB1.out.size)).mono (by simp))⟩
  · have h2 : qok a b = false := by simpa using h1
    go_enter Try.func7, Try.ntmps7
    go_wp2_with fail
    refine (ok_any _ _ _).mono ?_
    rintro e w1 ⟨rfl, hb1⟩
    have HB1 : Hid _ := hb1
    clear hb1
    go_wp2
    go_ret
    exact ⟨by simp [h2], (Joins.below_alloc1 _ _).trans (HB1.out.mono (by simp))⟩
end Go.Proofs.Ytcmhfhhcodppbaa
