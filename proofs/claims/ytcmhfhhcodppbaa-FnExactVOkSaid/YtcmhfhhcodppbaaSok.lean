import Derived.Test.YtcmhfhhcodppbaaVok
namespace Go.Proofs.Ytcmhfhhcodppbaa
open Go.RowKit

def segok (a b c d k l m n : Int) : Bool := (qok a b && qok c d) && (qok k l && qok m n) && !(a == k && b == l && c == m && d == n)

set_option maxHeartbeats 400000 in
theorem lawVOk_walk (a b c d : Int) (w : World) :
    Calls Try.prog 3 #[.agg #[.int .i64 a, .int .i64 b, .int .i64 c, .int .i64 d]] w fun e w' => e = .returned (.bool true) ∧ Below w.heap.size w w' := by
  go_enter Try.func3, Try.ntmps3
  go_wp2_with fail
  refine (toV_any _ _ _ _ _).mono ?_
  rintro e w1 ⟨rfl, hb1⟩
  go_wp2_with fail
  refine (specVOk_any _ _ _ _ _).mono ?_
  rintro e w2 ⟨rfl, hb2⟩
  have hb12 := hb1.trans (hb2.mono hb1.size)
  obtain ⟨hc, hf⟩ := bcell hb12
  go_wp2_with fail
  refine (toV_any _ _ _ _ _).mono ?_
  rintro e w3 ⟨rfl, hb3⟩
  go_wp2_with fail
  refine (implVOk_any _ _ _ _ _).mono ?_
  rintro e w4 ⟨rfl, hb4⟩
  go_wp2
  go_ret
  exact ⟨rfl, (Joins.below_alloc1 _ _).trans ((hb12.trans ((hb3.trans (hb4.mono hb3.size)).mono hb12.size)).mono (by simp))⟩

set_option maxHeartbeats 1000000 in
theorem toSeg_any (a b c d k l m n : Int) (w : World) :
    Calls Try.prog 9 #[.agg #[.int .i64 a, .int .i64 b, .int .i64 c, .int .i64 d, .int .i64 k, .int .i64 l, .int .i64 m, .int .i64 n]] w fun e w' => e = .returned (.agg #[.int .i64 a, .int .i64 b, .int .i64 c, .int .i64 d, .int .i64 k, .int .i64 l, .int .i64 m, .int .i64 n]) ∧ Below w.heap.size w w' := by
  have h3 : At (((w.alloc (.cells #[.int .i64 a, .int .i64 b, .int .i64 c, .int .i64 d, .int .i64 k, .int .i64 l, .int .i64 m, .int .i64 n] 33)).alloc (.cells #[.int .i64 0, .int .i64 0, .int .i64 0, .int .i64 0, .int .i64 0, .int .i64 0, .int .i64 0, .int .i64 0] 36)).alloc (.cells #[.int .i64 0, .int .i64 0, .int .i64 0, .int .i64 0, .int .i64 0, .int .i64 0, .int .i64 0, .int .i64 0] 36)) w.heap.size #[.int .i64 a, .int .i64 b, .int .i64 c, .int .i64 d, .int .i64 k, .int .i64 l, .int .i64 m, .int .i64 n] ∧ At (((w.alloc (.cells #[.int .i64 a, .int .i64 b, .int .i64 c, .int .i64 d, .int .i64 k, .int .i64 l, .int .i64 m, .int .i64 n] 33)).alloc (.cells #[.int .i64 0, .int .i64 0, .int .i64 0, .int .i64 0, .int .i64 0, .int .i64 0, .int .i64 0, .int .i64 0] 36)).alloc (.cells #[.int .i64 0, .int .i64 0, .int .i64 0, .int .i64 0, .int .i64 0, .int .i64 0, .int .i64 0, .int .i64 0] 36)) (w.heap.size + 1) #[.int .i64 0, .int .i64 0, .int .i64 0, .int .i64 0, .int .i64 0, .int .i64 0, .int .i64 0, .int .i64 0] ∧ At (((w.alloc (.cells #[.int .i64 a, .int .i64 b, .int .i64 c, .int .i64 d, .int .i64 k, .int .i64 l, .int .i64 m, .int .i64 n] 33)).alloc (.cells #[.int .i64 0, .int .i64 0, .int .i64 0, .int .i64 0, .int .i64 0, .int .i64 0, .int .i64 0, .int .i64 0] 36)).alloc (.cells #[.int .i64 0, .int .i64 0, .int .i64 0, .int .i64 0, .int .i64 0, .int .i64 0, .int .i64 0, .int .i64 0] 36)) (w.heap.size + 1 + 1) #[.int .i64 0, .int .i64 0, .int .i64 0, .int .i64 0, .int .i64 0, .int .i64 0, .int .i64 0, .int .i64 0] := ⟨⟨fun j => by go_simp, fun j => by go_simp, by simp; omega⟩, ⟨fun j => by go_simp, fun j => by go_simp, by simp⟩, ⟨fun j => by go_simp, fun j => by go_simp, by simp⟩⟩
  have H0 : Hid (Below w.heap.size w (((w.alloc (.cells #[.int .i64 a, .int .i64 b, .int .i64 c, .int .i64 d, .int .i64 k, .int .i64 l, .int .i64 m, .int .i64 n] 33)).alloc (.cells #[.int .i64 0, .int .i64 0, .int .i64 0, .int .i64 0, .int .i64 0, .int .i64 0, .int .i64 0, .int .i64 0] 36)).alloc (.cells #[.int .i64 0, .int .i64 0, .int .i64 0, .int .i64 0, .int .i64 0, .int .i64 0, .int .i64 0, .int .i64 0] 36)) ∧ (((w.alloc (.cells #[.int .i64 a, .int .i64 b, .int .i64 c, .int .i64 d, .int .i64 k, .int .i64 l, .int .i64 m, .int .i64 n] 33)).alloc (.cells #[.int .i64 0, .int .i64 0, .int .i64 0, .int .i64 0, .int .i64 0, .int .i64 0, .int .i64 0, .int .i64 0] 36)).alloc (.cells #[.int .i64 0, .int .i64 0, .int .i64 0, .int .i64 0, .int .i64 0, .int .i64 0, .int .i64 0, .int .i64 0] 36)).heap.size = w.heap.size + 1 + 1 + 1) := ⟨Joins.below_alloc3 _ _ _ _, by simp⟩
  have H3 : Hid _ := h3
  clear h3
  go_enter Try.func9, Try.ntmps9
  go_wp2_with fail
  refine (toV_any _ _ _ _ _).mono ?_
  rintro e w1 ⟨rfl, hb1⟩
  have hz1 := H0.out.2
  have H4 : Hid (At w1 w.heap.size #[.int .i64 a, .int .i64 b, .int .i64 c, .int .i64 d, .int .i64 k, .int .i64 l, .int .i64 m, .int .i64 n] ∧ At w1 (w.heap.size + 1) #[.int .i64 0, .int .i64 0, .int .i64 0, .int .i64 0, .int .i64 0, .int .i64 0, .int .i64 0, .int .i64 0] ∧ At w1 (w.heap.size + 1 + 1) #[.int .i64 0, .int .i64 0, .int .i64 0, .int .i64 0, .int .i64 0, .int .i64 0, .int .i64 0, .int .i64 0]) := ⟨H3.out.1.below hb1 (by omega), H3.out.2.1.below hb1 (by omega), H3.out.2.2.below hb1 (by omega)⟩
  have HB1 : Hid (Below w.heap.size w w1) := H0.out.1.trans (hb1.mono (by omega))
  clear hb1 hz1 H3 H0
  obtain ⟨p, _, _⟩ := H4.out.1
  obtain ⟨q, qf, qs⟩ := H4.out.2.2
  go_wp2_with fail
  refine (toV_any _ _ _ _ _).mono ?_
  rintro e w2 ⟨rfl, hb2⟩
  have HB2 : Hid (Below w.heap.size w w2) := by
    have hs : w.heap.size ≤ w1.heap.size := HB1.out.size
    exact ((((HB1.out.setCell (p := ⟨w.heap.size + 1 + 1, 0, none⟩) (by simp; try omega) _).setCell (p := ⟨w.heap.size + 1 + 1, 1, none⟩) (by simp; try omega) _).setCell (p := ⟨w.heap.size + 1 + 1, 2, none⟩) (by simp; try omega) _).setCell (p := ⟨w.heap.size + 1 + 1, 3, none⟩) (by simp; try omega) _).trans (hb2.mono (by simpa using hs))
  have H5 : Hid (At w2 (w.heap.size + 1) #[.int .i64 0, .int .i64 0, .int .i64 0, .int .i64 0, .int .i64 0, .int .i64 0, .int .i64 0, .int .i64 0] ∧ At w2 (w.heap.size + 1 + 1) #[.int .i64 a, .int .i64 b, .int .i64 c, .int .i64 d, .int .i64 0, .int .i64 0, .int .i64 0, .int .i64 0]) := by
    have k1 := H4.out.2.1.sz
    have k2 := H4.out.2.2.sz
    exact ⟨((((H4.out.2.1.other (g := w.heap.size + 1 + 1) (by omega) 0 _).other (g := w.heap.size + 1 + 1) (by omega) 1 _).other (g := w.heap.size + 1 + 1) (by omega) 2 _).other (g := w.heap.size + 1 + 1) (by omega) 3 _).below hb2 (by simpa using k1), (H4.out.2.2.set8_0 _ _ _ _).below hb2 (by simpa using k2)⟩
  clear hb2 HB1 H4 p q qf qs
  obtain ⟨r, rf, rs⟩ := H5.out.1
  obtain ⟨q, qf, qs⟩ := H5.out.2
  go_wp2
  exact bodyPost_ret (v := .agg #[.int .i64 a, .int .i64 b, .int .i64 c, .int .i64 d, .int .i64 k, .int .i64 l, .int .i64 m, .int .i64 n]) (by simp [results, Try.results9, go_sem, r]) rfl ⟨rfl, by
    have hs : w.heap.size ≤ w2.heap.size := HB2.out.size
    exact ((((((((((((HB2.out.setCell (p := ⟨w.heap.size + 1 + 1, 4, none⟩) (by simp; try omega) _).setCell (p := ⟨w.heap.size + 1 + 1, 5, none⟩) (by simp; try omega) _).setCell (p := ⟨w.heap.size + 1 + 1, 6, none⟩) (by simp; try omega) _).setCell (p := ⟨w.heap.size + 1 + 1, 7, none⟩) (by simp; try omega) _).setCell (p := ⟨w.heap.size + 1, 0, none⟩) (by simp; try omega) _).setCell (p := ⟨w.heap.size + 1, 1, none⟩) (by simp; try omega) _).setCell (p := ⟨w.heap.size + 1, 2, none⟩) (by simp; try omega) _).setCell (p := ⟨w.heap.size + 1, 3, none⟩) (by simp; try omega) _).setCell (p := ⟨w.heap.size + 1, 4, none⟩) (by simp; try omega) _).setCell (p := ⟨w.heap.size + 1, 5, none⟩) (by simp; try omega) _).setCell (p := ⟨w.heap.size + 1, 6, none⟩) (by simp; try omega) _).setCell (p := ⟨w.heap.size + 1, 7, none⟩) (by simp; try omega) _)⟩

set_option maxHeartbeats 1000000 in
theorem specSegOk_any (a b c d k l m n : Int) (w : World) :
    Calls Try.prog 8 #[.agg #[.int .i64 a, .int .i64 b, .int .i64 c, .int .i64 d, .int .i64 k, .int .i64 l, .int .i64 m, .int .i64 n]] w fun e w' => e = .returned (.bool (segok a b c d k l m n)) ∧ Below w.heap.size w w' := by
  have H1 : Hid (∀ o, Below w.heap.size w (w.alloc o)) := fun o => Joins.below_alloc1 w o
  unfold segok
  cases h1 : (qok a b && qok c d)
  · go_enter Try.func8, Try.ntmps8
    go_wp2_with fail
    refine (specVOk_any _ _ _ _ _).mono ?_
    rintro e w1 ⟨rfl, hb1⟩
    have HB1 : Hid _ := hb1
    clear hb1
    rw [h1]
    go_wp2
    go_ret
    exact ⟨by simp, (H1.out _).trans (HB1.out.mono (by simp))⟩
  · cases h2 : (qok k l && qok m n)
    · go_enter Try.func8, Try.ntmps8
      go_wp2_with fail
      refine (specVOk_any _ _ _ _ _).mono ?_
      rintro e w1 ⟨rfl, hb1⟩
      obtain ⟨hc1, hf1⟩ := bcell hb1
      have HB1 : Hid _ := hb1
      clear hb1
      rw [h1]
      go_wp2_with fail
      refine (specVOk_any _ _ _ _ _).mono ?_
      rintro e w2 ⟨rfl, hb2⟩
      have HB2 : Hid _ := hb2
      clear hb2
      rw [h2]
      go_wp2
      go_ret
      exact ⟨by simp, (H1.out _).trans ((HB1.out.trans (HB2.out.mono HB1.out.size)).mono (by simp))⟩
    · go_enter Try.func8, Try.ntmps8
      go_wp2_with fail
      refine (specVOk_any _ _ _ _ _).mono ?_
      rintro e w1 ⟨rfl, hb1⟩
      obtain ⟨hc1, hf1⟩ := bcell hb1
      have HB1 : Hid _ := hb1
      clear hb1
      rw [h1]
      go_wp2_with fail
      refine (specVOk_any _ _ _ _ _).mono ?_
      rintro e w2 ⟨rfl, hb2⟩
      have hb12 := HB1.out.trans (hb2.mono HB1.out.size)
      have HB2 : Hid _ := hb12
      clear hb2 hc1 hf1
      obtain ⟨hc2, hf2⟩ := bcell hb12
      clear hb12
      rw [h2]
      go_wp2
      all_goals (
        go_ret
        exact ⟨by simp; omega, (H1.out _).trans (HB2.out.mono (by simp))⟩)

set_option maxHeartbeats 1000000 in
theorem implSegOk_any (a b c d k l m n : Int) (w : World) :
    Calls Try.prog 10 #[.agg #[.int .i64 a, .int .i64 b, .int .i64 c, .int .i64 d, .int .i64 k, .int .i64 l, .int .i64 m, .int .i64 n]] w fun e w' => e = .returned (.bool (segok a b c d k l m n)) ∧ Below w.heap.size w w' := by
  have H1 : Hid (∀ o, Below w.heap.size w (w.alloc o)) := fun o => Joins.below_alloc1 w o
  unfold segok
  cases h1 : (qok a b && qok c d)
  · go_enter Try.func10, Try.ntmps10
    go_wp2_with fail
    refine (implVOk_any _ _ _ _ _).mono ?_
    rintro e w1 ⟨rfl, hb1⟩
    have HB1 : Hid _ := hb1
    clear hb1
    rw [h1]
    go_wp2
    go_ret
    exact ⟨by simp, (H1.out _).trans (HB1.out.mono (by simp))⟩
  · cases h2 : (qok k l && qok m n)
    · go_enter Try.func10, Try.ntmps10
      go_wp2_with fail
      refine (implVOk_any _ _ _ _ _).mono ?_
      rintro e w1 ⟨rfl, hb1⟩
      obtain ⟨hc1, hf1⟩ := bcell hb1
      have HB1 : Hid _ := hb1
      clear hb1
      rw [h1]
      go_wp2_with fail
      refine (implVOk_any _ _ _ _ _).mono ?_
      rintro e w2 ⟨rfl, hb2⟩
      have HB2 : Hid _ := hb2
      clear hb2
      rw [h2]
      go_wp2
      go_ret
      exact ⟨by simp, (H1.out _).trans ((HB1.out.trans (HB2.out.mono HB1.out.size)).mono (by simp))⟩
    · go_enter Try.func10, Try.ntmps10
      go_wp2_with fail
      refine (implVOk_any _ _ _ _ _).mono ?_
      rintro e w1 ⟨rfl, hb1⟩
      obtain ⟨hc1, hf1⟩ := bcell hb1
      have HB1 : Hid _ := hb1
      clear hb1
      rw [h1]
      go_wp2_with fail
      refine (implVOk_any _ _ _ _ _).mono ?_
      rintro e w2 ⟨rfl, hb2⟩
      have hb12 := HB1.out.trans (hb2.mono HB1.out.size)
      have HB2 : Hid _ := hb12
      clear hb2 hc1 hf1
      obtain ⟨hc2, hf2⟩ := bcell hb12
      clear hb12
      rw [h2]
      go_wp2
      all_goals (
        go_ret
        exact ⟨by simp; omega, (H1.out _).trans (HB2.out.mono (by simp))⟩)

set_option maxHeartbeats 400000 in
theorem lawSegOk_walk (a b c d k l m n : Int) (w : World) :
    Calls Try.prog 4 #[.agg #[.int .i64 a, .int .i64 b, .int .i64 c, .int .i64 d, .int .i64 k, .int .i64 l, .int .i64 m, .int .i64 n]] w fun e w' => e = .returned (.bool true) ∧ Below w.heap.size w w' := by
  go_enter Try.func4, Try.ntmps4
  go_wp2_with fail
  refine (toSeg_any _ _ _ _ _ _ _ _ _).mono ?_
  rintro e w1 ⟨rfl, hb1⟩
  go_wp2_with fail
  refine (specSegOk_any _ _ _ _ _ _ _ _ _).mono ?_
  rintro e w2 ⟨rfl, hb2⟩
  have hb12 := hb1.trans (hb2.mono hb1.size)
  obtain ⟨hc, hf⟩ := bcell hb12
  go_wp2_with fail
  refine (toSeg_any _ _ _ _ _ _ _ _ _).mono ?_
  rintro e w3 ⟨rfl, hb3⟩
  go_wp2_with fail
  refine (implSegOk_any _ _ _ _ _ _ _ _ _).mono ?_
  rintro e w4 ⟨rfl, hb4⟩
  go_wp2
  go_ret
  exact ⟨rfl, (Joins.below_alloc1 _ _).trans ((hb12.trans ((hb3.trans (hb4.mono hb3.size)).mono hb12.size)).mono (by simp))⟩
end Go.Proofs.Ytcmhfhhcodppbaa
