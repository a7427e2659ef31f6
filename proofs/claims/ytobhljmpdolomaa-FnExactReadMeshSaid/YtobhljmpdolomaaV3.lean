import Derived.Test.YtobhljmpdolomaaAt
namespace Go.Proofs.Ytobhljmpdolomaa
open Go.RowKit

set_option maxHeartbeats 1000000 in
theorem toV3_any (a b c d k l : Int) (w : World) :
    Calls Try.prog 52 #[.agg #[.int .i64 a, .int .i64 b, .int .i64 c, .int .i64 d, .int .i64 k, .int .i64 l]] w fun e w' => e = .returned (.agg #[.int .i64 a, .int .i64 b, .int .i64 c, .int .i64 d, .int .i64 k, .int .i64 l]) ∧ Below w.heap.size w w' := by
  have h3 : At (((w.alloc (.cells #[.int .i64 a, .int .i64 b, .int .i64 c, .int .i64 d, .int .i64 k, .int .i64 l] 86)).alloc (.cells #[.int .i64 0, .int .i64 0, .int .i64 0, .int .i64 0, .int .i64 0, .int .i64 0] 51)).alloc (.cells #[.int .i64 0, .int .i64 0, .int .i64 0, .int .i64 0, .int .i64 0, .int .i64 0] 51)) w.heap.size #[.int .i64 a, .int .i64 b, .int .i64 c, .int .i64 d, .int .i64 k, .int .i64 l] ∧ At (((w.alloc (.cells #[.int .i64 a, .int .i64 b, .int .i64 c, .int .i64 d, .int .i64 k, .int .i64 l] 86)).alloc (.cells #[.int .i64 0, .int .i64 0, .int .i64 0, .int .i64 0, .int .i64 0, .int .i64 0] 51)).alloc (.cells #[.int .i64 0, .int .i64 0, .int .i64 0, .int .i64 0, .int .i64 0, .int .i64 0] 51)) (w.heap.size + 1) #[.int .i64 0, .int .i64 0, .int .i64 0, .int .i64 0, .int .i64 0, .int .i64 0] ∧ At (((w.alloc (.cells #[.int .i64 a, .int .i64 b, .int .i64 c, .int .i64 d, .int .i64 k, .int .i64 l] 86)).alloc (.cells #[.int .i64 0, .int .i64 0, .int .i64 0, .int .i64 0, .int .i64 0, .int .i64 0] 51)).alloc (.cells #[.int .i64 0, .int .i64 0, .int .i64 0, .int .i64 0, .int .i64 0, .int .i64 0] 51)) (w.heap.size + 1 + 1) #[.int .i64 0, .int .i64 0, .int .i64 0, .int .i64 0, .int .i64 0, .int .i64 0] := ⟨⟨fun j => by go_simp, fun j => by go_simp, by simp; omega⟩, ⟨fun j => by go_simp, fun j => by go_simp, by simp⟩, ⟨fun j => by go_simp, fun j => by go_simp, by simp⟩⟩
  have H0 : Hid (Below w.heap.size w (((w.alloc (.cells #[.int .i64 a, .int .i64 b, .int .i64 c, .int .i64 d, .int .i64 k, .int .i64 l] 86)).alloc (.cells #[.int .i64 0, .int .i64 0, .int .i64 0, .int .i64 0, .int .i64 0, .int .i64 0] 51)).alloc (.cells #[.int .i64 0, .int .i64 0, .int .i64 0, .int .i64 0, .int .i64 0, .int .i64 0] 51)) ∧ (((w.alloc (.cells #[.int .i64 a, .int .i64 b, .int .i64 c, .int .i64 d, .int .i64 k, .int .i64 l] 86)).alloc (.cells #[.int .i64 0, .int .i64 0, .int .i64 0, .int .i64 0, .int .i64 0, .int .i64 0] 51)).alloc (.cells #[.int .i64 0, .int .i64 0, .int .i64 0, .int .i64 0, .int .i64 0, .int .i64 0] 51)).heap.size = w.heap.size + 1 + 1 + 1) := ⟨Joins.below_alloc3 _ _ _ _, by simp⟩
  have H3 : Hid _ := h3
  clear h3
  go_enter Try.func52, Try.ntmps52
  go_wp2_with fail
  refine (toQ_any _ _ _).mono ?_
  rintro e w1 ⟨rfl, hb1⟩
  have hz1 := H0.out.2
  have G1 : Hid (At w1 w.heap.size #[.int .i64 a, .int .i64 b, .int .i64 c, .int .i64 d, .int .i64 k, .int .i64 l] ∧ At w1 (w.heap.size + 1) #[.int .i64 0, .int .i64 0, .int .i64 0, .int .i64 0, .int .i64 0, .int .i64 0] ∧ At w1 (w.heap.size + 1 + 1) #[.int .i64 0, .int .i64 0, .int .i64 0, .int .i64 0, .int .i64 0, .int .i64 0]) := ⟨H3.out.1.below hb1 (by omega), H3.out.2.1.below hb1 (by omega), H3.out.2.2.below hb1 (by omega)⟩
  have HB1 : Hid (Below w.heap.size w w1) := H0.out.1.trans (hb1.mono (by omega))
  clear hb1 hz1 H3 H0
  obtain ⟨p, _, _⟩ := G1.out.1
  obtain ⟨q, qf, qs⟩ := G1.out.2.2
  go_wp2_with fail
  refine (toQ_any _ _ _).mono ?_
  rintro e w2 ⟨rfl, hb2⟩
  have HB2 : Hid (Below w.heap.size w w2) := by
    have hs : w.heap.size ≤ w1.heap.size := HB1.out.size
    exact ((HB1.out.setCell (p := ⟨w.heap.size + 1 + 1, 0, none⟩) (by simp; try omega) _).setCell (p := ⟨w.heap.size + 1 + 1, 1, none⟩) (by simp; try omega) _).trans (hb2.mono (by simpa using hs))
  have G2 : Hid (At w2 w.heap.size #[.int .i64 a, .int .i64 b, .int .i64 c, .int .i64 d, .int .i64 k, .int .i64 l] ∧ At w2 (w.heap.size + 1) #[.int .i64 0, .int .i64 0, .int .i64 0, .int .i64 0, .int .i64 0, .int .i64 0] ∧ At w2 (w.heap.size + 1 + 1) #[.int .i64 a, .int .i64 b, .int .i64 0, .int .i64 0, .int .i64 0, .int .i64 0]) := by
    have k0 := G1.out.1.sz
    have k1 := G1.out.2.1.sz
    have k2 := G1.out.2.2.sz
    exact ⟨((G1.out.1.other (g := w.heap.size + 1 + 1) (by omega) 0 _).other (g := w.heap.size + 1 + 1) (by omega) 1 _).below hb2 (by simpa using k0), ((G1.out.2.1.other (g := w.heap.size + 1 + 1) (by omega) 0 _).other (g := w.heap.size + 1 + 1) (by omega) 1 _).below hb2 (by simpa using k1), (G1.out.2.2.set6_0 _ _).below hb2 (by simpa using k2)⟩
  clear hb2 HB1 G1 p q qf qs
  obtain ⟨p, _, _⟩ := G2.out.1
  obtain ⟨q, qf, qs⟩ := G2.out.2.2
  go_wp2_with fail
  refine (toQ_any _ _ _).mono ?_
  rintro e w3 ⟨rfl, hb3⟩
  have HB3 : Hid (Below w.heap.size w w3) := by
    have hs : w.heap.size ≤ w2.heap.size := HB2.out.size
    exact ((HB2.out.setCell (p := ⟨w.heap.size + 1 + 1, 2, none⟩) (by simp; try omega) _).setCell (p := ⟨w.heap.size + 1 + 1, 3, none⟩) (by simp; try omega) _).trans (hb3.mono (by simpa using hs))
  have G3 : Hid (At w3 w.heap.size #[.int .i64 a, .int .i64 b, .int .i64 c, .int .i64 d, .int .i64 k, .int .i64 l] ∧ At w3 (w.heap.size + 1) #[.int .i64 0, .int .i64 0, .int .i64 0, .int .i64 0, .int .i64 0, .int .i64 0] ∧ At w3 (w.heap.size + 1 + 1) #[.int .i64 a, .int .i64 b, .int .i64 c, .int .i64 d, .int .i64 0, .int .i64 0]) := by
    have k0 := G2.out.1.sz
    have k1 := G2.out.2.1.sz
    have k2 := G2.out.2.2.sz
    exact ⟨((G2.out.1.other (g := w.heap.size + 1 + 1) (by omega) 2 _).other (g := w.heap.size + 1 + 1) (by omega) 3 _).below hb3 (by simpa using k0), ((G2.out.2.1.other (g := w.heap.size + 1 + 1) (by omega) 2 _).other (g := w.heap.size + 1 + 1) (by omega) 3 _).below hb3 (by simpa using k1), (G2.out.2.2.set6_2 _ _).below hb3 (by simpa using k2)⟩
  clear hb3 HB2 G2 p q qf qs
  obtain ⟨p, _, _⟩ := G3.out.1
  obtain ⟨q, qf, qs⟩ := G3.out.2.2
  obtain ⟨r, rf, rs⟩ := G3.out.2.1
  clear p
  go_wp2
  exact bodyPost_ret (v := .agg #[.int .i64 a, .int .i64 b, .int .i64 c, .int .i64 d, .int .i64 k, .int .i64 l]) (by simp [results, Try.results52, go_sem, r]) rfl ⟨rfl, by
    have hs : w.heap.size ≤ w3.heap.size := HB3.out.size
    exact ((((((((HB3.out.setCell (p := ⟨w.heap.size + 1 + 1, 4, none⟩) (by simp; try omega) _).setCell (p := ⟨w.heap.size + 1 + 1, 5, none⟩) (by simp; try omega) _).setCell (p := ⟨w.heap.size + 1, 0, none⟩) (by simp; try omega) _).setCell (p := ⟨w.heap.size + 1, 1, none⟩) (by simp; try omega) _).setCell (p := ⟨w.heap.size + 1, 2, none⟩) (by simp; try omega) _).setCell (p := ⟨w.heap.size + 1, 3, none⟩) (by simp; try omega) _).setCell (p := ⟨w.heap.size + 1, 4, none⟩) (by simp; try omega) _).setCell (p := ⟨w.heap.size + 1, 5, none⟩) (by simp; try omega) _)⟩

set_option maxHeartbeats 1000000 in
theorem specV3Ok_any (a b c d k l : Int) (w : World) :
    Calls Try.prog 23 #[.agg #[.int .i64 a, .int .i64 b, .int .i64 c, .int .i64 d, .int .i64 k, .int .i64 l]] w fun e w' => e = .returned (.bool (qok a b && qok c d && qok k l)) ∧ Below w.heap.size w w' := by
  rcases Bool.eq_false_or_eq_true (qok a b) with h1 | h1 <;> rcases Bool.eq_false_or_eq_true (qok c d) with h2 | h2
  · go_enter Try.func23, Try.ntmps23
    go_wp2_with fail
    refine (specQOk_any _ _ _).mono ?_
    rintro e w1 ⟨rfl, hb1⟩
    have HA1 : Hid (Below _ _ w1) := hb1
    obtain ⟨hc1, hf1⟩ := bcell HA1.out
    clear hb1
    go_wp2_with fail
    refine (specQOk_any _ _ _).mono ?_
    rintro e w2 ⟨rfl, hb2⟩
    have HA2 : Hid (Below _ _ w2) := HA1.out.trans (hb2.mono HA1.out.size)
    obtain ⟨hc2, hf2⟩ := bcell HA2.out
    clear hb2 hc1 hf1
    go_wp2_with fail
    refine (specQOk_any _ _ _).mono ?_
    rintro e w3 ⟨rfl, hb3⟩
    have HA3 : Hid (Below _ _ w3) := HA2.out.trans (hb3.mono HA2.out.size)
    clear hb3 hc2 hf2
    go_wp2
    go_ret
    exact ⟨by simp [h1, h2], (Joins.below_alloc1 _ _).trans (HA3.out.mono (by simp))⟩
  · go_enter Try.func23, Try.ntmps23
    go_wp2_with fail
    refine (specQOk_any _ _ _).mono ?_
    rintro e w1 ⟨rfl, hb1⟩
    have HA1 : Hid (Below _ _ w1) := hb1
    obtain ⟨hc1, hf1⟩ := bcell HA1.out
    clear hb1
    go_wp2_with fail
    refine (specQOk_any _ _ _).mono ?_
    rintro e w2 ⟨rfl, hb2⟩
    have HA2 : Hid (Below _ _ w2) := HA1.out.trans (hb2.mono HA1.out.size)
    clear hb2 hc1 hf1
    go_wp2
    go_ret
    exact ⟨by simp [h1, h2], (Joins.below_alloc1 _ _).trans (HA2.out.mono (by simp))⟩
  · go_enter Try.func23, Try.ntmps23
    go_wp2_with fail
    refine (specQOk_any _ _ _).mono ?_
    rintro e w1 ⟨rfl, hb1⟩
    have HA1 : Hid (Below _ _ w1) := hb1
    clear hb1
    go_wp2
    go_ret
    exact ⟨by simp [h1, h2], (Joins.below_alloc1 _ _).trans (HA1.out.mono (by simp))⟩
  · go_enter Try.func23, Try.ntmps23
    go_wp2_with fail
    refine (specQOk_any _ _ _).mono ?_
    rintro e w1 ⟨rfl, hb1⟩
    have HA1 : Hid (Below _ _ w1) := hb1
    clear hb1
    go_wp2
    go_ret
    exact ⟨by simp [h1, h2], (Joins.below_alloc1 _ _).trans (HA1.out.mono (by simp))⟩

set_option maxHeartbeats 1000000 in
theorem implV3Ok_any (a b c d k l : Int) (w : World) :
    Calls Try.prog 55 #[.agg #[.int .i64 a, .int .i64 b, .int .i64 c, .int .i64 d, .int .i64 k, .int .i64 l]] w fun e w' => e = .returned (.bool (qok a b && qok c d && qok k l)) ∧ Below w.heap.size w w' := by
  rcases Bool.eq_false_or_eq_true (qok a b) with h1 | h1 <;> rcases Bool.eq_false_or_eq_true (qok c d) with h2 | h2
  · go_enter Try.func55, Try.ntmps55
    go_wp2_with fail
    refine (ok_any _ _ _).mono ?_
    rintro e w1 ⟨rfl, hb1⟩
    have HA1 : Hid (Below _ _ w1) := hb1
    obtain ⟨hc1, hf1⟩ := bcell HA1.out
    clear hb1
    go_wp2_with fail
    refine (ok_any _ _ _).mono ?_
    rintro e w2 ⟨rfl, hb2⟩
    have HA2 : Hid (Below _ _ w2) := HA1.out.trans (hb2.mono HA1.out.size)
    obtain ⟨hc2, hf2⟩ := bcell HA2.out
    clear hb2 hc1 hf1
    go_wp2_with fail
    refine (ok_any _ _ _).mono ?_
    rintro e w3 ⟨rfl, hb3⟩
    have HA3 : Hid (Below _ _ w3) := HA2.out.trans (hb3.mono HA2.out.size)
    clear hb3 hc2 hf2
    go_wp2
    go_ret
    exact ⟨by simp [h1, h2], (Joins.below_alloc1 _ _).trans (HA3.out.mono (by simp))⟩
  · go_enter Try.func55, Try.ntmps55
    go_wp2_with fail
    refine (ok_any _ _ _).mono ?_
    rintro e w1 ⟨rfl, hb1⟩
    have HA1 : Hid (Below _ _ w1) := hb1
    obtain ⟨hc1, hf1⟩ := bcell HA1.out
    clear hb1
    go_wp2_with fail
    refine (ok_any _ _ _).mono ?_
    rintro e w2 ⟨rfl, hb2⟩
    have HA2 : Hid (Below _ _ w2) := HA1.out.trans (hb2.mono HA1.out.size)
    clear hb2 hc1 hf1
    go_wp2
    go_ret
    exact ⟨by simp [h1, h2], (Joins.below_alloc1 _ _).trans (HA2.out.mono (by simp))⟩
  · go_enter Try.func55, Try.ntmps55
    go_wp2_with fail
    refine (ok_any _ _ _).mono ?_
    rintro e w1 ⟨rfl, hb1⟩
    have HA1 : Hid (Below _ _ w1) := hb1
    clear hb1
    go_wp2
    go_ret
    exact ⟨by simp [h1, h2], (Joins.below_alloc1 _ _).trans (HA1.out.mono (by simp))⟩
  · go_enter Try.func55, Try.ntmps55
    go_wp2_with fail
    refine (ok_any _ _ _).mono ?_
    rintro e w1 ⟨rfl, hb1⟩
    have HA1 : Hid (Below _ _ w1) := hb1
    clear hb1
    go_wp2
    go_ret
    exact ⟨by simp [h1, h2], (Joins.below_alloc1 _ _).trans (HA1.out.mono (by simp))⟩

end Go.Proofs.Ytobhljmpdolomaa
