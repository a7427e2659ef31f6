import Derived.Test.YtikepklkjbohmaaDoorQt
namespace Go.Proofs.YtikepklkjbohmaaDoor
open Go.RowKit

/-- The table of the library's that FormatInt reads. -/
abbrev Tab (w : World) : Prop := Lib.TabIs Tryd.prog w "internal/strconv.uint64pow10" .u64 Lib.pow10Tab

set_option maxHeartbeats 1000000 in
theorem implQText_any (n d : Int) (w : World) (ht : ∀ w', Below w.heap.size w w' → Tab w') (h1 : -9223372036854775808 ≤ n) (h2 : n ≤ 9223372036854775807) (h3 : -9223372036854775808 ≤ d) (h4 : d ≤ 9223372036854775807) :
    Calls Tryd.prog 6 #[.agg #[.int .i64 n, .int .i64 d]] w fun e w' => e = .returned (.string ⟨(qtext n d).toArray⟩) ∧ Below w.heap.size w w' := by
  have HTb : Hid (∀ w', Below w.heap.size w w' → Tab w') := ht
  clear ht
  by_cases hq : qok n d = true
  · have l1 := itoa_len n h1 h2
    have l2 := itoa_len d h3 h4
    go_enter Tryd.func6, Tryd.ntmps6
    go_wp2_with fail
    refine (ok_any n d _).mono ?_
    rintro e w1 ⟨rfl, hb1⟩
    have hS : SQ w.heap.size n d w1 := (SQ.start w n d 25).call hb1
    have hB : Below w.heap.size w w1 := (Joins.below_alloc1 w _).trans (hb1.mono (by simp))
    obtain ⟨c0, c1, cs⟩ := hS
    have hS : SQ w.heap.size n d w1 := ⟨c0, c1, cs⟩
    clear hb1
    go_wp2_with fail
    refine (Tryd.strconv_FormatInt_10 n h1 h2 w1 (HTb.out w1 hB)).mono ?_
    rintro e w2 ⟨rfl, k2, os2, hw2⟩
    have hb2 : Below w1.heap.size w1 w2 := by rw [hw2]; exact Lib.below_grow _ _ (Nat.le_refl _) k2 os2
    have Q2 : Hid (SQ w.heap.size n d w2 ∧ Below w.heap.size w w2) := ⟨hS.call hb2, hB.trans (hb2.mono hB.size)⟩
    clear hw2 hb2 hS hB c0 c1 cs
    obtain ⟨c0, c1, cs⟩ := Q2.out.1
    by_cases hd : d = 1
    · subst hd
      have HT : Hid (Lib.itoa n = qtext n 1) := by unfold Hid qtext; rw [if_pos hq, if_pos rfl]
      go_wp2
      go_ret
      exact ⟨ret_str (by rw [HT.out]), Q2.out.2⟩
    · have HT : Hid (Lib.itoa n ++ 47 :: Lib.itoa d = qtext n d) := by unfold Hid qtext; rw [if_pos hq, if_neg hd]
      have td : (d == 1) = false := by simpa using hd
      clear hd
      go_wp2_with fail
      refine (Tryd.strconv_FormatInt_10 d h3 h4 w2 (HTb.out w2 Q2.out.2)).mono ?_
      rintro e w3 ⟨rfl, k3, os3, hw3⟩
      have hb3 : Below w2.heap.size w2 w3 := by rw [hw3]; exact Lib.below_grow _ _ (Nat.le_refl _) k3 os3
      have Q3 : Hid (Below w.heap.size w w3) := Q2.out.2.trans (hb3.mono Q2.out.2.size)
      clear hw3 hb3
      go_wp2
      go_ret
      exact ⟨ret_str (by rw [← HT.out]; exact cat3' _ _), Q3.out⟩
  · have hq' : qok n d = false := by simpa using hq
    have HT : Hid ([] = qtext n d) := by unfold Hid qtext; rw [if_neg hq]
    go_enter Tryd.func6, Tryd.ntmps6
    go_wp2_with fail
    refine (ok_any n d _).mono ?_
    rintro e w1 ⟨rfl, hb1⟩
    have HB1 : Hid (Below w.heap.size w w1) := (Joins.below_alloc1 w _).trans (hb1.mono (by simp))
    clear hb1
    go_wp2
    go_ret
    exact ⟨ret_str (by rw [← HT.out]), HB1.out⟩

set_option maxHeartbeats 1000000 in
theorem lawQText_walk (n d : Int) (w : World) (ht : ∀ w', Below w.heap.size w w' → Tab w') (h1 : -9223372036854775808 ≤ n) (h2 : n ≤ 9223372036854775807) (h3 : -9223372036854775808 ≤ d) (h4 : d ≤ 9223372036854775807) :
    Calls Tryd.prog 3 #[.agg #[.int .i64 n, .int .i64 d]] w fun e w' => e = .returned (.bool true) ∧ Below w.heap.size w w' := by
  have HTb : Hid (∀ w', Below w.heap.size w w' → Tab w') := ht
  clear ht
  go_enter Tryd.func3, Tryd.ntmps3
  go_wp2_with fail
  refine (toQ_any _ _ _).mono ?_
  rintro e w1 ⟨rfl, hb1⟩
  go_wp2_with fail
  refine (specQText_any n d _ h1 h2 h3 h4).mono ?_
  rintro e w2 ⟨rfl, hb2⟩
  have hb12 := hb1.trans (hb2.mono hb1.size)
  obtain ⟨hc, hf⟩ := bcell hb12
  go_wp2_with fail
  refine (toQ_any _ _ _).mono ?_
  rintro e w3 ⟨rfl, hb3⟩
  have hb : Below w.heap.size w w3 := (Joins.below_alloc1 w _).trans ((hb12.trans (hb3.mono hb12.size)).mono (by simp))
  go_wp2_with fail
  refine (implQText_any n d w3 (fun w' h => HTb.out w' (hb.trans (h.mono hb.size))) h1 h2 h3 h4).mono ?_
  rintro e w4 ⟨rfl, hb4⟩
  have HF : Hid (Below w.heap.size w w4) := hb.trans (hb4.mono hb.size)
  clear hb1 hb2 hb12 hb3 hb4 hb hc hf
  go_wp2
  go_ret
  exact ⟨rfl, HF.out⟩
end Go.Proofs.YtikepklkjbohmaaDoor
