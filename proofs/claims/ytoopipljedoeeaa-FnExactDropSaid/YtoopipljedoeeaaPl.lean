import Derived.Test.YtoopipljedoeeaaPl0
namespace Go.Proofs.Ytoopipljedoeeaa
open Go.RowKit

set_option maxHeartbeats 1000000 in
theorem f11_yes0 (a b c d k l m n : Int) (w : World) (h1 : qok a b = true) (h2 : qok c d = true) (h3 : qok k l = true) (h4 : qok m n = true) (ha : a ≠ 0) :
    Calls Try.prog 11 #[.agg #[.int .i64 a, .int .i64 b, .int .i64 c, .int .i64 d, .int .i64 k, .int .i64 l, .int .i64 m, .int .i64 n]] w fun e w' => e = .returned (.bool (qone a b)) ∧ Below w.heap.size w w' := by
  go_enter Try.func11, Try.ntmps11
  go_wp2_with fail
  refine (ok_any _ _ _).mono ?_
  rintro e w1 ⟨rfl, hb1⟩
  have HA1 : Hid (Below _ _ w1) := hb1
  clear hb1
  obtain ⟨hc1, hf1⟩ := bcell HA1.out
  go_wp2_with fail
  refine (ok_any _ _ _).mono ?_
  rintro e w2 ⟨rfl, hb2⟩
  have HA2 : Hid (Below _ _ w2) := HA1.out.trans (hb2.mono HA1.out.size)
  clear hb2 hc1 hf1
  obtain ⟨hc2, hf2⟩ := bcell HA2.out
  go_wp2_with fail
  refine (ok_any _ _ _).mono ?_
  rintro e w3 ⟨rfl, hb3⟩
  have HA3 : Hid (Below _ _ w3) := HA2.out.trans (hb3.mono HA2.out.size)
  clear hb3 hc2 hf2
  obtain ⟨hc3, hf3⟩ := bcell HA3.out
  go_wp2_with fail
  refine (ok_any _ _ _).mono ?_
  rintro e w4 ⟨rfl, hb4⟩
  have HA4 : Hid (Below _ _ w4) := HA3.out.trans (hb4.mono HA3.out.size)
  clear hb4 hc3 hf3
  obtain ⟨hc4, hf4⟩ := bcell HA4.out
  have HZ : Hid (Below w.heap.size w w4) := (Joins.below_alloc1 _ _).trans (HA4.out.mono (by simp))
  go_wp2
  refine wp_loop_rounds 1 ?_
  rw [rounds_succ]
  go_wp2
  all_goals
    go_ret
    refine ⟨?_, (HZ.out.alloc HZ.out.size _).alloc (by have := HZ.out.size; simp; omega) _⟩
    simp_all [qone]

set_option maxHeartbeats 1000000 in
theorem f11_yes1 (b c d k l m n : Int) (w : World) (h1 : qok 0 b = true) (h2 : qok c d = true) (h3 : qok k l = true) (h4 : qok m n = true) (hc0 : c ≠ 0) :
    Calls Try.prog 11 #[.agg #[.int .i64 0, .int .i64 b, .int .i64 c, .int .i64 d, .int .i64 k, .int .i64 l, .int .i64 m, .int .i64 n]] w fun e w' => e = .returned (.bool (qone c d)) ∧ Below w.heap.size w w' := by
  go_enter Try.func11, Try.ntmps11
  go_wp2_with fail
  refine (ok_any _ _ _).mono ?_
  rintro e w1 ⟨rfl, hb1⟩
  have HA1 : Hid (Below _ _ w1) := hb1
  clear hb1
  obtain ⟨hc1, hf1⟩ := bcell HA1.out
  go_wp2_with fail
  refine (ok_any _ _ _).mono ?_
  rintro e w2 ⟨rfl, hb2⟩
  have HA2 : Hid (Below _ _ w2) := HA1.out.trans (hb2.mono HA1.out.size)
  clear hb2 hc1 hf1
  obtain ⟨hc2, hf2⟩ := bcell HA2.out
  go_wp2_with fail
  refine (ok_any _ _ _).mono ?_
  rintro e w3 ⟨rfl, hb3⟩
  have HA3 : Hid (Below _ _ w3) := HA2.out.trans (hb3.mono HA2.out.size)
  clear hb3 hc2 hf2
  obtain ⟨hc3, hf3⟩ := bcell HA3.out
  go_wp2_with fail
  refine (ok_any _ _ _).mono ?_
  rintro e w4 ⟨rfl, hb4⟩
  have HA4 : Hid (Below _ _ w4) := HA3.out.trans (hb4.mono HA3.out.size)
  clear hb4 hc3 hf3
  obtain ⟨hc4, hf4⟩ := bcell HA4.out
  have HZ : Hid (Below w.heap.size w w4) := (Joins.below_alloc1 _ _).trans (HA4.out.mono (by simp))
  go_wp2
  refine wp_loop_rounds 2 ?_
  rw [rounds_succ]
  go_wp2
  rw [rounds_succ]
  go_wp2
  all_goals
    go_ret
    refine ⟨?_, ((HZ.out.alloc HZ.out.size _).alloc (by have := HZ.out.size; simp; omega) _).alloc (by have := HZ.out.size; simp; omega) _⟩
    simp_all [qone]

set_option maxHeartbeats 1000000 in
theorem f11_yes2 (b d k l m n : Int) (w : World) (h1 : qok 0 b = true) (h2 : qok 0 d = true) (h3 : qok k l = true) (h4 : qok m n = true) (hk0 : k ≠ 0) :
    Calls Try.prog 11 #[.agg #[.int .i64 0, .int .i64 b, .int .i64 0, .int .i64 d, .int .i64 k, .int .i64 l, .int .i64 m, .int .i64 n]] w fun e w' => e = .returned (.bool (qone k l)) ∧ Below w.heap.size w w' := by
  go_enter Try.func11, Try.ntmps11
  go_wp2_with fail
  refine (ok_any _ _ _).mono ?_
  rintro e w1 ⟨rfl, hb1⟩
  have HA1 : Hid (Below _ _ w1) := hb1
  clear hb1
  obtain ⟨hc1, hf1⟩ := bcell HA1.out
  go_wp2_with fail
  refine (ok_any _ _ _).mono ?_
  rintro e w2 ⟨rfl, hb2⟩
  have HA2 : Hid (Below _ _ w2) := HA1.out.trans (hb2.mono HA1.out.size)
  clear hb2 hc1 hf1
  obtain ⟨hc2, hf2⟩ := bcell HA2.out
  go_wp2_with fail
  refine (ok_any _ _ _).mono ?_
  rintro e w3 ⟨rfl, hb3⟩
  have HA3 : Hid (Below _ _ w3) := HA2.out.trans (hb3.mono HA2.out.size)
  clear hb3 hc2 hf2
  obtain ⟨hc3, hf3⟩ := bcell HA3.out
  go_wp2_with fail
  refine (ok_any _ _ _).mono ?_
  rintro e w4 ⟨rfl, hb4⟩
  have HA4 : Hid (Below _ _ w4) := HA3.out.trans (hb4.mono HA3.out.size)
  clear hb4 hc3 hf3
  obtain ⟨hc4, hf4⟩ := bcell HA4.out
  have HZ : Hid (Below w.heap.size w w4) := (Joins.below_alloc1 _ _).trans (HA4.out.mono (by simp))
  go_wp2
  refine wp_loop_rounds 3 ?_
  rw [rounds_succ]
  go_wp2
  rw [rounds_succ]
  go_wp2
  rw [rounds_succ]
  go_wp2
  all_goals
    go_ret
    refine ⟨?_, (((HZ.out.alloc HZ.out.size _).alloc (by have := HZ.out.size; simp; omega) _).alloc (by have := HZ.out.size; simp; omega) _).alloc (by have := HZ.out.size; simp; omega) _⟩
    simp_all [qone]

set_option maxHeartbeats 1000000 in
theorem f11_yes3 (b d l m n : Int) (w : World) (h1 : qok 0 b = true) (h2 : qok 0 d = true) (h3 : qok 0 l = true) (h4 : qok m n = true)  :
    Calls Try.prog 11 #[.agg #[.int .i64 0, .int .i64 b, .int .i64 0, .int .i64 d, .int .i64 0, .int .i64 l, .int .i64 m, .int .i64 n]] w fun e w' => e = .returned (.bool (qone 0 l)) ∧ Below w.heap.size w w' := by
  go_enter Try.func11, Try.ntmps11
  go_wp2_with fail
  refine (ok_any _ _ _).mono ?_
  rintro e w1 ⟨rfl, hb1⟩
  have HA1 : Hid (Below _ _ w1) := hb1
  clear hb1
  obtain ⟨hc1, hf1⟩ := bcell HA1.out
  go_wp2_with fail
  refine (ok_any _ _ _).mono ?_
  rintro e w2 ⟨rfl, hb2⟩
  have HA2 : Hid (Below _ _ w2) := HA1.out.trans (hb2.mono HA1.out.size)
  clear hb2 hc1 hf1
  obtain ⟨hc2, hf2⟩ := bcell HA2.out
  go_wp2_with fail
  refine (ok_any _ _ _).mono ?_
  rintro e w3 ⟨rfl, hb3⟩
  have HA3 : Hid (Below _ _ w3) := HA2.out.trans (hb3.mono HA2.out.size)
  clear hb3 hc2 hf2
  obtain ⟨hc3, hf3⟩ := bcell HA3.out
  go_wp2_with fail
  refine (ok_any _ _ _).mono ?_
  rintro e w4 ⟨rfl, hb4⟩
  have HA4 : Hid (Below _ _ w4) := HA3.out.trans (hb4.mono HA3.out.size)
  clear hb4 hc3 hf3
  obtain ⟨hc4, hf4⟩ := bcell HA4.out
  have HZ : Hid (Below w.heap.size w w4) := (Joins.below_alloc1 _ _).trans (HA4.out.mono (by simp))
  go_wp2
  refine wp_loop_rounds 4 ?_
  rw [rounds_succ]
  go_wp2
  rw [rounds_succ]
  go_wp2
  rw [rounds_succ]
  go_wp2
  rw [rounds_succ]
  go_wp2
  all_goals
    go_ret
    refine ⟨?_, (((HZ.out.alloc HZ.out.size _).alloc (by have := HZ.out.size; simp; omega) _).alloc (by have := HZ.out.size; simp; omega) _).alloc (by have := HZ.out.size; simp; omega) _⟩
    simp_all [qone]

theorem implPlaneOk_any (a b c d k l m n : Int) (w : World) :
    Calls Try.prog 11 #[.agg #[.int .i64 a, .int .i64 b, .int .i64 c, .int .i64 d, .int .i64 k, .int .i64 l, .int .i64 m, .int .i64 n]] w fun e w' => e = .returned (.bool (pok a b c d k l m n)) ∧ Below w.heap.size w w' := by
  rcases Bool.eq_false_or_eq_true (qok a b) with h1 | h1
  · rcases Bool.eq_false_or_eq_true (qok c d) with h2 | h2
    · rcases Bool.eq_false_or_eq_true (qok k l) with h3 | h3
      · rcases Bool.eq_false_or_eq_true (qok m n) with h4 | h4
        · by_cases ha : a = 0
          · by_cases hc0 : c = 0
            · subst ha hc0
              by_cases hk0 : k = 0
              · subst hk0
                simpa [pok, pone, h1, h2, h3, h4] using f11_yes3 b d l m n w h1 h2 h3 h4
              simpa [pok, pone, h1, h2, h3, h4] using f11_yes2 b d k l m n w h1 h2 h3 h4 hk0
            · subst ha
              simpa [pok, pone, h1, h2, h3, h4, hc0] using f11_yes1 b c d k l m n w h1 h2 h3 h4 hc0
          · simpa [pok, pone, h1, h2, h3, h4, ha] using f11_yes0 a b c d k l m n w h1 h2 h3 h4 ha
        · simpa [pok, h1, h2, h3, h4] using f11_no3 a b c d k l m n w h1 h2 h3 h4
      · simpa [pok, h1, h2, h3] using f11_no2 a b c d k l m n w h1 h2 h3
    · simpa [pok, h1, h2] using f11_no1 a b c d k l m n w h1 h2
  · simpa [pok, h1] using f11_no0 a b c d k l m n w h1

set_option maxHeartbeats 400000 in
theorem lawPlaneOk_walk (a b c d k l m n : Int) (w : World) :
    Calls Try.prog 4 #[.agg #[.int .i64 a, .int .i64 b, .int .i64 c, .int .i64 d, .int .i64 k, .int .i64 l, .int .i64 m, .int .i64 n]] w fun e w' => e = .returned (.bool true) ∧ Below w.heap.size w w' := by
  go_enter Try.func4, Try.ntmps4
  go_wp2_with fail
  refine (toPlane_any _ _ _ _ _ _ _ _ _).mono ?_
  rintro e w1 ⟨rfl, hb1⟩
  go_wp2_with fail
  refine (specPlaneOk_any _ _ _ _ _ _ _ _ _).mono ?_
  rintro e w2 ⟨rfl, hb2⟩
  have hb12 := hb1.trans (hb2.mono hb1.size)
  obtain ⟨hc, hf⟩ := bcell hb12
  go_wp2_with fail
  refine (toPlane_any _ _ _ _ _ _ _ _ _).mono ?_
  rintro e w3 ⟨rfl, hb3⟩
  go_wp2_with fail
  refine (implPlaneOk_any _ _ _ _ _ _ _ _ _).mono ?_
  rintro e w4 ⟨rfl, hb4⟩
  go_wp2
  go_ret
  exact ⟨rfl, (Joins.below_alloc1 _ _).trans ((hb12.trans ((hb3.trans (hb4.mono hb3.size)).mono hb12.size)).mono (by simp))⟩
end Go.Proofs.Ytoopipljedoeeaa
