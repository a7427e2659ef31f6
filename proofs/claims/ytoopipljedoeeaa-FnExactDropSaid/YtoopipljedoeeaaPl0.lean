import Derived.Test.YtoopipljedoeeaaV3
import Derived.LoopN
namespace Go.Proofs.Ytoopipljedoeeaa
open Go.RowKit

def qone (n d : Int) : Bool := d == 1 && (n == 1 || n == -1)
def pone (a b c d k l : Int) : Bool := if a = 0 then (if c = 0 then qone k l else qone c d) else qone a b
def pok (a b c d k l m n : Int) : Bool := qok a b && qok c d && qok k l && qok m n && pone a b c d k l

set_option maxHeartbeats 400000 in
theorem l11One_any (n d : Int) (w : World) :
    Calls Try.prog 18 #[.agg #[.int .i64 n, .int .i64 d]] w fun e w' => e = .returned (.bool (qone n d)) ∧ Below w.heap.size w w' := by
  have H1 : Hid (Below w.heap.size w (w.alloc (.cells #[.int .i64 n, .int .i64 d] 27))) := Joins.below_alloc1 w _
  unfold qone
  rcases Bool.eq_false_or_eq_true (d == 1) with h1 | h1 <;> rcases Bool.eq_false_or_eq_true (n == 1) with h2 | h2
  all_goals
    go_enter Try.func18, Try.ntmps18
    go_wp2
    go_ret
    exact ⟨by simp [h1, h2], H1.out⟩

set_option maxHeartbeats 1000000 in
theorem f9_no0 (a b c d k l m n : Int) (w : World) (h1 : qok a b = false) :
    Calls Try.prog 9 #[.agg #[.int .i64 a, .int .i64 b, .int .i64 c, .int .i64 d, .int .i64 k, .int .i64 l, .int .i64 m, .int .i64 n]] w fun e w' => e = .returned (.bool false) ∧ Below w.heap.size w w' := by
  go_enter Try.func9, Try.ntmps9
  go_wp2_with fail
  refine (specQOk_any _ _ _).mono ?_
  rintro e w1 ⟨rfl, hb1⟩
  have HA1 : Hid (Below _ _ w1) := hb1
  clear hb1
  go_wp2
  go_ret
  exact ⟨rfl, (Joins.below_alloc1 _ _).trans (HA1.out.mono (by simp))⟩

set_option maxHeartbeats 1000000 in
theorem f9_no1 (a b c d k l m n : Int) (w : World) (h1 : qok a b = true) (h2 : qok c d = false) :
    Calls Try.prog 9 #[.agg #[.int .i64 a, .int .i64 b, .int .i64 c, .int .i64 d, .int .i64 k, .int .i64 l, .int .i64 m, .int .i64 n]] w fun e w' => e = .returned (.bool false) ∧ Below w.heap.size w w' := by
  go_enter Try.func9, Try.ntmps9
  go_wp2_with fail
  refine (specQOk_any _ _ _).mono ?_
  rintro e w1 ⟨rfl, hb1⟩
  have HA1 : Hid (Below _ _ w1) := hb1
  clear hb1
  obtain ⟨hc1, hf1⟩ := bcell HA1.out
  go_wp2_with fail
  refine (specQOk_any _ _ _).mono ?_
  rintro e w2 ⟨rfl, hb2⟩
  have HA2 : Hid (Below _ _ w2) := HA1.out.trans (hb2.mono HA1.out.size)
  clear hb2 hc1 hf1
  go_wp2
  go_ret
  exact ⟨rfl, (Joins.below_alloc1 _ _).trans (HA2.out.mono (by simp))⟩

set_option maxHeartbeats 1000000 in
theorem f9_no2 (a b c d k l m n : Int) (w : World) (h1 : qok a b = true) (h2 : qok c d = true) (h3 : qok k l = false) :
    Calls Try.prog 9 #[.agg #[.int .i64 a, .int .i64 b, .int .i64 c, .int .i64 d, .int .i64 k, .int .i64 l, .int .i64 m, .int .i64 n]] w fun e w' => e = .returned (.bool false) ∧ Below w.heap.size w w' := by
  go_enter Try.func9, Try.ntmps9
  go_wp2_with fail
  refine (specQOk_any _ _ _).mono ?_
  rintro e w1 ⟨rfl, hb1⟩
  have HA1 : Hid (Below _ _ w1) := hb1
  clear hb1
  obtain ⟨hc1, hf1⟩ := bcell HA1.out
  go_wp2_with fail
  refine (specQOk_any _ _ _).mono ?_
  rintro e w2 ⟨rfl, hb2⟩
  have HA2 : Hid (Below _ _ w2) := HA1.out.trans (hb2.mono HA1.out.size)
  clear hb2 hc1 hf1
  obtain ⟨hc2, hf2⟩ := bcell HA2.out
  go_wp2_with fail
  refine (specQOk_any _ _ _).mono ?_
  rintro e w3 ⟨rfl, hb3⟩
  have HA3 : Hid (Below _ _ w3) := HA2.out.trans (hb3.mono HA2.out.size)
  clear hb3 hc2 hf2
  go_wp2
  go_ret
  exact ⟨rfl, (Joins.below_alloc1 _ _).trans (HA3.out.mono (by simp))⟩

set_option maxHeartbeats 1000000 in
theorem f9_no3 (a b c d k l m n : Int) (w : World) (h1 : qok a b = true) (h2 : qok c d = true) (h3 : qok k l = true) (h4 : qok m n = false) :
    Calls Try.prog 9 #[.agg #[.int .i64 a, .int .i64 b, .int .i64 c, .int .i64 d, .int .i64 k, .int .i64 l, .int .i64 m, .int .i64 n]] w fun e w' => e = .returned (.bool false) ∧ Below w.heap.size w w' := by
  go_enter Try.func9, Try.ntmps9
  go_wp2_with fail
  refine (specQOk_any _ _ _).mono ?_
  rintro e w1 ⟨rfl, hb1⟩
  have HA1 : Hid (Below _ _ w1) := hb1
  clear hb1
  obtain ⟨hc1, hf1⟩ := bcell HA1.out
  go_wp2_with fail
  refine (specQOk_any _ _ _).mono ?_
  rintro e w2 ⟨rfl, hb2⟩
  have HA2 : Hid (Below _ _ w2) := HA1.out.trans (hb2.mono HA1.out.size)
  clear hb2 hc1 hf1
  obtain ⟨hc2, hf2⟩ := bcell HA2.out
  go_wp2_with fail
  refine (specQOk_any _ _ _).mono ?_
  rintro e w3 ⟨rfl, hb3⟩
  have HA3 : Hid (Below _ _ w3) := HA2.out.trans (hb3.mono HA2.out.size)
  clear hb3 hc2 hf2
  obtain ⟨hc3, hf3⟩ := bcell HA3.out
  go_wp2_with fail
  refine (specQOk_any _ _ _).mono ?_
  rintro e w4 ⟨rfl, hb4⟩
  have HA4 : Hid (Below _ _ w4) := HA3.out.trans (hb4.mono HA3.out.size)
  clear hb4 hc3 hf3
  go_wp2
  go_ret
  exact ⟨rfl, (Joins.below_alloc1 _ _).trans (HA4.out.mono (by simp))⟩

set_option maxHeartbeats 1000000 in
theorem f9_yes0 (a b c d k l m n : Int) (w : World) (h1 : qok a b = true) (h2 : qok c d = true) (h3 : qok k l = true) (h4 : qok m n = true) (ha : a ≠ 0) :
    Calls Try.prog 9 #[.agg #[.int .i64 a, .int .i64 b, .int .i64 c, .int .i64 d, .int .i64 k, .int .i64 l, .int .i64 m, .int .i64 n]] w fun e w' => e = .returned (.bool (qone a b)) ∧ Below w.heap.size w w' := by
  go_enter Try.func9, Try.ntmps9
  go_wp2_with fail
  refine (specQOk_any _ _ _).mono ?_
  rintro e w1 ⟨rfl, hb1⟩
  have HA1 : Hid (Below _ _ w1) := hb1
  clear hb1
  obtain ⟨hc1, hf1⟩ := bcell HA1.out
  go_wp2_with fail
  refine (specQOk_any _ _ _).mono ?_
  rintro e w2 ⟨rfl, hb2⟩
  have HA2 : Hid (Below _ _ w2) := HA1.out.trans (hb2.mono HA1.out.size)
  clear hb2 hc1 hf1
  obtain ⟨hc2, hf2⟩ := bcell HA2.out
  go_wp2_with fail
  refine (specQOk_any _ _ _).mono ?_
  rintro e w3 ⟨rfl, hb3⟩
  have HA3 : Hid (Below _ _ w3) := HA2.out.trans (hb3.mono HA2.out.size)
  clear hb3 hc2 hf2
  obtain ⟨hc3, hf3⟩ := bcell HA3.out
  go_wp2_with fail
  refine (specQOk_any _ _ _).mono ?_
  rintro e w4 ⟨rfl, hb4⟩
  have HA4 : Hid (Below _ _ w4) := HA3.out.trans (hb4.mono HA3.out.size)
  clear hb4 hc3 hf3
  obtain ⟨hc4, hf4⟩ := bcell HA4.out
  go_wp2_with fail
  refine (l11One_any _ _ _).mono ?_
  rintro e w5 ⟨rfl, hb5⟩
  have HA5 : Hid (Below _ _ w5) := HA4.out.trans (hb5.mono HA4.out.size)
  clear hb5 hc4 hf4
  go_wp2
  go_ret
  exact ⟨rfl, (Joins.below_alloc1 _ _).trans (HA5.out.mono (by simp))⟩

set_option maxHeartbeats 1000000 in
theorem f9_yes1 (b c d k l m n : Int) (w : World) (h1 : qok 0 b = true) (h2 : qok c d = true) (h3 : qok k l = true) (h4 : qok m n = true) (hc0 : c ≠ 0) :
    Calls Try.prog 9 #[.agg #[.int .i64 0, .int .i64 b, .int .i64 c, .int .i64 d, .int .i64 k, .int .i64 l, .int .i64 m, .int .i64 n]] w fun e w' => e = .returned (.bool (qone c d)) ∧ Below w.heap.size w w' := by
  go_enter Try.func9, Try.ntmps9
  go_wp2_with fail
  refine (specQOk_any _ _ _).mono ?_
  rintro e w1 ⟨rfl, hb1⟩
  have HA1 : Hid (Below _ _ w1) := hb1
  clear hb1
  obtain ⟨hc1, hf1⟩ := bcell HA1.out
  go_wp2_with fail
  refine (specQOk_any _ _ _).mono ?_
  rintro e w2 ⟨rfl, hb2⟩
  have HA2 : Hid (Below _ _ w2) := HA1.out.trans (hb2.mono HA1.out.size)
  clear hb2 hc1 hf1
  obtain ⟨hc2, hf2⟩ := bcell HA2.out
  go_wp2_with fail
  refine (specQOk_any _ _ _).mono ?_
  rintro e w3 ⟨rfl, hb3⟩
  have HA3 : Hid (Below _ _ w3) := HA2.out.trans (hb3.mono HA2.out.size)
  clear hb3 hc2 hf2
  obtain ⟨hc3, hf3⟩ := bcell HA3.out
  go_wp2_with fail
  refine (specQOk_any _ _ _).mono ?_
  rintro e w4 ⟨rfl, hb4⟩
  have HA4 : Hid (Below _ _ w4) := HA3.out.trans (hb4.mono HA3.out.size)
  clear hb4 hc3 hf3
  obtain ⟨hc4, hf4⟩ := bcell HA4.out
  go_wp2_with fail
  refine (l11One_any _ _ _).mono ?_
  rintro e w5 ⟨rfl, hb5⟩
  have HA5 : Hid (Below _ _ w5) := HA4.out.trans (hb5.mono HA4.out.size)
  clear hb5 hc4 hf4
  go_wp2
  go_ret
  exact ⟨rfl, (Joins.below_alloc1 _ _).trans (HA5.out.mono (by simp))⟩

set_option maxHeartbeats 1000000 in
theorem f9_yes2 (b d k l m n : Int) (w : World) (h1 : qok 0 b = true) (h2 : qok 0 d = true) (h3 : qok k l = true) (h4 : qok m n = true)  :
    Calls Try.prog 9 #[.agg #[.int .i64 0, .int .i64 b, .int .i64 0, .int .i64 d, .int .i64 k, .int .i64 l, .int .i64 m, .int .i64 n]] w fun e w' => e = .returned (.bool (qone k l)) ∧ Below w.heap.size w w' := by
  go_enter Try.func9, Try.ntmps9
  go_wp2_with fail
  refine (specQOk_any _ _ _).mono ?_
  rintro e w1 ⟨rfl, hb1⟩
  have HA1 : Hid (Below _ _ w1) := hb1
  clear hb1
  obtain ⟨hc1, hf1⟩ := bcell HA1.out
  go_wp2_with fail
  refine (specQOk_any _ _ _).mono ?_
  rintro e w2 ⟨rfl, hb2⟩
  have HA2 : Hid (Below _ _ w2) := HA1.out.trans (hb2.mono HA1.out.size)
  clear hb2 hc1 hf1
  obtain ⟨hc2, hf2⟩ := bcell HA2.out
  go_wp2_with fail
  refine (specQOk_any _ _ _).mono ?_
  rintro e w3 ⟨rfl, hb3⟩
  have HA3 : Hid (Below _ _ w3) := HA2.out.trans (hb3.mono HA2.out.size)
  clear hb3 hc2 hf2
  obtain ⟨hc3, hf3⟩ := bcell HA3.out
  go_wp2_with fail
  refine (specQOk_any _ _ _).mono ?_
  rintro e w4 ⟨rfl, hb4⟩
  have HA4 : Hid (Below _ _ w4) := HA3.out.trans (hb4.mono HA3.out.size)
  clear hb4 hc3 hf3
  obtain ⟨hc4, hf4⟩ := bcell HA4.out
  go_wp2_with fail
  refine (l11One_any _ _ _).mono ?_
  rintro e w5 ⟨rfl, hb5⟩
  have HA5 : Hid (Below _ _ w5) := HA4.out.trans (hb5.mono HA4.out.size)
  clear hb5 hc4 hf4
  go_wp2
  go_ret
  exact ⟨rfl, (Joins.below_alloc1 _ _).trans (HA5.out.mono (by simp))⟩

theorem specPlaneOk_any (a b c d k l m n : Int) (w : World) :
    Calls Try.prog 9 #[.agg #[.int .i64 a, .int .i64 b, .int .i64 c, .int .i64 d, .int .i64 k, .int .i64 l, .int .i64 m, .int .i64 n]] w fun e w' => e = .returned (.bool (pok a b c d k l m n)) ∧ Below w.heap.size w w' := by
  rcases Bool.eq_false_or_eq_true (qok a b) with h1 | h1
  · rcases Bool.eq_false_or_eq_true (qok c d) with h2 | h2
    · rcases Bool.eq_false_or_eq_true (qok k l) with h3 | h3
      · rcases Bool.eq_false_or_eq_true (qok m n) with h4 | h4
        · by_cases ha : a = 0
          · by_cases hc0 : c = 0
            · subst ha hc0
              simpa [pok, pone, h1, h2, h3, h4] using f9_yes2 b d k l m n w h1 h2 h3 h4
            · subst ha
              simpa [pok, pone, h1, h2, h3, h4, hc0] using f9_yes1 b c d k l m n w h1 h2 h3 h4 hc0
          · simpa [pok, pone, h1, h2, h3, h4, ha] using f9_yes0 a b c d k l m n w h1 h2 h3 h4 ha
        · simpa [pok, h1, h2, h3, h4] using f9_no3 a b c d k l m n w h1 h2 h3 h4
      · simpa [pok, h1, h2, h3] using f9_no2 a b c d k l m n w h1 h2 h3
    · simpa [pok, h1, h2] using f9_no1 a b c d k l m n w h1 h2
  · simpa [pok, h1] using f9_no0 a b c d k l m n w h1

set_option maxHeartbeats 1000000 in
theorem f11_no0 (a b c d k l m n : Int) (w : World) (h1 : qok a b = false) :
    Calls Try.prog 11 #[.agg #[.int .i64 a, .int .i64 b, .int .i64 c, .int .i64 d, .int .i64 k, .int .i64 l, .int .i64 m, .int .i64 n]] w fun e w' => e = .returned (.bool false) ∧ Below w.heap.size w w' := by
  go_enter Try.func11, Try.ntmps11
  go_wp2_with fail
  refine (ok_any _ _ _).mono ?_
  rintro e w1 ⟨rfl, hb1⟩
  have HA1 : Hid (Below _ _ w1) := hb1
  clear hb1
  go_wp2
  go_ret
  exact ⟨rfl, (Joins.below_alloc1 _ _).trans (HA1.out.mono (by simp))⟩

set_option maxHeartbeats 1000000 in
theorem f11_no1 (a b c d k l m n : Int) (w : World) (h1 : qok a b = true) (h2 : qok c d = false) :
    Calls Try.prog 11 #[.agg #[.int .i64 a, .int .i64 b, .int .i64 c, .int .i64 d, .int .i64 k, .int .i64 l, .int .i64 m, .int .i64 n]] w fun e w' => e = .returned (.bool false) ∧ Below w.heap.size w w' := by
  go_enter Try.func11, Try.ntmps11
  go_wp2_with fail
  refine (ok_any _ _ _).mono ?_
  rintro e w1 ⟨rfl, hb1⟩
  have HA1 : Hid (Below _ _ w1) := hb1
  clear hb1
  obtain ⟨hc1, hf1⟩ := bcell HA1.out
  go_wp2_with fail
  refine (ok_any _ _ _).mono ?_
  rintro e w2 ⟨rfl, hb2⟩
  have HA2 : Hid (Below _ _ w2) := HA1.out.trans (hb2.mono HA1.out.size)
  clear hb2 hc1 hf1
  go_wp2
  go_ret
  exact ⟨rfl, (Joins.below_alloc1 _ _).trans (HA2.out.mono (by simp))⟩

set_option maxHeartbeats 1000000 in
theorem f11_no2 (a b c d k l m n : Int) (w : World) (h1 : qok a b = true) (h2 : qok c d = true) (h3 : qok k l = false) :
    Calls Try.prog 11 #[.agg #[.int .i64 a, .int .i64 b, .int .i64 c, .int .i64 d, .int .i64 k, .int .i64 l, .int .i64 m, .int .i64 n]] w fun e w' => e = .returned (.bool false) ∧ Below w.heap.size w w' := by
  go_enter Try.func11, Try.ntmps11
  go_wp2_with fail
  refine (ok_any _ _ _).mono ?_
  rintro e w1 ⟨rfl, hb1⟩
  have HA1 : Hid (Below _ _ w1) := hb1
  clear hb1
  obtain ⟨hc1, hf1⟩ := bcell HA1.out
  go_wp2_with fail
  refine (ok_any _ _ _).mono ?_
  rintro e w2 ⟨rfl, hb2⟩
  have HA2 : Hid (Below _ _ w2) := HA1.out.trans (hb2.mono HA1.out.size)
  clear hb2 hc1 hf1
  obtain ⟨hc2, hf2⟩ := bcell HA2.out
  go_wp2_with fail
  refine (ok_any _ _ _).mono ?_
  rintro e w3 ⟨rfl, hb3⟩
  have HA3 : Hid (Below _ _ w3) := HA2.out.trans (hb3.mono HA2.out.size)
  clear hb3 hc2 hf2
  go_wp2
  go_ret
  exact ⟨rfl, (Joins.below_alloc1 _ _).trans (HA3.out.mono (by simp))⟩

set_option maxHeartbeats 1000000 in
theorem f11_no3 (a b c d k l m n : Int) (w : World) (h1 : qok a b = true) (h2 : qok c d = true) (h3 : qok k l = true) (h4 : qok m n = false) :
    Calls Try.prog 11 #[.agg #[.int .i64 a, .int .i64 b, .int .i64 c, .int .i64 d, .int .i64 k, .int .i64 l, .int .i64 m, .int .i64 n]] w fun e w' => e = .returned (.bool false) ∧ Below w.heap.size w w' := by
  go_enter Try.func11, Try.ntmps11
  go_wp2_with fail
  refine (ok_any _ _ _).mono ?_
  rintro e w1 ⟨rfl, hb1⟩
  have HA1 : Hid (Below _ _ w1) := hb1
  clear hb1
  obtain ⟨hc1, hf1⟩ := bcell HA1.out
  go_wp2_with fail
  refine (ok_any _ _ _).mono ?_
  rintro e w2 ⟨rfl, hb2⟩
  have HA2 : Hid (Below _ _ w2) := HA1.out.trans (hb2.mono HA1.out.size)
  clear hb2 hc1 hf1
  obtain ⟨hc2, hf2⟩ := bcell HA2.out
  go_wp2_with fail
  refine (ok_any _ _ _).mono ?_
  rintro e w3 ⟨rfl, hb3⟩
  have HA3 : Hid (Below _ _ w3) := HA2.out.trans (hb3.mono HA2.out.size)
  clear hb3 hc2 hf2
  obtain ⟨hc3, hf3⟩ := bcell HA3.out
  go_wp2_with fail
  refine (ok_any _ _ _).mono ?_
  rintro e w4 ⟨rfl, hb4⟩
  have HA4 : Hid (Below _ _ w4) := HA3.out.trans (hb4.mono HA3.out.size)
  clear hb4 hc3 hf3
  go_wp2
  go_ret
  exact ⟨rfl, (Joins.below_alloc1 _ _).trans (HA4.out.mono (by simp))⟩
end Go.Proofs.Ytoopipljedoeeaa
