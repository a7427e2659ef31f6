import Derived.Test.YtikepklkjbohmaaNum
import Derived.Lib.SmallJoins
import Derived.ProofKit
import Derived.OpenShut
namespace Go.Proofs.Ytikepklkjbohmaa
open Go.RowKit

def gcdOne (n d : Int) : Bool := decide (Nat.gcd n.natAbs d.natAbs = 1)
theorem gcdOne_eq (n : Int) (d : Nat) : (((Nat.gcd n.natAbs d : Nat) : Int) == 1) = gcdOne n d := by
  unfold gcdOne; rw [Bool.eq_iff_iff]; simp; omega
theorem ret_bool {a b : Bool} (h : a = b) : Ending.returned (.bool a) = .returned (.bool b) := by rw [h]
theorem below_box (w : World) (o : Obj) (n : Nat) : Below w.heap.size w ((w.alloc o).drewN n) :=
  ((Below.refl _ _).alloc (Nat.le_refl _) o).trans (Joins.below_draws _ _ n)

set_option maxHeartbeats 400000 in
theorem specQOk_yes (n : Int) (d : Nat) (w : World) (h1 : 1 ≤ d) (h2 : d ≤ 1000000000000000000) (h3 : -1000000000000000000 ≤ n) (h4 : n ≤ 1000000000000000000) :
    Calls Try.prog 10 #[.agg #[.int .i64 n, .int .i64 d]] w fun e w' => e = .returned (.bool (gcdOne n d)) ∧ Below w.heap.size w w' := by
  have HS : Hid ((((Nat.gcd n.natAbs d : Nat) : Int) == 1) = gcdOne n d) := gcdOne_eq n d
  go_enter Try.func10, Try.ntmps10
  go_wp2
  go_quiet ((first | (go_at_call 30; exact Calls.quiet_of_same (l1Abs_any _ _ (by omega) (by omega))) | (go_at_call 29; exact Calls.quiet_of (l1Gcd_any _ _ _ (by omega) (by omega)))))
  go_wp2
  go_ret
  exact ⟨ret_bool HS.out, below_box _ _ _⟩

set_option maxHeartbeats 400000 in
theorem specQOk_no (n d : Int) (w : World) (h : ¬ (1 ≤ d ∧ d ≤ 1000000000000000000 ∧ -1000000000000000000 ≤ n ∧ n ≤ 1000000000000000000)) :
    Calls Try.prog 10 #[.agg #[.int .i64 n, .int .i64 d]] w fun e w' => e = .returned (.bool false) ∧ Below w.heap.size w w' := by
  by_cases c1 : d < 1
  · go_enter Try.func10, Try.ntmps10
    go_wp2
    go_ret
    exact ⟨rfl, below_box _ _ 0⟩
  · by_cases c2 : 1000000000000000000 < d
    · go_enter Try.func10, Try.ntmps10
      go_wp2
      go_ret
      exact ⟨rfl, below_box _ _ 0⟩
    · by_cases c3 : n < -1000000000000000000
      · go_enter Try.func10, Try.ntmps10
        go_wp2
        go_ret
        exact ⟨rfl, below_box _ _ 0⟩
      · have c4 : 1000000000000000000 < n := by omega
        go_enter Try.func10, Try.ntmps10
        go_wp2
        go_ret
        exact ⟨rfl, below_box _ _ 0⟩

set_option maxHeartbeats 400000 in
theorem ok_yes (n : Int) (d : Nat) (w : World) (h1 : 1 ≤ d) (h2 : d ≤ 1000000000000000000) (h3 : -1000000000000000000 ≤ n) (h4 : n ≤ 1000000000000000000) :
    Calls Try.prog 31 #[.agg #[.int .i64 n, .int .i64 d]] w fun e w' => e = .returned (.bool (gcdOne n d)) ∧ Below w.heap.size w w' := by
  have HS : Hid ((((Nat.gcd n.natAbs d : Nat) : Int) == 1) = gcdOne n d) := gcdOne_eq n d
  have g1 : decide ((1 : Int) ≤ (d : Int)) = true := by simp; omega
  have g2 : decide ((d : Int) ≤ 1000000000000000000) = true := by simp; omega
  have g3 : decide (-1000000000000000000 ≤ n) = true := by simp; omega
  have g4 : decide (n ≤ 1000000000000000000) = true := by simp; omega
  go_enter Try.func31, Try.ntmps31
  go_wp2_with fail
  go_quiet ((first | (go_at_call 35; exact Calls.quiet_of_same (size_any _ _ (by omega) (by omega))) | (go_at_call 36; exact Calls.quiet_of (gcd_any _ _ _ (by omega) (by omega)))))
  go_wp2
  go_ret
  exact ⟨ret_bool HS.out, below_box _ _ _⟩

set_option maxHeartbeats 400000 in
theorem ok_no (n d : Int) (w : World) (h : ¬ (1 ≤ d ∧ d ≤ 1000000000000000000 ∧ -1000000000000000000 ≤ n ∧ n ≤ 1000000000000000000)) :
    Calls Try.prog 31 #[.agg #[.int .i64 n, .int .i64 d]] w fun e w' => e = .returned (.bool false) ∧ Below w.heap.size w w' := by
  by_cases c1 : 1 ≤ d
  · by_cases c2 : d ≤ 1000000000000000000
    · by_cases c3 : -1000000000000000000 ≤ n
      · have c4 : ¬ n ≤ 1000000000000000000 := by omega
        have g1 : decide (1 ≤ d) = true := by simpa using c1
        have g2 : decide (d ≤ 1000000000000000000) = true := by simpa using c2
        have g3 : decide (-1000000000000000000 ≤ n) = true := by simpa using c3
        have g4 : decide (n ≤ 1000000000000000000) = false := by simpa using c4
        go_enter Try.func31, Try.ntmps31
        go_wp2_with fail
        go_quiet (fail)
        go_wp2
        go_ret
        exact ⟨rfl, below_box _ _ _⟩
      · have g1 : decide (1 ≤ d) = true := by simpa using c1
        have g2 : decide (d ≤ 1000000000000000000) = true := by simpa using c2
        have g3 : decide (-1000000000000000000 ≤ n) = false := by simpa using c3
        go_enter Try.func31, Try.ntmps31
        go_wp2_with fail
        go_quiet (fail)
        go_wp2
        go_ret
        exact ⟨rfl, below_box _ _ _⟩
    · have g1 : decide (1 ≤ d) = true := by simpa using c1
      have g2 : decide (d ≤ 1000000000000000000) = false := by simpa using c2
      go_enter Try.func31, Try.ntmps31
      go_wp2_with fail
      go_quiet (fail)
      go_wp2
      go_ret
      exact ⟨rfl, below_box _ _ _⟩
  · have g1 : decide (1 ≤ d) = false := by simpa using c1
    go_enter Try.func31, Try.ntmps31
    go_wp2_with fail
    go_quiet (fail)
    go_wp2
    go_ret
    exact ⟨rfl, below_box _ _ _⟩

set_option maxHeartbeats 400000 in
theorem toQ_any (n d : Int) (w : World) :
    Calls Try.prog 11 #[.agg #[.int .i64 n, .int .i64 d]] w fun e w' => e = .returned (.agg #[.int .i64 n, .int .i64 d]) ∧ Below w.heap.size w w' := by
  go_enter Try.func11, Try.ntmps11
  go_wp2
  refine bodyPost_ret (v := .agg #[.int .i64 n, .int .i64 d]) (by simp [results, Try.results11, go_sem]) rfl ⟨rfl, ?_⟩
  exact Joins.below_alloc3 _ _ _ _

set_option maxHeartbeats 400000 in
theorem implQOk_of (n d : Int) (b : Bool) (w : World) (h : ∀ w, Calls Try.prog 31 #[.agg #[.int .i64 n, .int .i64 d]] w fun e w' => e = .returned (.bool b) ∧ Below w.heap.size w w') :
    Calls Try.prog 12 #[.agg #[.int .i64 n, .int .i64 d]] w fun e w' => e = .returned (.bool b) ∧ Below w.heap.size w w' := by
  have H : Hid (∀ w, Calls Try.prog 31 #[.agg #[.int .i64 n, .int .i64 d]] w fun e w' => e = .returned (.bool b) ∧ Below w.heap.size w w') := h
  clear h
  go_enter Try.func12, Try.ntmps12
  go_wp2_with fail
  refine (H.out _).mono ?_
  rintro e w1 ⟨rfl, hb⟩
  go_wp2
  go_ret
  exact ⟨rfl, (Joins.below_alloc1 _ _).trans (hb.mono (by simp))⟩

def qok (n d : Int) : Bool := if 1 ≤ d ∧ d ≤ 1000000000000000000 ∧ -1000000000000000000 ≤ n ∧ n ≤ 1000000000000000000 then gcdOne n d else false

theorem specQOk_any (n d : Int) (w : World) : Calls Try.prog 10 #[.agg #[.int .i64 n, .int .i64 d]] w fun e w' => e = .returned (.bool (qok n d)) ∧ Below w.heap.size w w' := by
  unfold qok
  by_cases h : 1 ≤ d ∧ d ≤ 1000000000000000000 ∧ -1000000000000000000 ≤ n ∧ n ≤ 1000000000000000000
  · rw [if_pos h]
    obtain ⟨k, rfl⟩ := Int.eq_ofNat_of_zero_le (show 0 ≤ d by omega)
    exact specQOk_yes n k w (by omega) (by omega) h.2.2.1 h.2.2.2
  · rw [if_neg h]; exact specQOk_no n d w h

theorem ok_any (n d : Int) (w : World) : Calls Try.prog 31 #[.agg #[.int .i64 n, .int .i64 d]] w fun e w' => e = .returned (.bool (qok n d)) ∧ Below w.heap.size w w' := by
  unfold qok
  by_cases h : 1 ≤ d ∧ d ≤ 1000000000000000000 ∧ -1000000000000000000 ≤ n ∧ n ≤ 1000000000000000000
  · rw [if_pos h]
    obtain ⟨k, rfl⟩ := Int.eq_ofNat_of_zero_le (show 0 ≤ d by omega)
    exact ok_yes n k w (by omega) (by omega) h.2.2.1 h.2.2.2
  · rw [if_neg h]; exact ok_no n d w h

theorem implQOk_any (n d : Int) (w : World) : Calls Try.prog 12 #[.agg #[.int .i64 n, .int .i64 d]] w fun e w' => e = .returned (.bool (qok n d)) ∧ Below w.heap.size w w' :=
  implQOk_of n d _ w (ok_any n d)

theorem bcell {W w1 : World} (hb : Below W.heap.size W w1) : (∀ b o, b < W.heap.size → w1.cell? ⟨b, o, none⟩ = W.cell? ⟨b, o, none⟩) ∧ (∀ b o, b < W.heap.size → w1.frozen? ⟨b, o, none⟩ = W.frozen? ⟨b, o, none⟩) :=
  ⟨fun b o h => hb.cell (p := ⟨b, o, none⟩) h, fun b o h => hb.frozen (p := ⟨b, o, none⟩) h⟩

set_option maxHeartbeats 400000 in
theorem lawQOk_walk (n d : Int) (w : World) :
    Calls Try.prog 3 #[.agg #[.int .i64 n, .int .i64 d]] w fun e w' => e = .returned (.bool true) ∧ Below w.heap.size w w' := by
  go_enter Try.func3, Try.ntmps3
  go_wp2_with fail
  refine (toQ_any _ _ _).mono ?_
  rintro e w1 ⟨rfl, hb1⟩
  go_wp2_with fail
  refine (specQOk_any _ _ _).mono ?_
  rintro e w2 ⟨rfl, hb2⟩
  have hb12 := hb1.trans (hb2.mono hb1.size)
  obtain ⟨hc, hf⟩ := bcell hb12
  go_wp2_with fail
  refine (toQ_any _ _ _).mono ?_
  rintro e w3 ⟨rfl, hb3⟩
  go_wp2_with fail
  refine (implQOk_any _ _ _).mono ?_
  rintro e w4 ⟨rfl, hb4⟩
  go_wp2
  go_ret
  exact ⟨rfl, (Joins.below_alloc1 _ _).trans ((hb12.trans ((hb3.trans (hb4.mono hb3.size)).mono hb12.size)).mono (by simp))⟩
end Go.Proofs.Ytikepklkjbohmaa
