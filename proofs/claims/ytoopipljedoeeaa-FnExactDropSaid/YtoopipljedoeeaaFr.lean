import Derived.Test.YtoopipljedoeeaaPl
import Derived.Test.YtoopipljedoeeaaRq
namespace Go.Proofs.Ytoopipljedoeeaa
open Go.RowKit

set_option maxHeartbeats 400000 in
theorem frac_any (n d : Int) (w : World) :
    Calls Try.prog 36 #[.agg #[.int .i64 n, .int .i64 d]] w fun e w' => e = .returned (.agg #[.int .i64 n, .int .i64 d, .pointer none]) ∧ Below w.heap.size w w' := by
  go_enter Try.func36, Try.ntmps36
  go_wp2
  exact bodyPost_ret (v := .agg #[.int .i64 n, .int .i64 d, .pointer none]) (by simp [results, Try.results36, go_sem]) rfl ⟨rfl, Joins.below_alloc2 _ _ _⟩

def sgi (n : Int) : Int := if n < 0 then -1 else if 0 < n then 1 else 0

set_option maxHeartbeats 400000 in
theorem order_any (n : Int) (w : World) :
    Calls Try.prog 58 #[.int .i64 n, .int .i64 0] w fun e w' => e = .returned (.int .i64 (sgi n)) ∧ w' = w := by
  rcases Int.lt_trichotomy n 0 with h1 | h1 | h1
  · have HR : Hid (-1 = sgi n) := by unfold Hid sgi; rw [if_pos h1]
    go_enter Try.func58, Try.ntmps58
    go_wp2
    go_ret
    exact ⟨ret_int HR.out, rfl⟩
  · subst h1
    go_enter Try.func58, Try.ntmps58
    go_wp2
    go_ret
    exact ⟨rfl, rfl⟩
  · have HR : Hid (1 = sgi n) := by unfold Hid sgi; rw [if_neg (by omega), if_pos h1]
    go_enter Try.func58, Try.ntmps58
    go_wp2
    go_ret
    exact ⟨ret_int HR.out, rfl⟩

theorem signOf_any (n : Int) (w : World) :
    Calls Try.prog 49 #[.int .i64 n] w fun e w' => e = .returned (.int .i64 (sgi n)) ∧ w' = w := by
  go_enter Try.func49, Try.ntmps49
  go_wp2_with fail
  refine (order_any n _).mono ?_
  rintro e w1 ⟨rfl, rfl⟩
  go_wp2
  go_ret
  exact ⟨rfl, rfl⟩

set_option maxHeartbeats 400000 in
theorem sign_any (n d : Int) (w : World) :
    Calls Try.prog 43 #[.agg #[.int .i64 n, .int .i64 d, .pointer none]] w fun e w' => e = .returned (.int .i64 (sgi n)) ∧ Below w.heap.size w w' := by
  go_enter Try.func43, Try.ntmps43
  go_wp2_with fail
  refine (signOf_any n _).mono ?_
  rintro e w1 ⟨rfl, rfl⟩
  go_wp2
  go_ret
  exact ⟨rfl, Joins.below_alloc1 _ _⟩

set_option maxHeartbeats 400000 in
theorem q_any (n d : Int) (w : World) (h1 : -1000000000000000000 ≤ n) (h2 : n ≤ 1000000000000000000) (_h3 : 1 ≤ d) (h4 : d ≤ 1000000000000000000) :
    Calls Try.prog 38 #[.agg #[.int .i64 n, .int .i64 d, .pointer none]] w fun e w' => e = .returned (.tuple #[.agg #[.int .i64 n, .int .i64 d], .bool true]) ∧ Below w.heap.size w w' := by
  have g1 : decide ((1000000000000000000 : Int) < (n.natAbs : Int)) = false := by simp; omega
  have g2 : decide (1000000000000000000 < d) = false := by simp; omega
  go_enter Try.func38, Try.ntmps38
  go_wp2_with fail
  refine (size_any n _ (by omega) (by omega)).mono ?_
  rintro e w1 ⟨rfl, rfl⟩
  go_wp2
  exact bodyPost_ret (v := .tuple #[.agg #[.int .i64 n, .int .i64 d], .bool true]) (by simp [results, Try.results38, go_sem]) rfl ⟨rfl, Joins.below_alloc2 _ _ _⟩
end Go.Proofs.Ytoopipljedoeeaa
