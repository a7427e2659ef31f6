import Derived.Test.YtikepklkjbohmaaRneg
import Derived.Test.YtikepklkjbohmaaQok
import Derived.Deep.RegionWith
namespace Go.Proofs.Ytikepklkjbohmaa
open Go.RowKit

/-- What a fraction is told as. -/
def qfit (P : Int) (Q : Nat) : Bool := decide (P.natAbs ≤ 1000000000000000000 ∧ Q ≤ 1000000000000000000)
def qres (P : Int) (Q : Nat) : Value := .tuple #[.agg #[.int .i64 (if qfit P Q then P else 0), .int .i64 (if qfit P Q then (Q : Int) else 0)], .bool (qfit P Q)]

set_option maxHeartbeats 1000000 in
theorem l1rQ_small (P : Int) (Q : Nat) (w : World) (hs : smallR P Q) (hQ : 0 < Q) (hg : Nat.gcd P.natAbs Q = 1) :
    Calls Try.prog 32 #[.agg #[.int .i64 P, .int .i64 Q, .slice none 0 0]] w fun e w' => e = .returned (qres P Q) ∧ Below w.heap.size w w' := by
  obtain ⟨h1, h2⟩ := hs
  have hf : qfit P Q = true := by unfold qfit; simp; omega
  have HR : Hid (.tuple #[.agg #[.int .i64 P, .int .i64 Q], .bool true] = qres P Q) := by unfold Hid qres; rw [hf]; rfl
  have HG : Hid (Nat.gcd P.natAbs Q = 1) := hg
  have ewq : IntKind.i64.wrap (Q : Int) = (Q : Int) := by simp only [IntKind.wrap, IntKind.bits, IntKind.signed]; simp; omega
  have ewp : IntKind.i64.wrap P = P := by simp only [IntKind.wrap, IntKind.bits, IntKind.signed]; simp; omega
  clear hf hg
  go_enter Try.func32, Try.ntmps32
  go_wp2
  go_quiet ((first | (go_at_call 30; exact Calls.quiet_of_same (l1Abs_any _ _ (by omega) (by omega))) | (go_at_call 29; exact Calls.quiet_of (l1Gcd_any _ _ _ (by omega) (by omega)))))
  rw [HG.out]
  go_wp2
  go_region_with (fail)
  all_goals (
    go_wp2
    exact bodyPost_ret (v := .tuple #[.agg #[.int .i64 P, .int .i64 Q], .bool true]) (by simp [results, Try.results32, go_sem]) rfl ⟨by rw [HR.out], below_set2 ((Joins.below_alloc2 w _ _).trans (Joins.below_draws _ _ _)) (by omega) _ _⟩)

end Go.Proofs.Ytikepklkjbohmaa
