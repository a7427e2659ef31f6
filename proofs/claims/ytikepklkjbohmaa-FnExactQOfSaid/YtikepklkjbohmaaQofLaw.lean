import Derived.Test.YtikepklkjbohmaaQof3
import Derived.Test.YtikepklkjbohmaaDlt
import Derived.Test.YtikepklkjbohmaaDlong
namespace Go.Proofs.Ytikepklkjbohmaa
open Go.RowKit

theorem divAll : DivAll := fun p q h1 h2 h3 h4 => by
  rcases Nat.lt_or_ge p q with h | h
  · exact divC_lt p q h1 h
  · rcases Nat.lt_or_ge q 4294967296 with h5 | h5
    · exact divC_small p q h3 h5 h
    · exact divC_long p q h5 h h2

theorem wf_i64 {n : Int} (h : (Lit.int .i64 n).wf = true) : -9223372036854775808 ≤ n ∧ n ≤ 9223372036854775807 := by
  simp [Lit.wf, IntKind.min, IntKind.max, IntKind.bits, IntKind.signed] at h
  omega

theorem lawQOf_walk (n d : Int) (hn : (Lit.int .i64 n).wf = true) (hd : (Lit.int .i64 d).wf = true) (w : World) :
    Calls Try.prog 4 #[.int .i64 n, .int .i64 d] w fun e w' => e = .returned (.bool true) ∧ Below w.heap.size w w' :=
  lawQOf_of_div divAll n d w (wf_i64 hn).1 (wf_i64 hn).2 (wf_i64 hd).1 (wf_i64 hd).2
end Go.Proofs.Ytikepklkjbohmaa
