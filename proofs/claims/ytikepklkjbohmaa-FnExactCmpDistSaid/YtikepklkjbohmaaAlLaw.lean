import Derived.Test.YtikepklkjbohmaaDot3
import Derived.Test.YtikepklkjbohmaaAl3
namespace Go.Proofs.Ytikepklkjbohmaa
open Go.RowKit

theorem dotOK : DotOK := fun g1 g2 x y w h1 h2 hx hy => l2Dot_any g1 g2 x y w h1 h2 hx hy
theorem lawAlong_walk (a0 a1 a2 b0 b1 b2 c0 c1 c2 d0 d1 d2 : Int) (w : World) :
    Calls Try.prog 6 #[.agg #[.int .i64 a0, .int .i64 a1, .int .i64 a2], .agg #[.int .i64 b0, .int .i64 b1, .int .i64 b2], .agg #[.int .i64 c0, .int .i64 c1, .int .i64 c2], .agg #[.int .i64 d0, .int .i64 d1, .int .i64 d2]] w fun e w' => e = .returned (.bool true) ∧ Below w.heap.size w w' :=
  lawAlong_of_dot dotOK a0 a1 a2 b0 b1 b2 c0 c1 c2 d0 d1 d2 w
end Go.Proofs.Ytikepklkjbohmaa
