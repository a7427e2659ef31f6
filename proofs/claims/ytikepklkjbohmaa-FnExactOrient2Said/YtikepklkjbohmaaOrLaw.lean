import Derived.Test.YtikepklkjbohmaaDet2
import Derived.Test.YtikepklkjbohmaaSOr
namespace Go.Proofs.Ytikepklkjbohmaa
open Go.RowKit

def pick2 {α : Type} (a b : α) (j : Nat) : α := if j = 0 then a else b

theorem detOK : DetOK := by
  intro M g1 g2 c1 c2 a b c d w h0 h1 hr1 hr2 ⟨na, nb, nc, nd⟩
  have h := l2Det_two M (pick2 g1 g2) (pick2 c1 c2) (pick2 a c) (pick2 b d) w ⟨lt_of_cell h0, fun i hi => ?_⟩ (fun i hi => ?_)
  · have e : detS (pick2 a c) (pick2 b d) 2 = a * d - c * b := by
      show 0 + a * d + -(c * b) = a * d - c * b
      rw [Int.zero_add]; rfl
    rw [e] at h
    exact h
  · match i, hi with
    | 0, _ => exact ⟨h0, hr1⟩
    | 1, _ => exact ⟨h1, hr2⟩
  · match i, hi with
    | 0, _ => exact ⟨na, nb⟩
    | 1, _ => exact ⟨nc, nd⟩

theorem lawOr_walk (a0 a1 b0 b1 c0 c1 : Int) (w : World) :
    Calls Try.prog 5 #[.agg #[.int .i64 a0, .int .i64 a1], .agg #[.int .i64 b0, .int .i64 b1], .agg #[.int .i64 c0, .int .i64 c1]] w fun e w' => e = .returned (.bool true) ∧ Below w.heap.size w w' :=
  lawOr_of_det detOK a0 a1 b0 b1 c0 c1 w
end Go.Proofs.Ytikepklkjbohmaa
