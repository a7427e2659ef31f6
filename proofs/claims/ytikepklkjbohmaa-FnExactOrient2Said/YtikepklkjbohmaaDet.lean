import Derived.Test.YtikepklkjbohmaaDet0
namespace Go.Proofs.Ytikepklkjbohmaa
open Go.RowKit

set_option maxHeartbeats 400000 in
theorem l2Det_one (b g c c2 : Nat) (y : Int) (w : World) (hb : w.cell? ⟨b, 0, none⟩ = some (.slice (some ⟨g, 3, none⟩) 1 c2)) (h0 : w.cell? ⟨g, 3, none⟩ = some (.int .i64 y)) (h1 : w.cell? ⟨g, 4, none⟩ = some (.int .i64 1)) (h2 : w.cell? ⟨g, 5, none⟩ = some (.slice none 0 0)) :
    Calls Try.prog 40 #[.slice (some ⟨b, 0, none⟩) 1 c] w fun e w' => e = .returned (.agg #[.int .i64 y, .int .i64 1, .slice none 0 0]) ∧ Below w.heap.size w w' := by
  have hbl : b < w.heap.size := lt_of_cell hb
  have hgl : g < w.heap.size := lt_of_cell h0
  go_enter Try.func40, Try.ntmps40
  go_wp2
  exact bodyPost_ret (v := .agg #[.int .i64 y, .int .i64 1, .slice none 0 0]) (by simp [results, Try.results40, go_sem]) rfl ⟨rfl, Joins.below_alloc1 _ _⟩
end Go.Proofs.Ytikepklkjbohmaa
