import Derived.Test.YtgcgoehmgaokkaaDoorSkNm
namespace Go.Proofs.YtgcgoehmgaokkaaDoor
open Go.RowKit

/-- The table of what a kind of rule names, cell by cell: so many positions, so many numbers. -/
def ruleTab : List Int := [0, 0, 1, 2, 1, 1, 1, 1, 2, 2, 2, 1, 2, 1, 2, 0, 3, 0, 2, 2, 4, 0, 3, 1]
def tabv (k : Nat) : Int := ruleTab.getD k 0
/-- The table stands. -/
structure RTab (w : World) : Prop where
  lt : 0 < w.heap.size
  c : ∀ k, k < 24 → w.cell? ⟨0, k, none⟩ = some (.int .i64 (tabv k))
theorem RTab.below {w w' : World} (h : RTab w) (hb : Below w.heap.size w w') : RTab w' :=
  ⟨Nat.lt_of_lt_of_le h.lt hb.size, fun k hk => (hb.cell (p := ⟨0, k, none⟩) h.lt).trans (h.c k hk)⟩
theorem nm_pos {k j : Nat} (h1 : 1 ≤ k) (h2 : k ≤ 11) (hj : j < 4) : nm (k : Int) j = decide ((j : Int) < tabv (k * 2)) := by
  have hk : k = 1 ∨ k = 2 ∨ k = 3 ∨ k = 4 ∨ k = 5 ∨ k = 6 ∨ k = 7 ∨ k = 8 ∨ k = 9 ∨ k = 10 ∨ k = 11 := by omega
  have hj' : j = 0 ∨ j = 1 ∨ j = 2 ∨ j = 3 := by omega
  rcases hk with rfl | rfl | rfl | rfl | rfl | rfl | rfl | rfl | rfl | rfl | rfl <;> rcases hj' with rfl | rfl | rfl | rfl <;> decide
theorem nm_num {k j : Nat} (h1 : 1 ≤ k) (h2 : k ≤ 11) (hj : j < 2) : nm (k : Int) (4 + j) = decide ((j : Int) < tabv (k * 2 + 1)) := by
  have hk : k = 1 ∨ k = 2 ∨ k = 3 ∨ k = 4 ∨ k = 5 ∨ k = 6 ∨ k = 7 ∨ k = 8 ∨ k = 9 ∨ k = 10 ∨ k = 11 := by omega
  have hj' : j = 0 ∨ j = 1 := by omega
  rcases hk with rfl | rfl | rfl | rfl | rfl | rfl | rfl | rfl | rfl | rfl | rfl <;> rcases hj' with rfl | rfl <;> decide
theorem qok_zero (y : Int) : qok 0 y = decide (y = 1) := by
  unfold qok gcdOne
  by_cases h : y = 1
  · subst h; decide
  · rw [decide_eq_false h]
    split
    · rename_i hy
      rw [decide_eq_false_iff_not]
      simp
      omega
    · rfl
end Go.Proofs.YtgcgoehmgaokkaaDoor
