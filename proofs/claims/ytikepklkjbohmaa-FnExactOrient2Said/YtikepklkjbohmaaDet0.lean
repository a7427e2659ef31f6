import Derived.Test.YtikepklkjbohmaaRow
import Derived.Test.YtikepklkjbohmaaOr3
namespace Go.Proofs.Ytikepklkjbohmaa
open Go.RowKit

/-- A row of two small fractions. -/
def RowAt (w : World) (g : Nat) (a b : Int) : Prop :=
  w.cell? ⟨g, 0, none⟩ = some (.int .i64 a) ∧ w.cell? ⟨g, 1, none⟩ = some (.int .i64 1) ∧ w.cell? ⟨g, 2, none⟩ = some (.slice none 0 0) ∧ w.cell? ⟨g, 3, none⟩ = some (.int .i64 b) ∧ w.cell? ⟨g, 4, none⟩ = some (.int .i64 1) ∧ w.cell? ⟨g, 5, none⟩ = some (.slice none 0 0)
theorem RowAt.lt {w : World} {g : Nat} {a b : Int} (h : RowAt w g a b) : g < w.heap.size := lt_of_cell h.1
theorem RowAt.below {w w' : World} {g : Nat} {a b : Int} (h : RowAt w g a b) {n : Nat} (hn : g < n) (hb : Below n w w') : RowAt w' g a b := by
  have k := fun j => cell_same (hb.block g hn) j
  exact ⟨by rw [k]; exact h.1, by rw [k]; exact h.2.1, by rw [k]; exact h.2.2.1, by rw [k]; exact h.2.2.2.1, by rw [k]; exact h.2.2.2.2.1, by rw [k]; exact h.2.2.2.2.2⟩
theorem RowAt.call {w w' : World} {g : Nat} {a b : Int} (h : RowAt w g a b) (hb : Below w.heap.size w w') : RowAt w' g a b := h.below h.lt hb

theorem l2Row_two (g : Nat) (a b : Int) (w : World) (hs : S1 g #[.int .i64 a, .int .i64 b] w) (ha : a.natAbs ≤ 134217728) (hb : b.natAbs ≤ 134217728) :
    Calls Try.prog 41 #[.slice (some ⟨g, 0, none⟩) 2 2, .bool false] w fun e w' => ∃ g' c, e = .returned (.slice (some ⟨g', 0, none⟩) 2 c) ∧ (RowAt w' g' a b ∧ 2 ≤ c ∧ c ≤ maxLen) ∧ Below w.heap.size w w' := by
  refine (l2Row_any g (fun j => if j = 0 then a else b) w ?_ ?_).mono ?_
  · intro j hj
    rw [hs.1 j]
    match j, hj with
    | 0, _ => rfl
    | 1, _ => rfl
  · intro j hj
    match j, hj with
    | 0, _ => exact ha
    | 1, _ => exact hb
  rintro e w' ⟨v, rfl, ho, hbel⟩
  rcases ho.2 with ⟨_, h0⟩ | ⟨g', cap, cur, rfl, _, hc, h2, h3, _, _⟩
  · omega
  · have hc := ho.cells (g := g') rfl
    refine ⟨g', cap, rfl, ⟨⟨?_, ?_, ?_, ?_, ?_, ?_⟩, h2, h3⟩, hbel⟩
    · simpa [Addr.add] using hc 0 (.int .i64 a) rfl
    · simpa [Addr.add] using hc 1 (.int .i64 1) rfl
    · simpa [Addr.add] using hc 2 (.slice none 0 0) rfl
    · simpa [Addr.add] using hc 3 (.int .i64 b) rfl
    · simpa [Addr.add] using hc 4 (.int .i64 1) rfl
    · simpa [Addr.add] using hc 5 (.slice none 0 0) rfl

/-- The determinant of two rows of two. -/
def DetOK : Prop := ∀ (M g1 g2 c1 c2 : Nat) (a b c d : Int) (w : World), w.cell? ⟨M, 0, none⟩ = some (.slice (some ⟨g1, 0, none⟩) 2 c1) → w.cell? ⟨M, 1, none⟩ = some (.slice (some ⟨g2, 0, none⟩) 2 c2) → (RowAt w g1 a b ∧ 2 ≤ c1 ∧ c1 ≤ maxLen) → (RowAt w g2 c d ∧ 2 ≤ c2 ∧ c2 ≤ maxLen) →
  (a.natAbs ≤ 134217728 ∧ b.natAbs ≤ 134217728 ∧ c.natAbs ≤ 134217728 ∧ d.natAbs ≤ 134217728) →
  Calls Try.prog 40 #[.slice (some ⟨M, 0, none⟩) 2 2] w fun e w' => ∃ p0 q0 s0 l0 c0, e = .returned (.agg #[.int .i64 p0, .int .i64 q0, .slice s0 l0 c0]) ∧ RIs w' (.agg #[.int .i64 p0, .int .i64 q0, .slice s0 l0 c0]) (a * d - c * b) 1 ∧ Below w.heap.size w w'
end Go.Proofs.Ytikepklkjbohmaa
