import Derived.Test.YtikepklkjbohmaaDot
namespace Go.Proofs.Ytikepklkjbohmaa
open Go.RowKit

/-- Sums of products. -/
def dotS (x y : Nat → Int) : Nat → Int
  | 0 => 0
  | k + 1 => dotS x y k + x k * y k
theorem mul_le54 {x y : Int} (hx : x.natAbs ≤ 134217728) (hy : y.natAbs ≤ 134217728) : (x * y).natAbs ≤ 18014398509481984 := by
  rw [Int.natAbs_mul]; have := Nat.mul_le_mul hx hy; omega
theorem dotS_le (x y : Nat → Int) : ∀ k, (∀ j, j < k → (x j).natAbs ≤ 134217728) → (∀ j, j < k → (y j).natAbs ≤ 134217728) → (dotS x y k).natAbs ≤ k * 18014398509481984
  | 0, _, _ => by simp [dotS]
  | k + 1, hx, hy => by
    have h1 := dotS_le x y k (fun j hj => hx j (by omega)) (fun j hj => hy j (by omega))
    have h2 := mul_le54 (hx k (by omega)) (hy k (by omega))
    unfold dotS
    omega

theorem l1rInt_small (x : Int) (w : World) (h : x.natAbs ≤ 2147483647) :
    Calls Try.prog 74 #[.int .i64 x] w fun e w' => e = .returned (.agg #[.int .i64 x, .int .i64 1, .slice none 0 0]) ∧ Below w.heap.size w w' :=
  (l1rInt_any x w (by omega) (by omega)).mono fun e w' ⟨v, he, hr, hb⟩ => by
    rcases hr with ⟨_, rfl⟩ | ⟨h0, _⟩
    · exact ⟨he, hb⟩
    · exact absurd ⟨h, by decide⟩ h0

/-- A running sum's place. -/
structure SumAt (w : World) (b : Nat) (p q : Int) (s : Option Addr) (l c : Nat) : Prop where
  c0 : w.cell? ⟨b, 0, none⟩ = some (.int .i64 p)
  c1 : w.cell? ⟨b, 1, none⟩ = some (.int .i64 q)
  c2 : w.cell? ⟨b, 2, none⟩ = some (.slice s l c)
  fz : ∀ j, w.frozen? ⟨b, j, none⟩ = false
  sz : b < w.heap.size
theorem SumAt.below {w w' : World} {b : Nat} {p q : Int} {s : Option Addr} {l c : Nat} (h : SumAt w b p q s l c) (hb : Below w.heap.size w w') : SumAt w' b p q s l c :=
  ⟨by rw [hb.cell (p := ⟨b, 0, none⟩) h.sz]; exact h.c0, by rw [hb.cell (p := ⟨b, 1, none⟩) h.sz]; exact h.c1, by rw [hb.cell (p := ⟨b, 2, none⟩) h.sz]; exact h.c2, fun j => by rw [hb.frozen (p := ⟨b, j, none⟩) h.sz]; exact h.fz j, Nat.lt_of_lt_of_le h.sz hb.size⟩
theorem SumAt.put {w : World} {b : Nat} {p q : Int} {s : Option Addr} {l c : Nat} (h : SumAt w b p q s l c) (p' q' : Int) (s' : Option Addr) (l' c' : Nat) :
    SumAt (((w.setCell ⟨b, 0, none⟩ (.int .i64 p')).setCell ⟨b, 1, none⟩ (.int .i64 q')).setCell ⟨b, 2, none⟩ (.slice s' l' c')) b p' q' s' l' c' := by
  obtain ⟨c0, c1, c2, fz, sz⟩ := h
  exact ⟨by go_simp, by go_simp, by go_simp, fun j => by have := fz j; go_simp, by simpa using sz⟩
theorem ResAt.set3 {w : World} {N : Nat} (h : ResAt w N) {b : Nat} (hb : N ≠ b) (u0 u1 u2 : Value) : ResAt (((w.setCell ⟨b, 0, none⟩ u0).setCell ⟨b, 1, none⟩ u1).setCell ⟨b, 2, none⟩ u2) N := by
  obtain ⟨c0, c1, c2, fz, sz⟩ := h
  exact ⟨by rw [cell_same (set3_other w b u0 u1 u2 N hb)]; exact c0, by rw [cell_same (set3_other w b u0 u1 u2 N hb)]; exact c1, by rw [cell_same (set3_other w b u0 u1 u2 N hb)]; exact c2, fun j => by have := fz j; go_simp, by simpa using sz⟩

/-- Two cells that are read. -/
abbrev S2c (g1 g2 k : Nat) (a b : Value) (w' : World) : Prop := w'.cell? ⟨g1, k, none⟩ = some a ∧ w'.cell? ⟨g2, k, none⟩ = some b ∧ g1 < w'.heap.size ∧ g2 < w'.heap.size
theorem S2c.call {g1 g2 k : Nat} {a b : Value} {w' w1 : World} (h : S2c g1 g2 k a b w') (hb : Below w'.heap.size w' w1) : S2c g1 g2 k a b w1 :=
  ⟨by rw [hb.cell (p := ⟨g1, k, none⟩) h.2.2.1]; exact h.1, by rw [hb.cell (p := ⟨g2, k, none⟩) h.2.2.2]; exact h.2.1, Nat.lt_of_lt_of_le h.2.2.1 hb.size, Nat.lt_of_lt_of_le h.2.2.2 hb.size⟩
theorem S2c.drew {g1 g2 k : Nat} {a b : Value} {w' : World} (h : S2c g1 g2 k a b w') : S2c g1 g2 k a b w'.drew := h.call (Below.refl _ _).drew
theorem S2c.set3 {g1 g2 k : Nat} {a b : Value} {w' : World} (h : S2c g1 g2 k a b w') {m : Nat} (h1 : g1 ≠ m) (h2 : g2 ≠ m) (u0 u1 u2 : Value) : S2c g1 g2 k a b (((w'.setCell ⟨m, 0, none⟩ u0).setCell ⟨m, 1, none⟩ u1).setCell ⟨m, 2, none⟩ u2) :=
  ⟨by rw [cell_same (set3_other w' m u0 u1 u2 g1 h1)]; exact h.1, by rw [cell_same (set3_other w' m u0 u1 u2 g2 h2)]; exact h.2.1, by simpa using h.2.2.1, by simpa using h.2.2.2⟩
end Go.Proofs.Ytikepklkjbohmaa
