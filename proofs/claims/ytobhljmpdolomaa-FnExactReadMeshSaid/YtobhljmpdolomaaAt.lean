import Derived.Test.YtobhljmpdolomaaQok
namespace Go.Proofs.Ytobhljmpdolomaa
open Go.RowKit

/-- A block's cells. -/
structure At (w : World) (b : Nat) (A : Array Value) : Prop where
  c : ∀ j, w.cell? ⟨b, j, none⟩ = A[j]?
  fz : ∀ j, w.frozen? ⟨b, j, none⟩ = false
  sz : b < w.heap.size
theorem At.below {w w' : World} {b : Nat} {A : Array Value} (h : At w b A) {n : Nat} (hb : Below n w w') (hn : b < n) : At w' b A :=
  ⟨fun j => by rw [hb.cell (p := ⟨b, j, none⟩) hn]; exact h.c j, fun j => by rw [hb.frozen (p := ⟨b, j, none⟩) hn]; exact h.fz j, Nat.lt_of_lt_of_le h.sz hb.size⟩
theorem At.other {w : World} {b : Nat} {A : Array Value} (h : At w b A) {g : Nat} (hg : b ≠ g) (j : Nat) (v : Value) : At (w.setCell ⟨g, j, none⟩ v) b A :=
  ⟨fun i => by have := h.c i; go_simp, fun i => by have := h.fz i; go_simp, by simpa using h.sz⟩
theorem At.set6_0 {w : World} {b : Nat} {x0 x1 x2 x3 x4 x5 : Value} (h : At w b #[x0, x1, x2, x3, x4, x5]) (y0 y1 : Value) : At ((w.setCell ⟨b, 0, none⟩ y0).setCell ⟨b, 1, none⟩ y1) b #[y0, y1, x2, x3, x4, x5] := by
  obtain ⟨c, fz, sz⟩ := h
  have c0 := c 0
  have c1 := c 1
  have c2 := c 2
  have c3 := c 3
  have c4 := c 4
  have c5 := c 5
  refine ⟨fun j => ?_, fun j => by have := fz j; go_simp, by simpa using sz⟩
  match j with
  | 0 => go_simp
  | 1 => go_simp
  | 2 => go_simp
  | 3 => go_simp
  | 4 => go_simp
  | 5 => go_simp
  | j + 6 => have := c (j + 6); go_simp
theorem At.set6_2 {w : World} {b : Nat} {x0 x1 x2 x3 x4 x5 : Value} (h : At w b #[x0, x1, x2, x3, x4, x5]) (y0 y1 : Value) : At ((w.setCell ⟨b, 2, none⟩ y0).setCell ⟨b, 3, none⟩ y1) b #[x0, x1, y0, y1, x4, x5] := by
  obtain ⟨c, fz, sz⟩ := h
  have c0 := c 0
  have c1 := c 1
  have c2 := c 2
  have c3 := c 3
  have c4 := c 4
  have c5 := c 5
  refine ⟨fun j => ?_, fun j => by have := fz j; go_simp, by simpa using sz⟩
  match j with
  | 0 => go_simp
  | 1 => go_simp
  | 2 => go_simp
  | 3 => go_simp
  | 4 => go_simp
  | 5 => go_simp
  | j + 6 => have := c (j + 6); go_simp
theorem At.set6_4 {w : World} {b : Nat} {x0 x1 x2 x3 x4 x5 : Value} (h : At w b #[x0, x1, x2, x3, x4, x5]) (y0 y1 : Value) : At ((w.setCell ⟨b, 4, none⟩ y0).setCell ⟨b, 5, none⟩ y1) b #[x0, x1, x2, x3, y0, y1] := by
  obtain ⟨c, fz, sz⟩ := h
  have c0 := c 0
  have c1 := c 1
  have c2 := c 2
  have c3 := c 3
  have c4 := c 4
  have c5 := c 5
  refine ⟨fun j => ?_, fun j => by have := fz j; go_simp, by simpa using sz⟩
  match j with
  | 0 => go_simp
  | 1 => go_simp
  | 2 => go_simp
  | 3 => go_simp
  | 4 => go_simp
  | 5 => go_simp
  | j + 6 => have := c (j + 6); go_simp
theorem At.set8_0 {w : World} {b : Nat} {x0 x1 x2 x3 x4 x5 x6 x7 : Value} (h : At w b #[x0, x1, x2, x3, x4, x5, x6, x7]) (y0 y1 : Value) : At ((w.setCell ⟨b, 0, none⟩ y0).setCell ⟨b, 1, none⟩ y1) b #[y0, y1, x2, x3, x4, x5, x6, x7] := by
  obtain ⟨c, fz, sz⟩ := h
  have c0 := c 0
  have c1 := c 1
  have c2 := c 2
  have c3 := c 3
  have c4 := c 4
  have c5 := c 5
  have c6 := c 6
  have c7 := c 7
  refine ⟨fun j => ?_, fun j => by have := fz j; go_simp, by simpa using sz⟩
  match j with
  | 0 => go_simp
  | 1 => go_simp
  | 2 => go_simp
  | 3 => go_simp
  | 4 => go_simp
  | 5 => go_simp
  | 6 => go_simp
  | 7 => go_simp
  | j + 8 => have := c (j + 8); go_simp
theorem At.set8_2 {w : World} {b : Nat} {x0 x1 x2 x3 x4 x5 x6 x7 : Value} (h : At w b #[x0, x1, x2, x3, x4, x5, x6, x7]) (y0 y1 : Value) : At ((w.setCell ⟨b, 2, none⟩ y0).setCell ⟨b, 3, none⟩ y1) b #[x0, x1, y0, y1, x4, x5, x6, x7] := by
  obtain ⟨c, fz, sz⟩ := h
  have c0 := c 0
  have c1 := c 1
  have c2 := c 2
  have c3 := c 3
  have c4 := c 4
  have c5 := c 5
  have c6 := c 6
  have c7 := c 7
  refine ⟨fun j => ?_, fun j => by have := fz j; go_simp, by simpa using sz⟩
  match j with
  | 0 => go_simp
  | 1 => go_simp
  | 2 => go_simp
  | 3 => go_simp
  | 4 => go_simp
  | 5 => go_simp
  | 6 => go_simp
  | 7 => go_simp
  | j + 8 => have := c (j + 8); go_simp
theorem At.set8_4 {w : World} {b : Nat} {x0 x1 x2 x3 x4 x5 x6 x7 : Value} (h : At w b #[x0, x1, x2, x3, x4, x5, x6, x7]) (y0 y1 : Value) : At ((w.setCell ⟨b, 4, none⟩ y0).setCell ⟨b, 5, none⟩ y1) b #[x0, x1, x2, x3, y0, y1, x6, x7] := by
  obtain ⟨c, fz, sz⟩ := h
  have c0 := c 0
  have c1 := c 1
  have c2 := c 2
  have c3 := c 3
  have c4 := c 4
  have c5 := c 5
  have c6 := c 6
  have c7 := c 7
  refine ⟨fun j => ?_, fun j => by have := fz j; go_simp, by simpa using sz⟩
  match j with
  | 0 => go_simp
  | 1 => go_simp
  | 2 => go_simp
  | 3 => go_simp
  | 4 => go_simp
  | 5 => go_simp
  | 6 => go_simp
  | 7 => go_simp
  | j + 8 => have := c (j + 8); go_simp
theorem At.set8_6 {w : World} {b : Nat} {x0 x1 x2 x3 x4 x5 x6 x7 : Value} (h : At w b #[x0, x1, x2, x3, x4, x5, x6, x7]) (y0 y1 : Value) : At ((w.setCell ⟨b, 6, none⟩ y0).setCell ⟨b, 7, none⟩ y1) b #[x0, x1, x2, x3, x4, x5, y0, y1] := by
  obtain ⟨c, fz, sz⟩ := h
  have c0 := c 0
  have c1 := c 1
  have c2 := c 2
  have c3 := c 3
  have c4 := c 4
  have c5 := c 5
  have c6 := c 6
  have c7 := c 7
  refine ⟨fun j => ?_, fun j => by have := fz j; go_simp, by simpa using sz⟩
  match j with
  | 0 => go_simp
  | 1 => go_simp
  | 2 => go_simp
  | 3 => go_simp
  | 4 => go_simp
  | 5 => go_simp
  | 6 => go_simp
  | 7 => go_simp
  | j + 8 => have := c (j + 8); go_simp
end Go.Proofs.Ytobhljmpdolomaa
