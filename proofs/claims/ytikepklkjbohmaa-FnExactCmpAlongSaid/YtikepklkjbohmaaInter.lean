import Derived.Deep.RegionHeld3
import Derived.WalkKit
import Derived.Lib.SmallJoins
namespace Go.Proofs.Ytikepklkjbohmaa
open Go.RowKit

/-- A place of a region's plan: done: a pointer to a new block; not yet: nothing. -/
def At1 (Z : Obj) (N : Nat) (m : Bool) (t : Value) (g : Nat) (w : World) : Prop := (m = true → t = .pointer (some ⟨g, 0, none⟩) ∧ w.heap[g]? = some Z ∧ N ≤ g) ∧ (m = false → t = undef)

theorem lt_of_heap {w : World} {g : Nat} {Z : Obj} (h : w.heap[g]? = some Z) : g < w.heap.size := by
  rcases Nat.lt_or_ge g w.heap.size with h1 | h1
  · exact h1
  · rw [Array.getElem?_eq_none h1] at h; cases h

theorem At1.below {Z : Obj} {N : Nat} {m : Bool} {t : Value} {g : Nat} {w w' : World} (h : At1 Z N m t g w) (hb : Below w.heap.size w w') : At1 Z N m t g w' :=
  ⟨fun hm => by obtain ⟨h1, h2, h3⟩ := h.1 hm; exact ⟨h1, by rw [hb.block g (lt_of_heap h2)]; exact h2, h3⟩, h.2⟩
theorem At1.new {Z : Obj} {N : Nat} {w : World} (hN : N ≤ w.heap.size) : At1 Z N true (.pointer (some ⟨w.heap.size, 0, none⟩)) w.heap.size (w.alloc Z) :=
  ⟨fun _ => ⟨rfl, (by show (w.heap.push Z)[w.heap.size]? = some Z; simp), hN⟩, fun h => (by cases h)⟩
theorem At1.none {Z : Obj} {N : Nat} {g : Nat} {w : World} : At1 Z N false undef g w := ⟨fun h => (by cases h), fun _ => rfl⟩

section
variable {P : Program} {ops : Array Oper} {Q : Exit → Act → World → Prop} {S : World → Prop}

/-- Calls in a row, n of them, and three new variables that may come up anywhere between: whatever order is picked, one end. -/
theorem interleave (N n : Nat) (Z : Obj) (LST : Nat → Bool → Bool → Bool → Array Bool) (FRM : Nat → Value → Value → Value → Act) (idx : Nat → Nat) (i1 i2 i3 tail : Nat)
    (hr : ∀ k m1 m2 m3, k ≤ n → (k < n ∨ m1 = false ∨ m2 = false ∨ m3 = false) → Region.ready .any ops (LST k m1 m2 m3) = (if k < n then [idx k] else []) ++ ((if m1 = true then [] else [i1]) ++ ((if m2 = true then [] else [i2]) ++ (if m3 = true then [] else [i3]))))
    (hlc : ∀ k m1 m2 m3, k < n → (LST k m1 m2 m3).setIfInBounds (idx k) true = LST (k + 1) m1 m2 m3)
    (hl1 : ∀ k m2 m3, k ≤ n → (LST k false m2 m3).setIfInBounds i1 true = LST k true m2 m3)
    (hl2 : ∀ k m1 m3, k ≤ n → (LST k m1 false m3).setIfInBounds i2 true = LST k m1 true m3)
    (hl3 : ∀ k m1 m2, k ≤ n → (LST k m1 m2 false).setIfInBounds i3 true = LST k m1 m2 true)
    (hS : ∀ w w', S w → Below w.heap.size w w' → S w') (hN : ∀ w, S w → N ≤ w.heap.size)
    (hcall : ∀ k, k < n → ∀ t1 t2 t3 w (K : Act → World → Prop), S w → (∀ w', Below w.heap.size w w' → K (FRM (k + 1) t1 t2 t3) w') → wpOp P ops Q (idx k) K (FRM k t1 t2 t3) w)
    (ha1 : ∀ k, k ≤ n → ∀ t2 t3 w (K : Act → World → Prop), K (FRM k (.pointer (some ⟨w.heap.size, 0, none⟩)) t2 t3) (w.alloc Z) → wpOp P ops Q i1 K (FRM k undef t2 t3) w)
    (ha2 : ∀ k, k ≤ n → ∀ t1 t3 w (K : Act → World → Prop), K (FRM k t1 (.pointer (some ⟨w.heap.size, 0, none⟩)) t3) (w.alloc Z) → wpOp P ops Q i2 K (FRM k t1 undef t3) w)
    (ha3 : ∀ k, k ≤ n → ∀ t1 t2 w (K : Act → World → Prop), K (FRM k t1 t2 (.pointer (some ⟨w.heap.size, 0, none⟩))) (w.alloc Z) → wpOp P ops Q i3 K (FRM k t1 t2 undef) w)
    (fin : ∀ g1 g2 g3 w, S w → w.heap[g1]? = some Z → w.heap[g2]? = some Z → w.heap[g3]? = some Z → N ≤ g1 → N ≤ g2 → N ≤ g3 → g1 ≠ g2 → g1 ≠ g3 → g2 ≠ g3 →
      wpAnyH P .any ops Q S tail (LST n true true true) (FRM n (.pointer (some ⟨g1, 0, none⟩)) (.pointer (some ⟨g2, 0, none⟩)) (.pointer (some ⟨g3, 0, none⟩))) w) :
    ∀ (r k : Nat) (m1 m2 m3 : Bool) (t1 t2 t3 : Value) (g1 g2 g3 : Nat) (w : World), k ≤ n → (n - k) + (!m1).toNat + (!m2).toNat + (!m3).toNat = r → S w →
      At1 Z N m1 t1 g1 w → At1 Z N m2 t2 g2 w → At1 Z N m3 t3 g3 w → (m1 = true → m2 = true → g1 ≠ g2) → (m1 = true → m3 = true → g1 ≠ g3) → (m2 = true → m3 = true → g2 ≠ g3) →
      wpAnyH P .any ops Q S (r + tail) (LST k m1 m2 m3) (FRM k t1 t2 t3) w := by
  intro r
  induction r with
  | zero =>
    intro k m1 m2 m3 t1 t2 t3 g1 g2 g3 w hk hc hs h1 h2 h3 d12 d13 d23
    have e1 : m1 = true := by cases m1 <;> simp at hc ⊢
    have e2 : m2 = true := by cases m2 <;> simp at hc ⊢
    have e3 : m3 = true := by cases m3 <;> simp at hc ⊢
    subst e1 e2 e3
    have ek : k = n := by simp at hc; omega
    subst ek
    obtain ⟨rfl, q1, n1⟩ := h1.1 rfl
    obtain ⟨rfl, q2, n2⟩ := h2.1 rfl
    obtain ⟨rfl, q3, n3⟩ := h3.1 rfl
    rw [Nat.zero_add]
    exact fin g1 g2 g3 w hs q1 q2 q3 n1 n2 n3 (d12 rfl rfl) (d13 rfl rfl) (d23 rfl rfl)
  | succ r ih =>
    intro k m1 m2 m3 t1 t2 t3 g1 g2 g3 w hk hc hs h1 h2 h3 d12 d13 d23
    have hne : k < n ∨ m1 = false ∨ m2 = false ∨ m3 = false := by
      cases m1 <;> cases m2 <;> cases m3 <;> simp at hc ⊢; omega
    have hre := hr k m1 m2 m3 hk hne
    rw [show r + 1 + tail = (r + tail) + 1 by omega]
    refine wpAnyH_all hre ?_ ?_
    · rcases hne with h | h | h | h
      · rw [if_pos h]; simp
      · subst h; simp
      · subst h; simp
      · subst h; simp
    · intro i hi
      rw [List.mem_append, List.mem_append, List.mem_append] at hi
      rcases hi with hi | hi | hi | hi
      · by_cases hkn : k < n
        · rw [if_pos hkn, List.mem_singleton] at hi
          subst hi
          rw [hlc k m1 m2 m3 hkn]
          refine hcall k hkn t1 t2 t3 w _ hs (fun w' hb => ⟨hS w w' hs hb, ?_⟩)
          exact ih (k + 1) m1 m2 m3 t1 t2 t3 g1 g2 g3 w' (by omega) (by omega) (hS w w' hs hb) (h1.below hb) (h2.below hb) (h3.below hb) d12 d13 d23
        · rw [if_neg hkn] at hi; cases hi
      · cases m1 with
        | true => simp at hi
        | false =>
          simp at hi
          subst hi
          have e := h1.2 rfl
          subst e
          rw [hl1 k m2 m3 hk]
          have hb := Joins.below_alloc1 w Z
          refine ha1 k hk t2 t3 w _ ⟨hS w _ hs hb, ?_⟩
          exact ih k true m2 m3 _ t2 t3 w.heap.size g2 g3 _ hk (by simp at hc ⊢; omega) (hS w _ hs hb) (At1.new (hN w hs)) (h2.below hb) (h3.below hb)
            (fun _ hm => by have := lt_of_heap (h2.1 hm).2.1; omega) (fun _ hm => by have := lt_of_heap (h3.1 hm).2.1; omega) d23
      · cases m2 with
        | true => simp at hi
        | false =>
          simp at hi
          subst hi
          have e := h2.2 rfl
          subst e
          rw [hl2 k m1 m3 hk]
          have hb := Joins.below_alloc1 w Z
          refine ha2 k hk t1 t3 w _ ⟨hS w _ hs hb, ?_⟩
          exact ih k m1 true m3 t1 _ t3 g1 w.heap.size g3 _ hk (by simp at hc ⊢; omega) (hS w _ hs hb) (h1.below hb) (At1.new (hN w hs)) (h3.below hb)
            (fun hm _ => by have := lt_of_heap (h1.1 hm).2.1; omega) d13 (fun _ hm => by have := lt_of_heap (h3.1 hm).2.1; omega)
      · cases m3 with
        | true => simp at hi
        | false =>
          simp at hi
          subst hi
          have e := h3.2 rfl
          subst e
          rw [hl3 k m1 m2 hk]
          have hb := Joins.below_alloc1 w Z
          refine ha3 k hk t1 t2 w _ ⟨hS w _ hs hb, ?_⟩
          exact ih k m1 m2 true t1 t2 _ g1 g2 w.heap.size _ hk (by simp at hc ⊢; omega) (hS w _ hs hb) (h1.below hb) (h2.below hb) (At1.new (hN w hs))
            d12 (fun hm _ => by have := lt_of_heap (h1.1 hm).2.1; omega) (fun hm _ => by have := lt_of_heap (h2.1 hm).2.1; omega)
end
end Go.Proofs.Ytikepklkjbohmaa
