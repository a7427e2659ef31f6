import Derived.Test.YtikepklkjbohmaaInter
namespace Go.Proofs.Ytikepklkjbohmaa
open Go.RowKit
section
variable {P : Program} {ops : Array Oper} {Q : Exit → Act → World → Prop} {S : World → Prop}

/-- Calls in a row, n of them, and two new variables that may come up anywhere between: whatever order is picked, one end. -/
theorem interleave2 (N n : Nat) (Z : Obj) (LST : Nat → Bool → Bool → Array Bool) (FRM : Nat → Value → Value → Act) (idx : Nat → Nat) (i1 i2 tail : Nat)
    (hr : ∀ k m1 m2, k ≤ n → (k < n ∨ m1 = false ∨ m2 = false) → Region.ready .any ops (LST k m1 m2) = (if k < n then [idx k] else []) ++ ((if m1 = true then [] else [i1]) ++ (if m2 = true then [] else [i2])))
    (hlc : ∀ k m1 m2, k < n → (LST k m1 m2).setIfInBounds (idx k) true = LST (k + 1) m1 m2)
    (hl1 : ∀ k m2, k ≤ n → (LST k false m2).setIfInBounds i1 true = LST k true m2)
    (hl2 : ∀ k m1, k ≤ n → (LST k m1 false).setIfInBounds i2 true = LST k m1 true)
    (hS : ∀ w w', S w → Below w.heap.size w w' → S w') (hN : ∀ w, S w → N ≤ w.heap.size)
    (hcall : ∀ k, k < n → ∀ t1 t2 w (K : Act → World → Prop), S w → (∀ w', Below w.heap.size w w' → K (FRM (k + 1) t1 t2) w') → wpOp P ops Q (idx k) K (FRM k t1 t2) w)
    (ha1 : ∀ k, k ≤ n → ∀ t2 w (K : Act → World → Prop), K (FRM k (.pointer (some ⟨w.heap.size, 0, none⟩)) t2) (w.alloc Z) → wpOp P ops Q i1 K (FRM k undef t2) w)
    (ha2 : ∀ k, k ≤ n → ∀ t1 w (K : Act → World → Prop), K (FRM k t1 (.pointer (some ⟨w.heap.size, 0, none⟩))) (w.alloc Z) → wpOp P ops Q i2 K (FRM k t1 undef) w)
    (fin : ∀ g1 g2 w, S w → w.heap[g1]? = some Z → w.heap[g2]? = some Z → N ≤ g1 → N ≤ g2 → g1 ≠ g2 →
      wpAnyH P .any ops Q S tail (LST n true true) (FRM n (.pointer (some ⟨g1, 0, none⟩)) (.pointer (some ⟨g2, 0, none⟩))) w) :
    ∀ (r k : Nat) (m1 m2 : Bool) (t1 t2 : Value) (g1 g2 : Nat) (w : World), k ≤ n → (n - k) + (!m1).toNat + (!m2).toNat = r → S w →
      At1 Z N m1 t1 g1 w → At1 Z N m2 t2 g2 w → (m1 = true → m2 = true → g1 ≠ g2) →
      wpAnyH P .any ops Q S (r + tail) (LST k m1 m2) (FRM k t1 t2) w := by
  intro r
  induction r with
  | zero =>
    intro k m1 m2 t1 t2 g1 g2 w hk hc hs h1 h2 d12
    have e1 : m1 = true := by cases m1 <;> simp at hc ⊢
    have e2 : m2 = true := by cases m2 <;> simp at hc ⊢
    subst e1 e2
    have ek : k = n := by simp at hc; omega
    subst ek
    obtain ⟨rfl, q1, n1⟩ := h1.1 rfl
    obtain ⟨rfl, q2, n2⟩ := h2.1 rfl
    rw [Nat.zero_add]
    exact fin g1 g2 w hs q1 q2 n1 n2 (d12 rfl rfl)
  | succ r ih =>
    intro k m1 m2 t1 t2 g1 g2 w hk hc hs h1 h2 d12
    have hne : k < n ∨ m1 = false ∨ m2 = false := by
      cases m1 <;> cases m2 <;> simp at hc ⊢; omega
    have hre := hr k m1 m2 hk hne
    rw [show r + 1 + tail = (r + tail) + 1 by omega]
    refine wpAnyH_all hre ?_ ?_
    · rcases hne with h | h | h
      · rw [if_pos h]; simp
      · subst h; simp
      · subst h; simp
    · intro i hi
      rw [List.mem_append, List.mem_append] at hi
      rcases hi with hi | hi | hi
      · by_cases hkn : k < n
        · rw [if_pos hkn, List.mem_singleton] at hi
          subst hi
          rw [hlc k m1 m2 hkn]
          refine hcall k hkn t1 t2 w _ hs (fun w' hb => ⟨hS w w' hs hb, ?_⟩)
          exact ih (k + 1) m1 m2 t1 t2 g1 g2 w' (by omega) (by omega) (hS w w' hs hb) (h1.below hb) (h2.below hb) d12
        · rw [if_neg hkn] at hi; cases hi
      · cases m1 with
        | true => simp at hi
        | false =>
          simp at hi
          subst hi
          have e := h1.2 rfl
          subst e
          rw [hl1 k m2 hk]
          have hb := Joins.below_alloc1 w Z
          refine ha1 k hk t2 w _ ⟨hS w _ hs hb, ?_⟩
          exact ih k true m2 _ t2 w.heap.size g2 _ hk (by simp at hc ⊢; omega) (hS w _ hs hb) (At1.new (hN w hs)) (h2.below hb)
            (fun _ hm => by have := lt_of_heap (h2.1 hm).2.1; omega)
      · cases m2 with
        | true => simp at hi
        | false =>
          simp at hi
          subst hi
          have e := h2.2 rfl
          subst e
          rw [hl2 k m1 hk]
          have hb := Joins.below_alloc1 w Z
          refine ha2 k hk t1 w _ ⟨hS w _ hs hb, ?_⟩
          exact ih k m1 true t1 _ g1 w.heap.size _ hk (by simp at hc ⊢; omega) (hS w _ hs hb) (h1.below hb) (At1.new (hN w hs))
            (fun hm _ => by have := lt_of_heap (h1.1 hm).2.1; omega)
end
end Go.Proofs.Ytikepklkjbohmaa
