import Derived.Test.YtikepklkjbohmaaInter
namespace Go.Proofs.Ytikepklkjbohmaa
open Go.RowKit
section
variable {P : Program} {ops : Array Oper} {Q : Exit → Act → World → Prop} {S : World → Prop}

/-- Operations in a row, n of them, and one new variable that may come up anywhere between. -/
theorem interleave1 (N n : Nat) (Z : Obj) (LST : Nat → Bool → Array Bool) (FRM : Nat → Value → Act) (idx : Nat → Nat) (i1 tail : Nat)
    (hr : ∀ k m1, k ≤ n → (k < n ∨ m1 = false) → Region.ready .any ops (LST k m1) = (if k < n then [idx k] else []) ++ (if m1 = true then [] else [i1]))
    (hlc : ∀ k m1, k < n → (LST k m1).setIfInBounds (idx k) true = LST (k + 1) m1)
    (hl1 : ∀ k, k ≤ n → (LST k false).setIfInBounds i1 true = LST k true)
    (hS : ∀ w w', S w → Below w.heap.size w w' → S w') (hN : ∀ w, S w → N ≤ w.heap.size)
    (hcall : ∀ k, k < n → ∀ t1 w (K : Act → World → Prop), S w → (∀ w', Below w.heap.size w w' → K (FRM (k + 1) t1) w') → wpOp P ops Q (idx k) K (FRM k t1) w)
    (ha1 : ∀ k, k ≤ n → ∀ w (K : Act → World → Prop), K (FRM k (.pointer (some ⟨w.heap.size, 0, none⟩))) (w.alloc Z) → wpOp P ops Q i1 K (FRM k undef) w)
    (fin : ∀ g1 w, S w → w.heap[g1]? = some Z → N ≤ g1 → wpAnyH P .any ops Q S tail (LST n true) (FRM n (.pointer (some ⟨g1, 0, none⟩))) w) :
    ∀ (r k : Nat) (m1 : Bool) (t1 : Value) (g1 : Nat) (w : World), k ≤ n → (n - k) + (!m1).toNat = r → S w → At1 Z N m1 t1 g1 w → wpAnyH P .any ops Q S (r + tail) (LST k m1) (FRM k t1) w := by
  intro r
  induction r with
  | zero =>
    intro k m1 t1 g1 w hk hc hs h1
    have e1 : m1 = true := by cases m1 <;> simp at hc ⊢
    subst e1
    have ek : k = n := by simp at hc; omega
    subst ek
    obtain ⟨rfl, q1, n1⟩ := h1.1 rfl
    rw [Nat.zero_add]
    exact fin g1 w hs q1 n1
  | succ r ih =>
    intro k m1 t1 g1 w hk hc hs h1
    have hne : k < n ∨ m1 = false := by
      cases m1 <;> simp at hc ⊢; omega
    have hre := hr k m1 hk hne
    rw [show r + 1 + tail = (r + tail) + 1 by omega]
    refine wpAnyH_all hre ?_ ?_
    · rcases hne with h | h
      · rw [if_pos h]; simp
      · subst h; simp
    · intro i hi
      rw [List.mem_append] at hi
      rcases hi with hi | hi
      · by_cases hkn : k < n
        · rw [if_pos hkn, List.mem_singleton] at hi
          subst hi
          rw [hlc k m1 hkn]
          refine hcall k hkn t1 w _ hs (fun w' hb => ⟨hS w w' hs hb, ?_⟩)
          exact ih (k + 1) m1 t1 g1 w' (by omega) (by omega) (hS w w' hs hb) (h1.below hb)
        · rw [if_neg hkn] at hi; cases hi
      · cases m1 with
        | true => simp at hi
        | false =>
          simp at hi
          subst hi
          have e := h1.2 rfl
          subst e
          rw [hl1 k hk]
          have hb := Joins.below_alloc1 w Z
          refine ha1 k hk w _ ⟨hS w _ hs hb, ?_⟩
          exact ih k true _ w.heap.size _ hk (by simp at hc ⊢; omega) (hS w _ hs hb) (At1.new (hN w hs))
end
end Go.Proofs.Ytikepklkjbohmaa
