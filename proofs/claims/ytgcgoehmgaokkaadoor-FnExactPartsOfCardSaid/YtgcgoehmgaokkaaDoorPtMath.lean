import Derived.Test.YtgcgoehmgaokkaaDoorSkTab
namespace Go.Proofs.YtgcgoehmgaokkaaDoor

/-- Labels of places: one and two become the lesser of them (the program); one becomes two (the specification). -/
def mgI (F : Nat → Int) (A B : Int) : Nat → Int := fun j => if F j = A ∨ F j = B then min A B else F j
def mgS (M : Nat → Int) (A B : Int) : Nat → Int := fun j => if M j = B then A else M j

/-- The program's labels are the least place of each group, and both tell the same groups. -/
structure Same (p : Nat) (F M : Nat → Int) : Prop where
  eqv : ∀ x y, x < p → y < p → (F x = F y ↔ M x = M y)
  lo : ∀ x, x < p → 0 ≤ F x ∧ F x ≤ x
  fix : ∀ x, x < p → F (F x).toNat = F x

theorem Same.start (p : Nat) : Same p (fun j => (j : Int)) (fun j => (j : Int)) :=
  ⟨fun _ _ _ _ => Iff.rfl, fun x _ => ⟨by omega, Int.le_refl _⟩, fun x _ => by simp⟩

theorem mgI_in {F : Nat → Int} {A B : Int} {j : Nat} (h : F j = A ∨ F j = B) : mgI F A B j = min A B := if_pos h
theorem mgI_out {F : Nat → Int} {A B : Int} {j : Nat} (h : ¬ (F j = A ∨ F j = B)) : mgI F A B j = F j := if_neg h

theorem Same.step {p : Nat} {F M : Nat → Int} (h : Same p F M) {a b : Nat} (ha : a < p) (hb : b < p) : Same p (mgI F (F a) (F b)) (mgS M (M a) (M b)) := by
  have hin : ∀ x, x < p → ((F x = F a ∨ F x = F b) ↔ (M x = M a ∨ M x = M b)) := fun x hx => by rw [h.eqv x a hx ha, h.eqv x b hx hb]
  have hS : ∀ x y, x < p → y < p → (mgS M (M a) (M b) x = mgS M (M a) (M b) y ↔ ((M x = M a ∨ M x = M b) ∧ (M y = M a ∨ M y = M b)) ∨ (¬ (M x = M a ∨ M x = M b) ∧ ¬ (M y = M a ∨ M y = M b) ∧ M x = M y)) := fun x y _ _ => by
    unfold mgS
    by_cases h1 : M x = M b
    · rw [if_pos h1]
      by_cases h2 : M y = M b
      · rw [if_pos h2]; omega
      · rw [if_neg h2]; omega
    · rw [if_neg h1]
      by_cases h2 : M y = M b
      · rw [if_pos h2]; omega
      · rw [if_neg h2]; omega
  have hm : ∀ x, ¬ (F x = F a ∨ F x = F b) → F x ≠ min (F a) (F b) := fun x hx e => hx (by omega)
  have hI : ∀ x y, x < p → y < p → (mgI F (F a) (F b) x = mgI F (F a) (F b) y ↔ ((F x = F a ∨ F x = F b) ∧ (F y = F a ∨ F y = F b)) ∨ (¬ (F x = F a ∨ F x = F b) ∧ ¬ (F y = F a ∨ F y = F b) ∧ F x = F y)) := fun x y _ _ => by
    by_cases h1 : F x = F a ∨ F x = F b
    · rw [mgI_in h1]
      by_cases h2 : F y = F a ∨ F y = F b
      · rw [mgI_in h2]
        exact ⟨fun _ => Or.inl ⟨h1, h2⟩, fun _ => rfl⟩
      · rw [mgI_out h2]
        exact ⟨fun e => absurd e.symm (hm y h2), fun e => by rcases e with e | e; exact absurd e.2 h2; exact absurd h1 e.1⟩
    · rw [mgI_out h1]
      by_cases h2 : F y = F a ∨ F y = F b
      · rw [mgI_in h2]
        exact ⟨fun e => absurd e (hm x h1), fun e => by rcases e with e | e; exact absurd e.1 h1; exact absurd h2 e.2.1⟩
      · rw [mgI_out h2]
        exact ⟨fun e => Or.inr ⟨h1, h2, e⟩, fun e => by rcases e with e | e; exact absurd e.1 h1; exact e.2.2⟩
  have la := h.lo a ha
  have lb := h.lo b hb
  have fa := h.fix a ha
  have fb := h.fix b hb
  refine ⟨fun x y hx hy => ?_, fun x hx => ?_, fun x hx => ?_⟩
  · rw [hI x y hx hy, hS x y hx hy, hin x hx, hin y hy, h.eqv x y hx hy]
  · have lx := h.lo x hx
    by_cases h1 : F x = F a ∨ F x = F b
    · rw [mgI_in h1]; omega
    · rw [mgI_out h1]; exact lx
  · have lx := h.lo x hx
    by_cases h1 : F x = F a ∨ F x = F b
    · rw [mgI_in h1]
      rcases Int.le_total (F a) (F b) with hle | hle
      · rw [Int.min_eq_left hle, mgI_in (by rw [fa]; exact Or.inl rfl), Int.min_eq_left hle]
      · rw [Int.min_eq_right hle, mgI_in (by rw [fb]; exact Or.inr rfl), Int.min_eq_right hle]
    · rw [mgI_out h1, mgI_out (by rw [h.fix x hx]; exact h1)]
      exact h.fix x hx

/-- The places with a label. -/
def grp (p : Nat) (F : Nat → Int) (q : Int) : List Int := ((List.range p).filter fun k => decide (F k = q)).map fun (k : Nat) => (k : Int)
/-- The groups, by their least places. -/
def groups (p : Nat) (F : Nat → Int) : List (List Int) := ((List.range p).map fun (q : Nat) => grp p F q).filter fun l => !l.isEmpty
/-- The groups as the specification gathers them. -/
def firstOf (p : Nat) (M : Nat → Int) (i : Nat) : Bool := (List.range p).all fun k => !decide (M k = M i) || decide (i ≤ k)
def groupsS (p : Nat) (M : Nat → Int) : List (List Int) := ((List.range p).filter (firstOf p M)).map fun i => grp p M (M i)

theorem grp_empty {p : Nat} {F : Nat → Int} {q : Int} : (grp p F q).isEmpty = true ↔ ∀ k, k < p → F k ≠ q := by
  unfold grp
  simp [List.isEmpty_iff, List.filter_eq_nil_iff]
theorem Same.first {p : Nat} {F M : Nat → Int} (h : Same p F M) {i : Nat} (hi : i < p) : firstOf p M i = true ↔ F i = i := by
  unfold firstOf
  rw [List.all_eq_true]
  constructor
  · intro ha
    have l := h.lo i hi
    have hk := ha (F i).toNat (List.mem_range.2 (by omega))
    have hf := (h.eqv (F i).toNat i (by omega) hi).1 (h.fix i hi)
    simp only [hf, decide_true, Bool.not_true, Bool.false_or, decide_eq_true_eq] at hk
    omega
  · intro e k hk
    have hk' := List.mem_range.1 hk
    by_cases hm : M k = M i
    · have := (h.eqv k i hk' hi).2 hm
      have l := h.lo k hk'
      have : i ≤ k := by omega
      simp [this]
    · simp [hm]
theorem Same.grp_eq {p : Nat} {F M : Nat → Int} (h : Same p F M) {i : Nat} (hi : i < p) (e : F i = i) : grp p M (M i) = grp p F i := by
  unfold grp
  congr 1
  apply List.filter_congr
  intro k hk
  have hk' := List.mem_range.1 hk
  rw [Bool.eq_iff_iff, decide_eq_true_eq, decide_eq_true_eq, ← h.eqv k i hk' hi, e]
theorem Same.groups_eq {p : Nat} {F M : Nat → Int} (h : Same p F M) : groups p F = groupsS p M := by
  unfold groups groupsS
  rw [List.filter_map]
  have h1 : (List.range p).filter ((fun l => !List.isEmpty l) ∘ fun (q : Nat) => grp p F q) = (List.range p).filter (firstOf p M) := by
    apply List.filter_congr
    intro q hq
    have hq' := List.mem_range.1 hq
    rw [Bool.eq_iff_iff, h.first hq']
    simp only [Function.comp, Bool.not_eq_true', Bool.eq_false_iff, ne_eq, grp_empty]
    constructor
    · intro hn
      have ⟨k, hk⟩ := Classical.not_forall.1 hn
      have ⟨hkp, hke⟩ := Classical.not_imp.1 hk
      have hke' : F k = q := Classical.not_not.1 hke
      have := h.fix k hkp
      rw [hke'] at this
      simpa using this
    · intro e hn
      exact hn q hq' e
  rw [h1]
  apply List.map_congr_left
  intro i hi
  have ⟨hi1, hi2⟩ := List.mem_filter.1 hi
  have hi' := List.mem_range.1 hi1
  exact (h.grp_eq hi' ((h.first hi').1 hi2)).symm
end Go.Proofs.YtgcgoehmgaokkaaDoor
