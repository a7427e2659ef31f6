import Derived.Test.YtgcgoehmgaokkaaDoorSk0
namespace Go.Proofs.YtgcgoehmgaokkaaDoor
open Go.RowKit

/-- What a kind of rule names: the positions, then the numbers. -/
def skNames (k : Int) : Array Bool :=
  if k = 1 then #[true, false, false, false, true, true] else if k = 2 then #[true, false, false, false, true, false] else if k = 3 then #[true, false, false, false, true, false] else if k = 4 then #[true, true, false, false, true, true] else if k = 5 then #[true, true, false, false, true, false] else if k = 6 then #[true, true, false, false, true, false] else if k = 7 then #[true, true, false, false, false, false] else if k = 8 then #[true, true, true, false, false, false] else if k = 9 then #[true, true, false, false, true, true] else if k = 10 then #[true, true, true, true, false, false] else if k = 11 then #[true, true, true, false, true, false] else #[]
def nm (k : Int) (j : Nat) : Bool := (skNames k).getD j false
def isKind (k : Int) : Prop := 1 ≤ k ∧ k ≤ 11
instance (k : Int) : Decidable (isKind k) := inferInstanceAs (Decidable (_ ∧ _))

theorem row6 (w : World) (b0 b1 b2 b3 b4 b5 : Bool) (t : Nat) (f : Nat → Bool) (h : ∀ j, j < 6 → f j = #[b0, b1, b2, b3, b4, b5].getD j false) : (w.alloc (.cells #[.bool b0, .bool b1, .bool b2, .bool b3, .bool b4, .bool b5] t)).rowIs w.heap.size t 6 (fun j => .bool (f j)) :=
  ⟨_, Deep.blk_alloc_new _ _, by simp, fun i hi => by
    show _ = some (Value.bool (f i))
    rw [h i hi]
    match i, hi with
    | 0, _ => rfl
    | 1, _ => rfl
    | 2, _ => rfl
    | 3, _ => rfl
    | 4, _ => rfl
    | 5, _ => rfl⟩

/-- What l18Names answers. -/
def NamesOf (k : Int) (w w' : World) (v : Value) : Prop :=
  (isKind k ∧ ∃ g, v = .slice (some ⟨g, 0, none⟩) 6 6 ∧ w.heap.size ≤ g ∧ w'.rowIs g 4 6 (fun j => .bool (nm k j))) ∨ (¬ isKind k ∧ ∃ ao c, v = .slice ao 0 c)

set_option maxHeartbeats 2000000 in
theorem l18Names_any (k : Int) (w : World) :
    Calls Tryd.prog 23 #[.int .i64 k] w fun e w' => ∃ v, e = .returned v ∧ NamesOf k w w' v ∧ Below w.heap.size w w' := by
  by_cases h : isKind k
  · have hk : k = 1 ∨ k = 2 ∨ k = 3 ∨ k = 4 ∨ k = 5 ∨ k = 6 ∨ k = 7 ∨ k = 8 ∨ k = 9 ∨ k = 10 ∨ k = 11 := by unfold isKind at h; omega
    rcases hk with rfl | rfl | rfl | rfl | rfl | rfl | rfl | rfl | rfl | rfl | rfl
    all_goals
      go_enter Tryd.func23, Tryd.ntmps23
      go_wp2
      go_ret
      exact ⟨_, rfl, Or.inl ⟨h, _, rfl, Nat.le_refl _, row6 _ _ _ _ _ _ _ _ _ (fun j _ => rfl)⟩, Joins.below_alloc1 _ _⟩
  · have h' : ¬ isKind k := h
    unfold isKind at h
    have e1 : (k == 1) = false := beq_eq_false_iff_ne.2 (by omega)
    have e2 : (k == 2) = false := beq_eq_false_iff_ne.2 (by omega)
    have e3 : (k == 3) = false := beq_eq_false_iff_ne.2 (by omega)
    have e4 : (k == 4) = false := beq_eq_false_iff_ne.2 (by omega)
    have e5 : (k == 5) = false := beq_eq_false_iff_ne.2 (by omega)
    have e6 : (k == 6) = false := beq_eq_false_iff_ne.2 (by omega)
    have e7 : (k == 7) = false := beq_eq_false_iff_ne.2 (by omega)
    have e8 : (k == 8) = false := beq_eq_false_iff_ne.2 (by omega)
    have e9 : (k == 9) = false := beq_eq_false_iff_ne.2 (by omega)
    have e10 : (k == 10) = false := beq_eq_false_iff_ne.2 (by omega)
    have e11 : (k == 11) = false := beq_eq_false_iff_ne.2 (by omega)
    go_enter Tryd.func23, Tryd.ntmps23
    go_wp2
    go_ret
    exact ⟨_, rfl, Or.inr ⟨h', _, _, rfl⟩, Joins.below_alloc1 _ _⟩
end Go.Proofs.YtgcgoehmgaokkaaDoor
