import Derived.Test.YtgcgoehmgaokkaaDoorPtSp
import Derived.Test.YtgcgoehmgaokkaaDoorPtMark2
namespace Go.Proofs.YtgcgoehmgaokkaaDoor
open Go.RowKit

/-- The answer of PartsOf. -/
def ansP (p : Int) (n : Nat) (R : Nat → Int) : List (List Int) := if skok p n R = true then groups p.toNat (labI R n) else []

theorem skok_bounds {p : Int} {n : Nat} {R : Nat → Int} (h : skok p n R = true) : 1 ≤ p ∧ p ≤ 8 ∧ n ≤ 16 := by
  unfold skok at h
  simp only [Bool.and_eq_true, decide_eq_true_eq] at h
  omega
theorem skok_rules {p : Int} {n : Nat} {R : Nat → Int} (h : skok p n R = true) : ∀ k, k < n → rok p R k = true := by
  unfold skok at h
  simp only [Bool.and_eq_true, List.all_eq_true, List.mem_range] at h
  exact h.2
theorem grp_lenP (p : Nat) (F : Nat → Int) (q : Int) : (grp p F q).length ≤ p := by
  unfold grp
  rw [List.length_map]
  exact Nat.le_trans (List.length_filter_le _ _) (by simp)
theorem ansP_len (p : Int) (n : Nat) (R : Nat → Int) : (ansP p n R).length ≤ 8 := by
  unfold ansP
  split
  · rename_i h
    have := skok_bounds h
    unfold groups
    refine Nat.le_trans (List.length_filter_le _ _) ?_
    simp
    omega
  · simp
theorem ansP_each (p : Int) (n : Nat) (R : Nat → Int) (j : Nat) : ((ansP p n R).getD j []).length ≤ 8 := by
  by_cases hj : j < (ansP p n R).length
  · rw [List.getD_eq_getElem?_getD, List.getElem?_eq_getElem hj]
    have hm : (ansP p n R)[j] ∈ ansP p n R := List.getElem_mem hj
    revert hm
    generalize (ansP p n R)[j] = l
    intro hm
    unfold ansP at hm
    split at hm
    · rename_i h
      have := skok_bounds h
      unfold groups at hm
      obtain ⟨q, _, rfl⟩ := List.mem_map.1 (List.mem_filter.1 hm).1
      exact Nat.le_trans (grp_lenP _ _ _) (by omega)
    · cases hm
  · rw [List.getD_eq_getElem?_getD, List.getElem?_eq_none (by omega)]
    simp
theorem LL.nil (w : World) (base : Nat) (ao : Option Addr) (L : Nat → List Int) : LL w base ao 0 L 0 (fun _ => 0) :=
  ⟨fun h => absurd h (by omega), fun j h => absurd h (by omega), fun j h => absurd h (by omega), fun i j h => absurd h (by omega)⟩

theorem implPartsOf_no (p : Int) (n cap : Nat) (ao : Option Addr) (R : Nat → Int) (w : World) (hn : n ≤ 1048576) (hr : Rd w 9 ao n R) (ht : RTab w) (hok : skok p n R = false) :
    Calls Tryd.prog 12 #[.agg #[.int .i64 p, .slice ao n cap]] w fun e w' => (∃ ao' c, e = .returned (.tuple #[.slice ao' 0 c, .bool false])) ∧ Below w.heap.size w w' := by
  have HSk : Hid (skok p n R = false) := hok
  have HV0 : Hid (Rd (w.alloc (.cells #[.int .i64 p, .slice ao n cap] 29)) 9 ao n R) := Rd.below hr (Joins.below_alloc1 _ _) (Nat.le_refl _)
  have HT0 : Hid (RTab (w.alloc (.cells #[.int .i64 p, .slice ao n cap] 29))) := ht.below (Joins.below_alloc1 _ _)
  clear hr ht hok
  go_enter Tryd.func12, Tryd.ntmps12
  go_wp2_with fail
  refine (implSketchOk p n cap ao R _ hn HV0.out HT0.out).mono ?_
  rintro e w1 ⟨rfl, hb1⟩
  rw [HSk.out]
  have HB1 : Hid (Below w.heap.size w w1) := (Joins.below_alloc1 _ _).trans (hb1.mono (by simp))
  clear hb1 HV0 HT0
  go_wp2
  go_ret2
  exact ⟨⟨_, _, rfl⟩, HB1.out⟩

theorem specPartsOf_no (p : Int) (n cap : Nat) (ao : Option Addr) (R : Nat → Int) (w : World) (hn : n ≤ 1048576) (hr : Rd w 9 ao n R) (hok : skok p n R = false) :
    Calls Tryd.prog 11 #[.agg #[.int .i64 p, .slice ao n cap]] w fun e w' => (∃ ao' c, e = .returned (.tuple #[.slice ao' 0 c, .bool false])) ∧ Below w.heap.size w w' := by
  have HSk : Hid (skok p n R = false) := hok
  have HV0 : Hid (Rd (w.alloc (.cells #[.int .i64 p, .slice ao n cap] 29)) 9 ao n R) := Rd.below hr (Joins.below_alloc1 _ _) (Nat.le_refl _)
  clear hr hok
  go_enter Tryd.func11, Tryd.ntmps11
  go_wp2_with fail
  refine (specSketchOk_any p n cap ao R _ hn HV0.out).mono ?_
  rintro e w1 ⟨rfl, hb1⟩
  rw [HSk.out]
  have HB1 : Hid (Below w.heap.size w w1) := (Joins.below_alloc1 _ _).trans (hb1.mono (by simp))
  clear hb1 HV0
  go_wp2
  go_ret2
  exact ⟨⟨_, _, rfl⟩, by first | exact HB1.out | exact HB1.out.alloc HB1.out.size _⟩

theorem implPartsOf_any (p : Int) (n cap : Nat) (ao : Option Addr) (R : Nat → Int) (w : World) (hn : n ≤ 1048576) (hr : Rd w 9 ao n R) (ht : RTab w) :
    Calls Tryd.prog 12 #[.agg #[.int .i64 p, .slice ao n cap]] w fun e w' => ∃ ao' b c hh, e = .returned (.tuple #[.slice ao' (ansP p n R).length c, .bool (skok p n R)]) ∧ LL w' w.heap.size ao' (ansP p n R).length (fun j => (ansP p n R).getD j []) b hh ∧ Below w.heap.size w w' := by
  cases hok : skok p n R
  · have e : ansP p n R = [] := by unfold ansP; rw [hok]; rfl
    rw [e]
    exact (implPartsOf_no p n cap ao R w hn hr ht hok).mono fun e w' ⟨⟨a, c, he⟩, hb⟩ => ⟨a, 0, c, fun _ => 0, he, LL.nil _ _ _ _, hb⟩
  · obtain ⟨P, rfl⟩ : ∃ P : Nat, p = P := ⟨p.toNat, by have := skok_bounds hok; omega⟩
    have e : ansP P n R = groups P (labI R n) := by unfold ansP; rw [if_pos hok]; rfl
    rw [e]
    exact (implPartsOf_yes P n cap ao R w hn hr ht hok).mono fun e w' ⟨b, c, hh, he, hl, hb⟩ => ⟨_, b, c, hh, he, hl, hb⟩

theorem specPartsOf_any (p : Int) (n cap : Nat) (ao : Option Addr) (R : Nat → Int) (w : World) (hn : n ≤ 1048576) (hr : Rd w 9 ao n R) :
    Calls Tryd.prog 11 #[.agg #[.int .i64 p, .slice ao n cap]] w fun e w' => ∃ ao' b c hh, e = .returned (.tuple #[.slice ao' (ansP p n R).length c, .bool (skok p n R)]) ∧ LL w' w.heap.size ao' (ansP p n R).length (fun j => (ansP p n R).getD j []) b hh ∧ Below w.heap.size w w' := by
  cases hok : skok p n R
  · have e : ansP p n R = [] := by unfold ansP; rw [hok]; rfl
    rw [e]
    exact (specPartsOf_no p n cap ao R w hn hr hok).mono fun e w' ⟨⟨a, c, he⟩, hb⟩ => ⟨a, 0, c, fun _ => 0, he, LL.nil _ _ _ _, hb⟩
  · obtain ⟨P, rfl⟩ : ∃ P : Nat, p = P := ⟨p.toNat, by have := skok_bounds hok; omega⟩
    have e : ansP P n R = groupsS P (labS R n) := by
      unfold ansP
      rw [if_pos hok]
      exact (same_lab (skok_rules hok) n (Nat.le_refl _)).groups_eq
    rw [e]
    exact (specPartsOf_yes P n cap ao R w hn hr hok).mono fun e w' ⟨b, c, hh, he, hl, hb⟩ => ⟨_, b, c, hh, he, hl, hb⟩

theorem markSketch_any (p : Int) (n g : Nat) (f : Nat → Value) (w : World) (hn : n ≤ 1048576) (hr : w.rowIs g 56 (n * 9) f) :
    Calls Tryd.prog 14 #[.agg #[.int .i64 p, .slice (some ⟨g, 0, none⟩) n n], .int .i64 1] w fun e w' => e = .returned (.int .i64 (1 + 9 * n)) ∧ w.grownBy w' (some g) := by
  have HG : Hid ((w.alloc (.cells #[.int .i64 p, .slice (some ⟨g, 0, none⟩) n n] 29)).rowIs g 56 (n * 9) f) := hr.alloc _
  clear hr
  go_enter Tryd.func14, Tryd.ntmps14
  go_wp2_with fail
  refine (markRuleS_any n g 1 f _ hn (by omega) HG.out).mono ?_
  rintro e w1 ⟨rfl, _, hg1⟩
  have HB : Hid (w.grownBy w1 (some g)) := by
    have hs := hg1.size
    exact ⟨hg1.os, hg1.tape, hg1.output, by simp at hs; omega, fun k hk hne => by rw [hg1.block k (by simp; omega) hne, Deep.blk_alloc_lt _ _ _ hk]⟩
  clear hg1 HG
  go_wp2
  go_ret
  exact ⟨rfl, HB.out⟩
end Go.Proofs.YtgcgoehmgaokkaaDoor
