import Derived.Test.YtgcgoehmgaokkaaDoorPtGrp
import Derived.Lib.SliceRun
import Derived.Lib.LazyBuf
import Derived.Deep.Upon
import Derived.Deep.CutRange
import Derived.Deep.LoopGhost
namespace Go.Proofs.YtgcgoehmgaokkaaDoor
open Go.RowKit

def vlen : Value → Nat
  | .slice _ n _ => n
  | _ => 0
/-- The values among the first j that are not empty. -/
def keep (V : Nat → Value) (j : Nat) : List Value := ((List.range j).filter fun q => decide (vlen (V q) ≠ 0)).map V
theorem keep_succ (V : Nat → Value) (j : Nat) : keep V (j + 1) = if vlen (V j) ≠ 0 then keep V j ++ [V j] else keep V j := by
  unfold keep
  rw [List.range_succ, List.filter_append, List.map_append]
  by_cases h : vlen (V j) ≠ 0
  · simp [h]
  · simp [h]
theorem keep_len (V : Nat → Value) (j : Nat) : (keep V j).length ≤ j := by
  unfold keep
  rw [List.length_map]
  exact Nat.le_trans (List.length_filter_le _ _) (by simp)
theorem keep_all {V : Nat → Value} {j : Nat} (h : ∀ q, q < j → vlen (V q) ≠ 0) : keep V j = (List.range j).map V := by
  unfold keep
  rw [List.filter_eq_self.2]
  intro q hq
  simpa using h q (List.mem_range.1 hq)

theorem isEmpty_any (a : Option Addr) (n c : Nat) (_hn : n ≤ 1048576) (w : World) : Calls Tryd.prog 34 #[.slice a n c] w fun e w' => e = .returned (.bool (decide (n = 0))) ∧ w' = w := by
  have h : ((n : Int) == 0) = decide (n = 0) := by rw [Bool.eq_iff_iff]; simp
  go_enter Tryd.func34, Tryd.ntmps34
  go_wp2
  go_ret
  exact ⟨by rw [← h]; rfl, rfl⟩

set_option maxHeartbeats 1000000 in
theorem firstEmpty_any (gg P : Nat) (V : Nat → Value) (w : World) (hP : P ≤ 8) (hr : w.rowIs gg 59 P V) (hV : ∀ q, q < P → ∃ a n c, V q = .slice a n c ∧ n ≤ 1048576) :
    Calls Tryd.prog 59 #[.slice (some ⟨gg, 0, none⟩) P P, .func (Fn.func 34) #[] #[]] w fun e w' => (∃ r : Int, e = .returned (.int .i64 r) ∧ ((r = -1 ∧ ∀ q, q < P → vlen (V q) ≠ 0) ∨ (∃ i : Nat, i < P ∧ r = i ∧ vlen (V i) = 0 ∧ ∀ q, q < i → vlen (V q) ≠ 0))) ∧ w' = w := by
  have HR : Hid (w.rowIs gg 59 P V) := hr
  have HV : Hid (∀ q, q < P → ∃ a n c, V q = .slice a n c ∧ n ≤ 1048576) := hV
  clear hr hV
  go_enter Tryd.func59, Tryd.ntmps59
  go_wp2
  go_loopw [8] (fun i wr => ∃ k : Nat, k ≤ P ∧ i = .int .i64 k ∧ Hid (∀ q, q < k → vlen (V q) ≠ 0) ∧ wr = w) (fun i _ => P - (intOf i).toNat)
  case atStart => exact ⟨0, Nat.zero_le _, rfl, fun j hj => absurd hj (Nat.not_lt_zero _), rfl⟩
  case round =>
    obtain ⟨k, hk, rfl, HK, rfl⟩ := hrel
    by_cases hlt : k < P
    · obtain ⟨a, n, c, hv, hn⟩ := HV.out k hlt
      have ck := HR.out.cell (i := k) hlt
      rw [hv] at ck
      by_cases hn0 : n = 0
      · have HE : Hid (vlen (V k) = 0) := by rw [hv]; exact hn0
        have hd : Hid (decide (n = 0) = true) := decide_eq_true hn0
        clear hv hn0
        go_wp2_with fail
        refine (isEmpty_any a n c hn _).mono ?_
        rintro e _ ⟨rfl, rfl⟩
        rw [hd.out]
        go_wp2
        go_ret
        exact ⟨⟨_, rfl, Or.inr ⟨k, hlt, rfl, HE.out, HK.out⟩⟩, rfl⟩
      · have HE : Hid (vlen (V k) ≠ 0) := by rw [hv]; exact hn0
        have hd : Hid (decide (n = 0) = false) := decide_eq_false hn0
        clear hv hn0
        go_wp2_with fail
        refine (isEmpty_any a n c hn _).mono ?_
        rintro e _ ⟨rfl, rfl⟩
        rw [hd.out]
        go_wp2
        go_roundw
        case rel => exact ⟨k + 1, by omega, by simp, fun q hq => by
          by_cases e : q = k
          · subst e; exact HE.out
          · exact HK.out q (by omega), by first | rfl | trivial⟩
        case measure => simp [intOf]; omega
    · go_wp2
      go_ret
      exact ⟨⟨_, rfl, Or.inl ⟨rfl, fun q hq => HK.out q (by omega)⟩⟩, rfl⟩

theorem zeroInts : ∀ w, (zeroValue 59).run Tryd.prog w = .ok (.slice none 0 0) w := fun _ => by kernel_rfl
/-- What DeleteFunc leaves in the row. -/
def Kept (gg P : Nat) (V : Nat → Value) (w w' : World) : Prop :=
  (∃ V', w'.rowIs gg 59 P V' ∧ ∀ j, j < (keep V P).length → V' j = (keep V P).getD j (.slice none 0 0)) ∧ (∀ k, k < w.heap.size → k ≠ gg → w'.heap[k]? = w.heap[k]?) ∧ Below gg w w'

set_option maxRecDepth 20000 in
set_option maxHeartbeats 4000000 in
theorem deleteFunc_any (gg P : Nat) (V : Nat → Value) (w : World) (hP : P ≤ 8) (hr : w.rowIs gg 59 P V) (hV : ∀ q, q < P → ∃ a n c, V q = .slice a n c ∧ n ≤ 1048576) :
    Calls Tryd.prog 33 #[.slice (some ⟨gg, 0, none⟩) P P, .func (Fn.func 34) #[] #[]] w fun e w' => e = .returned (.slice (some ⟨gg, 0, none⟩) (keep V P).length P) ∧ Kept gg P V w w' := by
  have HR : Hid (w.rowIs gg 59 P V) := hr
  have HV : Hid (∀ q, q < P → ∃ a n c, V q = .slice a n c ∧ n ≤ 1048576) := hV
  clear hr hV
  go_enter Tryd.func33, Tryd.ntmps33
  go_wp2_with fail
  refine (firstEmpty_any gg P V _ hP HR.out HV.out).mono ?_
  rintro e w1 ⟨⟨r, rfl, hr⟩, hw⟩
  rw [hw]
  clear hw
  rcases hr with ⟨rfl, hall⟩ | ⟨i0, hi0, rfl, hemp, hall⟩
  · have HK : Hid (keep V P = (List.range P).map V) := keep_all hall
    clear hall
    go_wp2
    go_ret
    refine ⟨by rw [HK.out]; simp, ⟨V, HR.out, fun j hj => ?_⟩, fun _ _ _ => rfl, Below.refl _ _⟩
    rw [HK.out] at hj ⊢
    simp at hj
    simp [List.getD_eq_getElem?_getD, hj]
  · have HK0 : Hid ((keep V (i0 + 1)).length = i0 ∧ ∀ j, j < i0 → (keep V (i0 + 1)).getD j (.slice none 0 0) = V j) := by
      unfold Hid
      rw [keep_succ, if_neg (by simp [hemp]), keep_all hall]
      refine ⟨by simp, fun j hj => by simp [List.getD_eq_getElem?_getD, hj]⟩
    clear hall hemp
    have HS : Hid (w.rowIs gg 59 P (fun x => if x < (keep V (i0 + 1)).length then (keep V (i0 + 1)).getD x (.slice none 0 0) else V x)) := HR.out.congr fun x _ => by
      by_cases h : x < (keep V (i0 + 1)).length
      · rw [if_pos h, HK0.out.2 x (by rw [HK0.out.1] at h; exact h)]
      · rw [if_neg h]
    have hi1 : ((i0 : Int) == -1) = false := by simp
    go_wp2
    go_loopg [5, 6] (P - (i0 + 1)) (fun gn i j wr => ∃ jj : Nat, jj ≤ P ∧ gn = P - jj ∧ j = .int .i64 (jj : Int) ∧ (keep V jj).length < jj ∧ i = .int .i64 ((keep V jj).length : Int) ∧ Hid (wr.rowIs gg 59 P (fun x => if x < (keep V jj).length then (keep V jj).getD x (.slice none 0 0) else V x)) ∧ Hid (∀ k, k < w.heap.size → k ≠ gg → wr.heap[k]? = w.heap[k]?) ∧ Hid (Below gg w wr))
    case atStart => exact ⟨i0 + 1, by omega, rfl, by simp, by rw [HK0.out.1]; omega, by rw [HK0.out.1], HS, fun _ _ _ => rfl, Below.refl _ _⟩
    case round =>
      clear HS
      obtain ⟨jj, hj, hgn, rfl, hlt, rfl, HS, HO, HB⟩ := hrel
      by_cases hjP : jj < P
      · obtain ⟨a, n, c, hv, hn⟩ := HV.out jj hjP
        have cj := HS.out.cell (i := jj) hjP
        rw [if_neg (by omega), hv] at cj
        have hjI : (jj : Int) < P := by omega
        by_cases hn0 : n = 0
        · have HKs : Hid (keep V (jj + 1) = keep V jj) := by unfold Hid; rw [keep_succ, if_neg (by rw [hv]; simp [vlen, hn0])]
          have hd : Hid (decide (n = 0) = true) := decide_eq_true hn0
          clear hv hn0
          go_wp2_with fail
          refine (isEmpty_any a n c hn _).mono ?_
          rintro e w2 ⟨rfl, hw2⟩
          rw [hd.out, hw2]
          clear hw2
          go_wp2
          go_roundg (P - (jj + 1))
          case measure => omega
          case rel => exact ⟨jj + 1, by omega, rfl, by simp, by rw [HKs.out]; omega, by rw [HKs.out], by rw [HKs.out]; exact HS, HO, HB⟩
        · have HKs : Hid (keep V (jj + 1) = keep V jj ++ [V jj]) := by unfold Hid; rw [keep_succ, if_pos (by rw [hv]; exact hn0)]
          have hd : Hid (decide (n = 0) = false) := decide_eq_false hn0
          have HVj : Hid (V jj = .slice a n c) := hv
          clear hv hn0
          obtain ⟨m, hm⟩ : ∃ m, m = (keep V jj).length := ⟨_, rfl⟩
          have HM : Hid ((keep V jj).length = m) := hm.symm
          rw [← hm] at hlt
          simp only [← hm]
          have cm := HS.out.cell (i := m) (by omega)
          have hfz := HS.out.frozen
          have hmI : (m : Int) < P := by omega
          clear hm
          go_wp2_with fail
          refine (isEmpty_any a n c hn _).mono ?_
          rintro e w2 ⟨rfl, hw2⟩
          rw [hd.out, hw2]
          clear hw2
          go_wp2
          go_roundg (P - (jj + 1))
          case measure => omega
          case rel =>
            refine ⟨jj + 1, by omega, rfl, by simp, by rw [HKs.out, List.length_append, HM.out]; simp; omega, by rw [HKs.out, List.length_append, HM.out]; simp, (HS.out.set m (.slice a n c)).congr fun x _ => ?_, fun k hk hkg => (heap_setCell_other _ _ _ _ hkg).trans (HO.out k hk hkg), HB.out.setCell (p := ⟨gg, m, none⟩) (Nat.le_refl _) _⟩
            have hM := HM.out
            rw [HKs.out, List.length_append, hM]
            by_cases e : x = m
            · subst e
              rw [if_pos rfl, if_pos (by simp), ← HVj.out]
              simp [List.getD_eq_getElem?_getD, hM]
            · rw [if_neg e]
              by_cases hl : x < m
              · rw [if_pos hl, if_pos (by simp; omega)]
                simp [List.getD_eq_getElem?_getD, List.getElem?_append_left, hM, hl]
              · rw [if_neg hl, if_neg (by simp; omega)]
      · have ejj : jj = P := by omega
        subst ejj
        have hclr : (Builtin.clear_ #[33] 0 #[.slice (some ⟨gg, (keep V jj).length, none⟩) (jj - (keep V jj).length) (jj - (keep V jj).length)]).run Tryd.prog wr = .ok (.tuple #[]) (wr.setCells gg (keep V jj).length (List.replicate (jj - (keep V jj).length) (.slice none 0 0))) :=
          Lib.run_clear_slice wr 33 59 0 (.slice none 0 0) Tryd.underlying33 zeroInts rfl rfl gg _ _ _ (by omega) (fun j hj => by rw [HS.out.cell (i := (keep V jj).length + j) (by omega)]; rfl) (fun j _ => HS.out.frozen _)
        have HZ : Hid ((wr.setCells gg (keep V jj).length (List.replicate (jj - (keep V jj).length) (.slice none 0 0))).rowIs gg 59 jj _) := Go.rowIs_setCells _ _ _ _ HS.out
        go_wp2
        go_ret
        refine ⟨rfl, ⟨_, HZ.out, fun j hj => ?_⟩, fun k hk hkg => ?_, Go.below_setCells (Nat.le_refl _) _ _ _ HB.out⟩
        · rw [if_neg (by omega), if_pos hj]
        · exact (World.heap_setCells_other _ _ _ _ (Nat.lt_of_lt_of_le hk HB.out.size) hkg).trans (HO.out k hk hkg)
end Go.Proofs.YtgcgoehmgaokkaaDoor
