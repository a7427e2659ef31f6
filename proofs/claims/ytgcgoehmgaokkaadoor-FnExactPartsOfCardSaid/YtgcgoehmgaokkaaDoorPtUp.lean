import Derived.Test.YtgcgoehmgaokkaaDoorPtMath
import Derived.Test.YtgcgoehmgaokkaaDoorSkRule
import Derived.BigRegion
namespace Go.Proofs.YtgcgoehmgaokkaaDoor
open Go.RowKit

theorem infoInt : (Tryd.prog.info? 2).map (fun i => (i.zero, i.size, i.bytes)) = some (some (.int .i64 0), 1, 8) := by kernel_rfl
/-- make of a row of numbers. -/
theorem run_make_int (n : Nat) (hn : n ≤ 1048576) (w : World) :
    (Instr.makeSlice 59 (.int .i64 (n : Int)) (.int .i64 (n : Int))).run Tryd.prog w = .ok (.slice (some ⟨w.heap.size, 0, none⟩) n n) (w.alloc (.cells (madeCells #[.int .i64 0] n) 2)) := by
  obtain ⟨i, hi, hzz⟩ := Option.map_eq_some_iff.1 infoInt
  simp only [Prod.mk.injEq] at hzz
  obtain ⟨hz, hs, hb⟩ := hzz
  have hb' : (i.bytes : Int) * (n : Int) ≤ 281474976710656 := by rw [hb]; omega
  have hr := run_make (P := Tryd.prog) w 59 2 i (.int .i64 0) Tryd.underlying59 hi hz .i64 .i64 n n (by omega) (Int.le_refl _) hb' (by omega)
  simp only [Int.toNat_natCast, hs, Value.cells, Nat.mul_one] at hr
  exact hr

set_option maxHeartbeats 1000000 in
theorem upTo_any (p : Nat) (hp : p ≤ 1048576) (w : World) :
    Calls Tryd.prog 31 #[.int .i64 (p : Int)] w fun e w' => ∃ g, e = .returned (.slice (some ⟨g, 0, none⟩) p p) ∧ w.heap.size ≤ g ∧ w'.rowIs g 2 p (fun j => .int .i64 (j : Int)) ∧ Below w.heap.size w w' := by
  have hmk := run_make_int p hp
  have H0 : Hid ((w.alloc (.cells (madeCells #[.int .i64 0] p) 2)).rowIs w.heap.size 2 p (fun _ => .int .i64 0)) := rowIs_zeros w _ _ _ (by simp) (by intro i hi; match i, hi with | 0, _ => rfl)
  go_enter Tryd.func31, Tryd.ntmps31
  go_wp2
  go_loopw [9] (fun i wr => ∃ k : Nat, k ≤ p ∧ i = .int .i64 k ∧ Hid (wr.rowIs w.heap.size 2 p (fun j => .int .i64 (if j < k then (j : Int) else 0))) ∧ Hid (Below w.heap.size w wr)) (fun i _ => p - (intOf i).toNat)
  case atStart => exact ⟨0, Nat.zero_le _, rfl, by simpa [Hid] using H0.out, (Below.refl _ _).alloc (Nat.le_refl _) _⟩
  case round =>
    obtain ⟨k, hk, rfl, HR, HB⟩ := hrel
    by_cases hlt : k < p
    · have d0 := HR.out.cell (i := k) hlt
      have hf := HR.out.frozen
      have HR1 : Hid ((wr.setCell ⟨w.heap.size, k, none⟩ (.int .i64 (k : Int))).rowIs w.heap.size 2 p (fun j => .int .i64 (if j < k + 1 then (j : Int) else 0))) := (HR.out.set k (.int .i64 (k : Int))).congr fun j hj => by
        by_cases e : j = k
        · subst e; rw [if_pos rfl, if_pos (by omega)]
        · rw [if_neg e]
          by_cases hl : j < k
          · rw [if_pos hl, if_pos (by omega)]
          · rw [if_neg hl, if_neg (by omega)]
      have HB1 : Hid (Below w.heap.size w (wr.setCell ⟨w.heap.size, k, none⟩ (.int .i64 (k : Int)))) := HB.out.setCell (p := ⟨w.heap.size, k, none⟩) (Nat.le_refl _) _
      clear hmk H0 HB HR
      go_wp2
      go_roundw
      case rel => exact ⟨k + 1, by omega, by simp, HR1, HB1⟩
      case measure => simp [intOf]; omega
    · go_wp2
      go_ret
      exact ⟨_, rfl, Nat.le_refl _, HR.out.congr (fun j hj => by rw [if_pos (by omega)]), HB.out⟩

/-- How many places a kind of rule names. -/
def npl (k : Nat) : Nat := [0, 1, 1, 1, 2, 2, 2, 2, 3, 2, 4, 3].getD k 0
theorem npl_tab {k : Nat} (h : k ≤ 11) : tabv (k * 2) = (npl k : Int) := by
  have hk : k = 0 ∨ k = 1 ∨ k = 2 ∨ k = 3 ∨ k = 4 ∨ k = 5 ∨ k = 6 ∨ k = 7 ∨ k = 8 ∨ k = 9 ∨ k = 10 ∨ k = 11 := by omega
  rcases hk with rfl | rfl | rfl | rfl | rfl | rfl | rfl | rfl | rfl | rfl | rfl | rfl <;> rfl
theorem npl_le (k : Nat) : npl k ≤ 4 := by
  by_cases h : k ≤ 11
  · have hk : k = 0 ∨ k = 1 ∨ k = 2 ∨ k = 3 ∨ k = 4 ∨ k = 5 ∨ k = 6 ∨ k = 7 ∨ k = 8 ∨ k = 9 ∨ k = 10 ∨ k = 11 := by omega
    rcases hk with rfl | rfl | rfl | rfl | rfl | rfl | rfl | rfl | rfl | rfl | rfl | rfl <;> decide
  · unfold npl
    rw [List.getD_eq_getElem?_getD, List.getElem?_eq_none (by simp; omega)]
    decide
def pl (x1 x2 x3 x4 : Int) (q : Nat) : Int := [x1, x2, x3, x4].getD q 0
theorem row4 (w : World) (x1 x2 x3 x4 : Int) (t : Nat) : (w.alloc (.cells #[.int .i64 x1, .int .i64 x2, .int .i64 x3, .int .i64 x4] t)).rowIs w.heap.size t 4 (fun j => .int .i64 (pl x1 x2 x3 x4 j)) :=
  ⟨_, Deep.blk_alloc_new _ _, by simp, fun i hi => by
    match i, hi with
    | 0, _ => rfl
    | 1, _ => rfl
    | 2, _ => rfl
    | 3, _ => rfl⟩

set_option maxRecDepth 20000 in
set_option maxHeartbeats 4000000 in
theorem places_any (k : Nat) (x1 x2 x3 x4 x5 x6 x7 x8 : Int) (w : World) (hk : k ≤ 11) (ht : RTab w) :
    Calls Tryd.prog 32 #[.agg #[.int .i64 (k : Int), .int .i64 x1, .int .i64 x2, .int .i64 x3, .int .i64 x4, .int .i64 x5, .int .i64 x6, .int .i64 x7, .int .i64 x8]] w fun e w' => ∃ g, e = .returned (.slice (some ⟨g, 0, none⟩) (npl k) 4) ∧ w.heap.size ≤ g ∧ w'.rowIs g 2 4 (fun j => .int .i64 (pl x1 x2 x3 x4 j)) ∧ Below w.heap.size w w' := by
  have hT : ∀ o, ((w.alloc (.cells #[.int .i64 (k : Int), .int .i64 x1, .int .i64 x2, .int .i64 x3, .int .i64 x4, .int .i64 x5, .int .i64 x6, .int .i64 x7, .int .i64 x8] 56)).alloc o).cell? ⟨0, k * 2, none⟩ = some (.int .i64 (npl k : Int)) := fun o => by rw [← npl_tab hk]; exact (ht.below (Joins.below_alloc2 w _ o)).c (k * 2) (by omega)
  have hT0 : (w.alloc (.cells #[.int .i64 (k : Int), .int .i64 x1, .int .i64 x2, .int .i64 x3, .int .i64 x4, .int .i64 x5, .int .i64 x6, .int .i64 x7, .int .i64 x8] 56)).cell? ⟨0, k * 2, none⟩ = some (.int .i64 (npl k : Int)) := by rw [← npl_tab hk]; exact (ht.below (Joins.below_alloc1 w _)).c (k * 2) (by omega)
  have HA : Hid (At (w.alloc (.cells #[.int .i64 (k : Int), .int .i64 x1, .int .i64 x2, .int .i64 x3, .int .i64 x4, .int .i64 x5, .int .i64 x6, .int .i64 x7, .int .i64 x8] 56)) w.heap.size #[.int .i64 (k : Int), .int .i64 x1, .int .i64 x2, .int .i64 x3, .int .i64 x4, .int .i64 x5, .int .i64 x6, .int .i64 x7, .int .i64 x8]) := ⟨fun j => by go_simp, fun j => by go_simp, by simp⟩
  have HBw : Hid (Below w.heap.size w (w.alloc (.cells #[.int .i64 (k : Int), .int .i64 x1, .int .i64 x2, .int .i64 x3, .int .i64 x4, .int .i64 x5, .int .i64 x6, .int .i64 x7, .int .i64 x8] 56))) := Joins.below_alloc1 _ _
  have hk12 : (k : Int) < 12 := by omega
  have hk0 : (0 : Int) ≤ k := by omega
  have hl := npl_le k
  clear ht
  go_enter Tryd.func32, Tryd.ntmps32
  go_wp2_with fail
  generalize hwb : w.alloc (.cells #[.int .i64 (k : Int), .int .i64 x1, .int .i64 x2, .int .i64 x3, .int .i64 x4, .int .i64 x5, .int .i64 x6, .int .i64 x7, .int .i64 x8] 56) = wb at hT hT0 HA HBw ⊢
  clear hwb
  obtain ⟨m, hm⟩ : ∃ m, m = npl k := ⟨_, rfl⟩
  have HM : Hid (m = npl k) := hm
  rw [← hm] at hl
  simp only [← hm] at hT hT0
  clear hm
  have hm4 : (m : Int) ≤ 4 := by omega
  obtain ⟨q, _, _⟩ := HA.out
  have c0 := q 0
  have c1 := q 1
  have c2 := q 2
  have c3 := q 3
  have c4 := q 4
  have d0 : ∀ o, (wb.alloc o).cell? ⟨w.heap.size, 0, none⟩ = some (.int .i64 (k : Int)) := fun o => (HA.out.alloc o).c 0
  clear q
  go_region
  go_wp2
  go_ret
  exact ⟨_, by rw [← HM.out]; rfl, HBw.out.size, (row4 wb x1 x2 x3 x4 _).of_block rfl, (HBw.out.alloc HBw.out.size _).drew⟩
end Go.Proofs.YtgcgoehmgaokkaaDoor
