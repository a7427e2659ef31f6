import Derived.Test.YtgcgoehmgaokkaaDoorSk0
namespace Go.Proofs.YtgcgoehmgaokkaaDoor
open Go.RowKit

theorem row_setRule {w : World} {b t n k : Nat} {F : Nat → Int} (h : w.rowIs b t (n * 9) (fun j => .int .i64 (if j < k * 9 then F j else 0))) :
    (((((((((w.setCell ⟨b, k * 9, none⟩ (.int .i64 (F (k * 9)))).setCell ⟨b, k * 9 + 1, none⟩ (.int .i64 (F (k * 9 + 1)))).setCell ⟨b, k * 9 + 2, none⟩ (.int .i64 (F (k * 9 + 2)))).setCell ⟨b, k * 9 + 3, none⟩ (.int .i64 (F (k * 9 + 3)))).setCell ⟨b, k * 9 + 4, none⟩ (.int .i64 (F (k * 9 + 4)))).setCell ⟨b, k * 9 + 5, none⟩ (.int .i64 (F (k * 9 + 5)))).setCell ⟨b, k * 9 + 6, none⟩ (.int .i64 (F (k * 9 + 6)))).setCell ⟨b, k * 9 + 7, none⟩ (.int .i64 (F (k * 9 + 7)))).setCell ⟨b, k * 9 + 8, none⟩ (.int .i64 (F (k * 9 + 8)))).rowIs b t (n * 9) (fun j => .int .i64 (if j < (k + 1) * 9 then F j else 0)) := by
  refine (((((((((h.set (k * 9) _).set (k * 9 + 1) _).set (k * 9 + 2) _).set (k * 9 + 3) _).set (k * 9 + 4) _).set (k * 9 + 5) _).set (k * 9 + 6) _).set (k * 9 + 7) _).set (k * 9 + 8) _).congr fun j hj => ?_
  by_cases e8 : j = k * 9 + 8
  · subst e8; rw [if_pos rfl, if_pos (by omega)]
  rw [if_neg e8]
  by_cases e7 : j = k * 9 + 7
  · subst e7; rw [if_pos rfl, if_pos (by omega)]
  rw [if_neg e7]
  by_cases e6 : j = k * 9 + 6
  · subst e6; rw [if_pos rfl, if_pos (by omega)]
  rw [if_neg e6]
  by_cases e5 : j = k * 9 + 5
  · subst e5; rw [if_pos rfl, if_pos (by omega)]
  rw [if_neg e5]
  by_cases e4 : j = k * 9 + 4
  · subst e4; rw [if_pos rfl, if_pos (by omega)]
  rw [if_neg e4]
  by_cases e3 : j = k * 9 + 3
  · subst e3; rw [if_pos rfl, if_pos (by omega)]
  rw [if_neg e3]
  by_cases e2 : j = k * 9 + 2
  · subst e2; rw [if_pos rfl, if_pos (by omega)]
  rw [if_neg e2]
  by_cases e1 : j = k * 9 + 1
  · subst e1; rw [if_pos rfl, if_pos (by omega)]
  rw [if_neg e1]
  by_cases e0 : j = k * 9
  · subst e0; rw [if_pos rfl, if_pos (by omega)]
  rw [if_neg e0]
  by_cases hl : j < k * 9
  · rw [if_pos hl, if_pos (by omega)]
  · rw [if_neg hl, if_neg (by omega)]
theorem bel_setRule {w w0 : World} {B b k : Nat} {F : Nat → Int} (hb : Below B w0 w) (hB : B ≤ b) : Below B w0 (((((((((w.setCell ⟨b, k * 9, none⟩ (.int .i64 (F (k * 9)))).setCell ⟨b, k * 9 + 1, none⟩ (.int .i64 (F (k * 9 + 1)))).setCell ⟨b, k * 9 + 2, none⟩ (.int .i64 (F (k * 9 + 2)))).setCell ⟨b, k * 9 + 3, none⟩ (.int .i64 (F (k * 9 + 3)))).setCell ⟨b, k * 9 + 4, none⟩ (.int .i64 (F (k * 9 + 4)))).setCell ⟨b, k * 9 + 5, none⟩ (.int .i64 (F (k * 9 + 5)))).setCell ⟨b, k * 9 + 6, none⟩ (.int .i64 (F (k * 9 + 6)))).setCell ⟨b, k * 9 + 7, none⟩ (.int .i64 (F (k * 9 + 7)))).setCell ⟨b, k * 9 + 8, none⟩ (.int .i64 (F (k * 9 + 8)))) := (((((((((hb.setCell (p := ⟨b, k * 9, none⟩) hB _).setCell (p := ⟨b, k * 9 + 1, none⟩) hB _).setCell (p := ⟨b, k * 9 + 2, none⟩) hB _).setCell (p := ⟨b, k * 9 + 3, none⟩) hB _).setCell (p := ⟨b, k * 9 + 4, none⟩) hB _).setCell (p := ⟨b, k * 9 + 5, none⟩) hB _).setCell (p := ⟨b, k * 9 + 6, none⟩) hB _).setCell (p := ⟨b, k * 9 + 7, none⟩) hB _).setCell (p := ⟨b, k * 9 + 8, none⟩) hB _)

set_option maxHeartbeats 1000000 in
theorem toRuleS_any (n cap : Nat) (ao : Option Addr) (F : Nat → Int) (w : World) (hn : n ≤ 1048576)
    (hc : Rd w 9 ao n F) :
    Calls Tryd.prog 26 #[.slice ao n cap] w fun e w' => ∃ g, e = .returned (.slice (some ⟨g, 0, none⟩) n n) ∧ w.heap.size ≤ g ∧ w'.rowIs g 56 (n * 9) (fun j => .int .i64 (F j)) ∧ Below w.heap.size w w' := by
  have hmk := run_make_struct 27 56 #[.int .i64 0, .int .i64 0, .int .i64 0, .int .i64 0, .int .i64 0, .int .i64 0, .int .i64 0, .int .i64 0, .int .i64 0] 72 9 Tryd.underlying27 infoRule n (by omega) (by omega)
  have H0 : Hid ((w.alloc (.cells (madeCells #[.int .i64 0, .int .i64 0, .int .i64 0, .int .i64 0, .int .i64 0, .int .i64 0, .int .i64 0, .int .i64 0, .int .i64 0] (n * 9)) 56)).rowIs w.heap.size 56 (n * 9) (fun _ => .int .i64 0)) := rowIs_zeros w _ _ _ (by simp) (by intro i hi; match i, hi with | 0, _ => rfl | 1, _ => rfl | 2, _ => rfl | 3, _ => rfl | 4, _ => rfl | 5, _ => rfl | 6, _ => rfl | 7, _ => rfl | 8, _ => rfl)
  have HC : Hid _ := hc
  clear hc
  go_enter Tryd.func26, Tryd.ntmps26
  go_wp2
  go_loopw [4] (fun i wr => ∃ k : Nat, k ≤ n ∧ i = .int .i64 k ∧ Hid (wr.rowIs w.heap.size 56 (n * 9) (fun j => .int .i64 (if j < k * 9 then F j else 0))) ∧ Hid (Below w.heap.size w wr)) (fun i _ => n - (intOf i).toNat)
  case atStart => exact ⟨0, Nat.zero_le _, rfl, by simpa [Hid] using H0.out, (Below.refl _ _).alloc (Nat.le_refl _) _⟩
  case round =>
    obtain ⟨k, hk, rfl, HR, HB⟩ := hrel
    by_cases hlt : k < n
    · obtain ⟨b, off, rfl, hbw, hcell⟩ := HC.out (by omega)
      have c0 : wr.cell? ⟨b, off + k * 9, none⟩ = some (.int .i64 (F (k * 9))) := (HB.out.cell (by exact hbw)).trans (hcell (k * 9) (by omega))
      have c1 : wr.cell? ⟨b, off + k * 9 + 1, none⟩ = some (.int .i64 (F (k * 9 + 1))) := (HB.out.cell (by exact hbw)).trans (hcell (k * 9 + 1) (by omega))
      have c2 : wr.cell? ⟨b, off + k * 9 + 2, none⟩ = some (.int .i64 (F (k * 9 + 2))) := (HB.out.cell (by exact hbw)).trans (hcell (k * 9 + 2) (by omega))
      have c3 : wr.cell? ⟨b, off + k * 9 + 3, none⟩ = some (.int .i64 (F (k * 9 + 3))) := (HB.out.cell (by exact hbw)).trans (hcell (k * 9 + 3) (by omega))
      have c4 : wr.cell? ⟨b, off + k * 9 + 4, none⟩ = some (.int .i64 (F (k * 9 + 4))) := (HB.out.cell (by exact hbw)).trans (hcell (k * 9 + 4) (by omega))
      have c5 : wr.cell? ⟨b, off + k * 9 + 5, none⟩ = some (.int .i64 (F (k * 9 + 5))) := (HB.out.cell (by exact hbw)).trans (hcell (k * 9 + 5) (by omega))
      have c6 : wr.cell? ⟨b, off + k * 9 + 6, none⟩ = some (.int .i64 (F (k * 9 + 6))) := (HB.out.cell (by exact hbw)).trans (hcell (k * 9 + 6) (by omega))
      have c7 : wr.cell? ⟨b, off + k * 9 + 7, none⟩ = some (.int .i64 (F (k * 9 + 7))) := (HB.out.cell (by exact hbw)).trans (hcell (k * 9 + 7) (by omega))
      have c8 : wr.cell? ⟨b, off + k * 9 + 8, none⟩ = some (.int .i64 (F (k * 9 + 8))) := (HB.out.cell (by exact hbw)).trans (hcell (k * 9 + 8) (by omega))
      clear hcell HC
      go_wp2_with fail
      refine (toRule_any _ _ _ _ _ _ _ _ _ _).mono ?_
      rintro e w1 ⟨rfl, hb1⟩
      have HB1 : Hid (Below w.heap.size w w1) := HB.out.trans (hb1.mono HB.out.size)
      have hrow := rowIs_below HR.out hb1 HR.out.lt
      have HR1 : Hid _ := hrow
      have d0 := hrow.cell (i := k * 9) (by omega)
      have d1 := hrow.cell (i := k * 9 + 1) (by omega)
      have d2 := hrow.cell (i := k * 9 + 2) (by omega)
      have d3 := hrow.cell (i := k * 9 + 3) (by omega)
      have d4 := hrow.cell (i := k * 9 + 4) (by omega)
      have d5 := hrow.cell (i := k * 9 + 5) (by omega)
      have d6 := hrow.cell (i := k * 9 + 6) (by omega)
      have d7 := hrow.cell (i := k * 9 + 7) (by omega)
      have d8 := hrow.cell (i := k * 9 + 8) (by omega)
      have hf := hrow.frozen
      clear hb1 hrow HR HB c0 c1 c2 c3 c4 c5 c6 c7 c8 hmk H0
      go_wp2
      go_roundw
      case rel => exact ⟨k + 1, by omega, by simp, row_setRule HR1.out, bel_setRule HB1.out (Nat.le_refl _)⟩
      case measure => simp [intOf]; omega
    · go_wp2
      go_ret
      exact ⟨_, rfl, Nat.le_refl _, HR.out.congr (fun j hj => by rw [if_pos (by omega)]), HB.out⟩
end Go.Proofs.YtgcgoehmgaokkaaDoor
