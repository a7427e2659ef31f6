import Derived.Test.YtobhljmpdolomaaMs0
namespace Go.Proofs.Ytobhljmpdolomaa
open Go.RowKit

theorem row_setTri {w : World} {b t n k : Nat} {F : Nat → Int} (h : w.rowIs b t (n * 3) (fun j => .int .i64 (if j < k * 3 then F j else 0))) :
    (((w.setCell ⟨b, k * 3, none⟩ (.int .i64 (F (k * 3)))).setCell ⟨b, k * 3 + 1, none⟩ (.int .i64 (F (k * 3 + 1)))).setCell ⟨b, k * 3 + 2, none⟩ (.int .i64 (F (k * 3 + 2)))).rowIs b t (n * 3) (fun j => .int .i64 (if j < (k + 1) * 3 then F j else 0)) := by
  refine (((h.set (k * 3) _).set (k * 3 + 1) _).set (k * 3 + 2) _).congr fun j hj => ?_
  by_cases e2 : j = k * 3 + 2
  · subst e2; rw [if_pos rfl, if_pos (by omega)]
  rw [if_neg e2]
  by_cases e1 : j = k * 3 + 1
  · subst e1; rw [if_pos rfl, if_pos (by omega)]
  rw [if_neg e1]
  by_cases e0 : j = k * 3
  · subst e0; rw [if_pos rfl, if_pos (by omega)]
  rw [if_neg e0]
  by_cases hl : j < k * 3
  · rw [if_pos hl, if_pos (by omega)]
  · rw [if_neg hl, if_neg (by omega)]
theorem bel_setTri {w w0 : World} {B b k : Nat} {F : Nat → Int} (hb : Below B w0 w) (hB : B ≤ b) : Below B w0 (((w.setCell ⟨b, k * 3, none⟩ (.int .i64 (F (k * 3)))).setCell ⟨b, k * 3 + 1, none⟩ (.int .i64 (F (k * 3 + 1)))).setCell ⟨b, k * 3 + 2, none⟩ (.int .i64 (F (k * 3 + 2)))) := (((hb.setCell (p := ⟨b, k * 3, none⟩) hB _).setCell (p := ⟨b, k * 3 + 1, none⟩) hB _).setCell (p := ⟨b, k * 3 + 2, none⟩) hB _)

set_option maxHeartbeats 1000000 in
theorem toTriS_any (n cap : Nat) (ao : Option Addr) (F : Nat → Int) (w : World) (hn : n ≤ 1048576)
    (hc : Rd w 3 ao n F) :
    Calls Try.prog 26 #[.slice ao n cap] w fun e w' => ∃ g, e = .returned (.slice (some ⟨g, 0, none⟩) n n) ∧ w.heap.size ≤ g ∧ w'.rowIs g 53 (n * 3) (fun j => .int .i64 (F j)) ∧ Below w.heap.size w w' := by
  have hmk := run_make_struct 29 53 #[.int .i64 0, .int .i64 0, .int .i64 0] 24 3 Try.underlying29 infoTri n (by omega) (by omega)
  have H0 : Hid ((w.alloc (.cells (madeCells #[.int .i64 0, .int .i64 0, .int .i64 0] (n * 3)) 53)).rowIs w.heap.size 53 (n * 3) (fun _ => .int .i64 0)) := rowIs_zeros w _ _ _ (by simp) (by intro i hi; match i, hi with | 0, _ => rfl | 1, _ => rfl | 2, _ => rfl)
  have HC : Hid _ := hc
  clear hc
  go_enter Try.func26, Try.ntmps26
  go_wp2
  go_loopw [4] (fun i wr => ∃ k : Nat, k ≤ n ∧ i = .int .i64 k ∧ Hid (wr.rowIs w.heap.size 53 (n * 3) (fun j => .int .i64 (if j < k * 3 then F j else 0))) ∧ Hid (Below w.heap.size w wr)) (fun i _ => n - (intOf i).toNat)
  case atStart => exact ⟨0, Nat.zero_le _, rfl, by simpa [Hid] using H0.out, (Below.refl _ _).alloc (Nat.le_refl _) _⟩
  case round =>
    obtain ⟨k, hk, rfl, HR, HB⟩ := hrel
    by_cases hlt : k < n
    · obtain ⟨b, off, rfl, hbw, hcell⟩ := HC.out (by omega)
      have c0 : wr.cell? ⟨b, off + k * 3, none⟩ = some (.int .i64 (F (k * 3))) := (HB.out.cell (by exact hbw)).trans (hcell (k * 3) (by omega))
      have c1 : wr.cell? ⟨b, off + k * 3 + 1, none⟩ = some (.int .i64 (F (k * 3 + 1))) := (HB.out.cell (by exact hbw)).trans (hcell (k * 3 + 1) (by omega))
      have c2 : wr.cell? ⟨b, off + k * 3 + 2, none⟩ = some (.int .i64 (F (k * 3 + 2))) := (HB.out.cell (by exact hbw)).trans (hcell (k * 3 + 2) (by omega))
      clear hcell HC
      go_wp2_with fail
      refine (toTri_any _ _ _ _).mono ?_
      rintro e w1 ⟨rfl, hb1⟩
      have HB1 : Hid (Below w.heap.size w w1) := HB.out.trans (hb1.mono HB.out.size)
      have hrow := rowIs_below HR.out hb1 HR.out.lt
      have HR1 : Hid _ := hrow
      have d0 := hrow.cell (i := k * 3) (by omega)
      have d1 := hrow.cell (i := k * 3 + 1) (by omega)
      have d2 := hrow.cell (i := k * 3 + 2) (by omega)
      have hf := hrow.frozen
      clear hb1 hrow HR HB c0 c1 c2 hmk H0
      go_wp2
      go_roundw
      case rel => exact ⟨k + 1, by omega, by simp, row_setTri HR1.out, bel_setTri HB1.out (Nat.le_refl _)⟩
      case measure => simp [intOf]; omega
    · go_wp2
      go_ret
      exact ⟨_, rfl, Nat.le_refl _, HR.out.congr (fun j hj => by rw [if_pos (by omega)]), HB.out⟩
end Go.Proofs.Ytobhljmpdolomaa
