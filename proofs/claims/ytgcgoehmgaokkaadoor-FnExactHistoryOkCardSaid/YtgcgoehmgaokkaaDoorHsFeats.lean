import Derived.Test.YtgcgoehmgaokkaaDoorHsFeat
namespace Go.Proofs.YtgcgoehmgaokkaaDoor
open Go.RowKit

/-- A slice of features, told. -/
def Fs (w : World) (ao : Option Addr) (n : Nat) (G : Nat → Ft) : Prop :=
  0 < n → ∃ b off, ao = some ⟨b, off, none⟩ ∧ b < w.heap.size ∧ ∀ i, i < n → ∃ no cp, (∀ c, c < 6 → w.cell? ⟨b, off + i * 6 + c, none⟩ = some ((G i).cell (.slice no (G i).n cp) c)) ∧ Rd w 5 no (G i).n (G i).T
theorem Fs.below {w w' : World} {n : Nat} {ao : Option Addr} {G : Nat → Ft} (h : Fs w ao n G) {B : Nat} (hb : Below B w w') (hB : w.heap.size ≤ B) : Fs w' ao n G := fun h0 => by
  obtain ⟨b, off, e, hlt, hc⟩ := h h0
  refine ⟨b, off, e, Nat.lt_of_lt_of_le hlt hb.size, fun i hi => ?_⟩
  obtain ⟨no, cp, h6, hr⟩ := hc i hi
  exact ⟨no, cp, fun c hc => (hb.cell (p := ⟨b, off + i * 6 + c, none⟩) (Nat.lt_of_lt_of_le hlt hB)).trans (h6 c hc), Rd.below hr hb hB⟩

/-- The cells of a row of features, of which k are filled. -/
def rowF (G : Nat → Ft) (hh : Nat → Nat) (k j : Nat) : Value :=
  if j < k * 6 then (G (j / 6)).cell (.slice (some ⟨hh (j / 6), 0, none⟩) (G (j / 6)).n (G (j / 6)).n) (j % 6) else (#[.int .i64 0, .int .i64 0, .bool false, .int .i64 0, .int .i64 0, .slice none 0 0] : Array Value).getD (j % 6) (.int .i64 0)
def upd (hh : Nat → Nat) (k g : Nat) : Nat → Nat := fun i => if i = k then g else hh i
theorem rowF_at (G : Nat → Ft) (hh : Nat → Nat) (k g c : Nat) (hc : c < 6) : rowF G (upd hh k g) (k + 1) (k * 6 + c) = (G k).cell (.slice (some ⟨g, 0, none⟩) (G k).n (G k).n) c := by
  have e1 : (k * 6 + c) / 6 = k := by omega
  have e2 : (k * 6 + c) % 6 = c := by omega
  unfold rowF
  rw [if_pos (by omega), e1, e2]
  simp [upd]
theorem row_setF {w : World} {b t n k g : Nat} {G : Nat → Ft} {hh : Nat → Nat} (h : w.rowIs b t (n * 6) (rowF G hh k)) :
    ((((((w.setCell ⟨b, k * 6, none⟩ (.int .i64 (G k).id)).setCell ⟨b, k * 6 + 1, none⟩ (.int .i64 (G k).kind)).setCell ⟨b, k * 6 + 2, none⟩ (.bool (G k).off)).setCell ⟨b, k * 6 + 3, none⟩ (.int .i64 (G k).on)).setCell ⟨b, k * 6 + 4, none⟩ (.int .i64 (G k).wth)).setCell ⟨b, k * 6 + 5, none⟩ (.slice (some ⟨g, 0, none⟩) (G k).n (G k).n)).rowIs b t (n * 6) (rowF G (upd hh k g) (k + 1)) := by
  refine ((((((h.set (k * 6) _).set (k * 6 + 1) _).set (k * 6 + 2) _).set (k * 6 + 3) _).set (k * 6 + 4) _).set (k * 6 + 5) _).congr fun j hj => ?_
  by_cases e5 : j = k * 6 + 5
  · subst e5; rw [if_pos rfl]; exact (rowF_at G hh k g 5 (by omega)).symm
  rw [if_neg e5]
  by_cases e4 : j = k * 6 + 4
  · subst e4; rw [if_pos rfl]; exact (rowF_at G hh k g 4 (by omega)).symm
  rw [if_neg e4]
  by_cases e3 : j = k * 6 + 3
  · subst e3; rw [if_pos rfl]; exact (rowF_at G hh k g 3 (by omega)).symm
  rw [if_neg e3]
  by_cases e2 : j = k * 6 + 2
  · subst e2; rw [if_pos rfl]; exact (rowF_at G hh k g 2 (by omega)).symm
  rw [if_neg e2]
  by_cases e1 : j = k * 6 + 1
  · subst e1; rw [if_pos rfl]; exact (rowF_at G hh k g 1 (by omega)).symm
  rw [if_neg e1]
  by_cases e0 : j = k * 6
  · subst e0; rw [if_pos rfl]; exact (rowF_at G hh k g 0 (by omega)).symm
  rw [if_neg e0]
  unfold rowF
  by_cases hl : j < k * 6
  · have hne : j / 6 ≠ k := by omega
    rw [if_pos hl, if_pos (by omega)]
    simp [upd, hne]
  · rw [if_neg hl, if_neg (by omega)]
theorem bel_setF {w w0 : World} {B b k g : Nat} {G : Nat → Ft} (hb : Below B w0 w) (hB : B ≤ b) : Below B w0 ((((((w.setCell ⟨b, k * 6, none⟩ (.int .i64 (G k).id)).setCell ⟨b, k * 6 + 1, none⟩ (.int .i64 (G k).kind)).setCell ⟨b, k * 6 + 2, none⟩ (.bool (G k).off)).setCell ⟨b, k * 6 + 3, none⟩ (.int .i64 (G k).on)).setCell ⟨b, k * 6 + 4, none⟩ (.int .i64 (G k).wth)).setCell ⟨b, k * 6 + 5, none⟩ (.slice (some ⟨g, 0, none⟩) (G k).n (G k).n)) := ((((((hb.setCell (p := ⟨b, k * 6, none⟩) hB _).setCell (p := ⟨b, k * 6 + 1, none⟩) hB _).setCell (p := ⟨b, k * 6 + 2, none⟩) hB _).setCell (p := ⟨b, k * 6 + 3, none⟩) hB _).setCell (p := ⟨b, k * 6 + 4, none⟩) hB _).setCell (p := ⟨b, k * 6 + 5, none⟩) hB _)
theorem oth_setF {w : World} {b k g x t m : Nat} {f : Nat → Value} {G : Nat → Ft} (h : w.rowIs x t m f) (hne : x ≠ b) : ((((((w.setCell ⟨b, k * 6, none⟩ (.int .i64 (G k).id)).setCell ⟨b, k * 6 + 1, none⟩ (.int .i64 (G k).kind)).setCell ⟨b, k * 6 + 2, none⟩ (.bool (G k).off)).setCell ⟨b, k * 6 + 3, none⟩ (.int .i64 (G k).on)).setCell ⟨b, k * 6 + 4, none⟩ (.int .i64 (G k).wth)).setCell ⟨b, k * 6 + 5, none⟩ (.slice (some ⟨g, 0, none⟩) (G k).n (G k).n)).rowIs x t m f := ((((((h.setOther (a := ⟨b, k * 6, none⟩) hne _).setOther (a := ⟨b, k * 6 + 1, none⟩) hne _).setOther (a := ⟨b, k * 6 + 2, none⟩) hne _).setOther (a := ⟨b, k * 6 + 3, none⟩) hne _).setOther (a := ⟨b, k * 6 + 4, none⟩) hne _).setOther (a := ⟨b, k * 6 + 5, none⟩) hne _)
theorem rowF_zero (w : World) (n : Nat) (G : Nat → Ft) (hh : Nat → Nat) : (w.alloc (.cells (madeCells #[.int .i64 0, .int .i64 0, .bool false, .int .i64 0, .int .i64 0, .slice none 0 0] (n * 6)) 78)).rowIs w.heap.size 78 (n * 6) (rowF G hh 0) :=
  ⟨_, Deep.blk_alloc_new _ _, size_madeCells _ _, fun i hi => by
    have h6 : i % 6 < 6 := Nat.mod_lt _ (by omega)
    simp [madeCells, hi, rowF]
    match i % 6, h6 with
    | 0, _ => rfl
    | 1, _ => rfl
    | 2, _ => rfl
    | 3, _ => rfl
    | 4, _ => rfl
    | 5, _ => rfl⟩

/-- The terms of the first k features lie in blocks of their own. -/
def TermsAt (w' : World) (B : Nat) (G : Nat → Ft) (hh : Nat → Nat) (k : Nat) : Prop := ∀ i, i < k → B < hh i ∧ w'.rowIs (hh i) 84 ((G i).n * 5) (fun j => .int .i64 ((G i).T j))

set_option maxHeartbeats 2000000 in
theorem toFeatS_any (n cap : Nat) (ao : Option Addr) (G : Nat → Ft) (w : World) (hn : n ≤ 1048576) (hG : ∀ i, i < n → (G i).n ≤ 1048576) (hc : Fs w ao n G) :
    Calls Tryd.prog 45 #[.slice ao n cap] w fun e w' => ∃ g hh, e = .returned (.slice (some ⟨g, 0, none⟩) n n) ∧ w.heap.size ≤ g ∧ w'.rowIs g 78 (n * 6) (rowF G hh n) ∧ TermsAt w' w.heap.size G hh n ∧ Below w.heap.size w w' := by
  have hmk := run_make_struct 46 78 #[.int .i64 0, .int .i64 0, .bool false, .int .i64 0, .int .i64 0, .slice none 0 0] 64 6 Tryd.underlying46 infoFeat n (by omega) (by omega)
  have H0 : Hid (∀ hh, (w.alloc (.cells (madeCells #[.int .i64 0, .int .i64 0, .bool false, .int .i64 0, .int .i64 0, .slice none 0 0] (n * 6)) 78)).rowIs w.heap.size 78 (n * 6) (rowF G hh 0)) := fun hh => rowF_zero w n G hh
  have HC : Hid _ := hc
  have HN : Hid _ := hG
  clear hc hG
  go_enter Tryd.func45, Tryd.ntmps45
  go_wp2
  go_loopw [4] (fun i wr => ∃ (k : Nat) (hh : Nat → Nat), k ≤ n ∧ i = .int .i64 k ∧ Hid (wr.rowIs w.heap.size 78 (n * 6) (rowF G hh k)) ∧ Hid (TermsAt wr w.heap.size G hh k) ∧ Hid (Below w.heap.size w wr)) (fun i _ => n - (intOf i).toNat)
  case atStart => exact ⟨0, fun _ => 0, Nat.zero_le _, rfl, H0.out _, fun i hi => absurd hi (Nat.not_lt_zero _), (Below.refl _ _).alloc (Nat.le_refl _) _⟩
  case round =>
    obtain ⟨k, hh, hk, rfl, HR, HT, HB⟩ := hrel
    by_cases hlt : k < n
    · obtain ⟨b, off, rfl, hbw, hcell⟩ := HC.out (by omega)
      obtain ⟨no, cp, hk6, hrd⟩ := hcell k hlt
      have HNk : Hid ((G k).n ≤ 1048576) := HN.out k hlt
      have HRd : Hid (Rd wr 5 no (G k).n (G k).T) := Rd.below hrd HB.out (Nat.le_refl _)
      have c0 : wr.cell? ⟨b, off + k * 6, none⟩ = some (.int .i64 (G k).id) := (HB.out.cell (by exact hbw)).trans (hk6 0 (by omega))
      have c1 : wr.cell? ⟨b, off + k * 6 + 1, none⟩ = some (.int .i64 (G k).kind) := (HB.out.cell (by exact hbw)).trans (hk6 1 (by omega))
      have c2 : wr.cell? ⟨b, off + k * 6 + 2, none⟩ = some (.bool (G k).off) := (HB.out.cell (by exact hbw)).trans (hk6 2 (by omega))
      have c3 : wr.cell? ⟨b, off + k * 6 + 3, none⟩ = some (.int .i64 (G k).on) := (HB.out.cell (by exact hbw)).trans (hk6 3 (by omega))
      have c4 : wr.cell? ⟨b, off + k * 6 + 4, none⟩ = some (.int .i64 (G k).wth) := (HB.out.cell (by exact hbw)).trans (hk6 4 (by omega))
      have c5 : wr.cell? ⟨b, off + k * 6 + 5, none⟩ = some (.slice no (G k).n cp) := (HB.out.cell (by exact hbw)).trans (hk6 5 (by omega))
      clear hcell HC hk6 hrd HN
      go_wp2_with fail
      refine (toFeat_any (G k) no cp _ HNk.out HRd.out).mono ?_
      rintro e w1 ⟨g, rfl, hg, hrw, hb1⟩
      have HB1 : Hid (Below w.heap.size w w1) := HB.out.trans (hb1.mono HB.out.size)
      have hrow := rowIs_below HR.out hb1 HR.out.lt
      have hwr := HR.out.lt
      have HR1 : Hid _ := hrow
      have HT1 : Hid (TermsAt w1 w.heap.size G (upd hh k g) (k + 1)) := fun i hi => by
        by_cases e : i = k
        · subst e; simp only [upd, if_true]; exact ⟨by omega, hrw⟩
        · simp only [upd, if_neg e]; exact ⟨(HT.out i (by omega)).1, rowIs_below (HT.out i (by omega)).2 hb1 (HT.out i (by omega)).2.lt⟩
      have d0 := hrow.cell (i := k * 6) (by omega)
      have d1 := hrow.cell (i := k * 6 + 1) (by omega)
      have d2 := hrow.cell (i := k * 6 + 2) (by omega)
      have d3 := hrow.cell (i := k * 6 + 3) (by omega)
      have d4 := hrow.cell (i := k * 6 + 4) (by omega)
      have d5 := hrow.cell (i := k * 6 + 5) (by omega)
      have hf := hrow.frozen
      clear hb1 hrow HR HB HT hrw c0 c1 c2 c3 c4 c5 hmk H0 hg HRd HNk hwr
      go_wp2
      go_roundw
      case rel => exact ⟨k + 1, upd hh k g, by omega, by simp, row_setF HR1.out, fun i hi => ⟨(HT1.out i hi).1, oth_setF (HT1.out i hi).2 (by have := (HT1.out i hi).1; omega)⟩, bel_setF HB1.out (Nat.le_refl _)⟩
      case measure => simp [intOf]; omega
    · go_wp2
      go_ret
      have hkn : k = n := by omega
      subst hkn
      exact ⟨_, hh, rfl, Nat.le_refl _, HR.out, HT.out, HB.out⟩

theorem Fs.of_row {w : World} {n g B : Nat} {G : Nat → Ft} {hh : Nat → Nat} (h : w.rowIs g 78 (n * 6) (rowF G hh n)) (ht : TermsAt w B G hh n) : Fs w (some ⟨g, 0, none⟩) n G := fun _ =>
  ⟨g, 0, rfl, h.lt, fun i hi => ⟨some ⟨hh i, 0, none⟩, (G i).n, fun c hc => by
    rw [Nat.zero_add, h.cell (i := i * 6 + c) (by omega)]
    have e1 : (i * 6 + c) / 6 = i := by omega
    have e2 : (i * 6 + c) % 6 = c := by omega
    simp only [rowF]
    rw [if_pos (by omega), e1, e2], Rd.of_row (ht i hi).2⟩⟩
end Go.Proofs.YtgcgoehmgaokkaaDoor
