import Derived.Test.YtgcgoehmgaokkaaDoorHsEqQ
namespace Go.Proofs.YtgcgoehmgaokkaaDoor
open Go.RowKit

set_option maxHeartbeats 1000000 in
theorem eqTerm_same (x0 x1 x2 x3 x4 : Int) (w : World) :
    Calls Tryd.prog 79 #[.agg #[.int .i64 x0, .int .i64 x1, .int .i64 x2, .int .i64 x3, .int .i64 x4], .agg #[.int .i64 x0, .int .i64 x1, .int .i64 x2, .int .i64 x3, .int .i64 x4]] w fun e w' => e = .returned (.bool true) ∧ Below w.heap.size w w' := by
  go_enter Tryd.func79, Tryd.ntmps79
  go_wp2_with fail
  refine (eqQ_same _ _ _).mono ?_
  rintro e w1 ⟨rfl, hb1⟩
  obtain ⟨hc1, hf1⟩ := bcell hb1
  have HB1 : Hid _ := hb1
  clear hb1
  go_wp2_with fail
  refine (eqQ_same _ _ _).mono ?_
  rintro e w2 ⟨rfl, hb2⟩
  have HB2 : Hid (Below _ _ w2) := HB1.out.trans (hb2.mono HB1.out.size)
  clear hb2 HB1 hc1 hf1
  go_wp2
  go_ret
  exact ⟨rfl, (Joins.below_alloc2 _ _ _).trans (HB2.out.mono (by simp; omega))⟩

abbrev TwoTerm (b o c p : Nat) (x0 x1 x2 x3 x4 : Int) (w' : World) : Prop := (w'.cell? ⟨b, o, none⟩ = some (.int .i64 x0) ∧ w'.cell? ⟨b, o + 1, none⟩ = some (.int .i64 x1) ∧ w'.cell? ⟨b, o + 2, none⟩ = some (.int .i64 x2) ∧ w'.cell? ⟨b, o + 3, none⟩ = some (.int .i64 x3) ∧ w'.cell? ⟨b, o + 4, none⟩ = some (.int .i64 x4) ∧ w'.cell? ⟨c, p, none⟩ = some (.int .i64 x0) ∧ w'.cell? ⟨c, p + 1, none⟩ = some (.int .i64 x1) ∧ w'.cell? ⟨c, p + 2, none⟩ = some (.int .i64 x2) ∧ w'.cell? ⟨c, p + 3, none⟩ = some (.int .i64 x3) ∧ w'.cell? ⟨c, p + 4, none⟩ = some (.int .i64 x4)) ∧ b < w'.heap.size ∧ c < w'.heap.size
theorem TwoTerm.drew {b o c p : Nat} {x0 x1 x2 x3 x4 : Int} {w' : World} (h : TwoTerm b o c p x0 x1 x2 x3 x4 w') : TwoTerm b o c p x0 x1 x2 x3 x4 w'.drew := h
theorem TwoTerm.call {b o c p : Nat} {x0 x1 x2 x3 x4 : Int} {w' w1 : World} (h : TwoTerm b o c p x0 x1 x2 x3 x4 w') (hb : Below w'.heap.size w' w1) : TwoTerm b o c p x0 x1 x2 x3 x4 w1 :=
  ⟨⟨(hb.cell h.2.1).trans (h.1.1), (hb.cell h.2.1).trans (h.1.2.1), (hb.cell h.2.1).trans (h.1.2.2.1), (hb.cell h.2.1).trans (h.1.2.2.2.1), (hb.cell h.2.1).trans (h.1.2.2.2.2.1), (hb.cell h.2.2).trans (h.1.2.2.2.2.2.1), (hb.cell h.2.2).trans (h.1.2.2.2.2.2.2.1), (hb.cell h.2.2).trans (h.1.2.2.2.2.2.2.2.1), (hb.cell h.2.2).trans (h.1.2.2.2.2.2.2.2.2.1), (hb.cell h.2.2).trans (h.1.2.2.2.2.2.2.2.2.2)⟩, Nat.lt_of_lt_of_le h.2.1 hb.size, Nat.lt_of_lt_of_le h.2.2 hb.size⟩

set_option maxHeartbeats 1000000 in
theorem eqTermS_same (n cap cap' : Nat) (ao bo : Option Addr) (F : Nat → Int) (w : World) (hn : n ≤ 1048576) (ha : Rd w 5 ao n F) (hb : Rd w 5 bo n F) :
    Calls Tryd.prog 77 #[.slice ao n cap, .slice bo n cap'] w fun e w' => e = .returned (.bool true) ∧ Below w.heap.size w w' := by
  have HA : Hid (Rd w 5 ao n F) := ha
  have HC : Hid (Rd w 5 bo n F) := hb
  clear ha hb
  go_enter Tryd.func77, Tryd.ntmps77
  go_wp2
  go_loopw [5] (fun i wr => ∃ k : Nat, k ≤ n ∧ i = .int .i64 k ∧ Hid (Below w.heap.size w wr)) (fun i _ => n - (intOf i).toNat)
  case atStart => exact ⟨0, Nat.zero_le _, rfl, Below.refl _ _⟩
  case round =>
    obtain ⟨k, hk, rfl, HB⟩ := hrel
    by_cases hlt : k < n
    · have HA1 : Hid (Rd wr 5 ao n F) := Rd.below HA.out HB.out (Nat.le_refl _)
      have HC1 : Hid (Rd wr 5 bo n F) := Rd.below HC.out HB.out (Nat.le_refl _)
      obtain ⟨b, off, rfl, hbw, hcell⟩ := HA1.out (by omega)
      obtain ⟨c, p, rfl, hcw, dcell⟩ := HC1.out (by omega)
      have HS : Hid (TwoTerm b (off + k * 5) c (p + k * 5) (F (k * 5)) (F (k * 5 + 1)) (F (k * 5 + 2)) (F (k * 5 + 3)) (F (k * 5 + 4)) wr) := ⟨⟨hcell (k * 5) (by omega), hcell (k * 5 + 1) (by omega), hcell (k * 5 + 2) (by omega), hcell (k * 5 + 3) (by omega), hcell (k * 5 + 4) (by omega), dcell (k * 5) (by omega), dcell (k * 5 + 1) (by omega), dcell (k * 5 + 2) (by omega), dcell (k * 5 + 3) (by omega), dcell (k * 5 + 4) (by omega)⟩, hbw, hcw⟩
      clear hcell dcell HA HC HA1 HC1 hbw hcw
      go_wp2_with fail
      go_region_held3 (fun w' => TwoTerm b (off + k * 5) c (p + k * 5) (F (k * 5)) (F (k * 5 + 1)) (F (k * 5 + 2)) (F (k * 5 + 3)) (F (k * 5 + 4)) w') (first | with_reducible exact TwoTerm.drew HS.out | with_reducible exact TwoTerm.call (by assumption) (by assumption))
        (first
          | (go_at_call 79; refine (eqTerm_same _ _ _ _ _ _).mono ?_; rintro e w1 ⟨rfl, hb1⟩))
      have HB1 : Hid (Below w.heap.size w w1) := HB.out.trans ((Below.refl _ _).drew.trans (hb1.mono HB.out.size))
      clear hb1 HS HB
      go_wp2
      go_roundw
      case rel => exact ⟨k + 1, by omega, by simp, HB1.out⟩
      case measure => simp [intOf]; omega
    · go_wp2
      go_ret
      exact ⟨rfl, HB.out⟩
end Go.Proofs.YtgcgoehmgaokkaaDoor
