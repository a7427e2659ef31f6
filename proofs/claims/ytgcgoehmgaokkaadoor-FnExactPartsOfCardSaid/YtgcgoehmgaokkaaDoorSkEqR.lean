import Derived.Test.YtgcgoehmgaokkaaDoorSk0
import Derived.Deep.RegionHeld3
namespace Go.Proofs.YtgcgoehmgaokkaaDoor
open Go.RowKit

theorem eqQ_same (a b : Int) (w : World) :
    Calls Tryd.prog 69 #[.agg #[.int .i64 a, .int .i64 b], .agg #[.int .i64 a, .int .i64 b]] w fun e w' => e = .returned (.bool true) ∧ Below w.heap.size w w' := by
  go_enter Tryd.func69, Tryd.ntmps69
  go_wp2
  go_ret
  exact ⟨rfl, Joins.below_alloc2 _ _ _⟩

set_option maxHeartbeats 1000000 in
theorem eqRule_same (x0 x1 x2 x3 x4 x5 x6 x7 x8 : Int) (w : World) :
    Calls Tryd.prog 58 #[.agg #[.int .i64 x0, .int .i64 x1, .int .i64 x2, .int .i64 x3, .int .i64 x4, .int .i64 x5, .int .i64 x6, .int .i64 x7, .int .i64 x8], .agg #[.int .i64 x0, .int .i64 x1, .int .i64 x2, .int .i64 x3, .int .i64 x4, .int .i64 x5, .int .i64 x6, .int .i64 x7, .int .i64 x8]] w fun e w' => e = .returned (.bool true) ∧ Below w.heap.size w w' := by
  go_enter Tryd.func58, Tryd.ntmps58
  go_wp2_with fail
  refine (eqQ_same _ _ _).mono ?_
  rintro e w1 ⟨rfl, hb1⟩
  obtain ⟨hc1, hf1⟩ := bcell hb1
  have HB1 : Hid _ := hb1
  clear hb1
  go_wp2_with fail
  refine (eqQ_same _ _ _).mono ?_
  rintro e w2 ⟨rfl, hb2⟩
  have HB2 : Hid (Below _ _ w2) := HB1.out.trans (hb2.mono HB1.out.size)
  clear hb2 HB1 hc1 hf1
  go_wp2
  go_ret
  exact ⟨rfl, (Joins.below_alloc2 _ _ _).trans (HB2.out.mono (by simp; omega))⟩

abbrev TwoRule (b o c p : Nat) (x0 x1 x2 x3 x4 x5 x6 x7 x8 : Int) (w' : World) : Prop := (w'.cell? ⟨b, o, none⟩ = some (.int .i64 x0) ∧ w'.cell? ⟨b, o + 1, none⟩ = some (.int .i64 x1) ∧ w'.cell? ⟨b, o + 2, none⟩ = some (.int .i64 x2) ∧ w'.cell? ⟨b, o + 3, none⟩ = some (.int .i64 x3) ∧ w'.cell? ⟨b, o + 4, none⟩ = some (.int .i64 x4) ∧ w'.cell? ⟨b, o + 5, none⟩ = some (.int .i64 x5) ∧ w'.cell? ⟨b, o + 6, none⟩ = some (.int .i64 x6) ∧ w'.cell? ⟨b, o + 7, none⟩ = some (.int .i64 x7) ∧ w'.cell? ⟨b, o + 8, none⟩ = some (.int .i64 x8) ∧ w'.cell? ⟨c, p, none⟩ = some (.int .i64 x0) ∧ w'.cell? ⟨c, p + 1, none⟩ = some (.int .i64 x1) ∧ w'.cell? ⟨c, p + 2, none⟩ = some (.int .i64 x2) ∧ w'.cell? ⟨c, p + 3, none⟩ = some (.int .i64 x3) ∧ w'.cell? ⟨c, p + 4, none⟩ = some (.int .i64 x4) ∧ w'.cell? ⟨c, p + 5, none⟩ = some (.int .i64 x5) ∧ w'.cell? ⟨c, p + 6, none⟩ = some (.int .i64 x6) ∧ w'.cell? ⟨c, p + 7, none⟩ = some (.int .i64 x7) ∧ w'.cell? ⟨c, p + 8, none⟩ = some (.int .i64 x8)) ∧ b < w'.heap.size ∧ c < w'.heap.size
theorem TwoRule.drew {b o c p : Nat} {x0 x1 x2 x3 x4 x5 x6 x7 x8 : Int} {w' : World} (h : TwoRule b o c p x0 x1 x2 x3 x4 x5 x6 x7 x8 w') : TwoRule b o c p x0 x1 x2 x3 x4 x5 x6 x7 x8 w'.drew := h
theorem TwoRule.call {b o c p : Nat} {x0 x1 x2 x3 x4 x5 x6 x7 x8 : Int} {w' w1 : World} (h : TwoRule b o c p x0 x1 x2 x3 x4 x5 x6 x7 x8 w') (hb : Below w'.heap.size w' w1) : TwoRule b o c p x0 x1 x2 x3 x4 x5 x6 x7 x8 w1 :=
  ⟨⟨(hb.cell h.2.1).trans (h.1.1), (hb.cell h.2.1).trans (h.1.2.1), (hb.cell h.2.1).trans (h.1.2.2.1), (hb.cell h.2.1).trans (h.1.2.2.2.1), (hb.cell h.2.1).trans (h.1.2.2.2.2.1), (hb.cell h.2.1).trans (h.1.2.2.2.2.2.1), (hb.cell h.2.1).trans (h.1.2.2.2.2.2.2.1), (hb.cell h.2.1).trans (h.1.2.2.2.2.2.2.2.1), (hb.cell h.2.1).trans (h.1.2.2.2.2.2.2.2.2.1), (hb.cell h.2.2).trans (h.1.2.2.2.2.2.2.2.2.2.1), (hb.cell h.2.2).trans (h.1.2.2.2.2.2.2.2.2.2.2.1), (hb.cell h.2.2).trans (h.1.2.2.2.2.2.2.2.2.2.2.2.1), (hb.cell h.2.2).trans (h.1.2.2.2.2.2.2.2.2.2.2.2.2.1), (hb.cell h.2.2).trans (h.1.2.2.2.2.2.2.2.2.2.2.2.2.2.1), (hb.cell h.2.2).trans (h.1.2.2.2.2.2.2.2.2.2.2.2.2.2.2.1), (hb.cell h.2.2).trans (h.1.2.2.2.2.2.2.2.2.2.2.2.2.2.2.2.1), (hb.cell h.2.2).trans (h.1.2.2.2.2.2.2.2.2.2.2.2.2.2.2.2.2.1), (hb.cell h.2.2).trans (h.1.2.2.2.2.2.2.2.2.2.2.2.2.2.2.2.2.2)⟩, Nat.lt_of_lt_of_le h.2.1 hb.size, Nat.lt_of_lt_of_le h.2.2 hb.size⟩

set_option maxHeartbeats 1000000 in
theorem eqRuleS_same (n cap cap' : Nat) (ao bo : Option Addr) (F : Nat → Int) (w : World) (hn : n ≤ 1048576) (ha : Rd w 9 ao n F) (hb : Rd w 9 bo n F) :
    Calls Tryd.prog 30 #[.slice ao n cap, .slice bo n cap'] w fun e w' => e = .returned (.bool true) ∧ Below w.heap.size w w' := by
  have HA : Hid (Rd w 9 ao n F) := ha
  have HC : Hid (Rd w 9 bo n F) := hb
  clear ha hb
  go_enter Tryd.func30, Tryd.ntmps30
  go_wp2
  go_loopw [5] (fun i wr => ∃ k : Nat, k ≤ n ∧ i = .int .i64 k ∧ Hid (Below w.heap.size w wr)) (fun i _ => n - (intOf i).toNat)
  case atStart => exact ⟨0, Nat.zero_le _, rfl, Below.refl _ _⟩
  case round =>
    obtain ⟨k, hk, rfl, HB⟩ := hrel
    by_cases hlt : k < n
    · have HA1 : Hid (Rd wr 9 ao n F) := Rd.below HA.out HB.out (Nat.le_refl _)
      have HC1 : Hid (Rd wr 9 bo n F) := Rd.below HC.out HB.out (Nat.le_refl _)
      obtain ⟨b, off, rfl, hbw, hcell⟩ := HA1.out (by omega)
      obtain ⟨c, p, rfl, hcw, dcell⟩ := HC1.out (by omega)
      have HS : Hid (TwoRule b (off + k * 9) c (p + k * 9) (F (k * 9)) (F (k * 9 + 1)) (F (k * 9 + 2)) (F (k * 9 + 3)) (F (k * 9 + 4)) (F (k * 9 + 5)) (F (k * 9 + 6)) (F (k * 9 + 7)) (F (k * 9 + 8)) wr) := ⟨⟨hcell (k * 9) (by omega), hcell (k * 9 + 1) (by omega), hcell (k * 9 + 2) (by omega), hcell (k * 9 + 3) (by omega), hcell (k * 9 + 4) (by omega), hcell (k * 9 + 5) (by omega), hcell (k * 9 + 6) (by omega), hcell (k * 9 + 7) (by omega), hcell (k * 9 + 8) (by omega), dcell (k * 9) (by omega), dcell (k * 9 + 1) (by omega), dcell (k * 9 + 2) (by omega), dcell (k * 9 + 3) (by omega), dcell (k * 9 + 4) (by omega), dcell (k * 9 + 5) (by omega), dcell (k * 9 + 6) (by omega), dcell (k * 9 + 7) (by omega), dcell (k * 9 + 8) (by omega)⟩, hbw, hcw⟩
      clear hcell dcell HA HC HA1 HC1 hbw hcw
      go_wp2_with fail
      go_region_held3 (fun w' => TwoRule b (off + k * 9) c (p + k * 9) (F (k * 9)) (F (k * 9 + 1)) (F (k * 9 + 2)) (F (k * 9 + 3)) (F (k * 9 + 4)) (F (k * 9 + 5)) (F (k * 9 + 6)) (F (k * 9 + 7)) (F (k * 9 + 8)) w') (first | with_reducible exact TwoRule.drew HS.out | with_reducible exact TwoRule.call (by assumption) (by assumption))
        (first
          | (go_at_call 58; refine (eqRule_same _ _ _ _ _ _ _ _ _ _).mono ?_; rintro e w1 ⟨rfl, hb1⟩))
      have HB1 : Hid (Below w.heap.size w w1) := HB.out.trans ((Below.refl _ _).drew.trans (hb1.mono HB.out.size))
      clear hb1 HS HB
      go_wp2
      go_roundw
      case rel => exact ⟨k + 1, by omega, by simp, HB1.out⟩
      case measure => simp [intOf]; omega
    · go_wp2
      go_ret
      exact ⟨rfl, HB.out⟩
end Go.Proofs.YtgcgoehmgaokkaaDoor
