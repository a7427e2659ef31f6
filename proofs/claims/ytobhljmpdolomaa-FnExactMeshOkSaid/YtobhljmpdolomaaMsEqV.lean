import Derived.Test.YtobhljmpdolomaaMs0
import Derived.Deep.RegionHeld3
namespace Go.Proofs.Ytobhljmpdolomaa
open Go.RowKit

theorem eqQ_same (a b : Int) (w : World) :
    Calls Try.prog 68 #[.agg #[.int .i64 a, .int .i64 b], .agg #[.int .i64 a, .int .i64 b]] w fun e w' => e = .returned (.bool true) ∧ Below w.heap.size w w' := by
  go_enter Try.func68, Try.ntmps68
  go_wp2
  go_ret
  exact ⟨rfl, Joins.below_alloc2 _ _ _⟩

set_option maxHeartbeats 1000000 in
theorem eqV3_same (a b c d k l : Int) (w : World) :
    Calls Try.prog 58 #[.agg #[.int .i64 a, .int .i64 b, .int .i64 c, .int .i64 d, .int .i64 k, .int .i64 l], .agg #[.int .i64 a, .int .i64 b, .int .i64 c, .int .i64 d, .int .i64 k, .int .i64 l]] w fun e w' => e = .returned (.bool true) ∧ Below w.heap.size w w' := by
  go_enter Try.func58, Try.ntmps58
  go_wp2_with fail
  refine (eqQ_same _ _ _).mono ?_
  rintro e w1 ⟨rfl, hb1⟩
  obtain ⟨hc1, hf1⟩ := bcell hb1
  have HB1 : Hid _ := hb1
  clear hb1
  go_wp2_with fail
  refine (eqQ_same _ _ _).mono ?_
  rintro e w2 ⟨rfl, hb2⟩
  have HB2 : Hid (Below _ _ w2) := HB1.out.trans (hb2.mono HB1.out.size)
  clear hb2 HB1 hc1 hf1
  obtain ⟨hc2, hf2⟩ := bcell HB2.out
  go_wp2_with fail
  refine (eqQ_same _ _ _).mono ?_
  rintro e w3 ⟨rfl, hb3⟩
  have HB3 : Hid (Below _ _ w3) := HB2.out.trans (hb3.mono HB2.out.size)
  clear hb3 HB2 hc2 hf2
  go_wp2
  go_ret
  exact ⟨rfl, (Joins.below_alloc2 _ _ _).trans (HB3.out.mono (by simp; omega))⟩

abbrev TwoV3 (b o c p : Nat) (x0 x1 x2 x3 x4 x5 : Int) (w' : World) : Prop := (w'.cell? ⟨b, o, none⟩ = some (.int .i64 x0) ∧ w'.cell? ⟨b, o + 1, none⟩ = some (.int .i64 x1) ∧ w'.cell? ⟨b, o + 2, none⟩ = some (.int .i64 x2) ∧ w'.cell? ⟨b, o + 3, none⟩ = some (.int .i64 x3) ∧ w'.cell? ⟨b, o + 4, none⟩ = some (.int .i64 x4) ∧ w'.cell? ⟨b, o + 5, none⟩ = some (.int .i64 x5) ∧ w'.cell? ⟨c, p, none⟩ = some (.int .i64 x0) ∧ w'.cell? ⟨c, p + 1, none⟩ = some (.int .i64 x1) ∧ w'.cell? ⟨c, p + 2, none⟩ = some (.int .i64 x2) ∧ w'.cell? ⟨c, p + 3, none⟩ = some (.int .i64 x3) ∧ w'.cell? ⟨c, p + 4, none⟩ = some (.int .i64 x4) ∧ w'.cell? ⟨c, p + 5, none⟩ = some (.int .i64 x5)) ∧ b < w'.heap.size ∧ c < w'.heap.size
theorem TwoV3.drew {b o c p : Nat} {x0 x1 x2 x3 x4 x5 : Int} {w' : World} (h : TwoV3 b o c p x0 x1 x2 x3 x4 x5 w') : TwoV3 b o c p x0 x1 x2 x3 x4 x5 w'.drew := h
theorem TwoV3.call {b o c p : Nat} {x0 x1 x2 x3 x4 x5 : Int} {w' w1 : World} (h : TwoV3 b o c p x0 x1 x2 x3 x4 x5 w') (hb : Below w'.heap.size w' w1) : TwoV3 b o c p x0 x1 x2 x3 x4 x5 w1 :=
  ⟨⟨(hb.cell h.2.1).trans (h.1.1), (hb.cell h.2.1).trans (h.1.2.1), (hb.cell h.2.1).trans (h.1.2.2.1), (hb.cell h.2.1).trans (h.1.2.2.2.1), (hb.cell h.2.1).trans (h.1.2.2.2.2.1), (hb.cell h.2.1).trans (h.1.2.2.2.2.2.1), (hb.cell h.2.2).trans (h.1.2.2.2.2.2.2.1), (hb.cell h.2.2).trans (h.1.2.2.2.2.2.2.2.1), (hb.cell h.2.2).trans (h.1.2.2.2.2.2.2.2.2.1), (hb.cell h.2.2).trans (h.1.2.2.2.2.2.2.2.2.2.1), (hb.cell h.2.2).trans (h.1.2.2.2.2.2.2.2.2.2.2.1), (hb.cell h.2.2).trans (h.1.2.2.2.2.2.2.2.2.2.2.2)⟩, Nat.lt_of_lt_of_le h.2.1 hb.size, Nat.lt_of_lt_of_le h.2.2 hb.size⟩

set_option maxHeartbeats 1000000 in
theorem eqV3S_same (n cap cap' : Nat) (ao bo : Option Addr) (F : Nat → Int) (w : World) (hn : n ≤ 1048576) (ha : Rd w 6 ao n F) (hb : Rd w 6 bo n F) :
    Calls Try.prog 32 #[.slice ao n cap, .slice bo n cap'] w fun e w' => e = .returned (.bool true) ∧ Below w.heap.size w w' := by
  have HA : Hid (Rd w 6 ao n F) := ha
  have HC : Hid (Rd w 6 bo n F) := hb
  clear ha hb
  go_enter Try.func32, Try.ntmps32
  go_wp2
  go_loopw [5] (fun i wr => ∃ k : Nat, k ≤ n ∧ i = .int .i64 k ∧ Hid (Below w.heap.size w wr)) (fun i _ => n - (intOf i).toNat)
  case atStart => exact ⟨0, Nat.zero_le _, rfl, Below.refl _ _⟩
  case round =>
    obtain ⟨k, hk, rfl, HB⟩ := hrel
    by_cases hlt : k < n
    · have HA1 : Hid (Rd wr 6 ao n F) := Rd.below HA.out HB.out (Nat.le_refl _)
      have HC1 : Hid (Rd wr 6 bo n F) := Rd.below HC.out HB.out (Nat.le_refl _)
      obtain ⟨b, off, rfl, hbw, hcell⟩ := HA1.out (by omega)
      obtain ⟨c, p, rfl, hcw, dcell⟩ := HC1.out (by omega)
      have HS : Hid (TwoV3 b (off + k * 6) c (p + k * 6) (F (k * 6)) (F (k * 6 + 1)) (F (k * 6 + 2)) (F (k * 6 + 3)) (F (k * 6 + 4)) (F (k * 6 + 5)) wr) := ⟨⟨hcell (k * 6) (by omega), hcell (k * 6 + 1) (by omega), hcell (k * 6 + 2) (by omega), hcell (k * 6 + 3) (by omega), hcell (k * 6 + 4) (by omega), hcell (k * 6 + 5) (by omega), dcell (k * 6) (by omega), dcell (k * 6 + 1) (by omega), dcell (k * 6 + 2) (by omega), dcell (k * 6 + 3) (by omega), dcell (k * 6 + 4) (by omega), dcell (k * 6 + 5) (by omega)⟩, hbw, hcw⟩
      clear hcell dcell HA HC HA1 HC1 hbw hcw
      go_wp2_with fail
      go_region_held3 (fun w' => TwoV3 b (off + k * 6) c (p + k * 6) (F (k * 6)) (F (k * 6 + 1)) (F (k * 6 + 2)) (F (k * 6 + 3)) (F (k * 6 + 4)) (F (k * 6 + 5)) w') (first | with_reducible exact TwoV3.drew HS.out | with_reducible exact TwoV3.call (by assumption) (by assumption))
        (first
          | (go_at_call 58; refine (eqV3_same _ _ _ _ _ _ _).mono ?_; rintro e w1 ⟨rfl, hb1⟩))
      have HB1 : Hid (Below w.heap.size w w1) := HB.out.trans ((Below.refl _ _).drew.trans (hb1.mono HB.out.size))
      clear hb1 HS HB
      go_wp2
      go_roundw
      case rel => exact ⟨k + 1, by omega, by simp, HB1.out⟩
      case measure => simp [intOf]; omega
    · go_wp2
      go_ret
      exact ⟨rfl, HB.out⟩
end Go.Proofs.Ytobhljmpdolomaa
