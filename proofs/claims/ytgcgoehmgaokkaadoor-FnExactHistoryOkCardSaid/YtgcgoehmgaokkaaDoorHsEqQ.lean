import Derived.Test.YtgcgoehmgaokkaaDoorHs0
import Derived.Deep.RegionHeld3
namespace Go.Proofs.YtgcgoehmgaokkaaDoor
open Go.RowKit

theorem eqQ_same (x0 x1 : Int) (w : World) :
    Calls Tryd.prog 69 #[.agg #[.int .i64 x0, .int .i64 x1], .agg #[.int .i64 x0, .int .i64 x1]] w fun e w' => e = .returned (.bool true) ∧ Below w.heap.size w w' := by
  go_enter Tryd.func69, Tryd.ntmps69
  go_wp2
  go_ret
  exact ⟨rfl, Joins.below_alloc2 _ _ _⟩

abbrev TwoQ (b o c p : Nat) (x0 x1 : Int) (w' : World) : Prop := (w'.cell? ⟨b, o, none⟩ = some (.int .i64 x0) ∧ w'.cell? ⟨b, o + 1, none⟩ = some (.int .i64 x1) ∧ w'.cell? ⟨c, p, none⟩ = some (.int .i64 x0) ∧ w'.cell? ⟨c, p + 1, none⟩ = some (.int .i64 x1)) ∧ b < w'.heap.size ∧ c < w'.heap.size
theorem TwoQ.drew {b o c p : Nat} {x0 x1 : Int} {w' : World} (h : TwoQ b o c p x0 x1 w') : TwoQ b o c p x0 x1 w'.drew := h
theorem TwoQ.call {b o c p : Nat} {x0 x1 : Int} {w' w1 : World} (h : TwoQ b o c p x0 x1 w') (hb : Below w'.heap.size w' w1) : TwoQ b o c p x0 x1 w1 :=
  ⟨⟨(hb.cell h.2.1).trans (h.1.1), (hb.cell h.2.1).trans (h.1.2.1), (hb.cell h.2.2).trans (h.1.2.2.1), (hb.cell h.2.2).trans (h.1.2.2.2)⟩, Nat.lt_of_lt_of_le h.2.1 hb.size, Nat.lt_of_lt_of_le h.2.2 hb.size⟩

set_option maxHeartbeats 1000000 in
theorem eqQS_same (n cap cap' : Nat) (ao bo : Option Addr) (F : Nat → Int) (w : World) (hn : n ≤ 1048576) (ha : Rd w 2 ao n F) (hb : Rd w 2 bo n F) :
    Calls Tryd.prog 50 #[.slice ao n cap, .slice bo n cap'] w fun e w' => e = .returned (.bool true) ∧ Below w.heap.size w w' := by
  have HA : Hid (Rd w 2 ao n F) := ha
  have HC : Hid (Rd w 2 bo n F) := hb
  clear ha hb
  go_enter Tryd.func50, Tryd.ntmps50
  go_wp2
  go_loopw [5] (fun i wr => ∃ k : Nat, k ≤ n ∧ i = .int .i64 k ∧ Hid (Below w.heap.size w wr)) (fun i _ => n - (intOf i).toNat)
  case atStart => exact ⟨0, Nat.zero_le _, rfl, Below.refl _ _⟩
  case round =>
    obtain ⟨k, hk, rfl, HB⟩ := hrel
    by_cases hlt : k < n
    · have HA1 : Hid (Rd wr 2 ao n F) := Rd.below HA.out HB.out (Nat.le_refl _)
      have HC1 : Hid (Rd wr 2 bo n F) := Rd.below HC.out HB.out (Nat.le_refl _)
      obtain ⟨b, off, rfl, hbw, hcell⟩ := HA1.out (by omega)
      obtain ⟨c, p, rfl, hcw, dcell⟩ := HC1.out (by omega)
      have HS : Hid (TwoQ b (off + k * 2) c (p + k * 2) (F (k * 2)) (F (k * 2 + 1)) wr) := ⟨⟨hcell (k * 2) (by omega), hcell (k * 2 + 1) (by omega), dcell (k * 2) (by omega), dcell (k * 2 + 1) (by omega)⟩, hbw, hcw⟩
      clear hcell dcell HA HC HA1 HC1 hbw hcw
      go_wp2_with fail
      go_region_held3 (fun w' => TwoQ b (off + k * 2) c (p + k * 2) (F (k * 2)) (F (k * 2 + 1)) w') (first | with_reducible exact TwoQ.drew HS.out | with_reducible exact TwoQ.call (by assumption) (by assumption))
        (first
          | (go_at_call 69; refine (eqQ_same _ _ _).mono ?_; rintro e w1 ⟨rfl, hb1⟩))
      have HB1 : Hid (Below w.heap.size w w1) := HB.out.trans ((Below.refl _ _).drew.trans (hb1.mono HB.out.size))
      clear hb1 HS HB
      go_wp2
      go_roundw
      case rel => exact ⟨k + 1, by omega, by simp, HB1.out⟩
      case measure => simp [intOf]; omega
    · go_wp2
      go_ret
      exact ⟨rfl, HB.out⟩
end Go.Proofs.YtgcgoehmgaokkaaDoor
