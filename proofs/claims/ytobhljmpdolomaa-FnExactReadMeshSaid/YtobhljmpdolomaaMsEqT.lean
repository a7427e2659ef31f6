import Derived.Test.YtobhljmpdolomaaMs0
import Derived.Deep.RegionHeld3
namespace Go.Proofs.Ytobhljmpdolomaa
open Go.RowKit

theorem eqTri_same (a b c : Int) (w : World) :
    Calls Try.prog 59 #[.agg #[.int .i64 a, .int .i64 b, .int .i64 c], .agg #[.int .i64 a, .int .i64 b, .int .i64 c]] w fun e w' => e = .returned (.bool true) ∧ Below w.heap.size w w' := by
  go_enter Try.func59, Try.ntmps59
  go_wp2
  go_ret
  exact ⟨rfl, Joins.below_alloc2 _ _ _⟩

abbrev TwoTri (b o c p : Nat) (x0 x1 x2 : Int) (w' : World) : Prop := (w'.cell? ⟨b, o, none⟩ = some (.int .i64 x0) ∧ w'.cell? ⟨b, o + 1, none⟩ = some (.int .i64 x1) ∧ w'.cell? ⟨b, o + 2, none⟩ = some (.int .i64 x2) ∧ w'.cell? ⟨c, p, none⟩ = some (.int .i64 x0) ∧ w'.cell? ⟨c, p + 1, none⟩ = some (.int .i64 x1) ∧ w'.cell? ⟨c, p + 2, none⟩ = some (.int .i64 x2)) ∧ b < w'.heap.size ∧ c < w'.heap.size
theorem TwoTri.drew {b o c p : Nat} {x0 x1 x2 : Int} {w' : World} (h : TwoTri b o c p x0 x1 x2 w') : TwoTri b o c p x0 x1 x2 w'.drew := h
theorem TwoTri.call {b o c p : Nat} {x0 x1 x2 : Int} {w' w1 : World} (h : TwoTri b o c p x0 x1 x2 w') (hb : Below w'.heap.size w' w1) : TwoTri b o c p x0 x1 x2 w1 :=
  ⟨⟨(hb.cell h.2.1).trans (h.1.1), (hb.cell h.2.1).trans (h.1.2.1), (hb.cell h.2.1).trans (h.1.2.2.1), (hb.cell h.2.2).trans (h.1.2.2.2.1), (hb.cell h.2.2).trans (h.1.2.2.2.2.1), (hb.cell h.2.2).trans (h.1.2.2.2.2.2)⟩, Nat.lt_of_lt_of_le h.2.1 hb.size, Nat.lt_of_lt_of_le h.2.2 hb.size⟩

set_option maxHeartbeats 1000000 in
theorem eqTriS_same (n cap cap' : Nat) (ao bo : Option Addr) (F : Nat → Int) (w : World) (hn : n ≤ 1048576) (ha : Rd w 3 ao n F) (hb : Rd w 3 bo n F) :
    Calls Try.prog 33 #[.slice ao n cap, .slice bo n cap'] w fun e w' => e = .returned (.bool true) ∧ Below w.heap.size w w' := by
  have HA : Hid (Rd w 3 ao n F) := ha
  have HC : Hid (Rd w 3 bo n F) := hb
  clear ha hb
  go_enter Try.func33, Try.ntmps33
  go_wp2
  go_loopw [5] (fun i wr => ∃ k : Nat, k ≤ n ∧ i = .int .i64 k ∧ Hid (Below w.heap.size w wr)) (fun i _ => n - (intOf i).toNat)
  case atStart => exact ⟨0, Nat.zero_le _, rfl, Below.refl _ _⟩
  case round =>
    obtain ⟨k, hk, rfl, HB⟩ := hrel
    by_cases hlt : k < n
    · have HA1 : Hid (Rd wr 3 ao n F) := Rd.below HA.out HB.out (Nat.le_refl _)
      have HC1 : Hid (Rd wr 3 bo n F) := Rd.below HC.out HB.out (Nat.le_refl _)
      obtain ⟨b, off, rfl, hbw, hcell⟩ := HA1.out (by omega)
      obtain ⟨c, p, rfl, hcw, dcell⟩ := HC1.out (by omega)
      have HS : Hid (TwoTri b (off + k * 3) c (p + k * 3) (F (k * 3)) (F (k * 3 + 1)) (F (k * 3 + 2)) wr) := ⟨⟨hcell (k * 3) (by omega), hcell (k * 3 + 1) (by omega), hcell (k * 3 + 2) (by omega), dcell (k * 3) (by omega), dcell (k * 3 + 1) (by omega), dcell (k * 3 + 2) (by omega)⟩, hbw, hcw⟩
      clear hcell dcell HA HC HA1 HC1 hbw hcw
      go_wp2_with fail
      go_region_held3 (fun w' => TwoTri b (off + k * 3) c (p + k * 3) (F (k * 3)) (F (k * 3 + 1)) (F (k * 3 + 2)) w') (first | with_reducible exact TwoTri.drew HS.out | with_reducible exact TwoTri.call (by assumption) (by assumption))
        (first
          | (go_at_call 59; refine (eqTri_same _ _ _ _).mono ?_; rintro e w1 ⟨rfl, hb1⟩))
      have HB1 : Hid (Below w.heap.size w w1) := HB.out.trans ((Below.refl _ _).drew.trans (hb1.mono HB.out.size))
      clear hb1 HS HB
      go_wp2
      go_roundw
      case rel => exact ⟨k + 1, by omega, by simp, HB1.out⟩
      case measure => simp [intOf]; omega
    · go_wp2
      go_ret
      exact ⟨rfl, HB.out⟩
end Go.Proofs.Ytobhljmpdolomaa
