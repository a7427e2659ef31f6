import Derived.Test.YtgcgoehmgaokkaaDoorPtMark
namespace Go.Proofs.YtgcgoehmgaokkaaDoor
open Go.RowKit

set_option maxHeartbeats 4000000 in
theorem markRuleS_any (n g : Nat) (k0 : Int) (f : Nat → Value) (w : World) (hn : n ≤ 1048576) (hk0 : 0 ≤ k0 ∧ k0 ≤ 100000000) (hr : w.rowIs g 56 (n * 9) f) :
    Calls Tryd.prog 36 #[.slice (some ⟨g, 0, none⟩) n n, .int .i64 k0] w fun e w' => e = .returned (.int .i64 (k0 + 9 * n)) ∧ (∃ f', w'.rowIs g 56 (n * 9) f') ∧ w.grownBy w' (some g) := by
  have HR : Hid (w.rowIs g 56 (n * 9) f) := hr
  clear hr
  go_enter Tryd.func36, Tryd.ntmps36
  go_wp2
  go_loopw [1, 5] (fun kv i wr => ∃ k : Nat, k ≤ n ∧ i = .int .i64 k ∧ kv = .int .i64 (k0 + 9 * k) ∧ Hid (∃ f, wr.rowIs g 56 (n * 9) f) ∧ Hid (w.grownBy wr (some g))) (fun _ i _ => n - (intOf i).toNat)
  case atStart => exact ⟨0, Nat.zero_le _, rfl, by go_num, ⟨f, HR.out⟩, grown_refl _ _⟩
  case round =>
    obtain ⟨k, hk, rfl, rfl, HF, HG⟩ := hrel
    by_cases hlt : k < n
    · obtain ⟨f1, hr1⟩ := HF.out
      have c0 := hr1.cell (i := k * 9) (by omega)
      have z0 := hr1.frozen (k * 9)
      have c1 := hr1.cell (i := k * 9 + 1) (by omega)
      have z1 := hr1.frozen (k * 9 + 1)
      have c2 := hr1.cell (i := k * 9 + 2) (by omega)
      have z2 := hr1.frozen (k * 9 + 2)
      have c3 := hr1.cell (i := k * 9 + 3) (by omega)
      have z3 := hr1.frozen (k * 9 + 3)
      have c4 := hr1.cell (i := k * 9 + 4) (by omega)
      have z4 := hr1.frozen (k * 9 + 4)
      have c5 := hr1.cell (i := k * 9 + 5) (by omega)
      have z5 := hr1.frozen (k * 9 + 5)
      have c6 := hr1.cell (i := k * 9 + 6) (by omega)
      have z6 := hr1.frozen (k * 9 + 6)
      have c7 := hr1.cell (i := k * 9 + 7) (by omega)
      have z7 := hr1.frozen (k * 9 + 7)
      have c8 := hr1.cell (i := k * 9 + 8) (by omega)
      have z8 := hr1.frozen (k * 9 + 8)
      have HR1 : Hid (wr.rowIs g 56 (n * 9) f1) := hr1
      clear hr1 HF HR
      go_wp2
      go_roundw
      case rel => exact ⟨k + 1, by omega, by simp, by go_num, ⟨_, (((((((((HR1.out.set (k * 9) _).set (k * 9 + 1) _).set (k * 9 + 2) _).set (k * 9 + 3) _).set (k * 9 + 4) _).set (k * 9 + 5) _).set (k * 9 + 6) _).set (k * 9 + 7) _).set (k * 9 + 8) _)⟩, (grown_set (grown_set (grown_set (grown_set (grown_set (grown_set (grown_set (grown_set (grown_set HG.out)))))))))⟩
      case measure => simp [intOf]; omega
    · have hkn : k = n := by omega
      subst hkn
      clear HR
      go_wp2
      go_ret
      exact ⟨rfl, HF.out, HG.out⟩
end Go.Proofs.YtgcgoehmgaokkaaDoor
