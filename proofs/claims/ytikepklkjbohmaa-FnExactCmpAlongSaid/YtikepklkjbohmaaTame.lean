import Derived.Test.YtikepklkjbohmaaFw
namespace Go.Proofs.Ytikepklkjbohmaa
open Go.RowKit

def allB : Nat → (Nat → Bool) → Bool
  | 0, _ => true
  | n + 1, f => allB n f && f n
theorem allB_false (f : Nat → Bool) (k : Nat) : ∀ n, k < n → f k = false → allB n f = false
  | 0, h, _ => absurd h (by omega)
  | n + 1, h, hf => by
    unfold allB
    by_cases e : k = n
    · subst e; rw [hf, Bool.and_false]
    · rw [allB_false f k n (by omega) hf, Bool.false_and]

set_option maxHeartbeats 400000 in
theorem l2Tame_any (g n c : Nat) (X Y Z : Nat → Int) (w : World) (hn : n ≤ 1000) (h1 : ∀ j, j < n → w.cell? ⟨g, j * 3, none⟩ = some (.int .i64 (X j))) (h2 : ∀ j, j < n → w.cell? ⟨g, j * 3 + 1, none⟩ = some (.int .i64 (Y j))) (h3 : ∀ j, j < n → w.cell? ⟨g, j * 3 + 2, none⟩ = some (.int .i64 (Z j))) :
    Calls Try.prog 46 #[.slice (some ⟨g, 0, none⟩) n c] w fun e w' => e = .returned (.bool (allB n fun j => inB3 (X j) (Y j) (Z j))) ∧ w' = w := by
  go_enter Try.func46, Try.ntmps46
  go_wp2
  go_loop [3] (fun i => ∃ k : Nat, k ≤ n ∧ i = .int .i64 k ∧ allB k (fun j => inB3 (X j) (Y j) (Z j)) = true) (fun i => n - (intOf i).toNat)
  case atStart => exact ⟨0, Nat.zero_le _, rfl, rfl⟩
  case round =>
    obtain ⟨k, hk, rfl, hall⟩ := hrel
    have HA : Hid (allB k (fun j => inB3 (X j) (Y j) (Z j)) = true) := hall
    clear hall
    by_cases hlt : k < n
    · have c1 := h1 k hlt
      have c2 := h2 k hlt
      have c3 := h3 k hlt
      clear h1 h2 h3
      by_cases b1 : inB (X k) = true
      rotate_left
      · have b1' : inB (X k) = false := by simpa using b1
        clear b1
        have HN : Hid (false = allB n fun j => inB3 (X j) (Y j) (Z j)) := by
          exact (allB_false _ k n hlt (by simp [inB3, b1'])).symm
        go_wp2_with (go_at_call 72; refine (l2In_any _ _).mono ?_; rintro e w' ⟨rfl, rfl⟩)
        go_ret
        exact ⟨ret_bool HN.out, rfl⟩
      by_cases b2 : inB (Y k) = true
      rotate_left
      · have b2' : inB (Y k) = false := by simpa using b2
        clear b2
        have HN : Hid (false = allB n fun j => inB3 (X j) (Y j) (Z j)) := by
          exact (allB_false _ k n hlt (by simp [inB3, b2'])).symm
        go_wp2_with (go_at_call 72; refine (l2In_any _ _).mono ?_; rintro e w' ⟨rfl, rfl⟩)
        go_ret
        exact ⟨ret_bool HN.out, rfl⟩
      by_cases b3 : inB (Z k) = true
      rotate_left
      · have b3' : inB (Z k) = false := by simpa using b3
        clear b3
        have HN : Hid (false = allB n fun j => inB3 (X j) (Y j) (Z j)) := by
          exact (allB_false _ k n hlt (by simp [inB3, b3'])).symm
        go_wp2_with (go_at_call 72; refine (l2In_any _ _).mono ?_; rintro e w' ⟨rfl, rfl⟩)
        go_ret
        exact ⟨ret_bool HN.out, rfl⟩
      have HK : Hid (allB (k + 1) (fun j => inB3 (X j) (Y j) (Z j)) = true) := by
        unfold Hid allB; rw [HA.out]; simp [inB3, b1, b2, b3]
      go_wp2_with (go_at_call 72; refine (l2In_any _ _).mono ?_; rintro e w' ⟨rfl, rfl⟩)
      go_round
      case rel => exact ⟨k + 1, by omega, by go_num, HK.out⟩
      case measure => simp [intOf]; omega
    · have hkn : k = n := by omega
      have HN : Hid (true = allB n fun j => inB3 (X j) (Y j) (Z j)) := by
        unfold Hid; rw [← hkn]; exact HA.out.symm
      clear hkn
      clear h1 h2 h3
      go_wp2
      go_ret
      exact ⟨ret_bool HN.out, rfl⟩

set_option maxHeartbeats 400000 in
theorem l2Tame2_any (g n c : Nat) (X Y : Nat → Int) (w : World) (hn : n ≤ 1000) (h1 : ∀ j, j < n → w.cell? ⟨g, j * 2, none⟩ = some (.int .i64 (X j))) (h2 : ∀ j, j < n → w.cell? ⟨g, j * 2 + 1, none⟩ = some (.int .i64 (Y j))) :
    Calls Try.prog 38 #[.slice (some ⟨g, 0, none⟩) n c] w fun e w' => e = .returned (.bool (allB n fun j => inB2 (X j) (Y j))) ∧ w' = w := by
  go_enter Try.func38, Try.ntmps38
  go_wp2
  go_loop [3] (fun i => ∃ k : Nat, k ≤ n ∧ i = .int .i64 k ∧ allB k (fun j => inB2 (X j) (Y j)) = true) (fun i => n - (intOf i).toNat)
  case atStart => exact ⟨0, Nat.zero_le _, rfl, rfl⟩
  case round =>
    obtain ⟨k, hk, rfl, hall⟩ := hrel
    have HA : Hid (allB k (fun j => inB2 (X j) (Y j)) = true) := hall
    clear hall
    by_cases hlt : k < n
    · have c1 := h1 k hlt
      have c2 := h2 k hlt
      clear h1 h2
      by_cases b1 : inB (X k) = true
      rotate_left
      · have b1' : inB (X k) = false := by simpa using b1
        clear b1
        have HN : Hid (false = allB n fun j => inB2 (X j) (Y j)) := by
          exact (allB_false _ k n hlt (by simp [inB2, b1'])).symm
        go_wp2_with (go_at_call 72; refine (l2In_any _ _).mono ?_; rintro e w' ⟨rfl, rfl⟩)
        go_ret
        exact ⟨ret_bool HN.out, rfl⟩
      by_cases b2 : inB (Y k) = true
      rotate_left
      · have b2' : inB (Y k) = false := by simpa using b2
        clear b2
        have HN : Hid (false = allB n fun j => inB2 (X j) (Y j)) := by
          exact (allB_false _ k n hlt (by simp [inB2, b2'])).symm
        go_wp2_with (go_at_call 72; refine (l2In_any _ _).mono ?_; rintro e w' ⟨rfl, rfl⟩)
        go_ret
        exact ⟨ret_bool HN.out, rfl⟩
      have HK : Hid (allB (k + 1) (fun j => inB2 (X j) (Y j)) = true) := by
        unfold Hid allB; rw [HA.out]; simp [inB2, b1, b2]
      go_wp2_with (go_at_call 72; refine (l2In_any _ _).mono ?_; rintro e w' ⟨rfl, rfl⟩)
      go_round
      case rel => exact ⟨k + 1, by omega, by go_num, HK.out⟩
      case measure => simp [intOf]; omega
    · have hkn : k = n := by omega
      have HN : Hid (true = allB n fun j => inB2 (X j) (Y j)) := by
        unfold Hid; rw [← hkn]; exact HA.out.symm
      clear hkn
      clear h1 h2
      go_wp2
      go_ret
      exact ⟨ret_bool HN.out, rfl⟩

end Go.Proofs.Ytikepklkjbohmaa
