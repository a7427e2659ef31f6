import Derived.Test.YtikepklkjbohmaaZadd
namespace Go.Proofs.Ytikepklkjbohmaa
open Go.RowKit

theorem val_split (n j : Nat) (f : Nat → Nat) (hf : ∀ i, i < n → f i < 4294967296) (h : j ≤ n) : ∃ r, val n f = val j f + 4294967296 ^ j * r ∧ (j < n → r % 4294967296 = f j) := by
  induction n with
  | zero => have : j = 0 := by omega
            subst this; exact ⟨0, rfl, fun h => absurd h (by omega)⟩
  | succ n ih =>
    by_cases e : j = n + 1
    · subst e; exact ⟨0, by omega, fun h => absurd h (by omega)⟩
    · obtain ⟨r, hr, hd⟩ := ih (fun i hi => hf i (by omega)) (by omega)
      refine ⟨r + f n * 4294967296 ^ (n - j), ?_, fun hjn => ?_⟩
      · show val n f + f n * 4294967296 ^ n = _
        have h1 : 4294967296 ^ n = 4294967296 ^ j * 4294967296 ^ (n - j) := by rw [← Nat.pow_add]; congr 1; omega
        have h2 : f n * 4294967296 ^ n = 4294967296 ^ j * (f n * 4294967296 ^ (n - j)) := by
          rw [h1]; rw [← Nat.mul_assoc, ← Nat.mul_assoc, Nat.mul_comm (f n)]
        rw [hr, Nat.mul_add, h2]; omega
      · by_cases e2 : j = n
        · subst e2
          rw [Nat.sub_self, Nat.pow_zero, Nat.mul_one]
          have : r = 0 := by
            rcases Nat.eq_zero_or_pos r with h0 | h0
            · exact h0
            · exfalso
              have h3 : val j f = val j f + 4294967296 ^ j * r := hr
              have h4 : 0 < 4294967296 ^ j * r := Nat.mul_pos (Nat.pow_pos (by omega)) h0
              omega
          rw [this, Nat.zero_add]; exact Nat.mod_eq_of_lt (hf j (by omega))
        · rw [← hd (by omega)]
          obtain ⟨s, hs⟩ : ∃ s, n - j = s + 1 := ⟨n - j - 1, by omega⟩
          rw [hs, Nat.pow_succ, ← Nat.mul_assoc, Nat.add_mul_mod_self_right]
theorem val_digit (n j : Nat) (f : Nat → Nat) (hf : ∀ i, i < n → f i < 4294967296) (h : j < n) : val n f / 4294967296 ^ j = val n f / 4294967296 ^ (j + 1) * 4294967296 + f j := by
  obtain ⟨r, hr, hd⟩ := val_split n j f hf (by omega)
  have h1 := val_lt j f (fun i hi => hf i (by omega))
  have h2 : val n f / 4294967296 ^ j = r := by
    rw [hr, Nat.add_mul_div_left _ _ (Nat.pow_pos (by omega)), Nat.div_eq_of_lt h1, Nat.zero_add]
  rw [Nat.pow_succ, ← Nat.div_div_eq_div_mul, h2, ← hd h]
  omega

/-- A whole number as an int64, where its size is at most most. -/
def zi (s : Bool) (X most : Nat) : Int := if X ≤ most then (if s then -(X : Int) else X) else 0
def zok (X most : Nat) : Bool := decide (X ≤ most)
theorem ret_ib {a b : Int} {p q : Bool} (h : a = b) (h' : p = q) : Ending.returned (.tuple #[.int .i64 a, .bool p]) = .returned (.tuple #[.int .i64 b, .bool q]) := by rw [h, h']

set_option maxHeartbeats 1000000 in
theorem l1ZInt_any (s : Bool) (a : Option Addr) (n c : Nat) (f : Nat → Nat) (X most : Nat) (w : World) (ha : Mag w a n c f X) (hmost : most ≤ 9223372036854775807) :
    Calls Try.prog 66 #[.agg #[.bool s, .slice a n c], .int .u64 most] w fun e w' => e = .returned (.tuple #[.int .i64 (zi s X most), .bool (zok X most)]) ∧ Below w.heap.size w w' := by
  have hn8 := ha.sl.small
  by_cases hn : 2 < n
  · have hX : ¬ X ≤ most := by
      rcases ha.top with h0 | h0
      · omega
      · have h1 := val_top (n - 1) f h0
        rw [show n - 1 + 1 = n by omega, ha.is] at h1
        have h2 : 4294967296 ^ 2 ≤ 4294967296 ^ (n - 1) := Nat.pow_le_pow_right (by omega) (by omega)
        have h3 : 4294967296 ^ 2 = 18446744073709551616 := by decide
        omega
    have HZ : Hid (0 = zi s X most ∧ false = zok X most) := ⟨by unfold zi; rw [if_neg hX], by unfold zok; symm; simpa using hX⟩
    clear ha hX
    go_enter Try.func66, Try.ntmps66
    go_wp2
    go_ret2
    exact ⟨ret_ib HZ.out.1 HZ.out.2, Joins.below_alloc1 _ _⟩
  · have HA : Hid (Mag w a n c f X) := ha
    clear ha
    go_enter Try.func66, Try.ntmps66
    go_wp2
    go_loop [6, 7] (fun xv iv => ∃ k t : Nat, k ≤ n ∧ iv = .int .i64 ((k : Int) - 1) ∧ xv = .int .u64 t ∧ t = X / 4294967296 ^ k) (fun _ iv => (intOf iv + 1).toNat)
    case atStart => exact ⟨n, 0, Nat.le_refl _, rfl, rfl, by rw [← HA.out.is, Nat.div_eq_of_lt (val_lt n f HA.out.sl.lt)]⟩
    case round =>
      obtain ⟨k, t, hk, rfl, rfl, ht⟩ := hrel
      have HT : Hid (t = X / 4294967296 ^ k) := ht
      clear ht
      by_cases h0 : k = 0
      · subst h0
        have hXt : t = X := by rw [HT.out, Nat.pow_zero, Nat.div_one]
        subst hXt
        clear HT HA
        by_cases hm : t ≤ most
        · cases s
          · have HZ : Hid ((t : Int) = zi false t most ∧ true = zok t most) := ⟨by unfold zi; rw [if_pos hm]; rfl, by unfold zok; symm; simpa using hm⟩
            go_wp2
            go_ret2
            exact ⟨ret_ib HZ.out.1 HZ.out.2, Joins.below_alloc1 _ _⟩
          · have HZ : Hid (-(t : Int) = zi true t most ∧ true = zok t most) := ⟨by unfold zi; rw [if_pos hm]; rfl, by unfold zok; symm; simpa using hm⟩
            go_wp2
            go_ret2
            exact ⟨ret_ib HZ.out.1 HZ.out.2, Joins.below_alloc1 _ _⟩
        · have HZ : Hid (0 = zi s t most ∧ false = zok t most) := ⟨by unfold zi; rw [if_neg hm], by unfold zok; symm; simpa using hm⟩
          go_wp2
          go_ret2
          exact ⟨ret_ib HZ.out.1 HZ.out.2, Joins.below_alloc1 _ _⟩
      · obtain ⟨j, rfl⟩ : ∃ j, k = j + 1 := ⟨k - 1, by omega⟩
        obtain ⟨ga, ea, ca⟩ := HA.out.sl.at_ (by omega)
        have ca' := ca j (by omega)
        have hlt := World.block_lt_of_cell? w _ ca'
        have la := HA.out.sl.lt j (by omega)
        have hd : X / 4294967296 ^ j = t * 4294967296 + f j := by
          have := val_digit n j f HA.out.sl.lt (by omega)
          rw [HA.out.is, ← HT.out] at this; exact this
        have HD : Hid (X / 4294967296 ^ j = t * 4294967296 + f j) := hd
        have htl : t ≤ 4294967295 := by
          have h1 := val_lt n f HA.out.sl.lt
          rw [HA.out.is] at h1
          have h2 : 4294967296 ^ n ≤ 4294967296 ^ 2 := Nat.pow_le_pow_right (by omega) (by omega)
          have h3 : 4294967296 ^ 2 = 18446744073709551616 := by decide
          have h4 : X / 4294967296 ^ (j + 1) ≤ X / 4294967296 := Nat.div_le_div_left (by rw [Nat.pow_succ]; have : 0 < 4294967296 ^ j := Nat.pow_pos (by omega); omega) (by omega)
          rw [← HT.out] at h4
          omega
        subst ea
        clear ca hd
        go_wp2
        exact ⟨⟨j, t * 4294967296 + f j, by omega, rfl, vint (or_hi t (f j) (by omega) la), HD.out.symm⟩, by simp [intOf]⟩
end Go.Proofs.Ytikepklkjbohmaa
