import Derived.Test.YtobhljmpdolomaaPkBytes
namespace Go.Proofs.Ytobhljmpdolomaa
open Go.RowKit

/-- A number turned back. -/
def unzig (u : Nat) : Int := if u % 2 = 1 then -((u / 2 : Nat) : Int) - 1 else ((u / 2 : Nat) : Int)
/-- A number of bytes, from group n on: a code, the number, the place behind it. -/
def rdGo (L : List Int) : Nat → Nat → Nat → Nat → Int × Int × Nat
  | 0, _, p, _ => (3, 0, p)
  | f + 1, n, p, u =>
    if L.length ≤ p then (2, 0, p)
    else if 128 ≤ L.getD p 0 then rdGo L f (n + 1) (p + 1) (u + ((L.getD p 0).toNat % 128 * 2 ^ (7 * n)) % 18446744073709551616)
    else if (L.getD p 0 = 0 ∧ 0 < n) ∨ (n = 9 ∧ 1 < L.getD p 0) then (3, 0, p + 1)
    else (0, unzig (u + ((L.getD p 0).toNat % 128 * 2 ^ (7 * n)) % 18446744073709551616), p + 1)
def rdNum (L : List Int) (p : Nat) (code : Int) : Int × Int × Nat := if code = 0 then rdGo L 10 0 p 0 else (code, 0, p)
theorem rdGo_short {L : List Int} {f n p u : Nat} (h : L.length ≤ p) : rdGo L (f + 1) n p u = (2, 0, p) := by rw [rdGo, if_pos h]
theorem rdGo_more {L : List Int} {f n p u : Nat} (h : ¬ L.length ≤ p) (h1 : 128 ≤ L.getD p 0) : rdGo L (f + 1) n p u = rdGo L f (n + 1) (p + 1) (u + ((L.getD p 0).toNat % 128 * 2 ^ (7 * n)) % 18446744073709551616) := by rw [rdGo, if_neg h, if_pos h1]
theorem rdGo_form {L : List Int} {f n p u : Nat} (h : ¬ L.length ≤ p) (h1 : ¬ 128 ≤ L.getD p 0) (h2 : (L.getD p 0 = 0 ∧ 0 < n) ∨ (n = 9 ∧ 1 < L.getD p 0)) : rdGo L (f + 1) n p u = (3, 0, p + 1) := by rw [rdGo, if_neg h, if_neg h1, if_pos h2]
theorem rdGo_told {L : List Int} {f n p u : Nat} (h : ¬ L.length ≤ p) (h1 : ¬ 128 ≤ L.getD p 0) (h2 : ¬ ((L.getD p 0 = 0 ∧ 0 < n) ∨ (n = 9 ∧ 1 < L.getD p 0))) :
    rdGo L (f + 1) n p u = (0, unzig (u + ((L.getD p 0).toNat % 128 * 2 ^ (7 * n)) % 18446744073709551616), p + 1) := by rw [rdGo, if_neg h, if_neg h1, if_neg h2]
theorem rdGo_end {L : List Int} {n p u : Nat} : rdGo L 0 n p u = (3, 0, p) := rfl
/-- What is put together stays small. -/
theorem grow_u {n u b : Nat} (hn : n ≤ 9) (hu : u < 2 ^ (7 * n)) : u + (b % 128 * 2 ^ (7 * n)) % 18446744073709551616 < 18446744073709551616 ∧ (n < 9 → u + (b % 128 * 2 ^ (7 * n)) % 18446744073709551616 < 2 ^ (7 * (n + 1))) := by
  have e : 2 ^ (7 * (n + 1)) = 2 ^ (7 * n) * 128 := by rw [show 7 * (n + 1) = 7 * n + 7 by omega, Nat.pow_add]
  have hb : b % 128 ≤ 127 := by omega
  by_cases h9 : n < 9
  · have hp : 2 ^ (7 * n) ≤ 2 ^ 56 := Nat.pow_le_pow_right (by omega) (by omega)
    have hm : b % 128 * 2 ^ (7 * n) ≤ 127 * 2 ^ (7 * n) := Nat.mul_le_mul_right _ hb
    have hs : b % 128 * 2 ^ (7 * n) < 18446744073709551616 := by omega
    rw [Nat.mod_eq_of_lt hs]
    exact ⟨by omega, fun _ => by rw [e]; omega⟩
  · have h : n = 9 := by omega
    subst h
    refine ⟨?_, fun h => absurd h (by omega)⟩
    have hz : b % 128 * 2 ^ (7 * 9) % 18446744073709551616 ≤ 9223372036854775808 := by omega
    have hu' : u < 9223372036854775808 := hu
    omega
/-- The groups do not lie over one another. -/
theorem or_u {n u b : Nat} (hn : n ≤ 9) (hu : u < 2 ^ (7 * n)) : u ||| (b % 128 * 2 ^ (7 * n)) % 18446744073709551616 = u + (b % 128 * 2 ^ (7 * n)) % 18446744073709551616 := by
  obtain ⟨c, hc⟩ : ∃ c, (b % 128 * 2 ^ (7 * n)) % 18446744073709551616 = 2 ^ (7 * n) * c := by
    have hd : 2 ^ (7 * n) ∣ 18446744073709551616 := ⟨2 ^ (64 - 7 * n), by rw [← Nat.pow_add, show 7 * n + (64 - 7 * n) = 64 by omega]⟩
    obtain ⟨c, hc⟩ := (Nat.dvd_mod_iff hd).2 (Nat.dvd_mul_left (2 ^ (7 * n)) (b % 128))
    exact ⟨c, hc⟩
  rw [hc, Nat.or_comm, ← Nat.two_pow_add_eq_or_of_lt hu, Nat.add_comm]
end Go.Proofs.Ytobhljmpdolomaa
