import Derived.Test.YtikepklkjbohmaaShl
namespace Go.Proofs.Ytikepklkjbohmaa
open Go.RowKit

/-- The guess of a digit is at most two too great. -/
theorem knuth (u0 num v0 v1 Q : Nat) (hv : 2147483648 ≤ v1) (hu0 : u0 < 4294967296) (hv0 : v0 < 4294967296) (hQ : Q < 4294967296) (h1 : Q * (v1 * 4294967296 + v0) ≤ num * 4294967296 + u0) (h2 : num * 4294967296 + u0 < (Q + 1) * (v1 * 4294967296 + v0)) :
    Q ≤ num / v1 ∧ num / v1 ≤ Q + 2 := by
  have e1 : Q * (v1 * 4294967296 + v0) = Q * v1 * 4294967296 + Q * v0 := by rw [Nat.mul_add, Nat.mul_assoc]
  have e2 : (Q + 1) * (v1 * 4294967296 + v0) = Q * v1 * 4294967296 + Q * v0 + (v1 * 4294967296 + v0) := by rw [Nat.add_mul, Nat.one_mul, e1]
  rw [e1] at h1
  rw [e2] at h2
  have hq0 : Q * v0 ≤ Q * 4294967296 := Nat.mul_le_mul_left _ (by omega)
  constructor
  · rw [Nat.le_div_iff_mul_le (by omega)]; omega
  · have hlt : num < Q * v1 + v1 + Q + 1 := by omega
    have h3 : num / v1 < Q + 3 := by
      rw [Nat.div_lt_iff_lt_mul (by omega), Nat.add_mul]; omega
    omega

/-- The test of a guess. -/
theorem guess_ok (u0 num v0 v1 Q r : Nat) (h1 : Q * (v1 * 4294967296 + v0) ≤ num * 4294967296 + u0) (hr : Q * v1 + r = num) : Q * v0 ≤ r * 4294967296 + u0 := by
  rw [Nat.mul_add, ← Nat.mul_assoc] at h1
  omega
theorem guess_bad (u0 num v0 v1 Q q r : Nat) (h2 : num * 4294967296 + u0 < (Q + 1) * (v1 * 4294967296 + v0)) (hq : Q + 1 ≤ q) (hr : q * v1 + r = num) : r * 4294967296 + u0 < q * v0 := by
  have h3 := Nat.lt_of_lt_of_le h2 (Nat.mul_le_mul_right _ hq)
  clear h2
  rw [Nat.mul_add, ← Nat.mul_assoc] at h3
  rw [← hr, Nat.add_mul, Nat.add_assoc] at h3
  exact Nat.lt_of_add_lt_add_left h3

/-- One group of what is taken off. -/
theorem take_step (i Q C C' ui ui' vi : Nat) (o' o v : Nat → Nat) (h : val i o' + Q * val i v = val i o + C * 4294967296 ^ i) (hu : ui' + Q * vi + C = ui + C' * 4294967296) :
    val i o' + ui' * 4294967296 ^ i + Q * (val i v + vi * 4294967296 ^ i) = val i o + ui * 4294967296 ^ i + C' * 4294967296 ^ (i + 1) := by
  rw [Nat.pow_succ, Nat.mul_add]
  generalize 4294967296 ^ i = P at h ⊢
  have h3 : (ui' + Q * vi + C) * P = (ui + C' * 4294967296) * P := by rw [hu]
  rw [Nat.add_mul, Nat.add_mul, Nat.add_mul] at h3
  rw [← Nat.mul_assoc, Nat.mul_comm P 4294967296, ← Nat.mul_assoc]
  omega

/-- What is left, shifted back. -/
theorem back_shift (u0 u1 s : Nat) (hs : s ≤ 31) : u0 / 2 ^ s + u1 % 2 ^ s * 2 ^ (32 - s) + u1 / 2 ^ s * 4294967296 = (u0 + u1 * 4294967296) / 2 ^ s := by
  have hp : 2 ^ s * 2 ^ (32 - s) = 4294967296 := by rw [← Nat.pow_add, show s + (32 - s) = 32 by omega]
  have h0 : 0 < 2 ^ s := Nat.two_pow_pos s
  generalize 2 ^ s = S at *
  generalize 2 ^ (32 - s) = R at *
  rw [← hp, show u0 + u1 * (S * R) = u0 + S * (u1 * R) by rw [Nat.mul_left_comm], Nat.add_mul_div_left _ _ h0]
  have h := Nat.div_add_mod u1 S
  have h2 : u1 * R = (S * (u1 / S) + u1 % S) * R := by rw [h]
  rw [h2, Nat.add_mul, Nat.mul_comm S (u1 / S), Nat.mul_assoc]
  omega
theorem quot_shift (x y s : Nat) : (x * 2 ^ s) / (y * 2 ^ s) = x / y := Nat.mul_div_mul_right x y (Nat.two_pow_pos s)
theorem rest_shift (x y s : Nat) : (x * 2 ^ s - x / y * (y * 2 ^ s)) / 2 ^ s = x % y := by
  rw [← Nat.mul_assoc, ← Nat.sub_mul, Nat.mul_div_cancel _ (Nat.two_pow_pos s), Nat.mod_eq_sub_div_mul]

theorem row_below {w w' : World} {b n : Nat} {t : TypeId} {f : Nat → Value} (h : w.rowIs b t n f) {N : Nat} (hN : b < N) (hb : Below N w w') : w'.rowIs b t n f := by
  obtain ⟨c, h1, h2, h3⟩ := h
  exact ⟨c, by rw [hb.block b hN]; exact h1, h2, h3⟩
theorem row_other {w : World} {b n : Nat} {t : TypeId} {f : Nat → Value} (h : w.rowIs b t n f) {g : Nat} (hg : b ≠ g) (j : Nat) (v : Value) : (w.setCell ⟨g, j, none⟩ v).rowIs b t n f := by
  obtain ⟨c, h1, h2, h3⟩ := h
  exact ⟨c, by rw [Below.heap_setCell _ _ _ _ (by exact hg)]; exact h1, h2, h3⟩
end Go.Proofs.Ytikepklkjbohmaa
