import Derived.Test.YtikepklkjbohmaaKnu
namespace Go.Proofs.Ytikepklkjbohmaa
open Go.RowKit

theorem Mag.two {w : World} {a : Option Addr} {n c : Nat} {f : Nat → Nat} {x : Nat} (h : Mag w a n c f x) (h1 : 4294967296 ≤ x) (h2 : x < 18446744073709551616) : n = 2 := by
  have h3 := h.len2 h2
  have h4 := h.pos (by omega)
  rcases (show n = 1 ∨ n = 2 by omega) with rfl | rfl
  · have hl := val_lt 1 f h.sl.lt
    rw [h.is] at hl
    simp at hl
    omega
  · rfl
theorem val_two (f : Nat → Nat) : val 2 f = f 0 + f 1 * 4294967296 := by simp [val]
theorem val_three (f : Nat → Nat) : val 3 f = f 0 + f 1 * 4294967296 + f 2 * 18446744073709551616 := by simp [val]
theorem norm_lt (g0 g1 s : Nat) (h0 : g0 < 4294967296) (h1 : g1 * 2 ^ s < 4294967296) (hs : s ≤ 31) : (g0 + g1 * 4294967296) * 2 ^ s < 18446744073709551616 := by
  have hp : 2 ^ s * 2 ^ (32 - s) = 4294967296 := by rw [← Nat.pow_add, show s + (32 - s) = 32 by omega]
  have hpos : 0 < 2 ^ s := Nat.two_pow_pos s
  have h2 : g1 < 2 ^ (32 - s) := by
    rw [← hp, Nat.mul_comm (2 ^ s)] at h1
    exact Nat.lt_of_mul_lt_mul_right h1
  have h3 := Nat.mul_le_mul_right (2 ^ s) (show g1 + 1 ≤ 2 ^ (32 - s) by omega)
  rw [Nat.mul_comm (2 ^ (32 - s)), hp] at h3
  have h4 := Nat.mul_lt_mul_of_lt_of_le (show g0 + g1 * 4294967296 < (g1 + 1) * 4294967296 by omega) (Nat.le_refl (2 ^ s)) hpos
  rw [Nat.mul_right_comm] at h4
  omega
/-- The three rows of a long division. -/
def Rows3 (w : World) (bv bu bo : Nat) (ov ou oo : Nat → Nat) : Prop :=
  w.rowIs bv 114 2 (fun j => .int .u32 (ov j)) ∧ w.rowIs bu 114 3 (fun j => .int .u32 (ou j)) ∧ w.rowIs bo 114 1 (fun j => .int .u32 (oo j))
theorem normV (ov g : Nat → Nat) (y s cy : Nat) (hy : val 2 g = y) (hg : g 0 < 4294967296) (h1 : g 1 * 2 ^ s < 4294967296) (h2 : 2147483648 ≤ g 1 * 2 ^ s) (hs : s ≤ 31) (hcy : val 2 ov + cy * 4294967296 ^ 2 = val 2 g * 2 ^ s) (hl : ov 0 < 4294967296) : val 2 ov = y * 2 ^ s ∧ 2147483648 ≤ ov 1 := by
  rw [val_two] at hy
  have hn := norm_lt (g 0) (g 1) s hg h1 hs
  rw [show (4294967296 : Nat) ^ 2 = 18446744073709551616 from rfl, val_two g] at hcy
  have hc : cy = 0 := by omega
  rw [hc, Nat.zero_mul, Nat.add_zero] at hcy
  refine ⟨by rw [hcy, hy], ?_⟩
  rw [val_two, Nat.add_mul, Nat.mul_right_comm] at hcy
  omega
theorem top_lt (ov ou : Nat → Nat) (x s : Nat) (hx : x < 18446744073709551616) (hs : s ≤ 31) (hu : val 3 ou = x * 2 ^ s) (hv1 : 2147483648 ≤ ov 1) (hl : ∀ j, j < 3 → ou j < 4294967296) : ou 2 < ov 1 := by
  have hp := pow_le31 s hs
  have h1 := Nat.mul_lt_mul_of_lt_of_le hx (Nat.le_refl (2 ^ s)) (Nat.two_pow_pos s)
  rw [val_three] at hu
  have := hl 0 (by omega)
  have := hl 1 (by omega)
  omega
/-- The two sides of the digit. -/
theorem digit (ov ou : Nat → Nat) (x y s : Nat) (hy : 0 < y) (hv : val 2 ov = y * 2 ^ s) (hu : val 3 ou = x * 2 ^ s) :
    x / y * (ov 1 * 4294967296 + ov 0) ≤ (ou 2 * 4294967296 + ou 1) * 4294967296 + ou 0 ∧ (ou 2 * 4294967296 + ou 1) * 4294967296 + ou 0 < (x / y + 1) * (ov 1 * 4294967296 + ov 0) := by
  rw [val_two] at hv
  rw [val_three] at hu
  have e1 : ov 1 * 4294967296 + ov 0 = y * 2 ^ s := by omega
  have e2 : (ou 2 * 4294967296 + ou 1) * 4294967296 + ou 0 = x * 2 ^ s := by
    rw [Nat.add_mul, Nat.mul_assoc, show 4294967296 * 4294967296 = 18446744073709551616 from rfl, ← hu]; ac_rfl
  rw [e1, e2, ← Nat.mul_assoc, ← Nat.mul_assoc]
  have hlt : x < (x / y + 1) * y := by
    have := Nat.lt_mul_div_succ x hy
    rw [Nat.mul_comm]; exact this
  exact ⟨Nat.mul_le_mul_right _ (Nat.div_mul_le_self x y), Nat.mul_lt_mul_of_pos_right hlt (Nat.two_pow_pos s)⟩
/-- The first guess. -/
theorem guess_first (ov ou : Nat → Nat) (x y s : Nat) (h0 : 4294967296 ≤ y) (hx : x < 18446744073709551616) (hs : s ≤ 31) (hv : val 2 ov = y * 2 ^ s) (hu : val 3 ou = x * 2 ^ s) (hv1 : 2147483648 ≤ ov 1) (hlv : ∀ j, j < 2 → ov j < 4294967296) (hl : ∀ j, j < 3 → ou j < 4294967296) :
    x / y ≤ (ou 2 * 4294967296 + ou 1) / ov 1 ∧ (ou 2 * 4294967296 + ou 1) / ov 1 ≤ x / y + 2 ∧ (ou 2 * 4294967296 + ou 1) / ov 1 < 4294967296 ∧ x / y < 4294967296 := by
  obtain ⟨d1, d2⟩ := digit ov ou x y s (by omega) hv hu
  have hq : x / y < 4294967296 := by
    rw [Nat.div_lt_iff_lt_mul (by omega)]
    omega
  obtain ⟨k1, k2⟩ := knuth (ou 0) _ (ov 0) (ov 1) (x / y) hv1 (hl 0 (by omega)) (hlv 0 (by omega)) hq d1 d2
  refine ⟨k1, k2, ?_, hq⟩
  have ht := top_lt ov ou x s hx hs hu hv1 hl
  have h1 := hl 1 (by omega)
  apply Nat.div_lt_of_lt_mul
  exact Nat.lt_of_lt_of_le (Nat.add_lt_add_left h1 _) (by rw [← Nat.succ_mul]; exact Nat.mul_le_mul_right 4294967296 ht)
theorem wrap_nat (n : Nat) (h : n < 18446744073709551616) : IntKind.u64.wrap (n : Int) = (n : Int) := by rw [wrap_u64]; omega
theorem test_form (r u q v : Nat) (hr : r < 4294967296) (hu : u < 4294967296) (hqv : q * v < 18446744073709551616) : decide (bits BinOp.or IntKind.u64 (IntKind.u64.wrap ((r : Int) * 4294967296)) (u : Int) < IntKind.u64.wrap ((q : Int) * (v : Int))) = decide (r * 4294967296 + u < q * v) := by
  rw [show IntKind.u64.wrap ((r : Int) * 4294967296) = (r : Int) * 4294967296 from by rw [wrap_u64]; omega, or_hi r u hr hu, ← Int.natCast_mul, wrap_nat _ hqv]
  rw [decide_eq_decide]
  exact Int.ofNat_lt
theorem dec_step (Q d v r N : Nat) (hd : 0 < d) (h : (Q + d) * v + r = N) : (Q + (d - 1)) * v + (r + v) = N := by
  obtain ⟨e, rfl⟩ : ∃ e, d = e + 1 := ⟨d - 1, by omega⟩
  rw [← h, show Q + (e + 1) = Q + e + 1 from rfl, Nat.succ_mul, show e + 1 - 1 = e from rfl]
  ac_rfl
theorem take_p (q v c : Nat) (hq : q < 4294967296) (hv : v < 4294967296) (hc : c < 4294967296) : q * v + c < 18446744073709551616 ∧ IntKind.u64.wrap (IntKind.u64.wrap ((q : Int) * (v : Int)) + (c : Int)) = ((q * v + c : Nat) : Int) := by
  have h := Nat.mul_le_mul (show q ≤ 4294967295 by omega) (show v ≤ 4294967295 by omega)
  have h2 : q * v + c < 18446744073709551616 := by omega
  refine ⟨h2, ?_⟩
  rw [← Int.natCast_mul, wrap_nat _ (by omega), ← Int.natCast_add, wrap_nat _ h2]
theorem and_mask (p : Nat) (hp : p < 18446744073709551616) : bits BinOp.and IntKind.u64 (p : Int) 4294967295 = ((p % 4294967296 : Nat) : Int) := by
  have h := u64_and_nat p 4294967295 (by omega) (by omega)
  rw [show ((4294967295 : Nat) : Int) = 4294967295 from rfl] at h
  rw [h]
  congr 1
  exact Nat.and_two_pow_sub_one_eq_mod p 32
theorem take_t (u pm b : Nat) (hu : u < 4294967296) (hp : pm < 4294967296) (hb : b ≤ 1) : ∃ t b' : Nat, IntKind.u64.wrap (IntKind.u64.wrap ((u : Int) - (pm : Int)) - (b : Int)) = (t : Int) ∧ t / 9223372036854775808 = b' ∧ b' ≤ 1 ∧ t % 4294967296 + pm + b = u + b' * 4294967296 := by
  by_cases h : pm + b ≤ u
  · refine ⟨u - (pm + b), 0, ?_, by omega, by omega, by omega⟩
    rw [wrap_u64, wrap_u64]; omega
  · refine ⟨18446744073709551616 + u - (pm + b), 1, ?_, by omega, by omega, by omega⟩
    rw [wrap_u64, wrap_u64]; omega
theorem take_round (i q cc bb t b' : Nat) (o ou ov : Nat → Nat) (hsame : o i = ou i) (h : val i o + q * val i ov = val i ou + (cc + bb) * 4294967296 ^ i) (ht : t % 4294967296 + (q * ov i + cc) % 4294967296 + bb = o i + b' * 4294967296) :
    val (i + 1) (upd o i (t % 4294967296)) + q * val (i + 1) ov = val (i + 1) ou + ((q * ov i + cc) / 4294967296 + b') * 4294967296 ^ (i + 1) := by
  show val i (upd o i (t % 4294967296)) + upd o i (t % 4294967296) i * 4294967296 ^ i + q * (val i ov + ov i * 4294967296 ^ i) = val i ou + ou i * 4294967296 ^ i + _
  rw [val_upd_ge i i o _ (Nat.le_refl _), show upd o i (t % 4294967296) i = t % 4294967296 from if_pos rfl]
  refine take_step i q (cc + bb) _ (ou i) (t % 4294967296) (ov i) o ou ov h ?_
  have := Nat.div_add_mod (q * ov i + cc) 4294967296
  rw [← hsame]
  generalize q * ov i = X at *
  omega
theorem take_end (q cc bb : Nat) (o ou ov : Nat → Nat) (V U : Nat) (hV : val 2 ov = V) (hU : val 3 ou = U) (hVl : V < 18446744073709551616) (h1 : q * V ≤ U) (h2 : U < (q + 1) * V) (hs : o 2 = ou 2) (hl : ∀ j, j < 3 → o j < 4294967296) (h : val 2 o + q * val 2 ov = val 2 ou + (cc + bb) * 4294967296 ^ 2) :
    o 2 = cc + bb ∧ val 2 o + q * V = U := by
  have hv := val_lt 2 o (fun j hj => hl j (by omega))
  rw [show (4294967296 : Nat) ^ 2 = 18446744073709551616 from rfl] at h hv
  rw [hV] at h
  have h3 : val 2 ou + ou 2 * 18446744073709551616 = U := by rw [← hU]; rfl
  rw [Nat.add_mul, Nat.one_mul] at h2
  rw [hs]
  generalize q * V = X at *
  generalize val 2 ou = Y at *
  generalize val 2 o = Z at *
  have : ou 2 = cc + bb := by omega
  exact ⟨this, by omega⟩
theorem back_lt (u0 u1 s : Nat) (hu : u0 < 4294967296) (hs : s ≤ 31) : u0 / 2 ^ s < 2 ^ (32 - s) ∧ u0 / 2 ^ s + u1 % 2 ^ s * 2 ^ (32 - s) < 4294967296 := by
  have hp : 2 ^ s * 2 ^ (32 - s) = 4294967296 := by rw [← Nat.pow_add, show s + (32 - s) = 32 by omega]
  have h0 : 0 < 2 ^ s := Nat.two_pow_pos s
  have h1 : u0 / 2 ^ s < 2 ^ (32 - s) := by
    apply Nat.div_lt_of_lt_mul
    rw [hp]; exact hu
  refine ⟨h1, ?_⟩
  have h2 := Nat.mul_le_mul_right (2 ^ (32 - s)) (show u1 % 2 ^ s + 1 ≤ 2 ^ s from Nat.mod_lt _ h0)
  rw [hp, Nat.succ_mul] at h2
  omega
theorem back_or (u0 u1 s : Nat) (hu : u0 < 4294967296) (hs : s ≤ 31) : bits BinOp.or IntKind.u32 ((u0 : Int) / 2 ^ s) (IntKind.u32.wrap ((u1 : Int) * 2 ^ (32 - s))) = ((u0 / 2 ^ s + u1 % 2 ^ s * 2 ^ (32 - s) : Nat) : Int) := by
  have hp : 2 ^ s * 2 ^ (32 - s) = 4294967296 := by rw [← Nat.pow_add, show s + (32 - s) = 32 by omega]
  obtain ⟨h1, h2⟩ := back_lt u0 u1 s hu hs
  have e1 : ((u0 : Int) / 2 ^ s) = ((u0 / 2 ^ s : Nat) : Int) := by simp
  have e2 : IntKind.u32.wrap ((u1 : Int) * 2 ^ (32 - s)) = ((u1 % 2 ^ s * 2 ^ (32 - s) : Nat) : Int) := by
    have e3 : ((u1 : Int) * 2 ^ (32 - s)) = ((u1 * 2 ^ (32 - s) : Nat) : Int) := by simp
    have e4 : (u1 * 2 ^ (32 - s)) % 4294967296 = u1 % 2 ^ s * 2 ^ (32 - s) := by rw [← hp, Nat.mul_mod_mul_right]
    rw [e3, ← e4]
    generalize u1 * 2 ^ (32 - s) = X
    simp only [IntKind.wrap, IntKind.bits, IntKind.signed]
    simp
  have h3 := Nat.lt_of_le_of_lt (Nat.le_add_right (u0 / 2 ^ s) (u1 % 2 ^ s * 2 ^ (32 - s))) h2
  have h4 := Nat.lt_of_le_of_lt (Nat.le_add_left (u1 % 2 ^ s * 2 ^ (32 - s)) (u0 / 2 ^ s)) h2
  rw [e1, e2]
  clear e1 e2
  rw [u32_or_nat _ _ (by generalize u0 / 2 ^ s = A at *; omega) (by generalize u1 % 2 ^ s * 2 ^ (32 - s) = A at *; omega)]
  congr 1
  rw [Nat.or_comm, Nat.mul_comm, Nat.add_comm]
  exact (Nat.two_pow_add_eq_or_of_lt (i := 32 - s) (b := u0 / 2 ^ s) h1 (u1 % 2 ^ s)).symm
theorem wrap_u32 (x : Int) : IntKind.u32.wrap x = x % 4294967296 := by
  simp only [IntKind.wrap, IntKind.bits, IntKind.signed]; simp
theorem back_or2 (u0 u1 s : Nat) (hu : u0 < 4294967296) (hs : s ≤ 31) : bits BinOp.or IntKind.u32 ((u0 : Int) / 2 ^ s) ((u1 : Int) * 2 ^ (32 - s) % 4294967296) = ((u0 / 2 ^ s + u1 % 2 ^ s * 2 ^ (32 - s) : Nat) : Int) := by
  rw [← wrap_u32]; exact back_or u0 u1 s hu hs
theorem back_end (o ou : Nat → Nat) (x y s : Nat) (hs : s ≤ 31) (h2 : ou 2 = 0) (hv : val 2 ou + x / y * (y * 2 ^ s) = x * 2 ^ s) (hd : ∀ j, j < 2 → o j = ou j / 2 ^ s + ou (j + 1) % 2 ^ s * 2 ^ (32 - s)) : val 2 o = x % y := by
  rw [val_two, hd 0 (by omega), hd 1 (by omega)]
  show ou 0 / 2 ^ s + ou 1 % 2 ^ s * 2 ^ (32 - s) + (ou 1 / 2 ^ s + ou 2 % 2 ^ s * 2 ^ (32 - s)) * 4294967296 = x % y
  rw [h2, Nat.zero_mod, Nat.zero_mul, Nat.add_zero, back_shift _ _ _ hs, ← val_two, ← rest_shift x y s]
  congr 1
  omega
end Go.Proofs.Ytikepklkjbohmaa
