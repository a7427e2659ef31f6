import Derived.Laws.FloatArith
namespace Go.Proofs.Ytikepklkjbohmaa
namespace Flt
open Ieee

/-- A finite number of size below 2 to the b + 1. -/
def DF (d : Datum) (b : Int) : Prop := ∃ s m e, d = .number s m e ∧ (m ≠ 0 → e + (m.log2 : Int) ≤ b)

theorem shl_lt (m k : Nat) : m <<< k < 2 ^ (m.log2 + 1 + k) := by
  rw [Nat.shiftLeft_eq, Nat.pow_add]
  exact Nat.mul_lt_mul_of_pos_right Nat.lt_log2_self (Nat.two_pow_pos k)

theorem term_lt {m : Nat} {i b base : Int} (hb : base ≤ i) (h : m ≠ 0 → i + (m.log2 : Int) ≤ b) (hbb : base ≤ b) : m <<< (i - base).toNat < 2 ^ ((b - base).toNat + 1) := by
  by_cases hm : m = 0
  · subst hm; rw [Nat.zero_shiftLeft]; exact Nat.two_pow_pos _
  · have := h hm
    exact Nat.lt_of_lt_of_le (shl_lt _ _) (Nat.pow_le_pow_right (by omega) (by omega))

theorem sum_DF {x y : Datum} {b : Int} (hx : DF x b) (hy : DF y b) : ∃ z, x.sum y = some z ∧ DF z (b + 1) := by
  obtain ⟨s, m, i, rfl, hm⟩ := hx
  obtain ⟨t, n, j, rfl, hn⟩ := hy
  refine ⟨_, rfl, _, _, _, rfl, ?_⟩
  intro hne
  have hi : min i j ≤ i := by omega
  have hj : min i j ≤ j := by omega
  have hbase : min i j ≤ b := by
    by_cases h1 : m = 0
    · by_cases h2 : n = 0
      · subst h1 h2; simp [signed] at hne
      · have := hn h2; omega
    · have := hm h1; omega
  have a1 := term_lt hi hm hbase
  have a2 := term_lt hj hn hbase
  have hp : (2 : Nat) ^ ((b - min i j).toNat + 2) = 2 ^ ((b - min i j).toNat + 1) + 2 ^ ((b - min i j).toNat + 1) := by
    rw [Nat.pow_succ 2 ((b - min i j).toNat + 1)]; omega
  have hlt : (signed s m (i - min i j).toNat + signed t n (j - min i j).toNat).natAbs < 2 ^ ((b - min i j).toNat + 2) := by
    rw [hp]
    generalize hA : m <<< (i - min i j).toNat = A at a1
    generalize hB : n <<< (j - min i j).toNat = B at a2
    clear hp hne
    generalize 2 ^ ((b - min i j).toNat + 1) = C at a1 a2 ⊢
    have h1 : (signed s m (i - min i j).toNat).natAbs < C := by
      unfold signed; split <;> (rw [hA]; omega)
    have h2 : (signed t n (j - min i j).toNat).natAbs < C := by
      unfold signed; split <;> (rw [hB]; omega)
    omega
  have := (Nat.log2_lt hne).2 hlt
  omega

theorem opp_DF {x : Datum} {b : Int} (hx : DF x b) : DF x.opposite b := by
  obtain ⟨s, m, i, rfl, hm⟩ := hx
  exact ⟨_, _, _, rfl, hm⟩

theorem prod_DF {x y : Datum} {b c : Int} (hx : DF x b) (hy : DF y c) : ∃ z, x.product y = some z ∧ DF z (b + c + 1) := by
  obtain ⟨s, m, i, rfl, hm⟩ := hx
  obtain ⟨t, n, j, rfl, hn⟩ := hy
  refine ⟨_, rfl, _, _, _, rfl, ?_⟩
  intro hne
  have h1 : m ≠ 0 := by rintro rfl; simp at hne
  have h2 : n ≠ 0 := by rintro rfl; simp at hne
  have a1 := hm h1
  have a2 := hn h2
  have hlt : m * n < 2 ^ (m.log2 + n.log2 + 2) := by
    have : m.log2 + n.log2 + 2 = (m.log2 + 1) + (n.log2 + 1) := by omega
    rw [this, Nat.pow_add]
    exact Nat.mul_lt_mul_of_lt_of_lt Nat.lt_log2_self Nat.lt_log2_self
  have := (Nat.log2_lt hne).2 hlt
  omega

theorem cut_le (neg : Bool) (n drop : Nat) : Toward.even.cut neg n drop ≤ n / 2 ^ (min drop (n.log2 + 2)) + 1 := by
  unfold Toward.cut
  simp only [Nat.one_shiftLeft]
  exact Nat.add_le_add_left (Bool.toNat_le _) _

theorem kept_le (neg : Bool) (m : Nat) (e last : Int) (hl : e + (m.log2 : Int) - 52 ≤ last) :
    Toward.even.cut neg (m <<< (e - last).toNat) (last - e).toNat ≤ 2 ^ 53 := by
  refine Nat.le_trans (cut_le _ _ _) ?_
  suffices h : (m <<< (e - last).toNat) / 2 ^ (min (last - e).toNat ((m <<< (e - last).toNat).log2 + 2)) < 2 ^ 53 by omega
  by_cases hc : last ≤ e
  · have h0 : (last - e).toNat = 0 := by omega
    rw [h0, Nat.zero_min, Nat.pow_zero, Nat.div_one]
    exact Nat.lt_of_lt_of_le (shl_lt _ _) (Nat.pow_le_pow_right (by omega) (by omega))
  · have h0 : (e - last).toNat = 0 := by omega
    rw [h0, Nat.shiftLeft_zero]
    by_cases h1 : (last - e).toNat ≤ m.log2 + 2
    · rw [Nat.min_eq_left h1]
      refine Nat.div_lt_of_lt_mul ?_
      rw [← Nat.pow_add]
      exact Nat.lt_of_lt_of_le Nat.lt_log2_self (Nat.pow_le_pow_right (by omega) (by omega))
    · rw [Nat.min_eq_right (by omega)]
      have : m < 2 ^ (m.log2 + 2) := Nat.lt_of_lt_of_le Nat.lt_log2_self (Nat.pow_le_pow_right (by omega) (by omega))
      rw [Nat.div_eq_of_lt this]
      exact Nat.two_pow_pos _

theorem d_sign : double.signWeight = 9223372036854775808 := by decide +kernel
theorem d_binade : double.binade = 4503599627370496 := by decide +kernel
theorem d_inf : double.infRung = 9218868437227405312 := by decide +kernel
theorem d_least : double.leastPlace = -1074 := by decide +kernel

/-- What a rung below infinity reads as. -/
theorem read_word (s : Bool) (r : Nat) (h : r < 9218868437227405312) :
    double.read (double.word s r) = if r < 4503599627370496 then .number s r (-1074) else .number s (4503599627370496 + r % 4503599627370496) (-1074 + ((r / 4503599627370496 - 1 : Nat) : Int)) := by
  unfold Format.read Format.word
  simp only [d_sign, d_binade, d_inf, d_least]
  have h1 : ((if s = true then 9223372036854775808 + r else r) / 9223372036854775808 % 2 == 1) = s := by
    cases s
    · simp; omega
    · simp; omega
  have h2 : (if s = true then 9223372036854775808 + r else r) % 9223372036854775808 = r := by
    cases s <;> simp <;> omega
  rw [h1, h2, if_pos h]

theorem read_write_num (s : Bool) (m : Nat) (e c : Int) (hm : m ≠ 0 → e + (m.log2 : Int) ≤ c) (h0 : 0 ≤ c) (h1 : c ≤ 1000) :
    ∃ r, double.write (.number s m e) = double.word s r ∧ r < 9218868437227405312 ∧ DF (double.read (double.word s r)) (c + 1) := by
  by_cases hz : m = 0
  · subst hz
    refine ⟨0, by simp [Format.write, Format.nearest], by omega, ?_⟩
    rw [read_word s 0 (by omega)]
    exact ⟨_, _, _, rfl, fun h => absurd rfl h⟩
  · have hc := hm hz
    have hk := kept_le s m e (max (e + m.log2 - 52) (-1074)) (by omega)
    have hw : double.write (.number s m e) = double.word s (min ((max (e + m.log2 - 52) (-1074) - -1074).toNat * 4503599627370496 + Toward.even.cut s (m <<< (e - max (e + m.log2 - 52) (-1074)).toNat) (max (e + m.log2 - 52) (-1074) - e).toNat) 9218868437227405312) := by
      show double.nearest s m e = _
      unfold Format.nearest
      rw [if_neg hz]
      simp only [d_binade, d_inf, d_least]
      rfl
    generalize Toward.even.cut s (m <<< (e - max (e + m.log2 - 52) (-1074)).toNat) (max (e + m.log2 - 52) (-1074) - e).toNat = kept at hk hw
    have hk' : kept ≤ 9007199254740992 := hk
    have hr : min ((max (e + m.log2 - 52) (-1074) - -1074).toNat * 4503599627370496 + kept) 9218868437227405312 = (max (e + m.log2 - 52) (-1074) - -1074).toNat * 4503599627370496 + kept := by omega
    rw [hr] at hw
    have hb : (max (e + m.log2 - 52) (-1074) - -1074).toNat ≤ (c + 1022).toNat := by omega
    generalize (max (e + m.log2 - 52) (-1074) - -1074).toNat = q at hw hb
    have hlt : q * 4503599627370496 + kept < 9218868437227405312 := by omega
    refine ⟨_, hw, hlt, ?_⟩
    rw [read_word s _ hlt]
    split
    · rename_i hlo
      refine ⟨_, _, _, rfl, fun hne => ?_⟩
      have := (Nat.log2_lt hne).2 (show q * 4503599627370496 + kept < 2 ^ 52 from hlo)
      omega
    · refine ⟨_, _, _, rfl, fun hne => ?_⟩
      have := (Nat.log2_lt hne).2 (show 4503599627370496 + (q * 4503599627370496 + kept) % 4503599627370496 < 2 ^ 53 by omega)
      omega

/-- The bits x are a finite number of size below 2 to the b + 1. -/
def Fin (x : Nat) (b : Int) : Prop := DF (double.read x) b

theorem write_Fin {d : Datum} {c : Int} (h : DF d c) (h0 : 0 ≤ c) (h1 : c ≤ 1000) : Fin (double.write d) (c + 1) := by
  obtain ⟨s, m, e, rfl, hm⟩ := h
  obtain ⟨r, hr, _, hd⟩ := read_write_num s m e c hm h0 h1
  unfold Fin
  rw [hr]
  exact hd

theorem mul_Fin {x y : Nat} {b c : Int} (hx : Fin x b) (hy : Fin y c) (h0 : 0 ≤ b + c + 1) (h1 : b + c + 1 ≤ 1000) : ∃ r, floatBits .mul .f64 x y = some r ∧ Fin r (b + c + 2) := by
  obtain ⟨z, hz, hd⟩ := prod_DF hx hy
  refine ⟨double.write z, ?_, ?_⟩
  · show double.mul x y = _
    unfold Format.mul
    rw [hz]; rfl
  · have := write_Fin hd h0 h1
    rwa [show b + c + 1 + 1 = b + c + 2 by omega] at this

theorem add_Fin {x y : Nat} {b : Int} (hx : Fin x b) (hy : Fin y b) (h0 : 0 ≤ b + 1) (h1 : b + 1 ≤ 1000) : ∃ r, floatBits .add .f64 x y = some r ∧ Fin r (b + 2) := by
  obtain ⟨z, hz, hd⟩ := sum_DF hx hy
  refine ⟨double.write z, ?_, ?_⟩
  · show double.add x y = _
    unfold Format.add
    rw [hz]; rfl
  · have := write_Fin hd h0 h1
    rwa [show b + 1 + 1 = b + 2 by omega] at this

theorem sub_Fin {x y : Nat} {b : Int} (hx : Fin x b) (hy : Fin y b) (h0 : 0 ≤ b + 1) (h1 : b + 1 ≤ 1000) : ∃ r, floatBits .sub .f64 x y = some r ∧ Fin r (b + 2) := by
  obtain ⟨z, hz, hd⟩ := sum_DF hx (opp_DF hy)
  refine ⟨double.write z, ?_, ?_⟩
  · show double.sub x y = _
    unfold Format.sub
    rw [hz]; rfl
  · have := write_Fin hd h0 h1
    rwa [show b + 1 + 1 = b + 2 by omega] at this

theorem Fin.mono {x : Nat} {b c : Int} (h : Fin x b) (hb : b ≤ c) : Fin x c := by
  obtain ⟨s, m, e, h1, h2⟩ := h
  exact ⟨s, m, e, h1, fun hm => by have := h2 hm; omega⟩

theorem ofInt_Fin (n : Int) (h : n.natAbs < 2 ^ 28) : Fin (floatOfInt .f64 n) 29 := by
  refine (write_Fin (d := .number (n < 0) n.natAbs 0) (c := 28) ⟨_, _, _, rfl, fun hne => ?_⟩ (by omega) (by omega)).mono (by omega)
  have := (Nat.log2_lt hne).2 h
  omega

/-- The size: the sign bit taken off. -/
def absN (x : Nat) : Nat := x % 9223372036854775808

theorem read_abs {x : Nat} {s : Bool} {m : Nat} {e : Int} (h : double.read x = .number s m e) : double.read (absN x) = .number false m e := by
  unfold absN
  unfold Format.read at h ⊢
  simp only [d_sign, d_binade, d_inf, d_least] at h ⊢
  have h1 : (x % 9223372036854775808 / 9223372036854775808 % 2 == 1) = false := by rw [Nat.div_eq_of_lt (Nat.mod_lt _ (by omega))]; rfl
  rw [h1, Nat.mod_mod]
  split at h
  · rename_i c; rw [if_pos c]; cases h; rfl
  · rename_i c; rw [if_neg c]
    split at h
    · rename_i c2; rw [if_pos c2]; cases h; rfl
    · split at h <;> cases h

theorem abs_Fin {x : Nat} {b : Int} (h : Fin x b) : Fin (absN x) b := by
  obtain ⟨s, m, e, h1, h2⟩ := h
  exact ⟨false, m, e, read_abs h1, h2⟩

/-- The sign bit of a number's word. -/
theorem sign_of {x : Nat} {s : Bool} {m : Nat} {e : Int} (hx : x < 18446744073709551616) (h : double.read x = .number s m e) : x = (if s then 9223372036854775808 + absN x else absN x) := by
  unfold absN
  unfold Format.read at h
  simp only [d_sign, d_binade, d_inf, d_least] at h
  have hs : (x / 9223372036854775808 % 2 == 1) = s := by
    split at h
    · cases h; rfl
    · split at h
      · cases h; rfl
      · split at h <;> cases h
  cases s
  · simp at hs ⊢; omega
  · simp at hs ⊢; omega

theorem mag_zero {x : Nat} {s : Bool} {e : Int} (h : double.read x = .number s 0 e) : absN x = 0 := by
  unfold absN
  unfold Format.read at h
  simp only [d_sign, d_binade, d_inf, d_least] at h
  split at h
  · injection h
  · split at h
    · injection h; omega
    · split at h <;> cases h

/-- A square has no sign. -/
theorem square_abs {x r : Nat} {b : Int} (hx : Fin x b) (h0 : 0 ≤ b) (h1 : b ≤ 400) (h : floatBits .mul .f64 x x = some r) : absN r = r := by
  obtain ⟨s, m, e, hr, hm⟩ := hx
  have hd : floatBits .mul .f64 x x = some (double.write (.number (s ^^ s) (m * m) (e + e))) := by
    show double.mul x x = _
    unfold Format.mul
    rw [hr]; rfl
  rw [hd] at h
  cases h
  obtain ⟨z, hz, s', m', e', rfl, hb⟩ := prod_DF (x := .number s m e) (y := .number s m e) ⟨s, m, e, rfl, hm⟩ ⟨s, m, e, rfl, hm⟩
  cases hz
  obtain ⟨q, hq, hlt, _⟩ := read_write_num (s ^^ s) (m * m) (e + e) (b + b + 1) hb (by omega) (by omega)
  rw [hq]
  unfold absN Format.word
  simp
  omega

/-- How a number stands to nought. -/
theorem order_zero {x : Nat} {s : Bool} {m : Nat} {e : Int} (h : double.read x = .number s m e) (he : -1074 ≤ e) :
    FloatKind.f64.format.order x 0 = some (if m = 0 then .eq else if s then .lt else .gt) := by
  show double.order x 0 = _
  unfold Format.order
  have hz : double.read 0 = .number false 0 (-1074) := by
    have := read_word false 0 (by omega)
    simpa [Format.word] using this
  rw [h, hz]
  unfold Datum.order
  have hmin : min e (-1074) = -1074 := by omega
  simp only [hmin]
  have hs0 : signed false 0 (-1074 - -1074 : Int).toNat = 0 := by simp [signed]
  rw [hs0]
  congr 1
  by_cases hm : m = 0
  · subst hm; rw [if_pos rfl]
    have : signed s 0 (e - -1074).toNat = 0 := by cases s <;> simp [signed]
    rw [this]; rfl
  · rw [if_neg hm]
    have hp : 0 < m <<< (e - -1074).toNat := by rw [Nat.shiftLeft_eq]; exact Nat.mul_pos (by omega) (Nat.two_pow_pos _)
    generalize hA : m <<< (e - -1074).toNat = A at hp
    cases s
    · have h1 : signed false m (e - -1074).toNat = (A : Int) := by unfold signed; rw [hA]; rfl
      rw [h1]
      show compare (A : Int) 0 = Ordering.gt
      rw [Int.compare_eq_gt]; omega
    · have h1 : signed true m (e - -1074).toNat = -(A : Int) := by unfold signed; rw [hA]; rfl
      rw [h1]
      show compare (-(A : Int)) 0 = Ordering.lt
      rw [Int.compare_eq_lt]; omega

theorem read_place {x : Nat} {s : Bool} {m : Nat} {e : Int} (h : double.read x = .number s m e) : -1074 ≤ e := by
  unfold Format.read at h
  simp only [d_sign, d_binade, d_inf, d_least] at h
  split at h
  · injection h; omega
  · split at h
    · injection h; omega
    · split at h <;> cases h

theorem xor_top (r : Nat) (h : r < 9223372036854775808) : (9223372036854775808 + r) ^^^ 2 ^ 63 = r := by
  have hp : (9223372036854775808 : Nat) = 2 ^ 63 := by decide
  rw [hp] at h ⊢
  apply Nat.eq_of_testBit_eq
  intro j
  rw [Nat.testBit_xor, Nat.testBit_two_pow]
  by_cases hj : j < 63
  · rw [Nat.testBit_two_pow_add_gt hj]
    have : decide (63 = j) = false := by simp; omega
    rw [this, Bool.xor_false]
  · by_cases he : j = 63
    · subst he
      rw [Nat.testBit_two_pow_add_eq, Nat.testBit_lt_two_pow h]; rfl
    · have h1 : (2 ^ 63 + r).testBit j = false := Nat.testBit_lt_two_pow (Nat.lt_of_lt_of_le (show 2 ^ 63 + r < 2 ^ 64 by omega) (Nat.pow_le_pow_right (by omega) (by omega)))
      have h2 : r.testBit j = false := Nat.testBit_lt_two_pow (Nat.lt_of_lt_of_le h (Nat.pow_le_pow_right (by omega) (by omega)))
      have h3 : decide (63 = j) = false := by simp; omega
      rw [h1, h2, h3]; rfl

/-- A finite number's word. -/
def F (x : Nat) (b : Int) : Prop := Fin x b ∧ x < 18446744073709551616

theorem lt_of_bits {op : BinOp} {x y r : Nat} (h : floatBits op .f64 x y = some r) : r < 18446744073709551616 := by
  have := floatBits_wf h
  simpa [Lit.wf] using this

theorem F.mono {x : Nat} {b c : Int} (h : F x b) (hb : b ≤ c) : F x c := ⟨h.1.mono hb, h.2⟩
theorem mulF {x y : Nat} {b c : Int} (hx : F x b) (hy : F y c) (h0 : 0 ≤ b + c + 1) (h1 : b + c + 1 ≤ 1000) : ∃ r, floatBits .mul .f64 x y = some r ∧ F r (b + c + 2) := by
  obtain ⟨r, hr, hf⟩ := mul_Fin hx.1 hy.1 h0 h1
  exact ⟨r, hr, hf, lt_of_bits hr⟩
theorem addF {x y : Nat} {b : Int} (hx : F x b) (hy : F y b) (h0 : 0 ≤ b + 1) (h1 : b + 1 ≤ 1000) : ∃ r, floatBits .add .f64 x y = some r ∧ F r (b + 2) := by
  obtain ⟨r, hr, hf⟩ := add_Fin hx.1 hy.1 h0 h1
  exact ⟨r, hr, hf, lt_of_bits hr⟩
theorem subF {x y : Nat} {b : Int} (hx : F x b) (hy : F y b) (h0 : 0 ≤ b + 1) (h1 : b + 1 ≤ 1000) : ∃ r, floatBits .sub .f64 x y = some r ∧ F r (b + 2) := by
  obtain ⟨r, hr, hf⟩ := sub_Fin hx.1 hy.1 h0 h1
  exact ⟨r, hr, hf, lt_of_bits hr⟩
theorem absF {x : Nat} {b : Int} (h : F x b) : F (absN x) b := ⟨abs_Fin h.1, by have := h.2; unfold absN; omega⟩
theorem ofIntF (n : Int) (h : n.natAbs < 2 ^ 28) : F (floatOfInt .f64 n) 29 :=
  ⟨ofInt_Fin n h, by have := floatOfInt_wf .f64 n; simpa [Lit.wf] using this⟩

/-- The three ways of a size. -/
theorem abs_ways {x : Nat} {b : Int} (h : F x b) :
    ((FloatKind.f64.format.order x 0 == some Ordering.lt) = true ∧ Op.negFloat .f64 x = absN x) ∨
    ((FloatKind.f64.format.order x 0 == some Ordering.lt) = false ∧ (FloatKind.f64.format.order x 0 == some Ordering.eq) = true ∧ 0 = absN x) ∨
    ((FloatKind.f64.format.order x 0 == some Ordering.lt) = false ∧ (FloatKind.f64.format.order x 0 == some Ordering.eq) = false ∧ x = absN x) := by
  obtain ⟨⟨s, m, e, hr, hm⟩, hlt⟩ := h
  have ho := order_zero hr (read_place hr)
  have hs := sign_of hlt hr
  by_cases hz : m = 0
  · subst hz
    rw [if_pos rfl] at ho
    exact .inr (.inl ⟨by rw [ho]; rfl, by rw [ho]; rfl, (mag_zero hr).symm⟩)
  · rw [if_neg hz] at ho
    cases s
    · exact .inr (.inr ⟨by rw [ho]; rfl, by rw [ho]; rfl, by simpa using hs⟩)
    · refine .inl ⟨by rw [ho]; rfl, ?_⟩
      have h2 : x = 9223372036854775808 + absN x := by simpa using hs
      have h3 : absN x < 9223372036854775808 := by unfold absN; omega
      calc Op.negFloat .f64 x = x ^^^ 2 ^ 63 := rfl
        _ = (9223372036854775808 + absN x) ^^^ 2 ^ 63 := by rw [← h2]
        _ = absN x := xor_top _ h3

theorem order_self {x : Nat} {b : Int} (h : F x b) : FloatKind.f64.format.order x x = some .eq := by
  obtain ⟨⟨s, m, e, hr, hm⟩, hlt⟩ := h
  show double.order x x = _
  unfold Format.order
  rw [hr]
  unfold Datum.order
  simp

/-- One by nought is an infinity. -/
theorem inv_zero {x : Nat} {s : Bool} {e : Int} (hr : double.read x = .number s 0 e) : ∃ r, floatBits .quo .f64 4607182418800017408 x = some r := by
  have h1 : double.read 4607182418800017408 = .number false 4503599627370496 (-52) := by decide +kernel
  refine ⟨double.write (.infinity s), ?_⟩
  show double.div 4607182418800017408 x = _
  unfold Format.div
  rw [hr, h1]
  unfold Datum.quotient
  simp

theorem zero_or_not {x : Nat} {b : Int} (h : F x b) : ((FloatKind.f64.format.order x 0 == some Ordering.eq) = true ∧ ∃ r, floatBits .quo .f64 4607182418800017408 x = some r) ∨ (FloatKind.f64.format.order x 0 == some Ordering.eq) = false := by
  obtain ⟨⟨s, m, e, hr, hm⟩, hlt⟩ := h
  have ho := order_zero hr (read_place hr)
  by_cases hz : m = 0
  · subst hz
    rw [if_pos rfl] at ho
    exact .inl ⟨by rw [ho]; rfl, inv_zero hr⟩
  · rw [if_neg hz] at ho
    refine .inr ?_
    rw [ho]
    cases s <;> rfl

end Flt
end Go.Proofs.Ytikepklkjbohmaa
