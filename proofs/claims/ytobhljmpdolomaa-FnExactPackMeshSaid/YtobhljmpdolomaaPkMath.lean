import Derived.Test.YtobhljmpdolomaaMs0
namespace Go.Proofs.Ytobhljmpdolomaa
open Go.RowKit

/-- The groups of 7 bits of a number, the lowest first, at most so many. -/
def grp : Nat → Nat → List Int
  | 0, _ => []
  | f + 1, u => if u < 128 then [(u : Int)] else ((u % 128 + 128 : Nat) : Int) :: grp f (u / 128)
/-- A number turned. -/
def zig (x : Int) : Nat := if 0 ≤ x then (2 * x).toNat else (-2 * x - 1).toNat
def num (x : Int) : List Int := grp 10 (zig x)
theorem grp_len (f u : Nat) : (grp f u).length ≤ f := by
  induction f generalizing u with
  | zero => simp [grp]
  | succ f ih =>
    unfold grp
    split
    · simp
    · simp only [List.length_cons]; have := ih (u / 128); omega
theorem num_len (x : Int) : (num x).length ≤ 10 := grp_len 10 _
theorem grp_byte (f u : Nat) : ∀ b ∈ grp f u, 0 ≤ b ∧ b < 256 := by
  induction f generalizing u with
  | zero => simp [grp]
  | succ f ih =>
    unfold grp
    split
    · intro b hb; simp at hb; subst hb; omega
    · intro b hb
      rcases List.mem_cons.1 hb with rfl | hb
      · omega
      · exact ih _ b hb
theorem num_byte (x : Int) : ∀ b ∈ num x, 0 ≤ b ∧ b < 256 := grp_byte 10 _
/-- What is still to come behind k groups, u being left. -/
def rest (k u : Nat) : List Int := if k < 10 ∧ (k = 0 ∨ 0 < u) then grp (10 - k) u else []
theorem rest_start (u : Nat) : rest 0 u = grp 10 u := by simp [rest]
theorem rest_end {k u : Nat} (h : ¬ (k < 10 ∧ (k = 0 ∨ 0 < u))) : rest k u = [] := by simp only [rest, if_neg h]
theorem rest_last {k u : Nat} (h : k < 10 ∧ (k = 0 ∨ 0 < u)) (hu : u / 128 = 0) : rest k u = ((u % 128 : Nat) : Int) :: rest (k + 1) (u / 128) := by
  have h1 : u < 128 := by omega
  rw [rest_end (k := k + 1) (u := u / 128) (by omega), rest, if_pos h]
  obtain ⟨f, hf⟩ : ∃ f, 10 - k = f + 1 := ⟨9 - k, by omega⟩
  rw [hf, grp, if_pos h1, Nat.mod_eq_of_lt h1]
theorem rest_more {k u : Nat} (h : k < 10 ∧ (k = 0 ∨ 0 < u)) (hu : 0 < u / 128) : rest k u = ((u % 128 + 128 : Nat) : Int) :: rest (k + 1) (u / 128) := by
  have h1 : ¬ u < 128 := by omega
  obtain ⟨f, hf⟩ : ∃ f, 10 - k = f + 1 := ⟨9 - k, by omega⟩
  rw [rest, if_pos h, hf, grp, if_neg h1]
  congr 1
  by_cases h9 : k + 1 < 10
  · rw [rest, if_pos ⟨h9, Or.inr hu⟩]
    congr 1
    omega
  · rw [rest_end (by omega)]
    have : f = 0 := by omega
    subst this
    rfl

theorem rest_lastI {k u : Nat} (h : k < 10 ∧ (k = 0 ∨ 0 < u)) (hu : u / 128 = 0) : rest k u = ((u : Int) % 128) :: rest (k + 1) (u / 128) := by
  have := rest_last h hu
  simpa using this
theorem rest_moreI {k u : Nat} (h : k < 10 ∧ (k = 0 ∨ 0 < u)) (hu : 0 < u / 128) : rest k u = ((u : Int) % 128 + 128) :: rest (k + 1) (u / 128) := by
  have := rest_more h hu
  simpa using this

/-- Numbers one behind the other. -/
def nums (V : Nat → Int) (k : Nat) : List Int := (List.range k).flatMap fun j => num (V j)
theorem nums_succ (V : Nat → Int) (k : Nat) : nums V (k + 1) = nums V k ++ num (V k) := by simp [nums, List.range_succ]
theorem nums_zero (V : Nat → Int) : nums V 0 = [] := rfl
theorem nums_len (V : Nat → Int) (k : Nat) : (nums V k).length ≤ 10 * k := by
  induction k with
  | zero => simp [nums]
  | succ k ih => rw [nums_succ, List.length_append]; have := num_len (V k); omega
theorem nums_byte (V : Nat → Int) (k : Nat) : ∀ b ∈ nums V k, 0 ≤ b ∧ b < 256 := by
  intro b hb
  simp only [nums, List.mem_flatMap] at hb
  obtain ⟨j, _, h⟩ := hb
  exact num_byte _ b h
/-- All but the sum. -/
def body (nv nt : Nat) (V T : Nat → Int) : List Int := [83, 77, 1] ++ num nv ++ nums V (nv * 6) ++ num nt ++ nums T (nt * 3)
theorem body_byte (nv nt : Nat) (V T : Nat → Int) : ∀ b ∈ body nv nt V T, 0 ≤ b ∧ b < 256 := by
  intro b hb
  simp only [body, List.mem_append] at hb
  rcases hb with (((hb | hb) | hb) | hb) | hb
  · simp at hb; omega
  · exact num_byte _ b hb
  · exact nums_byte _ _ b hb
  · exact num_byte _ b hb
  · exact nums_byte _ _ b hb
/-- The sum, step by step. -/
def sumTo : List Int → Int → Int
  | [], s => s
  | b :: l, s => sumTo l ((s + b) % 65521)
theorem sumTo_append (l m : List Int) (s : Int) : sumTo (l ++ m) s = sumTo m (sumTo l s) := by
  induction l generalizing s with
  | nil => rfl
  | cons b l ih => simp only [List.cons_append, sumTo]; exact ih _
theorem sumTo_range (l : List Int) (s : Int) (hs : 0 ≤ s ∧ s < 65521) : 0 ≤ sumTo l s ∧ sumTo l s < 65521 := by
  induction l generalizing s with
  | nil => exact hs
  | cons b l ih => exact ih _ (by omega)
/-- All at once. -/
theorem sumTo_sum (l : List Int) (s : Int) (hs : 0 ≤ s ∧ s < 65521) : sumTo l s = (s + l.sum) % 65521 := by
  induction l generalizing s with
  | nil => simp [sumTo]; omega
  | cons b l ih => rw [sumTo, ih _ (by omega), List.sum_cons, Int.emod_add_emod, Int.add_assoc]
def pack (nv nt : Nat) (V T : Nat → Int) : List Int := body nv nt V T ++ [sumTo (body nv nt V T) 0 % 256, sumTo (body nv nt V T) 0 / 256]
end Go.Proofs.Ytobhljmpdolomaa
