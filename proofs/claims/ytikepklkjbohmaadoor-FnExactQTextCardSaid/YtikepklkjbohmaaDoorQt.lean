import Derived.Test.YtikepklkjbohmaaDoorDec
import Derived.Lib.AppendIntMem
import Derived.WalkSmall
import Derived.Deep.RegionWith
namespace Go.Proofs.YtikepklkjbohmaaDoor
open Go.RowKit

theorem dec_len : ∀ k u, u < 10 ^ (k + 1) → (Lib.decDigits u).length ≤ k + 1
  | 0, u, h => by rw [Lib.decDigits.eq_def, dif_pos (by simpa using h)]; simp
  | k + 1, u, h => by
    rw [Lib.decDigits.eq_def]
    split
    · simp
    · have := dec_len k (u / 10) (by apply Nat.div_lt_of_lt_mul; rw [Nat.pow_succ, Nat.mul_comm] at h; exact h)
      simp; omega
theorem itoa_len (x : Int) (h1 : -9223372036854775808 ≤ x) (h2 : x ≤ 9223372036854775807) : (Lib.itoa x).length ≤ 20 := by
  have h := dec_len 18 x.natAbs (by show x.natAbs < 10 ^ 19; omega)
  by_cases hx : x < 0
  · rw [itoa_neg x hx]; simp; omega
  · rw [itoa_pos x hx]; omega
theorem str_cat (a b : List UInt8) : (⟨a.toArray⟩ : ByteArray) ++ (⟨b.toArray⟩ : ByteArray) = ⟨(a ++ b).toArray⟩ := by simp [ByteArray.ext_iff]

theorem cat3 (a b : List UInt8) : (⟨a.toArray⟩ : ByteArray) ++ (⟨#[47]⟩ : ByteArray) ++ (⟨b.toArray⟩ : ByteArray) = ⟨(a ++ 47 :: b).toArray⟩ := by simp [ByteArray.ext_iff]
theorem cat3' (a b : List UInt8) : (⟨a.toArray⟩ : ByteArray) ++ ((⟨#[47]⟩ : ByteArray) ++ (⟨b.toArray⟩ : ByteArray)) = ⟨(a ++ 47 :: b).toArray⟩ := by simp [ByteArray.ext_iff]
theorem ret_str {a b : ByteArray} (h : a = b) : Ending.returned (.string a) = .returned (.string b) := by rw [h]
/-- The fraction's two cells. -/
abbrev SQ (N : Nat) (n d : Int) (w' : World) : Prop := w'.cell? ⟨N, 0, none⟩ = some (.int .i64 n) ∧ w'.cell? ⟨N, 1, none⟩ = some (.int .i64 d) ∧ N < w'.heap.size
theorem SQ.call {N : Nat} {n d : Int} {w' w1 : World} (h : SQ N n d w') (hb : Below w'.heap.size w' w1) : SQ N n d w1 :=
  ⟨by rw [hb.cell (p := ⟨N, 0, none⟩) h.2.2]; exact h.1, by rw [hb.cell (p := ⟨N, 1, none⟩) h.2.2]; exact h.2.1, Nat.lt_of_lt_of_le h.2.2 hb.size⟩
theorem SQ.drew {N : Nat} {n d : Int} {w' : World} (h : SQ N n d w') : SQ N n d w'.drew := h.call (Below.refl _ _).drew
theorem SQ.start (w : World) (n d : Int) (t : TypeId) : SQ w.heap.size n d (w.alloc (.cells #[.int .i64 n, .int .i64 d] t)) := ⟨by go_simp, by go_simp, by simp⟩

/-- What is told of a fraction. -/
def qtext (n d : Int) : List UInt8 := if qok n d then (if d = 1 then Lib.itoa n else Lib.itoa n ++ 47 :: Lib.itoa d) else []

set_option maxHeartbeats 1000000 in
theorem specQText_any (n d : Int) (w : World) (h1 : -9223372036854775808 ≤ n) (h2 : n ≤ 9223372036854775807) (h3 : -9223372036854775808 ≤ d) (h4 : d ≤ 9223372036854775807) :
    Calls Tryd.prog 4 #[.agg #[.int .i64 n, .int .i64 d]] w fun e w' => e = .returned (.string ⟨(qtext n d).toArray⟩) ∧ Below w.heap.size w w' := by
  by_cases hq : qok n d = true
  · by_cases hd : d = 1
    · subst hd
      have HT : Hid (Lib.itoa n = qtext n 1) := by unfold Hid qtext; rw [if_pos hq, if_pos rfl]
      go_enter Tryd.func4, Tryd.ntmps4
      go_wp2_with fail
      refine (specQOk_any n 1 _).mono ?_
      rintro e w1 ⟨rfl, hb1⟩
      obtain ⟨hc1, hf1⟩ := bcell hb1
      have HB1 : Hid (Below w.heap.size w w1) := (Joins.below_alloc1 w _).trans (hb1.mono (by simp))
      clear hb1
      go_wp2_with fail
      refine (l1Dec_any n _ h1 h2).mono ?_
      rintro e w2 ⟨rfl, hb2⟩
      go_wp2
      go_ret
      exact ⟨ret_str (by rw [HT.out]), HB1.out.trans (hb2.mono HB1.out.size)⟩
    · have HT : Hid (Lib.itoa n ++ 47 :: Lib.itoa d = qtext n d) := by unfold Hid qtext; rw [if_pos hq, if_neg hd]
      have td : (d == 1) = false := by simpa using hd
      clear hd
      have l1 := itoa_len n h1 h2
      have l2 := itoa_len d h3 h4
      go_enter Tryd.func4, Tryd.ntmps4
      go_wp2_with fail
      refine (specQOk_any n d _).mono ?_
      rintro e w1 ⟨rfl, hb1⟩
      have hS : SQ w.heap.size n d w1 := (SQ.start w n d 25).call hb1
      have hB : Below w.heap.size w w1 := (Joins.below_alloc1 w _).trans (hb1.mono (by simp))
      obtain ⟨c0, c1, cs⟩ := hS
      have hS : SQ w.heap.size n d w1 := ⟨c0, c1, cs⟩
      clear hb1
      go_wp2_with fail
      go_region_with
        (first
          | (go_at_call_of 8 (Value.int IntKind.i64 n); refine (l1Dec_any n _ h1 h2).mono ?_; rintro e w2 ⟨rfl, hb2⟩; have Q2 : Hid (SQ w.heap.size n d w2 ∧ Below w.heap.size w w2) := ⟨hS.call ((Below.refl _ _).drew.trans (hb2.mono (Nat.le_refl _))), hB.trans ((Below.refl _ _).drew.trans (hb2.mono hB.size))⟩; obtain ⟨c0, c1, cs⟩ := Q2.out.1)
          | (go_at_call 8; refine (l1Dec_any d _ h3 h4).mono ?_; rintro e w3 ⟨rfl, hb3⟩; have Q3 : Hid (Below w.heap.size w w3) := Q2.out.2.trans (hb3.mono Q2.out.2.size)))
      all_goals (
        go_wp2
        go_ret
        exact ⟨ret_str (by rw [← HT.out]; exact cat3 _ _), Q3.out⟩)
  · have hq' : qok n d = false := by simpa using hq
    have HT : Hid ([] = qtext n d) := by unfold Hid qtext; rw [if_neg hq]
    go_enter Tryd.func4, Tryd.ntmps4
    go_wp2_with fail
    refine (specQOk_any n d _).mono ?_
    rintro e w1 ⟨rfl, hb1⟩
    have HB1 : Hid (Below w.heap.size w w1) := (Joins.below_alloc1 w _).trans (hb1.mono (by simp))
    clear hb1
    go_wp2
    go_ret
    exact ⟨ret_str (by rw [← HT.out]), HB1.out⟩
end Go.Proofs.YtikepklkjbohmaaDoor
