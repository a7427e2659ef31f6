import Derived.Test.YtikepklkjbohmaaQof1
namespace Go.Proofs.Ytikepklkjbohmaa
open Go.RowKit

/-- All quotients of two groups are told right. -/
def DivAll : Prop := ∀ p q : Nat, 0 < p → p < 18446744073709551616 → 0 < q → q < 18446744073709551616 → DivC p q

theorem big_all (hD : DivAll) (n d : Int) (v u : Value) (w : World) (hd : d ≠ 0) (h1 : n.natAbs ≤ 9223372036854775808) (h2 : d.natAbs ≤ 9223372036854775808) (hv : ZIs w v n) (hu : ZIs w u d) :
    Calls Try.prog 33 #[v, u] w fun e w' => ∃ r, e = .returned r ∧ RIs w' r (qofP n d) (qofQ n d) ∧ Below w.heap.size w w' := by
  obtain ⟨a, k, c, f, rfl, ha⟩ := hv
  obtain ⟨b, m, e, g, rfl, hb⟩ := hu
  by_cases h0 : n = 0
  · subst h0
    have e1 : qofP 0 d = 0 := by unfold qofP sgn; simp
    have e2 : qofQ 0 d = 1 := by unfold qofQ; simp; exact Nat.div_self (by omega)
    rw [e1, e2]
    exact l1rBig_zero' _ a b k m c e f w ha
  · have hgp : 0 < Nat.gcd n.natAbs d.natAbs := Nat.gcd_pos_of_pos_right _ (by omega)
    have hgl := Nat.gcd_le_left (n := d.natAbs) (m := n.natAbs) (by omega)
    have hg1 := hD n.natAbs _ (by omega) (by omega) hgp (by omega)
    have hg2 := hD d.natAbs _ (by omega) (by omega) hgp (by omega)
    have hD' : ∀ p q, (0 < p ∧ p < 18446744073709551616 ∧ q < 18446744073709551616) → 0 < q → DivC p q ∧ (0 < q ∧ q < 18446744073709551616 ∧ p % q < 18446744073709551616) := fun p q h hq => ⟨hD p q h.1 h.2.1 hq h.2.2, hq, h.2.2, by have := Nat.mod_lt p hq; omega⟩
    unfold qofP qofQ
    by_cases hdn : d < 0
    · rw [if_pos hdn, show decide (d < 0) = true by simpa using hdn]
      exact l1rBig_neg _ hD' n d.natAbs a b k m c e f g w ha hb h0 (by omega) ⟨by omega, by omega, by omega⟩ hg1 hg2
    · rw [if_neg hdn, show decide (d < 0) = false by simpa using hdn]
      exact l1rBig_any _ hD' n d.natAbs a b k m c e f g w ha hb h0 (by omega) ⟨by omega, by omega, by omega⟩ hg1 hg2

theorem qof_lowest (n d : Int) (hd : d ≠ 0) : 0 < qofQ n d ∧ Nat.gcd (qofP n d).natAbs (qofQ n d) = 1 := by
  have hgp : 0 < Nat.gcd n.natAbs d.natAbs := Nat.gcd_pos_of_pos_right _ (by omega)
  unfold qofP qofQ
  rw [sgn_abs]
  refine ⟨Nat.div_pos (Nat.gcd_le_right _ (by omega)) hgp, ?_⟩
  exact Nat.gcd_div_gcd_div_gcd_of_pos_right (by omega)

set_option maxHeartbeats 1000000 in
theorem specQOf_no (n : Int) (w : World) :
    Calls Try.prog 13 #[.int .i64 n, .int .i64 0] w fun e w' => e = .returned (.tuple #[.agg #[.int .i64 0, .int .i64 0], .bool false]) ∧ Below w.heap.size w w' := by
  go_enter Try.func13, Try.ntmps13
  go_wp2
  exact bodyPost_ret (v := .tuple #[.agg #[.int .i64 0, .int .i64 0], .bool false]) (by simp [results, Try.results13, go_sem]) rfl ⟨rfl, Joins.below_alloc1 _ _⟩

set_option maxHeartbeats 1000000 in
theorem specQOf_yes (hD : DivAll) (n d : Int) (w : World) (hd : d ≠ 0) (h1 : -9223372036854775808 ≤ n) (h2 : n ≤ 9223372036854775807) (h3 : -9223372036854775808 ≤ d) (h4 : d ≤ 9223372036854775807) :
    Calls Try.prog 13 #[.int .i64 n, .int .i64 d] w fun e w' => e = .returned (qres (qofP n d) (qofQ n d)) ∧ Below w.heap.size w w' := by
  have hdz : (d == 0) = false := by simpa using hd
  have HD : Hid DivAll := hD
  have HZ : Hid (At (w.alloc (.cells #[.int .i64 0, .int .i64 0] 25)) w.heap.size #[.int .i64 0, .int .i64 0]) := ⟨fun j => by go_simp, fun j => by go_simp, by simp⟩
  clear hD
  go_enter Try.func13, Try.ntmps13
  go_wp2_with fail
  refine (l1ZOf_any n _ h1 h2).mono ?_
  rintro e w1 ⟨v1, rfl, hz1, hb1⟩
  have Q1 : Hid (ZIs w1 v1 n ∧ Below (w.alloc (.cells #[.int .i64 0, .int .i64 0] 25)).heap.size (w.alloc (.cells #[.int .i64 0, .int .i64 0] 25)) w1) := ⟨hz1, hb1⟩
  clear hz1 hb1
  go_wp2_with fail
  refine (l1ZOf_any d _ h3 h4).mono ?_
  rintro e w2 ⟨v2, rfl, hz2, hb2⟩
  have Q2 : Hid (ZIs w2 v1 n ∧ ZIs w2 v2 d ∧ Below (w.alloc (.cells #[.int .i64 0, .int .i64 0] 25)).heap.size (w.alloc (.cells #[.int .i64 0, .int .i64 0] 25)) w2) := ⟨Q1.out.1.below hb2, hz2, Q1.out.2.trans (hb2.mono Q1.out.2.size)⟩
  clear hz2 hb2 Q1
  go_wp2_with fail
  refine (big_all HD.out n d _ _ _ hd (by omega) (by omega) Q2.out.1 Q2.out.2.1).mono ?_
  rintro e w3 ⟨r, rfl, hr, hb3⟩
  have Q3 : Hid (RIs w3 r (qofP n d) (qofQ n d) ∧ Below (w.alloc (.cells #[.int .i64 0, .int .i64 0] 25)).heap.size (w.alloc (.cells #[.int .i64 0, .int .i64 0] 25)) w3) := ⟨hr, Q2.out.2.2.trans (hb3.mono Q2.out.2.2.size)⟩
  clear hr hb3 Q2
  go_wp2_with fail
  have hl := qof_lowest n d hd
  refine (l1rQ_any _ _ _ _ Q3.out.1 hl.1 hl.2).mono ?_
  rintro e w4 ⟨rfl, hb4⟩
  have Q4 : Hid (At w4 w.heap.size #[.int .i64 0, .int .i64 0] ∧ Below w.heap.size w w4) := ⟨(HZ.out.below Q3.out.2).below hb4, (Joins.below_alloc1 w _).trans ((Q3.out.2.trans (hb4.mono Q3.out.2.size)).mono (by simp))⟩
  clear hb4 Q3 HZ
  obtain ⟨k, kf, ks⟩ := Q4.out.1
  have k0 := k 0
  have k1 := k 1
  unfold qres
  obtain ⟨x0, hx0⟩ : ∃ x0, x0 = (if qfit (qofP n d) (qofQ n d) = true then qofP n d else 0) := ⟨_, rfl⟩
  obtain ⟨x1, hx1⟩ : ∃ x1, x1 = (if qfit (qofP n d) (qofQ n d) = true then (qofQ n d : Int) else 0) := ⟨_, rfl⟩
  obtain ⟨bb, hbb⟩ : ∃ bb, bb = qfit (qofP n d) (qofQ n d) := ⟨_, rfl⟩
  have HR : Hid (Value.tuple #[.agg #[.int .i64 x0, .int .i64 x1], .bool bb] = qres (qofP n d) (qofQ n d)) := by unfold Hid qres; rw [hx0, hx1, hbb]
  rw [← hx0, ← hx1, ← hbb]
  clear hx0 hx1 hbb
  go_wp2
  exact bodyPost_ret (v := .tuple #[.agg #[.int .i64 x0, .int .i64 x1], .bool bb]) (by simp [results, Try.results13, go_sem, k0, k1]) rfl ⟨by rw [HR.out], below_set2 Q4.out.2 (Nat.le_refl _) _ _⟩
end Go.Proofs.Ytikepklkjbohmaa
