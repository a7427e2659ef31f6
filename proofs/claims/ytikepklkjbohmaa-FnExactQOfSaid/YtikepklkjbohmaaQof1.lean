import Derived.Test.YtikepklkjbohmaaRq2
namespace Go.Proofs.Ytikepklkjbohmaa
open Go.RowKit

set_option maxHeartbeats 400000 in
theorem signed_any (k : Nat) (b : Bool) (w : World) (hk : k ≤ 1000000000000000000) :
    Calls Try.prog 37 #[.int .u64 k, .bool b] w fun e w' => e = .returned (.int .i64 (if b then -(k : Int) else k)) ∧ w' = w := by
  have ewk : IntKind.i64.wrap (k : Int) = (k : Int) := by simp only [IntKind.wrap, IntKind.bits, IntKind.signed]; simp; omega
  cases b
  · go_enter Try.func37, Try.ntmps37
    go_wp2
    go_ret
    exact ⟨ret_int (by simp), rfl⟩
  · go_enter Try.func37, Try.ntmps37
    go_wp2
    go_ret
    exact ⟨ret_int (by simp), rfl⟩

theorem signed_as (k : Nat) (b : Bool) (z : Int) (w : World) (hk : k ≤ 1000000000000000000) (hz : z = if b then -(k : Int) else k) :
    Calls Try.prog 37 #[.int .u64 k, .bool b] w fun e w' => e = .returned (.int .i64 z) ∧ w' = w := by rw [hz]; exact signed_any k b w hk

set_option maxHeartbeats 1000000 in
theorem implQOf_no (n : Int) (w : World) :
    Calls Try.prog 14 #[.int .i64 n, .int .i64 0] w fun e w' => e = .returned (.tuple #[.agg #[.int .i64 0, .int .i64 0], .bool false]) ∧ Below w.heap.size w w' := by
  go_enter Try.func14, Try.ntmps14
  go_wp2
  exact bodyPost_ret (v := .tuple #[.agg #[.int .i64 0, .int .i64 0], .bool false]) (by simp [results, Try.results14, go_sem]) rfl ⟨rfl, Joins.below_alloc1 _ _⟩

/-- What a quotient of two numbers is told as. -/
def qofP (n d : Int) : Int := sgn (if d < 0 then -n else n) (n.natAbs / Nat.gcd n.natAbs d.natAbs)
def qofQ (n d : Int) : Nat := d.natAbs / Nat.gcd n.natAbs d.natAbs

set_option maxHeartbeats 1000000 in
theorem implQOf_yes (n d : Int) (w : World) (hd : d ≠ 0) (h1 : -9223372036854775808 ≤ n) (h2 : n ≤ 9223372036854775807) (h3 : -9223372036854775808 ≤ d) (h4 : d ≤ 9223372036854775807) :
    Calls Try.prog 14 #[.int .i64 n, .int .i64 d] w fun e w' => e = .returned (qres (qofP n d) (qofQ n d)) ∧ Below w.heap.size w w' := by
  have hdz : (d == 0) = false := by simpa using hd
  have hgp : 0 < Nat.gcd n.natAbs d.natAbs := Nat.gcd_pos_of_pos_right _ (by omega)
  go_enter Try.func14, Try.ntmps14
  go_wp2_with fail
  refine (size_any n _ h1 h2).mono ?_
  rintro e w1 ⟨rfl, rfl⟩
  go_wp2_with fail
  refine (size_any d _ h3 h4).mono ?_
  rintro e w1 ⟨rfl, rfl⟩
  go_wp2_with fail
  refine (gcd_any n.natAbs d.natAbs _ (by omega) (by omega)).mono ?_
  rintro e w1 ⟨rfl, q, rfl⟩
  obtain ⟨g, hg⟩ : ∃ g, g = Nat.gcd n.natAbs d.natAbs := ⟨_, rfl⟩
  rw [← hg] at hgp ⊢
  have hg0 : (0 : Int) < (g : Int) := by omega
  have HG : Hid (g = Nat.gcd n.natAbs d.natAbs) := hg
  clear hg
  go_wp2
  go_quiet (fail)
  have eT : IntKind.u64.wrap ((n.natAbs : Int) / (g : Int)) = ((n.natAbs / g : Nat) : Int) := by
    rw [← Int.natCast_ediv, wrap_u64]; have := Nat.div_le_self n.natAbs g; generalize n.natAbs / g = X at *; omega
  have eB : IntKind.u64.wrap ((d.natAbs : Int) / (g : Int)) = ((d.natAbs / g : Nat) : Int) := by
    rw [← Int.natCast_ediv, wrap_u64]; have := Nat.div_le_self d.natAbs g; generalize d.natAbs / g = X at *; omega
  rw [eT, eB]
  clear eT eB
  obtain ⟨T, hT⟩ : ∃ T, T = n.natAbs / g := ⟨_, rfl⟩
  obtain ⟨U, hU⟩ : ∃ U, U = d.natAbs / g := ⟨_, rfl⟩
  have HTl : Hid (T ≤ n.natAbs ∧ U ≤ d.natAbs) := ⟨by rw [hT]; exact Nat.div_le_self _ _, by rw [hU]; exact Nat.div_le_self _ _⟩
  rw [← hT, ← hU]
  have HP : Hid (qofP n d = (if (decide (n < 0) != decide (d < 0)) then -(T : Int) else T) ∧ qofQ n d = U) := by
    refine ⟨?_, by unfold qofQ; rw [← HG.out, hU]⟩
    unfold qofP
    rw [← HG.out, ← hT]
    unfold sgn
    rcases Int.lt_trichotomy n 0 with hn | hn | hn
    · rw [show decide (n < 0) = true by simpa using hn]
      by_cases hdn : d < 0
      · rw [if_pos hdn, if_neg (by omega), show decide (d < 0) = true by simpa using hdn]; rfl
      · rw [if_neg hdn, if_pos hn, show decide (d < 0) = false by simpa using hdn]; rfl
    · have hT0 : T = 0 := by rw [hT, hn]; simp
      rw [hT0]; simp
    · rw [show decide (n < 0) = false by simp; omega]
      by_cases hdn : d < 0
      · rw [if_pos hdn, if_pos (by omega), show decide (d < 0) = true by simpa using hdn]; rfl
      · rw [if_neg hdn, if_neg (by omega), show decide (d < 0) = false by simpa using hdn]; rfl
  have HN : Hid ((if (decide (n < 0) != decide (d < 0)) then -(T : Int) else T).natAbs = T) := by unfold Hid; split <;> omega
  clear hT hU HG hgp hg0
  by_cases hT1 : T ≤ 1000000000000000000
  · have t1 : decide ((1000000000000000000 : Int) < (T : Int)) = false := by simp; omega
    by_cases hU1 : U ≤ 1000000000000000000
    · have t2 : decide ((1000000000000000000 : Int) < (U : Int)) = false := by simp; omega
      have ewU : IntKind.i64.wrap (U : Int) = (U : Int) := by simp only [IntKind.wrap, IntKind.bits, IntKind.signed]; simp; omega
      have HR : Hid (.tuple #[.agg #[.int .i64 (if (decide (n < 0) != decide (d < 0)) then -(T : Int) else T), .int .i64 U], .bool true] = qres (qofP n d) (qofQ n d)) := by
        unfold Hid qres
        rw [HP.out.1, HP.out.2, show qfit (if (decide (n < 0) != decide (d < 0)) then -(T : Int) else T) U = true from by unfold qfit; rw [HN.out]; simp [hT1, hU1]]
        rfl
      obtain ⟨z, hz⟩ : ∃ z, z = (if (decide (n < 0) != decide (d < 0)) then -(T : Int) else T) := ⟨_, rfl⟩
      rw [← hz] at HR
      have HZ : Hid (z = (if (decide (n < 0) != decide (d < 0)) then -(T : Int) else T)) := hz
      clear hz HP HN
      go_wp2_with fail
      refine (signed_as T _ z _ hT1 HZ.out).mono ?_
      rintro e w' ⟨rfl, rfl⟩
      clear HZ
      go_wp2
      exact bodyPost_ret (v := .tuple #[.agg #[.int .i64 z, .int .i64 U], .bool true]) (by simp [results, Try.results14, go_sem]) rfl ⟨by rw [HR.out], below_set2 ((Joins.below_alloc1 _ _).trans (Joins.below_draws _ _ _)) (Nat.le_refl _) _ _⟩
    · have t2 : decide ((1000000000000000000 : Int) < (U : Int)) = true := by simp; omega
      have HR : Hid (.tuple #[.agg #[.int .i64 0, .int .i64 0], .bool false] = qres (qofP n d) (qofQ n d)) := by
        unfold Hid qres
        rw [HP.out.1, HP.out.2, show qfit (if (decide (n < 0) != decide (d < 0)) then -(T : Int) else T) U = false from by unfold qfit; rw [HN.out]; simp; omega]
        rfl
      go_wp2
      exact bodyPost_ret (v := .tuple #[.agg #[.int .i64 0, .int .i64 0], .bool false]) (by simp [results, Try.results14, go_sem]) rfl ⟨by rw [HR.out], by first | exact (Joins.below_alloc1 _ _).trans (Joins.below_draws _ _ _) | exact below_set2 ((Joins.below_alloc1 _ _).trans (Joins.below_draws _ _ _)) (Nat.le_refl _) _ _⟩
  · have t1 : decide ((1000000000000000000 : Int) < (T : Int)) = true := by simp; omega
    have HR : Hid (.tuple #[.agg #[.int .i64 0, .int .i64 0], .bool false] = qres (qofP n d) (qofQ n d)) := by
      unfold Hid qres
      rw [HP.out.1, HP.out.2, show qfit (if (decide (n < 0) != decide (d < 0)) then -(T : Int) else T) U = false from by unfold qfit; rw [HN.out]; simp; omega]
      rfl
    go_wp2
    exact bodyPost_ret (v := .tuple #[.agg #[.int .i64 0, .int .i64 0], .bool false]) (by simp [results, Try.results14, go_sem]) rfl ⟨by rw [HR.out], by first | exact (Joins.below_alloc1 _ _).trans (Joins.below_draws _ _ _) | exact below_set2 ((Joins.below_alloc1 _ _).trans (Joins.below_draws _ _ _)) (Nat.le_refl _) _ _⟩
end Go.Proofs.Ytikepklkjbohmaa
