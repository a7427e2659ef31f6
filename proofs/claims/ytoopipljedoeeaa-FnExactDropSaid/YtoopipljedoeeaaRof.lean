import Derived.Test.YtoopipljedoeeaaRat
namespace Go.Proofs.Ytoopipljedoeeaa
open Go.RowKit

/-- A call that hands back a fraction. -/
abbrev GivesR (w : World) (P : Int) (Q : Nat) (e : Ending) (w' : World) : Prop := ∃ p0 q0 s0 l0 c0, e = .returned (.agg #[.int .i64 p0, .int .i64 q0, .slice s0 l0 c0]) ∧ RIs w' (.agg #[.int .i64 p0, .int .i64 q0, .slice s0 l0 c0]) P Q ∧ Below w.heap.size w w'

set_option maxHeartbeats 2000000 in
theorem l1rOf_any (x : Int) (d : Nat) (w : World) (h1 : -1000000000000000000 ≤ x) (h2 : x ≤ 1000000000000000000) (h3 : 1 ≤ d) (h4 : d ≤ 1000000000000000000) (hg : Nat.gcd x.natAbs d = 1) :
    Calls Try.prog 42 #[.int .i64 x, .int .i64 d] w (GivesR w x d) := by
  have HG : Hid (Nat.gcd x.natAbs d = 1) := hg
  clear hg
  by_cases hs : -2147483648 < x ∧ x < 2147483648
  · have k1 : decide (-2147483648 < x ∧ x < 2147483648) = true := by simpa using hs
    by_cases hd : d < 2147483648
    · have k2 : decide (-2147483648 < (d : Int) ∧ (d : Int) < 2147483648) = true := by simp; omega
      have HS : Hid ((-2147483648 < x ∧ x < 2147483648) ∧ d < 2147483648) := ⟨hs, hd⟩
      clear hs hd
      go_enter Try.func42, Try.ntmps42
      go_wp2_with (go_at_call 45; refine (l1Small_any _ _).mono ?_; rintro e w' ⟨rfl, rfl⟩)
      have hs := HS.out
      exact bodyPost_ret (v := .agg #[.int .i64 x, .int .i64 d, .slice none 0 0]) (by simp [results, Try.results42, go_sem]) rfl ⟨_, _, _, _, _, rfl, .inl ⟨⟨by omega, by omega⟩, rfl⟩, Joins.below_alloc1 _ _⟩
    have k2 : decide (-2147483648 < (d : Int) ∧ (d : Int) < 2147483648) = false := by simp; omega
    clear hs hd
    go_enter Try.func42, Try.ntmps42
    go_wp2_with fail
    refine (l1Small_any _ _).mono ?_
    rintro e w' ⟨rfl, rfl⟩
    go_wp2_with fail
    refine (l1Small_any _ _).mono ?_
    rintro e w' ⟨rfl, rfl⟩
    go_wp2_with fail
    refine (l1Abs_any _ _ (by omega) (by omega)).mono ?_
    rintro e w' ⟨rfl, rfl⟩
    go_wp2_with fail
    have hg := l1Gcd_any x.natAbs d (w.alloc (.cells #[.int .i64 0, .int .i64 0, .slice none 0 0] 52)) (by omega) (by omega)
    rw [HG.out] at hg
    refine hg.mono ?_
    clear hg
    rintro e w1 ⟨rfl, q, rfl⟩
    go_wp2_with fail
    refine (l1Abs_any _ _ (by omega) (by omega)).mono ?_
    rintro e w2 ⟨rfl, rfl⟩
    go_wp2_with fail
    refine (l1Mag_any _ _ (by omega)).mono ?_
    rintro e w3 ⟨g1, n1, c1, f1, rfl, hm1, hb3⟩
    have hz3 : w.heap.size < w3.heap.size := by have := hb3.size; simp at this; omega
    go_wp2_with fail
    refine (l1Mag_any d _ (by omega)).mono ?_
    rintro e w5 ⟨g2, n2, c2, f2, rfl, hm2, hb5⟩
    have hz5 : w3.heap.size < w5.heap.size := by have := hb5.size; simp at this; omega
    have hb5' := hb5.trans ((Joins.below_alloc1 w5 (.cells #[.bool false, .slice (some ⟨g2, 0, none⟩) n2 c2] 91)).mono hb5.size)
    have k6 : ∀ j, (w5.alloc (.cells #[.bool false, .slice (some ⟨g2, 0, none⟩) n2 c2] 91)).cell? ⟨w3.heap.size, j, none⟩ = #[Value.bool (decide (x < 0)), .slice (some ⟨g1, 0, none⟩) n1 c1][j]? := fun j => by
      rw [hb5'.cell (p := ⟨w3.heap.size, j, none⟩) (by simp), Joins.cell_alloc_mark_at _ _ _ _ _ _ rfl]
    have hbA := hb3.trans ((Joins.below_alloc1 w3 (.cells #[.bool (decide (x < 0)), .slice (some ⟨g1, 0, none⟩) n1 c1] 91)).mono hb3.size)
    have hbB := hbA.trans (hb5'.mono hbA.size)
    have HM : Hid (Mag (w5.alloc (.cells #[.bool false, .slice (some ⟨g2, 0, none⟩) n2 c2] 91)) (some ⟨g1, 0, none⟩) n1 c1 f1 x.natAbs ∧ Mag (w5.alloc (.cells #[.bool false, .slice (some ⟨g2, 0, none⟩) n2 c2] 91)) (some ⟨g2, 0, none⟩) n2 c2 f2 d) :=
      ⟨(hm1.below (Joins.below_alloc1 _ _)).below hb5', hm2.below (Joins.below_alloc1 _ _)⟩
    have HB : Hid _ := hbB
    clear hm1 hm2 hb3 hb5 hb5' hbA hbB
    go_wp2_with fail
    refine (l1rPack_any x d _ _ _ _ _ _ f1 f2 _ HM.out.1 HM.out.2).mono ?_
    rintro e w6 ⟨v, rfl, hr, hb6⟩
    have hb7 := HB.out.trans (hb6.mono HB.out.size)
    have hz6 : w.heap.size < w6.heap.size := by have := hb7.size; simp at this; omega
    have j0 : w6.cell? ⟨w.heap.size, 0, none⟩ = some (.int .i64 0) := by rw [hb7.cell (p := ⟨w.heap.size, 0, none⟩) (by simp)]; go_simp
    have j1 : w6.cell? ⟨w.heap.size, 1, none⟩ = some (.int .i64 0) := by rw [hb7.cell (p := ⟨w.heap.size, 1, none⟩) (by simp)]; go_simp
    have j2 : w6.cell? ⟨w.heap.size, 2, none⟩ = some (.slice none 0 0) := by rw [hb7.cell (p := ⟨w.heap.size, 2, none⟩) (by simp)]; go_simp
    have jf : ∀ j, w6.frozen? ⟨w.heap.size, j, none⟩ = false := fun j => by rw [hb7.frozen (p := ⟨w.heap.size, j, none⟩) (by simp)]; go_simp
    obtain ⟨p0, q0, s0, l0, c0, hv⟩ := hr.agg
    subst hv
    have HF : Hid (RIs w6 (.agg #[.int .i64 p0, .int .i64 q0, .slice s0 l0 c0]) x d ∧ Below w.heap.size w w6) := ⟨hr, ((Joins.below_alloc1 w (.cells #[.int .i64 0, .int .i64 0, .slice none 0 0] 52)).trans (Joins.below_draws _ _ q)).trans (hb7.mono (by simp))⟩
    clear hr hb6 hb7 HB HM k6
    go_wp2
    exact bodyPost_ret (v := .agg #[.int .i64 p0, .int .i64 q0, .slice s0 l0 c0]) (by simp [results, Try.results42, go_sem, j0, j1, j2]) rfl ⟨_, _, _, _, _, rfl, HF.out.1.set3 _ _ j0 _ _ _, below_set3 HF.out.2 (by omega) _ _ _⟩
  · have k1 : decide (-2147483648 < x ∧ x < 2147483648) = false := by simpa using hs
    clear hs
    go_enter Try.func42, Try.ntmps42
    go_wp2_with fail
    refine (l1Small_any _ _).mono ?_
    rintro e w' ⟨rfl, rfl⟩
    go_wp2_with fail
    refine (l1Abs_any _ _ (by omega) (by omega)).mono ?_
    rintro e w' ⟨rfl, rfl⟩
    go_wp2_with fail
    have hg := l1Gcd_any x.natAbs d (w.alloc (.cells #[.int .i64 0, .int .i64 0, .slice none 0 0] 52)) (by omega) (by omega)
    rw [HG.out] at hg
    refine hg.mono ?_
    clear hg
    rintro e w1 ⟨rfl, q, rfl⟩
    go_wp2_with fail
    refine (l1Abs_any _ _ (by omega) (by omega)).mono ?_
    rintro e w2 ⟨rfl, rfl⟩
    go_wp2_with fail
    refine (l1Mag_any _ _ (by omega)).mono ?_
    rintro e w3 ⟨g1, n1, c1, f1, rfl, hm1, hb3⟩
    have hz3 : w.heap.size < w3.heap.size := by have := hb3.size; simp at this; omega
    go_wp2_with fail
    refine (l1Mag_any d _ (by omega)).mono ?_
    rintro e w5 ⟨g2, n2, c2, f2, rfl, hm2, hb5⟩
    have hz5 : w3.heap.size < w5.heap.size := by have := hb5.size; simp at this; omega
    have hb5' := hb5.trans ((Joins.below_alloc1 w5 (.cells #[.bool false, .slice (some ⟨g2, 0, none⟩) n2 c2] 91)).mono hb5.size)
    have k6 : ∀ j, (w5.alloc (.cells #[.bool false, .slice (some ⟨g2, 0, none⟩) n2 c2] 91)).cell? ⟨w3.heap.size, j, none⟩ = #[Value.bool (decide (x < 0)), .slice (some ⟨g1, 0, none⟩) n1 c1][j]? := fun j => by
      rw [hb5'.cell (p := ⟨w3.heap.size, j, none⟩) (by simp), Joins.cell_alloc_mark_at _ _ _ _ _ _ rfl]
    have hbA := hb3.trans ((Joins.below_alloc1 w3 (.cells #[.bool (decide (x < 0)), .slice (some ⟨g1, 0, none⟩) n1 c1] 91)).mono hb3.size)
    have hbB := hbA.trans (hb5'.mono hbA.size)
    have HM : Hid (Mag (w5.alloc (.cells #[.bool false, .slice (some ⟨g2, 0, none⟩) n2 c2] 91)) (some ⟨g1, 0, none⟩) n1 c1 f1 x.natAbs ∧ Mag (w5.alloc (.cells #[.bool false, .slice (some ⟨g2, 0, none⟩) n2 c2] 91)) (some ⟨g2, 0, none⟩) n2 c2 f2 d) :=
      ⟨(hm1.below (Joins.below_alloc1 _ _)).below hb5', hm2.below (Joins.below_alloc1 _ _)⟩
    have HB : Hid _ := hbB
    clear hm1 hm2 hb3 hb5 hb5' hbA hbB
    go_wp2_with fail
    refine (l1rPack_any x d _ _ _ _ _ _ f1 f2 _ HM.out.1 HM.out.2).mono ?_
    rintro e w6 ⟨v, rfl, hr, hb6⟩
    have hb7 := HB.out.trans (hb6.mono HB.out.size)
    have hz6 : w.heap.size < w6.heap.size := by have := hb7.size; simp at this; omega
    have j0 : w6.cell? ⟨w.heap.size, 0, none⟩ = some (.int .i64 0) := by rw [hb7.cell (p := ⟨w.heap.size, 0, none⟩) (by simp)]; go_simp
    have j1 : w6.cell? ⟨w.heap.size, 1, none⟩ = some (.int .i64 0) := by rw [hb7.cell (p := ⟨w.heap.size, 1, none⟩) (by simp)]; go_simp
    have j2 : w6.cell? ⟨w.heap.size, 2, none⟩ = some (.slice none 0 0) := by rw [hb7.cell (p := ⟨w.heap.size, 2, none⟩) (by simp)]; go_simp
    have jf : ∀ j, w6.frozen? ⟨w.heap.size, j, none⟩ = false := fun j => by rw [hb7.frozen (p := ⟨w.heap.size, j, none⟩) (by simp)]; go_simp
    obtain ⟨p0, q0, s0, l0, c0, hv⟩ := hr.agg
    subst hv
    have HF : Hid (RIs w6 (.agg #[.int .i64 p0, .int .i64 q0, .slice s0 l0 c0]) x d ∧ Below w.heap.size w w6) := ⟨hr, ((Joins.below_alloc1 w (.cells #[.int .i64 0, .int .i64 0, .slice none 0 0] 52)).trans (Joins.below_draws _ _ q)).trans (hb7.mono (by simp))⟩
    clear hr hb6 hb7 HB HM k6
    go_wp2
    exact bodyPost_ret (v := .agg #[.int .i64 p0, .int .i64 q0, .slice s0 l0 c0]) (by simp [results, Try.results42, go_sem, j0, j1, j2]) rfl ⟨_, _, _, _, _, rfl, HF.out.1.set3 _ _ j0 _ _ _, below_set3 HF.out.2 (by omega) _ _ _⟩

set_option maxHeartbeats 1000000 in
theorem l1q_any (x : Int) (d : Nat) (w : World) (h1 : -1000000000000000000 ≤ x) (h2 : x ≤ 1000000000000000000) (h3 : 1 ≤ d) (h4 : d ≤ 1000000000000000000) (hg : Nat.gcd x.natAbs d = 1) :
    Calls Try.prog 35 #[.agg #[.int .i64 x, .int .i64 d]] w (GivesR w x d) := by
  have HG : Hid (Nat.gcd x.natAbs d = 1) := hg
  clear hg
  go_enter Try.func35, Try.ntmps35
  go_wp2_with fail
  refine (l1rOf_any x d _ h1 h2 h3 h4 HG.out).mono ?_
  rintro e w6 ⟨p0, q0, s0, l0, c0, rfl, hr, hb7⟩
  have hz6 : w.heap.size + 1 < w6.heap.size := by have := hb7.size; simp at this; omega
  have j0 : w6.cell? ⟨w.heap.size + 1, 0, none⟩ = some (.int .i64 0) := by rw [hb7.cell (p := ⟨w.heap.size + 1, 0, none⟩) (by simp)]; go_simp
  have j1 : w6.cell? ⟨w.heap.size + 1, 1, none⟩ = some (.int .i64 0) := by rw [hb7.cell (p := ⟨w.heap.size + 1, 1, none⟩) (by simp)]; go_simp
  have j2 : w6.cell? ⟨w.heap.size + 1, 2, none⟩ = some (.slice none 0 0) := by rw [hb7.cell (p := ⟨w.heap.size + 1, 2, none⟩) (by simp)]; go_simp
  have jf : ∀ j, w6.frozen? ⟨w.heap.size + 1, j, none⟩ = false := fun j => by rw [hb7.frozen (p := ⟨w.heap.size + 1, j, none⟩) (by simp)]; go_simp
  have HF : Hid (RIs w6 (.agg #[.int .i64 p0, .int .i64 q0, .slice s0 l0 c0]) x d ∧ Below w.heap.size w w6) := ⟨hr, (Joins.below_alloc2 w (.cells #[.int .i64 x, .int .i64 d] 27) (.cells #[.int .i64 0, .int .i64 0, .slice none 0 0] 52)).trans (hb7.mono (by simp; omega))⟩
  clear hr hb7
  go_wp2
  exact bodyPost_ret (v := .agg #[.int .i64 p0, .int .i64 q0, .slice s0 l0 c0]) (by simp [results, Try.results35, go_sem, j0, j1, j2]) rfl ⟨_, _, _, _, _, rfl, HF.out.1.set3 _ _ j0 _ _ _, below_set3 HF.out.2 (by omega) _ _ _⟩

/-- A fraction stays when a block whose first cell is a number is written. -/
theorem RIs.other {w w' : World} {v : Value} {P : Int} {Q : Nat} (h : RIs w v P Q) (b : Nat) (x : Int) (hb : w.cell? ⟨b, 0, none⟩ = some (.int .i64 x)) (hk : ∀ g, g ≠ b → w'.heap[g]? = w.heap[g]?) : RIs w' v P Q := by
  rcases h with h | ⟨h0, g, a, n, c, f, b', m, d, k, e, hc, h1, h2⟩
  · exact .inl h
  · refine .inr ⟨h0, g, a, n, c, f, b', m, d, k, e, fun j => ?_, h1.other b _ hb (notG_i64 _) hk, h2.other b _ hb (notG_i64 _) hk⟩
    have hg : g ≠ b := by
      rintro rfl
      have := hc 0
      rw [hb] at this
      simp at this
    rw [cell_same (hk g hg)]; exact hc j
/-- A place is written: the other blocks stay. -/
theorem set_other {w w' : World} {b : Nat} (h : ∀ g, g ≠ b → w'.heap[g]? = w.heap[g]?) (j : Nat) (u : Value) : ∀ g, g ≠ b → (w'.setCell ⟨b, j, none⟩ u).heap[g]? = w.heap[g]? := fun g hg => by
  rw [Below.heap_setCell _ _ _ _ (by exact hg)]; exact h g hg
end Go.Proofs.Ytoopipljedoeeaa
