import Derived.Test.YtikepklkjbohmaaRbig
namespace Go.Proofs.Ytikepklkjbohmaa
open Go.RowKit

set_option maxHeartbeats 2000000 in
theorem l1rOf_one (x : Int) (w : World) (h1 : -9223372036854775808 < x) (h2 : x ≤ 9223372036854775807) :
    Calls Try.prog 86 #[.int .i64 x, .int .i64 1] w fun e w' => ∃ v, e = .returned v ∧ RIs w' v x 1 ∧ Below w.heap.size w w' := by
  by_cases hs : -2147483648 < x ∧ x < 2147483648
  · have k1 : decide (-2147483648 < x ∧ x < 2147483648) = true := by simpa using hs
    have k2 : decide (-2147483648 < (1 : Int) ∧ (1 : Int) < 2147483648) = true := by decide
    clear hs
    go_enter Try.func86, Try.ntmps86
    go_wp2_with (go_at_call 92; refine (l1Small_any _ _).mono ?_; rintro e w' ⟨rfl, rfl⟩)
    have hs : -2147483648 < x ∧ x < 2147483648 := by simpa using k1
    exact bodyPost_ret (v := .agg #[.int .i64 x, .int .i64 1, .slice none 0 0]) (by simp [results, Try.results86, go_sem]) rfl ⟨_, rfl, .inl ⟨⟨by omega, by omega⟩, rfl⟩, Joins.below_alloc1 _ _⟩
  · have k1 : decide (-2147483648 < x ∧ x < 2147483648) = false := by simpa using hs
    have HS : Hid (¬ (-2147483648 < x ∧ x < 2147483648)) := hs
    clear hs
    go_enter Try.func86, Try.ntmps86
    go_wp2_with fail
    refine (l1Small_any _ _).mono ?_
    rintro e w' ⟨rfl, rfl⟩
    go_wp2_with fail
    refine (l1Abs_any _ _ (by omega) (by omega)).mono ?_
    rintro e w' ⟨rfl, rfl⟩
    go_wp2_with fail
    have hg := l1Gcd_any x.natAbs 1 (w.alloc (.cells #[.int .i64 0, .int .i64 0, .slice none 0 0] 59)) (by omega) (by omega)
    rw [Nat.gcd_one_right] at hg
    refine hg.mono ?_
    clear hg
    rintro e w1 ⟨rfl, q, rfl⟩
    go_wp2_with fail
    refine (l1Abs_any _ _ (by omega) (by omega)).mono ?_
    rintro e w2 ⟨rfl, rfl⟩
    go_wp2_with fail
    refine (l1Mag_any _ _ (by omega)).mono ?_
    rintro e w3 ⟨g1, n1, c1, f1, rfl, hm1, hb3⟩
    have hz3 : w.heap.size < w3.heap.size := by have := hb3.size; simp at this; omega
    go_wp2_with fail
    refine (l1Mag_any 1 _ (by omega)).mono ?_
    rintro e w5 ⟨g2, n2, c2, f2, rfl, hm2, hb5⟩
    have hz5 : w3.heap.size < w5.heap.size := by have := hb5.size; simp at this; omega
    have hb5' := hb5.trans ((Joins.below_alloc1 w5 (.cells #[.bool false, .slice (some ⟨g2, 0, none⟩) n2 c2] 63)).mono hb5.size)
    have k6 : ∀ j, (w5.alloc (.cells #[.bool false, .slice (some ⟨g2, 0, none⟩) n2 c2] 63)).cell? ⟨w3.heap.size, j, none⟩ = #[Value.bool (decide (x < 0)), .slice (some ⟨g1, 0, none⟩) n1 c1][j]? := fun j => by
      rw [hb5'.cell (p := ⟨w3.heap.size, j, none⟩) (by simp), Joins.cell_alloc_mark_at _ _ _ _ _ _ rfl]
    have hbA := hb3.trans ((Joins.below_alloc1 w3 (.cells #[.bool (decide (x < 0)), .slice (some ⟨g1, 0, none⟩) n1 c1] 63)).mono hb3.size)
    have hbB := hbA.trans (hb5'.mono hbA.size)
    have HM : Hid (Mag (w5.alloc (.cells #[.bool false, .slice (some ⟨g2, 0, none⟩) n2 c2] 63)) (some ⟨g1, 0, none⟩) n1 c1 f1 x.natAbs ∧ Mag (w5.alloc (.cells #[.bool false, .slice (some ⟨g2, 0, none⟩) n2 c2] 63)) (some ⟨g2, 0, none⟩) n2 c2 f2 1) :=
      ⟨(hm1.below (Joins.below_alloc1 _ _)).below hb5', hm2.below (Joins.below_alloc1 _ _)⟩
    have HB : Hid _ := hbB
    clear hm1 hm2 hb3 hb5 hb5' hbA hbB
    go_wp2_with fail
    refine (l1rPack_any x 1 _ _ _ _ _ _ f1 f2 _ HM.out.1 HM.out.2).mono ?_
    rintro e w6 ⟨v, rfl, hr, hb6⟩
    have hb7 := HB.out.trans (hb6.mono HB.out.size)
    have hz6 : w.heap.size < w6.heap.size := by have := hb7.size; simp at this; omega
    have j0 : w6.cell? ⟨w.heap.size, 0, none⟩ = some (.int .i64 0) := by rw [hb7.cell (p := ⟨w.heap.size, 0, none⟩) (by simp)]; go_simp
    have j1 : w6.cell? ⟨w.heap.size, 1, none⟩ = some (.int .i64 0) := by rw [hb7.cell (p := ⟨w.heap.size, 1, none⟩) (by simp)]; go_simp
    have j2 : w6.cell? ⟨w.heap.size, 2, none⟩ = some (.slice none 0 0) := by rw [hb7.cell (p := ⟨w.heap.size, 2, none⟩) (by simp)]; go_simp
    have jf : ∀ j, w6.frozen? ⟨w.heap.size, j, none⟩ = false := fun j => by rw [hb7.frozen (p := ⟨w.heap.size, j, none⟩) (by simp)]; go_simp
    obtain ⟨p0, q0, s0, l0, c0, hv⟩ := hr.agg
    subst hv
    have HF : Hid (RIs w6 (.agg #[.int .i64 p0, .int .i64 q0, .slice s0 l0 c0]) x 1 ∧ Below w.heap.size w w6) := ⟨hr, ((Joins.below_alloc1 w (.cells #[.int .i64 0, .int .i64 0, .slice none 0 0] 59)).trans (Joins.below_draws _ _ q)).trans (hb7.mono (by simp))⟩
    clear hr hb6 hb7 HB HM k6
    go_wp2
    exact bodyPost_ret (v := .agg #[.int .i64 p0, .int .i64 q0, .slice s0 l0 c0]) (by simp [results, Try.results86, go_sem, j0, j1, j2]) rfl ⟨_, rfl, HF.out.1.set3 _ _ j0 _ _ _, below_set3 HF.out.2 (by omega) _ _ _⟩

set_option maxHeartbeats 1000000 in
theorem l1rInt_any (x : Int) (w : World) (h1 : -9223372036854775808 < x) (h2 : x ≤ 9223372036854775807) :
    Calls Try.prog 74 #[.int .i64 x] w fun e w' => ∃ v, e = .returned v ∧ RIs w' v x 1 ∧ Below w.heap.size w w' := by
  go_enter Try.func74, Try.ntmps74
  go_wp2_with fail
  refine (l1rOf_one x _ h1 h2).mono ?_
  rintro e w6 ⟨v, rfl, hr, hb7⟩
  have hz6 : w.heap.size < w6.heap.size := by have := hb7.size; simp at this; omega
  have j0 : w6.cell? ⟨w.heap.size, 0, none⟩ = some (.int .i64 0) := by rw [hb7.cell (p := ⟨w.heap.size, 0, none⟩) (by simp)]; go_simp
  have j1 : w6.cell? ⟨w.heap.size, 1, none⟩ = some (.int .i64 0) := by rw [hb7.cell (p := ⟨w.heap.size, 1, none⟩) (by simp)]; go_simp
  have j2 : w6.cell? ⟨w.heap.size, 2, none⟩ = some (.slice none 0 0) := by rw [hb7.cell (p := ⟨w.heap.size, 2, none⟩) (by simp)]; go_simp
  have jf : ∀ j, w6.frozen? ⟨w.heap.size, j, none⟩ = false := fun j => by rw [hb7.frozen (p := ⟨w.heap.size, j, none⟩) (by simp)]; go_simp
  obtain ⟨p0, q0, s0, l0, c0, hv⟩ := hr.agg
  subst hv
  have HF : Hid (RIs w6 (.agg #[.int .i64 p0, .int .i64 q0, .slice s0 l0 c0]) x 1 ∧ Below w.heap.size w w6) := ⟨hr, (Joins.below_alloc1 w (.cells #[.int .i64 0, .int .i64 0, .slice none 0 0] 59)).trans (hb7.mono (by simp))⟩
  clear hr hb7
  go_wp2
  exact bodyPost_ret (v := .agg #[.int .i64 p0, .int .i64 q0, .slice s0 l0 c0]) (by simp [results, Try.results74, go_sem, j0, j1, j2]) rfl ⟨_, rfl, HF.out.1.set3 _ _ j0 _ _ _, below_set3 HF.out.2 (by omega) _ _ _⟩
end Go.Proofs.Ytikepklkjbohmaa
