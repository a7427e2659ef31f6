import Derived.Test.YtikepklkjbohmaaRat
namespace Go.Proofs.Ytikepklkjbohmaa
open Go.RowKit

/-- A whole number's size taken down, its sign kept. -/
def sgn (x : Int) (k : Nat) : Int := if x < 0 then -(k : Int) else k
theorem sgn_abs (x : Int) (k : Nat) : (sgn x k).natAbs = k := by unfold sgn; split <;> omega
theorem sgn_neg (x : Int) (k : Nat) (h : 0 < k) : decide (sgn x k < 0) = decide (x < 0) := by
  unfold sgn; rw [decide_eq_decide]; split <;> omega

/-- Three blocks as they were laid. -/
abbrev S3c (N g : Nat) (A0 A1 A2 : Array Value) (w' : World) : Prop := (∀ j, w'.cell? ⟨N, j, none⟩ = A0[j]?) ∧ (∀ j, w'.cell? ⟨N + 1, j, none⟩ = A1[j]?) ∧ (∀ j, w'.cell? ⟨g, j, none⟩ = A2[j]?)
theorem S3c.call {N g : Nat} {A0 A1 A2 : Array Value} {w' w1 : World} (h : S3c N g A0 A1 A2 w') (hN : N + 1 < w'.heap.size) (hg : g < w'.heap.size) (hb : Below w'.heap.size w' w1) : S3c N g A0 A1 A2 w1 := by
  obtain ⟨h0, h1, h2⟩ := h
  refine ⟨fun j => ?_, fun j => ?_, fun j => ?_⟩
  · rw [← h0 j]; exact hb.cell (p := ⟨N, j, none⟩) (by show N < _; omega)
  · rw [← h1 j]; exact hb.cell (p := ⟨N + 1, j, none⟩) hN
  · rw [← h2 j]; exact hb.cell (p := ⟨g, j, none⟩) hg

theorem RIs.agg {w : World} {v : Value} {P : Int} {Q : Nat} (h : RIs w v P Q) : ∃ (p q : Int) (a : Option Addr) (l c : Nat), v = .agg #[.int .i64 p, .int .i64 q, .slice a l c] := by
  rcases h with ⟨_, e⟩ | ⟨_, g, a, n, c, f, b, m, d, k, e, _⟩
  · exact ⟨_, _, _, _, _, e⟩
  · exact ⟨_, _, _, _, _, e⟩

set_option maxHeartbeats 2000000 in
theorem l1rBig_any (D : Nat → Nat → Prop) (hD : ∀ p q, D p q → 0 < q → DivC p q ∧ D q (p % q)) (x : Int) (y : Nat) (a b : Option Addr) (n m c d : Nat) (f g : Nat → Nat) (w : World) (ha : Mag w a n c f x.natAbs) (hb : Mag w b m d g y) (hx : x ≠ 0) (hy : 0 < y) (hxy : D x.natAbs y)
    (hg1 : DivC x.natAbs (Nat.gcd x.natAbs y)) (hg2 : DivC y (Nat.gcd x.natAbs y)) :
    Calls Try.prog 33 #[.agg #[.bool (decide (x < 0)), .slice a n c], .agg #[.bool false, .slice b m d]] w fun e w' => ∃ v, e = .returned v ∧ RIs w' v (sgn x (x.natAbs / Nat.gcd x.natAbs y)) (y / Nat.gcd x.natAbs y) ∧ Below w.heap.size w w' := by
  have hb3 := Joins.below_alloc3 w (.cells #[.bool (decide (x < 0)), .slice a n c] 63) (.cells #[.bool false, .slice b m d] 63) (.cells #[.int .i64 0, .int .i64 0, .slice none 0 0] 59)
  have hn0 := ha.pos (show 0 < x.natAbs by omega)
  have hn8 := ha.sl.small
  have hnz : ((n : Int) == 0) = false := by simp; omega
  have HA : Hid _ := ha.below hb3
  have HB : Hid _ := hb.below hb3
  have HB3 : Hid _ := hb3
  have HD : Hid _ := hD
  have HX : Hid (D x.natAbs y ∧ DivC x.natAbs (Nat.gcd x.natAbs y) ∧ DivC y (Nat.gcd x.natAbs y)) := ⟨hxy, hg1, hg2⟩
  have hgp : 0 < x.natAbs / Nat.gcd x.natAbs y := Nat.div_pos (Nat.gcd_le_left _ (by omega)) (Nat.gcd_pos_of_pos_right _ hy)
  have HP : Hid (0 < x.natAbs / Nat.gcd x.natAbs y) := hgp
  clear ha hb hb3 hD hxy hg1 hg2 hn0 hgp
  go_enter Try.func33, Try.ntmps33
  go_wp2_with fail
  refine (l1ZGcd_any D HD.out _ _ _ _ _ _ _ _ f g _ _ _ HA.out HB.out HX.out.1).mono ?_
  rintro e w1 ⟨a1, n1, c1, f1, rfl, hm1, hb1⟩
  obtain ⟨hc, hf⟩ := bcell hb1
  have hz : w.heap.size + 1 + 1 < w1.heap.size := by have := hb1.size; simp at this; omega
  have hb1a := hb1.trans ((Joins.below_alloc1 w1 (.cells #[.bool false, .slice a1 n1 c1] 63)).mono hb1.size)
  have HW : Hid (Mag (w1.alloc (.cells #[.bool false, .slice a1 n1 c1] 63)) a n c f x.natAbs ∧ Mag (w1.alloc (.cells #[.bool false, .slice a1 n1 c1] 63)) b m d g y ∧ Mag (w1.alloc (.cells #[.bool false, .slice a1 n1 c1] 63)) a1 n1 c1 f1 (Nat.gcd x.natAbs y) ∧ Below w.heap.size w (w1.alloc (.cells #[.bool false, .slice a1 n1 c1] 63))) :=
    ⟨HA.out.below hb1a, HB.out.below hb1a, hm1.below (Joins.below_alloc1 _ _), HB3.out.trans (hb1a.mono (by simp; omega))⟩
  have hS : S3c w.heap.size w1.heap.size #[.bool (decide (x < 0)), .slice a n c] #[.bool false, .slice b m d] #[.bool false, .slice a1 n1 c1] (w1.alloc (.cells #[.bool false, .slice a1 n1 c1] 63)) := by
    refine ⟨fun j => ?_, fun j => ?_, fun j => ?_⟩
    · rw [World.cell?_alloc_lt _ _ _ (by show w.heap.size < w1.heap.size; omega), hb1.cell (p := ⟨w.heap.size, j, none⟩) (by simp; omega)]; go_simp
    · rw [World.cell?_alloc_lt _ _ _ (by show w.heap.size + 1 < w1.heap.size; omega), hb1.cell (p := ⟨w.heap.size + 1, j, none⟩) (by simp)]; go_simp
    · rw [Joins.cell_alloc_mark_at _ _ _ _ _ _ rfl]
  have h0 : (w1.alloc (.cells #[.bool false, .slice a1 n1 c1] 63)).cell? ⟨w.heap.size + 1 + 1, 0, none⟩ = some (.int .i64 0) := by
    rw [World.cell?_alloc_lt _ _ _ (by show w.heap.size + 1 + 1 < w1.heap.size; omega), hb1.cell (p := ⟨w.heap.size + 1 + 1, 0, none⟩) (by simp)]; go_simp
  have h1' : (w1.alloc (.cells #[.bool false, .slice a1 n1 c1] 63)).cell? ⟨w.heap.size + 1 + 1, 1, none⟩ = some (.int .i64 0) := by
    rw [World.cell?_alloc_lt _ _ _ (by show w.heap.size + 1 + 1 < w1.heap.size; omega), hb1.cell (p := ⟨w.heap.size + 1 + 1, 1, none⟩) (by simp)]; go_simp
  have h2' : (w1.alloc (.cells #[.bool false, .slice a1 n1 c1] 63)).cell? ⟨w.heap.size + 1 + 1, 2, none⟩ = some (.slice none 0 0) := by
    rw [World.cell?_alloc_lt _ _ _ (by show w.heap.size + 1 + 1 < w1.heap.size; omega), hb1.cell (p := ⟨w.heap.size + 1 + 1, 2, none⟩) (by simp)]; go_simp
  have hfz : ∀ j, (w1.alloc (.cells #[.bool false, .slice a1 n1 c1] 63)).frozen? ⟨w.heap.size + 1 + 1, j, none⟩ = false := fun j => by
    rw [(Joins.below_alloc1 w1 (.cells #[.bool false, .slice a1 n1 c1] 63)).frozen (p := ⟨w.heap.size + 1 + 1, j, none⟩) (by show w.heap.size + 1 + 1 < w1.heap.size; omega), hb1.frozen (p := ⟨w.heap.size + 1 + 1, j, none⟩) (by simp)]; go_simp
  have HR : Hid ((w1.alloc (.cells #[.bool false, .slice a1 n1 c1] 63)).cell? ⟨w.heap.size + 1 + 1, 0, none⟩ = some (.int .i64 0) ∧ (w1.alloc (.cells #[.bool false, .slice a1 n1 c1] 63)).cell? ⟨w.heap.size + 1 + 1, 1, none⟩ = some (.int .i64 0) ∧ (w1.alloc (.cells #[.bool false, .slice a1 n1 c1] 63)).cell? ⟨w.heap.size + 1 + 1, 2, none⟩ = some (.slice none 0 0) ∧ ∀ j, (w1.alloc (.cells #[.bool false, .slice a1 n1 c1] 63)).frozen? ⟨w.heap.size + 1 + 1, j, none⟩ = false) := ⟨h0, h1', h2', hfz⟩
  clear hc hf hb1 hb1a hm1 h0 h1' h2' hfz HA HB HB3
  go_wp2_with fail
  refine (HX.out.2.1 _ _ _ _ _ _ f f1 _ HW.out.1 HW.out.2.2.1).mono ?_
  rintro e w2 ⟨a3, n3, c3, f3, a4, n4, c4, f4, rfl, hm3, hm4, hb2⟩
  have hS2 := hS.call (by simp; omega) (by simp) hb2
  have hsz2 := hb2.size
  clear hS hm4
  go_wp2_with fail
  refine (HX.out.2.2 _ _ _ _ _ _ g f1 _ (HW.out.2.1.below hb2) (HW.out.2.2.1.below hb2)).mono ?_
  rintro e w3 ⟨a5, n5, c5, f5, a6, n6, c6, f6, rfl, hm5, hm6, hb3⟩
  have hS3 := hS2.call (by simp at hsz2; omega) (by simp at hsz2; omega) hb3
  have hb23 := hb2.trans (hb3.mono hb2.size)
  have HM : Hid (Mag w3 a3 n3 c3 f3 (x.natAbs / Nat.gcd x.natAbs y) ∧ Mag w3 a5 n5 c5 f5 (y / Nat.gcd x.natAbs y) ∧ Below (w1.alloc (.cells #[.bool false, .slice a1 n1 c1] 63)).heap.size (w1.alloc (.cells #[.bool false, .slice a1 n1 c1] 63)) w3) := ⟨hm3.below hb3, hm5, hb23⟩
  clear hS2 hm3 hm5 hm6 hb2 hb3 hb23 hsz2
  go_wp2_with fail
  have hp := l1rPack_any (sgn x (x.natAbs / Nat.gcd x.natAbs y)) (y / Nat.gcd x.natAbs y) a3 a5 n3 n5 c3 c5 f3 f5 w3 (by rw [sgn_abs]; exact HM.out.1) HM.out.2.1
  rw [sgn_neg _ _ HP.out] at hp
  refine hp.mono ?_
  clear hp
  rintro e w4 ⟨v, rfl, hr, hb4⟩
  have hb34 := HM.out.2.2.trans (hb4.mono HM.out.2.2.size)
  have hz4 : w.heap.size + 1 + 1 < w4.heap.size := by have := hb34.size; simp at this; omega
  have k0 : w4.cell? ⟨w.heap.size + 1 + 1, 0, none⟩ = some (.int .i64 0) := by rw [hb34.cell (p := ⟨w.heap.size + 1 + 1, 0, none⟩) (by simp; omega)]; exact HR.out.1
  have k1 : w4.cell? ⟨w.heap.size + 1 + 1, 1, none⟩ = some (.int .i64 0) := by rw [hb34.cell (p := ⟨w.heap.size + 1 + 1, 1, none⟩) (by simp; omega)]; exact HR.out.2.1
  have k2 : w4.cell? ⟨w.heap.size + 1 + 1, 2, none⟩ = some (.slice none 0 0) := by rw [hb34.cell (p := ⟨w.heap.size + 1 + 1, 2, none⟩) (by simp; omega)]; exact HR.out.2.2.1
  have kf : ∀ j, w4.frozen? ⟨w.heap.size + 1 + 1, j, none⟩ = false := fun j => by rw [hb34.frozen (p := ⟨w.heap.size + 1 + 1, j, none⟩) (by simp; omega)]; exact HR.out.2.2.2 j
  obtain ⟨p0, q0, s0, l0, c0, hv⟩ := hr.agg
  subst hv
  have HF : Hid (RIs w4 (.agg #[.int .i64 p0, .int .i64 q0, .slice s0 l0 c0]) (sgn x (x.natAbs / Nat.gcd x.natAbs y)) (y / Nat.gcd x.natAbs y) ∧ Below w.heap.size w w4) := ⟨hr, HW.out.2.2.2.trans (hb34.mono (by simp; omega))⟩
  clear hr hb4 hb34 hS3 HM HW HX HR HD
  go_wp2
  exact bodyPost_ret (v := .agg #[.int .i64 p0, .int .i64 q0, .slice s0 l0 c0]) (by simp [results, Try.results33, go_sem, k0, k1, k2]) rfl ⟨_, rfl, HF.out.1.set3 _ _ k0 _ _ _, below_set3 HF.out.2 (by omega) _ _ _⟩

set_option maxHeartbeats 1000000 in
theorem l1rBig_zero (_y : Nat) (a b : Option Addr) (n m c d : Nat) (f : Nat → Nat) (w : World) (ha : Mag w a n c f 0) :
    Calls Try.prog 33 #[.agg #[.bool false, .slice a n c], .agg #[.bool false, .slice b m d]] w fun e w' => ∃ v, e = .returned v ∧ RIs w' v 0 1 ∧ Below w.heap.size w w' := by
  have hn := ha.zero
  subst hn
  clear ha
  go_enter Try.func33, Try.ntmps33
  go_wp2
  exact bodyPost_ret (v := .agg #[.int .i64 0, .int .i64 1, .slice none 0 0]) (by simp [results, Try.results33, go_sem]) rfl ⟨_, rfl, .inl ⟨⟨by decide, by decide⟩, rfl⟩, Joins.below_alloc3 _ _ _ _⟩

/-- By one: what the predicates want. -/
theorem D1 : ∀ p q : Nat, (0 < p ∧ q ≤ 1) → 0 < q → DivC p q ∧ (0 < q ∧ p % q ≤ 1) := fun p q h hq => by
  have : q = 1 := by omega
  subst this
  exact ⟨divC_small p 1 (by omega) (by omega) (by omega), by omega, by omega⟩

theorem l1rBig_one (x : Int) (v u : Value) (w : World) (hx : ZIs w v x) (hy : ZIs w u 1) :
    Calls Try.prog 33 #[v, u] w fun e w' => ∃ r, e = .returned r ∧ RIs w' r x 1 ∧ Below w.heap.size w w' := by
  obtain ⟨a, n, c, f, rfl, ha⟩ := hx
  obtain ⟨b, m, d, g, rfl, hb⟩ := hy
  rw [show decide ((1 : Int) < 0) = false by decide]
  by_cases h0 : x = 0
  · subst h0
    exact l1rBig_zero 1 a b n m c d f w ha
  · have hg : Nat.gcd x.natAbs 1 = 1 := Nat.gcd_one_right _
    have := l1rBig_any (fun p q => 0 < p ∧ q ≤ 1) D1 x 1 a b n m c d f g w ha hb h0 (by omega) ⟨by omega, by omega⟩ (by rw [hg]; exact divC_small _ 1 (by omega) (by omega) (by omega)) (by rw [hg]; exact divC_small 1 1 (by omega) (by omega) (by omega))
    rw [hg, Nat.div_one, Nat.div_one] at this
    rwa [show sgn x x.natAbs = x by unfold sgn; split <;> omega] at this
end Go.Proofs.Ytikepklkjbohmaa
