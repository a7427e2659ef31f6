import Derived.Test.YtikepklkjbohmaaCmp
namespace Go.Proofs.Ytikepklkjbohmaa
open Go.RowKit

/-- A block's cells, to be written too. -/
structure At (w : World) (b : Nat) (A : Array Value) : Prop where
  c : ∀ j, w.cell? ⟨b, j, none⟩ = A[j]?
  fz : ∀ j, w.frozen? ⟨b, j, none⟩ = false
  sz : b < w.heap.size
theorem At.below {w w' : World} {b : Nat} {A : Array Value} (h : At w b A) (hb : Below w.heap.size w w') : At w' b A :=
  ⟨fun j => by rw [hb.cell (p := ⟨b, j, none⟩) h.sz]; exact h.c j, fun j => by rw [hb.frozen (p := ⟨b, j, none⟩) h.sz]; exact h.fz j, Nat.lt_of_lt_of_le h.sz hb.size⟩
theorem At.other2 {w : World} {b : Nat} {A : Array Value} (h : At w b A) {g : Nat} (hg : b ≠ g) (u v : Value) : At ((w.setCell ⟨g, 0, none⟩ u).setCell ⟨g, 1, none⟩ v) b A :=
  ⟨fun i => by rw [cell_same (set2_other w g u v b hg)]; exact h.c i, fun i => by have := h.fz i; go_simp, by simpa using h.sz⟩
theorem At.put2 {w : World} {b : Nat} {x0 x1 : Value} (h : At w b #[x0, x1]) (u v : Value) : At ((w.setCell ⟨b, 0, none⟩ u).setCell ⟨b, 1, none⟩ v) b #[u, v] := by
  obtain ⟨c, fz, sz⟩ := h
  have c0 := c 0
  have c1 := c 1
  refine ⟨fun j => ?_, fun j => by have := fz j; go_simp, by simpa using sz⟩
  match j with
  | 0 => go_simp
  | 1 => go_simp
  | j + 2 => have := c (j + 2); go_simp

/-- What stands behind the change of both signs. -/
def NegAt (w W : World) (s : Bool) (x y : Nat) (a b : Option Addr) (n m c d : Nat) (f g : Nat → Nat) : Prop :=
  At W w.heap.size #[.bool s, .slice a n c] ∧ At W (w.heap.size + 1) #[.bool false, .slice b m d] ∧ At W (w.heap.size + 1 + 1) #[.int .i64 0, .int .i64 0, .slice none 0 0] ∧ Mag W a n c f x ∧ Mag W b m d g y ∧ Below w.heap.size w W

set_option maxHeartbeats 2000000 in
theorem l1rBig_neg (D : Nat → Nat → Prop) (hD : ∀ p q, D p q → 0 < q → DivC p q ∧ D q (p % q)) (x : Int) (y : Nat) (a b : Option Addr) (n m c d : Nat) (f g : Nat → Nat) (w : World) (ha : Mag w a n c f x.natAbs) (hb : Mag w b m d g y) (hx : x ≠ 0) (hy : 0 < y) (hxy : D x.natAbs y)
    (hg1 : DivC x.natAbs (Nat.gcd x.natAbs y)) (hg2 : DivC y (Nat.gcd x.natAbs y)) :
    Calls Try.prog 33 #[.agg #[.bool (decide (x < 0)), .slice a n c], .agg #[.bool true, .slice b m d]] w fun e w' => ∃ v, e = .returned v ∧ RIs w' v (sgn (-x) (x.natAbs / Nat.gcd x.natAbs y)) (y / Nat.gcd x.natAbs y) ∧ Below w.heap.size w w' := by
  have hb3 := Joins.below_alloc3 w (.cells #[.bool (decide (x < 0)), .slice a n c] 63) (.cells #[.bool true, .slice b m d] 63) (.cells #[.int .i64 0, .int .i64 0, .slice none 0 0] 59)
  have hn0 := ha.pos (show 0 < x.natAbs by omega)
  have hn8 := ha.sl.small
  have hnz : ((n : Int) == 0) = false := by simp; omega
  have H0 : Hid (At (((w.alloc (.cells #[.bool (decide (x < 0)), .slice a n c] 63)).alloc (.cells #[.bool true, .slice b m d] 63)).alloc (.cells #[.int .i64 0, .int .i64 0, .slice none 0 0] 59)) w.heap.size #[.bool (decide (x < 0)), .slice a n c] ∧ At (((w.alloc (.cells #[.bool (decide (x < 0)), .slice a n c] 63)).alloc (.cells #[.bool true, .slice b m d] 63)).alloc (.cells #[.int .i64 0, .int .i64 0, .slice none 0 0] 59)) (w.heap.size + 1) #[.bool true, .slice b m d] ∧ At (((w.alloc (.cells #[.bool (decide (x < 0)), .slice a n c] 63)).alloc (.cells #[.bool true, .slice b m d] 63)).alloc (.cells #[.int .i64 0, .int .i64 0, .slice none 0 0] 59)) (w.heap.size + 1 + 1) #[.int .i64 0, .int .i64 0, .slice none 0 0]) :=
    ⟨⟨fun j => by go_simp, fun j => by go_simp, by simp; omega⟩, ⟨fun j => by go_simp, fun j => by go_simp, by simp⟩, ⟨fun j => by go_simp, fun j => by go_simp, by simp⟩⟩
  have HA : Hid _ := ha.below hb3
  have HB : Hid _ := hb.below hb3
  have HB3 : Hid _ := hb3
  have HD : Hid _ := hD
  have HX : Hid (D x.natAbs y ∧ DivC x.natAbs (Nat.gcd x.natAbs y) ∧ DivC y (Nat.gcd x.natAbs y)) := ⟨hxy, hg1, hg2⟩
  have hgp : 0 < x.natAbs / Nat.gcd x.natAbs y := Nat.div_pos (Nat.gcd_le_left _ (by omega)) (Nat.gcd_pos_of_pos_right _ hy)
  have HP : Hid (0 < x.natAbs / Nat.gcd x.natAbs y) := hgp
  clear ha hb hb3 hD hxy hg1 hg2 hn0 hgp
  go_enter Try.func33, Try.ntmps33
  go_wp2_with fail
  refine (l1ZNeg_any x a n c f _ HA.out).mono ?_
  rintro e w1 ⟨rfl, hb1⟩
  have H1 : Hid (At w1 w.heap.size #[.bool (decide (x < 0)), .slice a n c] ∧ At w1 (w.heap.size + 1) #[.bool true, .slice b m d] ∧ At w1 (w.heap.size + 1 + 1) #[.int .i64 0, .int .i64 0, .slice none 0 0] ∧ Mag w1 a n c f x.natAbs ∧ Mag w1 b m d g y ∧ Below w.heap.size w w1) :=
    ⟨H0.out.1.below hb1, H0.out.2.1.below hb1, H0.out.2.2.below hb1, HA.out.below hb1, HB.out.below hb1, HB3.out.trans (hb1.mono (by simp; omega))⟩
  clear hb1 H0 HA HB HB3
  obtain ⟨p, pf, ps⟩ := H1.out.1
  obtain ⟨q, qf, qs⟩ := H1.out.2.1
  have p0 := p 0
  have HN2 : Hid (Mag ((w1.setCell ⟨w.heap.size, 0, none⟩ (.bool (decide (0 < x)))).setCell ⟨w.heap.size, 1, none⟩ (.slice a n c)) a n c f x.natAbs ∧ Mag ((w1.setCell ⟨w.heap.size, 0, none⟩ (.bool (decide (0 < x)))).setCell ⟨w.heap.size, 1, none⟩ (.slice a n c)) b m d g y) :=
    ⟨H1.out.2.2.2.1.other _ _ p0 (notG_bool _) (set2_other _ _ _ _), H1.out.2.2.2.2.1.other _ _ p0 (notG_bool _) (set2_other _ _ _ _)⟩
  clear p0
  go_wp2_with fail
  have hy2 := l1ZNeg_any (-(y : Int)) b m d g ((w1.setCell ⟨w.heap.size, 0, none⟩ (.bool (decide (0 < x)))).setCell ⟨w.heap.size, 1, none⟩ (.slice a n c)) (by rw [show (-(y : Int)).natAbs = y from by omega]; exact HN2.out.2)
  rw [show decide (-(y : Int) < 0) = true from by simp; omega, show decide ((0 : Int) < -(y : Int)) = false from by simp] at hy2
  refine hy2.mono ?_
  clear hy2
  rintro e w2 ⟨rfl, hb2⟩
  have H2 : Hid (At w2 w.heap.size #[.bool (decide (0 < x)), .slice a n c] ∧ At w2 (w.heap.size + 1) #[.bool true, .slice b m d] ∧ At w2 (w.heap.size + 1 + 1) #[.int .i64 0, .int .i64 0, .slice none 0 0] ∧ Mag w2 a n c f x.natAbs ∧ Mag w2 b m d g y ∧ Below w.heap.size w w2) :=
    ⟨(H1.out.1.put2 _ _).below hb2, (H1.out.2.1.other2 (by omega) _ _).below hb2, (H1.out.2.2.1.other2 (by omega) _ _).below hb2, HN2.out.1.below hb2, HN2.out.2.below hb2, (below_set2 H1.out.2.2.2.2.2 (Nat.le_refl _) _ _).trans (hb2.mono (by have := H1.out.2.2.2.2.2.size; simpa using this))⟩
  clear hb2 H1 HN2 p pf ps q qf qs
  obtain ⟨p, pf, ps⟩ := H2.out.1
  obtain ⟨q, qf, qs⟩ := H2.out.2.1
  have q0 := q 0
  have H3 : Hid (NegAt w ((w2.setCell ⟨w.heap.size + 1, 0, none⟩ (.bool false)).setCell ⟨w.heap.size + 1, 1, none⟩ (.slice b m d)) (decide (0 < x)) x.natAbs y a b n m c d f g) :=
    ⟨H2.out.1.other2 (by omega) _ _, H2.out.2.1.put2 _ _, H2.out.2.2.1.other2 (by omega) _ _, H2.out.2.2.2.1.other _ _ q0 (notG_bool _) (set2_other _ _ _ _), H2.out.2.2.2.2.1.other _ _ q0 (notG_bool _) (set2_other _ _ _ _), below_set2 H2.out.2.2.2.2.2 (by omega) _ _⟩
  clear q0
  go_wp2_with fail
  refine (l1ZGcd_any D HD.out _ _ _ _ _ _ _ _ f g _ _ _ H3.out.2.2.2.1 H3.out.2.2.2.2.1 HX.out.1).mono ?_
  rintro e w3 ⟨a1, n1, c1, f1, rfl, hm1, hb3⟩
  have hb3a := hb3.trans ((Joins.below_alloc1 w3 (.cells #[.bool false, .slice a1 n1 c1] 63)).mono hb3.size)
  have H4 : Hid (NegAt w (w3.alloc (.cells #[.bool false, .slice a1 n1 c1] 63)) (decide (0 < x)) x.natAbs y a b n m c d f g ∧ At (w3.alloc (.cells #[.bool false, .slice a1 n1 c1] 63)) w3.heap.size #[.bool false, .slice a1 n1 c1] ∧ Mag (w3.alloc (.cells #[.bool false, .slice a1 n1 c1] 63)) a1 n1 c1 f1 (Nat.gcd x.natAbs y)) :=
    ⟨⟨H3.out.1.below hb3a, H3.out.2.1.below hb3a, H3.out.2.2.1.below hb3a, H3.out.2.2.2.1.below hb3a, H3.out.2.2.2.2.1.below hb3a, H3.out.2.2.2.2.2.trans (hb3a.mono H3.out.2.2.2.2.2.size)⟩, ⟨fun j => by go_simp, fun j => by go_simp, by simp⟩, hm1.below (Joins.below_alloc1 _ _)⟩
  clear hb3 hb3a hm1 H3 H2 p pf ps q qf qs
  obtain ⟨p, pf, ps⟩ := H4.out.1.1
  obtain ⟨q, qf, qs⟩ := H4.out.1.2.1
  obtain ⟨r, rf, rs⟩ := H4.out.2.1
  go_wp2_with fail
  refine (HX.out.2.1 _ _ _ _ _ _ f f1 _ H4.out.1.2.2.2.1 H4.out.2.2).mono ?_
  rintro e w4 ⟨a3, n3, c3, f3, a4, n4, c4, f4, rfl, hm3, hm4, hb4⟩
  have H5 : Hid (NegAt w w4 (decide (0 < x)) x.natAbs y a b n m c d f g ∧ At w4 w3.heap.size #[.bool false, .slice a1 n1 c1] ∧ Mag w4 a1 n1 c1 f1 (Nat.gcd x.natAbs y) ∧ Mag w4 a3 n3 c3 f3 (x.natAbs / Nat.gcd x.natAbs y)) :=
    ⟨⟨H4.out.1.1.below hb4, H4.out.1.2.1.below hb4, H4.out.1.2.2.1.below hb4, H4.out.1.2.2.2.1.below hb4, H4.out.1.2.2.2.2.1.below hb4, H4.out.1.2.2.2.2.2.trans (hb4.mono H4.out.1.2.2.2.2.2.size)⟩, H4.out.2.1.below hb4, H4.out.2.2.below hb4, hm3⟩
  clear hb4 hm3 hm4 H4 p pf ps q qf qs r rf rs
  obtain ⟨p, pf, ps⟩ := H5.out.1.1
  obtain ⟨q, qf, qs⟩ := H5.out.1.2.1
  obtain ⟨r, rf, rs⟩ := H5.out.2.1
  go_wp2_with fail
  refine (HX.out.2.2 _ _ _ _ _ _ g f1 _ H5.out.1.2.2.2.2.1 H5.out.2.2.1).mono ?_
  rintro e w5 ⟨a5, n5, c5, f5, a6, n6, c6, f6, rfl, hm5, hm6, hb5⟩
  have H6 : Hid (NegAt w w5 (decide (0 < x)) x.natAbs y a b n m c d f g ∧ Mag w5 a3 n3 c3 f3 (x.natAbs / Nat.gcd x.natAbs y) ∧ Mag w5 a5 n5 c5 f5 (y / Nat.gcd x.natAbs y)) :=
    ⟨⟨H5.out.1.1.below hb5, H5.out.1.2.1.below hb5, H5.out.1.2.2.1.below hb5, H5.out.1.2.2.2.1.below hb5, H5.out.1.2.2.2.2.1.below hb5, H5.out.1.2.2.2.2.2.trans (hb5.mono H5.out.1.2.2.2.2.2.size)⟩, H5.out.2.2.2.below hb5, hm5⟩
  clear hb5 hm5 hm6 H5 p pf ps q qf qs r rf rs
  obtain ⟨p, pf, ps⟩ := H6.out.1.1
  go_wp2_with fail
  have hp := l1rPack_any (sgn (-x) (x.natAbs / Nat.gcd x.natAbs y)) (y / Nat.gcd x.natAbs y) a3 a5 n3 n5 c3 c5 f3 f5 w5 (by rw [sgn_abs]; exact H6.out.2.1) H6.out.2.2
  rw [sgn_neg _ _ HP.out, show decide (-x < 0) = decide (0 < x) from by rw [decide_eq_decide]; omega] at hp
  refine hp.mono ?_
  clear hp
  rintro e w6 ⟨v, rfl, hr, hb6⟩
  obtain ⟨p0, q0, s0, l0, c0, hv⟩ := hr.agg
  subst hv
  have H7 : Hid (RIs w6 (.agg #[.int .i64 p0, .int .i64 q0, .slice s0 l0 c0]) (sgn (-x) (x.natAbs / Nat.gcd x.natAbs y)) (y / Nat.gcd x.natAbs y) ∧ Below w.heap.size w w6 ∧ At w6 (w.heap.size + 1 + 1) #[.int .i64 0, .int .i64 0, .slice none 0 0]) :=
    ⟨hr, H6.out.1.2.2.2.2.2.trans (hb6.mono H6.out.1.2.2.2.2.2.size), H6.out.1.2.2.1.below hb6⟩
  clear hr hb6 H6 p pf ps
  obtain ⟨k, kf, ks⟩ := H7.out.2.2
  have k0 := k 0
  go_wp2
  exact bodyPost_ret (v := .agg #[.int .i64 p0, .int .i64 q0, .slice s0 l0 c0]) (by simp [results, Try.results33, go_sem, k]) rfl ⟨_, rfl, H7.out.1.set3 _ _ k0 _ _ _, below_set3 H7.out.2.1 (by omega) _ _ _⟩

set_option maxHeartbeats 1000000 in
theorem l1rBig_zero' (sb : Bool) (a b : Option Addr) (n m c d : Nat) (f : Nat → Nat) (w : World) (ha : Mag w a n c f 0) :
    Calls Try.prog 33 #[.agg #[.bool false, .slice a n c], .agg #[.bool sb, .slice b m d]] w fun e w' => ∃ v, e = .returned v ∧ RIs w' v 0 1 ∧ Below w.heap.size w w' := by
  have hn := ha.zero
  subst hn
  clear ha
  go_enter Try.func33, Try.ntmps33
  go_wp2
  exact bodyPost_ret (v := .agg #[.int .i64 0, .int .i64 1, .slice none 0 0]) (by simp [results, Try.results33, go_sem]) rfl ⟨_, rfl, .inl ⟨⟨by decide, by decide⟩, rfl⟩, Joins.below_alloc3 _ _ _ _⟩
end Go.Proofs.Ytikepklkjbohmaa
