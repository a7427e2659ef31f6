import Derived.Test.YtikepklkjbohmaaZed2
namespace Go.Proofs.Ytikepklkjbohmaa
open Go.RowKit

theorem zis_mk {w : World} {s : Bool} {a : Option Addr} {n c : Nat} {f : Nat → Nat} {z : Int} (h : s = decide (z < 0)) (hm : Mag w a n c f z.natAbs) : ZIs w (.agg #[.bool s, .slice a n c]) z := ⟨a, n, c, f, by rw [h], hm⟩

theorem zis_zero {w : World} {z : Int} (h : z = 0) : ZIs w (.agg #[.bool false, .slice none 0 0]) z := by
  subst h
  exact ⟨none, 0, 0, fun _ => 0, rfl, ⟨⟨by omega, by omega, by omega, fun _ h => absurd h (by omega), fun h => absurd h (by omega)⟩, .inl rfl, rfl⟩⟩

/-- Two blocks as they were laid. -/
abbrev S2b (N : Nat) (A0 A1 : Array Value) (w' : World) : Prop := (∀ j, w'.cell? ⟨N, j, none⟩ = A0[j]?) ∧ (∀ j, w'.cell? ⟨N + 1, j, none⟩ = A1[j]?) ∧ N + 3 ≤ w'.heap.size
theorem S2b.call {N : Nat} {A0 A1 : Array Value} {w' w1 : World} (h : S2b N A0 A1 w') (hb : Below w'.heap.size w' w1) : S2b N A0 A1 w1 := by
  obtain ⟨h0, h1, hs⟩ := h
  refine ⟨fun j => ?_, fun j => ?_, Nat.le_trans hs hb.size⟩
  · rw [← h0 j]; exact hb.cell (p := ⟨N, j, none⟩) (by show N < _; omega)
  · rw [← h1 j]; exact hb.cell (p := ⟨N + 1, j, none⟩) (by show N + 1 < _; omega)
theorem S2b.start {w : World} {A0 A1 A2 : Array Value} {t : TypeId} {q : Nat} : S2b w.heap.size A0 A1 ((((w.alloc (.cells A0 t)).alloc (.cells A1 t)).alloc (.cells A2 t)).drewN q).drew := by
  refine ⟨fun j => ?_, fun j => ?_, ?_⟩
  · go_simp
  · go_simp
  · simp
theorem S2b.set {N : Nat} {A0 A1 : Array Value} {w' : World} (h : S2b N A0 A1 w') (u0 u1 : Value) : S2b N A0 A1 ((w'.setCell ⟨N + 1 + 1, 0, none⟩ u0).setCell ⟨N + 1 + 1, 1, none⟩ u1) := by
  obtain ⟨h0, h1, hs⟩ := h
  refine ⟨fun j => ?_, fun j => ?_, ?_⟩
  · rw [cell_same (set2_other w' (N + 1 + 1) u0 u1 N (by omega))]; exact h0 j
  · rw [cell_same (set2_other w' (N + 1 + 1) u0 u1 (N + 1) (by omega))]; exact h1 j
  · simpa using hs

set_option maxHeartbeats 2000000 in
theorem l1ZAdd_core (x y : Int) (a b : Option Addr) (n m c d : Nat) (f g : Nat → Nat) (w : World) (ha : Mag w a n c f x.natAbs) (hb : Mag w b m d g y.natAbs) (hn : n ≤ 7) (hm' : m ≤ 7) :
    Calls Try.prog 87 #[.agg #[.bool (decide (x < 0)), .slice a n c], .agg #[.bool (decide (y < 0)), .slice b m d]] w fun e w' => ∃ r, e = .returned r ∧ ZIs w' r (x + y) ∧ Below w.heap.size w w' := by
  rcases (show (x < 0 ∧ y < 0) ∨ (0 ≤ x ∧ 0 ≤ y) ∨ (x < 0 ∧ 0 ≤ y) ∨ (0 ≤ x ∧ y < 0) by omega) with ⟨h1, h2⟩ | ⟨h1, h2⟩ | ⟨h1, h2⟩ | ⟨h1, h2⟩
  · rw [show decide (x < 0) = true by simp; omega, show decide (y < 0) = true by simp; omega]
    have hb3 := Joins.below_alloc3 w (.cells #[.bool true, .slice a n c] 63) (.cells #[.bool true, .slice b m d] 63) (.cells #[.bool false, .slice none 0 0] 63)
    have HA : Hid (Mag (((w.alloc (.cells #[.bool true, .slice a n c] 63)).alloc (.cells #[.bool true, .slice b m d] 63)).alloc (.cells #[.bool false, .slice none 0 0] 63)) a n c f x.natAbs) := ha.below hb3
    have HB : Hid (Mag (((w.alloc (.cells #[.bool true, .slice a n c] 63)).alloc (.cells #[.bool true, .slice b m d] 63)).alloc (.cells #[.bool false, .slice none 0 0] 63)) b m d g y.natAbs) := hb.below hb3
    have HB3 : Hid (Below w.heap.size w (((w.alloc (.cells #[.bool true, .slice a n c] 63)).alloc (.cells #[.bool true, .slice b m d] 63)).alloc (.cells #[.bool false, .slice none 0 0] 63))) := hb3
    clear ha hb hb3
    go_enter Try.func87, Try.ntmps87
    go_wp2_with fail
    refine (l1MagAdd_any _ _ _ _ _ _ f g _ _ _ HA.out HB.out (by omega) (by omega)).mono ?_
    rintro e w1 ⟨q, k, c1, f1, rfl, hm, hbl⟩
    obtain ⟨hc, hf⟩ := bcell hbl
    have hz : w.heap.size + 1 + 1 < w1.heap.size := by have := hbl.size; simp at this; omega
    have h0 : w1.cell? ⟨w.heap.size + 1 + 1, 0, none⟩ = some (.bool false) := by rw [hbl.cell (p := ⟨w.heap.size + 1 + 1, 0, none⟩) (by simp)]; go_simp
    have HM : Hid (∀ u0 u1, Mag ((w1.setCell ⟨w.heap.size + 1 + 1, 0, none⟩ u0).setCell ⟨w.heap.size + 1 + 1, 1, none⟩ u1) (some ⟨q, 0, none⟩) k c1 f1 (x.natAbs + y.natAbs) ∧ Below w.heap.size w ((w1.setCell ⟨w.heap.size + 1 + 1, 0, none⟩ u0).setCell ⟨w.heap.size + 1 + 1, 1, none⟩ u1)) :=
      res2 hm h0 (notG_bool _) (HB3.out.trans (hbl.mono (by simp; omega))) (by omega)
    have hk : 0 < k := hm.pos (by omega)
    have hk8 := hm.sl.small
    clear hm hbl
    go_wp2
    exact bodyPost_ret (v := .agg #[.bool true, .slice (some ⟨q, 0, none⟩) k c1]) (by simp [results, Try.results87, go_sem, hc]) rfl ⟨_, rfl, zis_mk (by simp; omega) (by rw [show (x + y).natAbs = x.natAbs + y.natAbs from by omega]; exact (HM.out _ _).1), (HM.out _ _).2⟩
  · rw [show decide (x < 0) = false by simp; omega, show decide (y < 0) = false by simp; omega]
    have hb3 := Joins.below_alloc3 w (.cells #[.bool false, .slice a n c] 63) (.cells #[.bool false, .slice b m d] 63) (.cells #[.bool false, .slice none 0 0] 63)
    have HA : Hid (Mag (((w.alloc (.cells #[.bool false, .slice a n c] 63)).alloc (.cells #[.bool false, .slice b m d] 63)).alloc (.cells #[.bool false, .slice none 0 0] 63)) a n c f x.natAbs) := ha.below hb3
    have HB : Hid (Mag (((w.alloc (.cells #[.bool false, .slice a n c] 63)).alloc (.cells #[.bool false, .slice b m d] 63)).alloc (.cells #[.bool false, .slice none 0 0] 63)) b m d g y.natAbs) := hb.below hb3
    have HB3 : Hid (Below w.heap.size w (((w.alloc (.cells #[.bool false, .slice a n c] 63)).alloc (.cells #[.bool false, .slice b m d] 63)).alloc (.cells #[.bool false, .slice none 0 0] 63))) := hb3
    clear ha hb hb3
    go_enter Try.func87, Try.ntmps87
    go_wp2_with fail
    refine (l1MagAdd_any _ _ _ _ _ _ f g _ _ _ HA.out HB.out (by omega) (by omega)).mono ?_
    rintro e w1 ⟨q, k, c1, f1, rfl, hm, hbl⟩
    obtain ⟨hc, hf⟩ := bcell hbl
    have hz : w.heap.size + 1 + 1 < w1.heap.size := by have := hbl.size; simp at this; omega
    have h0 : w1.cell? ⟨w.heap.size + 1 + 1, 0, none⟩ = some (.bool false) := by rw [hbl.cell (p := ⟨w.heap.size + 1 + 1, 0, none⟩) (by simp)]; go_simp
    have HM : Hid (∀ u0 u1, Mag ((w1.setCell ⟨w.heap.size + 1 + 1, 0, none⟩ u0).setCell ⟨w.heap.size + 1 + 1, 1, none⟩ u1) (some ⟨q, 0, none⟩) k c1 f1 (x.natAbs + y.natAbs) ∧ Below w.heap.size w ((w1.setCell ⟨w.heap.size + 1 + 1, 0, none⟩ u0).setCell ⟨w.heap.size + 1 + 1, 1, none⟩ u1)) :=
      res2 hm h0 (notG_bool _) (HB3.out.trans (hbl.mono (by simp; omega))) (by omega)
    have hk8 := hm.sl.small
    clear hm hbl
    go_wp2
    exact bodyPost_ret (v := .agg #[.bool false, .slice (some ⟨q, 0, none⟩) k c1]) (by simp [results, Try.results87, go_sem, hc]) rfl ⟨_, rfl, zis_mk (by simp; omega) (by rw [show (x + y).natAbs = x.natAbs + y.natAbs from by omega]; exact (HM.out _ _).1), (HM.out _ _).2⟩
  · rw [show decide (x < 0) = true by simp; omega, show decide (y < 0) = false by simp; omega]
    rcases Nat.lt_trichotomy x.natAbs y.natAbs with h3 | h3 | h3
    · have hcmp : cmpN x.natAbs y.natAbs = -1 := by unfold cmpN; rw [if_pos (by omega)]
      have hb3 := Joins.below_alloc3 w (.cells #[.bool true, .slice a n c] 63) (.cells #[.bool false, .slice b m d] 63) (.cells #[.bool false, .slice none 0 0] 63)
      have HA : Hid (Mag (((w.alloc (.cells #[.bool true, .slice a n c] 63)).alloc (.cells #[.bool false, .slice b m d] 63)).alloc (.cells #[.bool false, .slice none 0 0] 63)) a n c f x.natAbs) := ha.below hb3
      have HB : Hid (Mag (((w.alloc (.cells #[.bool true, .slice a n c] 63)).alloc (.cells #[.bool false, .slice b m d] 63)).alloc (.cells #[.bool false, .slice none 0 0] 63)) b m d g y.natAbs) := hb.below hb3
      have HB3 : Hid (Below w.heap.size w (((w.alloc (.cells #[.bool true, .slice a n c] 63)).alloc (.cells #[.bool false, .slice b m d] 63)).alloc (.cells #[.bool false, .slice none 0 0] 63))) := hb3
      clear ha hb hb3
      go_enter Try.func87, Try.ntmps87
      go_wp2_with fail
      refine (l1MagCmp_any _ _ _ _ _ _ f g _ _ _ HA.out HB.out).mono ?_
      rintro e w0 ⟨he, q0, rfl⟩
      rw [hcmp] at he
      subst he
      clear hcmp
      go_wp2_with fail
      go_region_held3 (fun w' => S2b w.heap.size #[.bool true, .slice a n c] #[.bool false, .slice b m d] w') (first | exact S2b.start (q := q0) | exact S2b.call (by assumption) (by assumption) | exact S2b.set (by assumption) _ _)
        (first
          | (go_at_call 94; refine (l1MagSub_any _ _ _ _ _ _ g f _ _ _ ((HB.out.drewN q0).below (Below.refl _ _).drew) ((HA.out.drewN q0).below (Below.refl _ _).drew) (by omega)).mono ?_; rintro e w1 ⟨q, k, c1, f1, rfl, hm, hbl⟩; have hz : w.heap.size + 1 + 1 < w1.heap.size := (by have := hbl.size; simp at this; omega); have h0 : w1.cell? ⟨w.heap.size + 1 + 1, 0, none⟩ = some (.bool false) := (by rw [hbl.cell (p := ⟨w.heap.size + 1 + 1, 0, none⟩) (by simp)]; go_simp); have h1' : w1.cell? ⟨w.heap.size + 1 + 1, 1, none⟩ = some (.slice none 0 0) := (by rw [hbl.cell (p := ⟨w.heap.size + 1 + 1, 1, none⟩) (by simp)]; go_simp); have hf : ∀ j, w1.frozen? ⟨w.heap.size + 1 + 1, j, none⟩ = false := fun j => (by rw [hbl.frozen (p := ⟨w.heap.size + 1 + 1, j, none⟩) (by simp)]; go_simp)))
      have HM : Hid (∀ u0 u1, Mag ((w1.setCell ⟨w.heap.size + 1 + 1, 0, none⟩ u0).setCell ⟨w.heap.size + 1 + 1, 1, none⟩ u1) (some ⟨q, 0, none⟩) k c1 f1 (y.natAbs - x.natAbs) ∧ Below w.heap.size w ((w1.setCell ⟨w.heap.size + 1 + 1, 0, none⟩ u0).setCell ⟨w.heap.size + 1 + 1, 1, none⟩ u1)) :=
        res2 hm h0 (notG_bool _) ((HB3.out.trans ((Joins.below_draws _ _ q0).trans (Below.refl _ _).drew)).trans (hbl.mono (by simp; omega))) (by omega)
      clear hm hbl
      go_wp2
      exact bodyPost_ret (v := .agg #[.bool false, .slice (some ⟨q, 0, none⟩) k c1]) (by simp [results, Try.results87, go_sem, h0, h1']) rfl ⟨_, rfl, zis_mk (by simp; omega) (by rw [show (x + y).natAbs = y.natAbs - x.natAbs from by omega]; exact (HM.out _ _).1), (HM.out _ _).2⟩
    · have hcmp : cmpN x.natAbs y.natAbs = 0 := by unfold cmpN; rw [if_neg (by omega), if_neg (by omega)]
      have hb3 := Joins.below_alloc3 w (.cells #[.bool true, .slice a n c] 63) (.cells #[.bool false, .slice b m d] 63) (.cells #[.bool false, .slice none 0 0] 63)
      have HA : Hid (Mag (((w.alloc (.cells #[.bool true, .slice a n c] 63)).alloc (.cells #[.bool false, .slice b m d] 63)).alloc (.cells #[.bool false, .slice none 0 0] 63)) a n c f x.natAbs) := ha.below hb3
      have HB : Hid (Mag (((w.alloc (.cells #[.bool true, .slice a n c] 63)).alloc (.cells #[.bool false, .slice b m d] 63)).alloc (.cells #[.bool false, .slice none 0 0] 63)) b m d g y.natAbs) := hb.below hb3
      have HB3 : Hid (Below w.heap.size w (((w.alloc (.cells #[.bool true, .slice a n c] 63)).alloc (.cells #[.bool false, .slice b m d] 63)).alloc (.cells #[.bool false, .slice none 0 0] 63))) := hb3
      clear ha hb hb3
      go_enter Try.func87, Try.ntmps87
      go_wp2_with fail
      refine (l1MagCmp_any _ _ _ _ _ _ f g _ _ _ HA.out HB.out).mono ?_
      rintro e w0 ⟨he, q0, rfl⟩
      rw [hcmp] at he
      subst he
      clear hcmp
      go_wp2
      exact bodyPost_ret (v := .agg #[.bool false, .slice none 0 0]) (by simp [results, Try.results87, go_sem]) rfl ⟨_, rfl, zis_zero (by omega), ((HB3.out.trans (Joins.below_draws _ _ q0)).setCell (p := ⟨w.heap.size + 1 + 1, 0, none⟩) (by show w.heap.size ≤ w.heap.size + 1 + 1; omega) _).setCell (p := ⟨w.heap.size + 1 + 1, 1, none⟩) (by show w.heap.size ≤ w.heap.size + 1 + 1; omega) _⟩
    · have hcmp : cmpN x.natAbs y.natAbs = 1 := by unfold cmpN; rw [if_neg (by omega), if_pos (by omega)]
      have hb3 := Joins.below_alloc3 w (.cells #[.bool true, .slice a n c] 63) (.cells #[.bool false, .slice b m d] 63) (.cells #[.bool false, .slice none 0 0] 63)
      have HA : Hid (Mag (((w.alloc (.cells #[.bool true, .slice a n c] 63)).alloc (.cells #[.bool false, .slice b m d] 63)).alloc (.cells #[.bool false, .slice none 0 0] 63)) a n c f x.natAbs) := ha.below hb3
      have HB : Hid (Mag (((w.alloc (.cells #[.bool true, .slice a n c] 63)).alloc (.cells #[.bool false, .slice b m d] 63)).alloc (.cells #[.bool false, .slice none 0 0] 63)) b m d g y.natAbs) := hb.below hb3
      have HB3 : Hid (Below w.heap.size w (((w.alloc (.cells #[.bool true, .slice a n c] 63)).alloc (.cells #[.bool false, .slice b m d] 63)).alloc (.cells #[.bool false, .slice none 0 0] 63))) := hb3
      clear ha hb hb3
      go_enter Try.func87, Try.ntmps87
      go_wp2_with fail
      refine (l1MagCmp_any _ _ _ _ _ _ f g _ _ _ HA.out HB.out).mono ?_
      rintro e w0 ⟨he, q0, rfl⟩
      rw [hcmp] at he
      subst he
      clear hcmp
      go_wp2_with fail
      go_region_held3 (fun w' => S2b w.heap.size #[.bool true, .slice a n c] #[.bool false, .slice b m d] w') (first | exact S2b.start (q := q0) | exact S2b.call (by assumption) (by assumption) | exact S2b.set (by assumption) _ _)
        (first
          | (go_at_call 94; refine (l1MagSub_any _ _ _ _ _ _ f g _ _ _ ((HA.out.drewN q0).below (Below.refl _ _).drew) ((HB.out.drewN q0).below (Below.refl _ _).drew) (by omega)).mono ?_; rintro e w1 ⟨q, k, c1, f1, rfl, hm, hbl⟩; have hz : w.heap.size + 1 + 1 < w1.heap.size := (by have := hbl.size; simp at this; omega); have h0 : w1.cell? ⟨w.heap.size + 1 + 1, 0, none⟩ = some (.bool false) := (by rw [hbl.cell (p := ⟨w.heap.size + 1 + 1, 0, none⟩) (by simp)]; go_simp); have h1' : w1.cell? ⟨w.heap.size + 1 + 1, 1, none⟩ = some (.slice none 0 0) := (by rw [hbl.cell (p := ⟨w.heap.size + 1 + 1, 1, none⟩) (by simp)]; go_simp); have hf : ∀ j, w1.frozen? ⟨w.heap.size + 1 + 1, j, none⟩ = false := fun j => (by rw [hbl.frozen (p := ⟨w.heap.size + 1 + 1, j, none⟩) (by simp)]; go_simp)))
      have HM : Hid (∀ u0 u1, Mag ((w1.setCell ⟨w.heap.size + 1 + 1, 0, none⟩ u0).setCell ⟨w.heap.size + 1 + 1, 1, none⟩ u1) (some ⟨q, 0, none⟩) k c1 f1 (x.natAbs - y.natAbs) ∧ Below w.heap.size w ((w1.setCell ⟨w.heap.size + 1 + 1, 0, none⟩ u0).setCell ⟨w.heap.size + 1 + 1, 1, none⟩ u1)) :=
        res2 hm h0 (notG_bool _) ((HB3.out.trans ((Joins.below_draws _ _ q0).trans (Below.refl _ _).drew)).trans (hbl.mono (by simp; omega))) (by omega)
      clear hm hbl
      go_wp2
      exact bodyPost_ret (v := .agg #[.bool true, .slice (some ⟨q, 0, none⟩) k c1]) (by simp [results, Try.results87, go_sem, h0, h1']) rfl ⟨_, rfl, zis_mk (by simp; omega) (by rw [show (x + y).natAbs = x.natAbs - y.natAbs from by omega]; exact (HM.out _ _).1), (HM.out _ _).2⟩
  · rw [show decide (x < 0) = false by simp; omega, show decide (y < 0) = true by simp; omega]
    rcases Nat.lt_trichotomy x.natAbs y.natAbs with h3 | h3 | h3
    · have hcmp : cmpN x.natAbs y.natAbs = -1 := by unfold cmpN; rw [if_pos (by omega)]
      have hb3 := Joins.below_alloc3 w (.cells #[.bool false, .slice a n c] 63) (.cells #[.bool true, .slice b m d] 63) (.cells #[.bool false, .slice none 0 0] 63)
      have HA : Hid (Mag (((w.alloc (.cells #[.bool false, .slice a n c] 63)).alloc (.cells #[.bool true, .slice b m d] 63)).alloc (.cells #[.bool false, .slice none 0 0] 63)) a n c f x.natAbs) := ha.below hb3
      have HB : Hid (Mag (((w.alloc (.cells #[.bool false, .slice a n c] 63)).alloc (.cells #[.bool true, .slice b m d] 63)).alloc (.cells #[.bool false, .slice none 0 0] 63)) b m d g y.natAbs) := hb.below hb3
      have HB3 : Hid (Below w.heap.size w (((w.alloc (.cells #[.bool false, .slice a n c] 63)).alloc (.cells #[.bool true, .slice b m d] 63)).alloc (.cells #[.bool false, .slice none 0 0] 63))) := hb3
      clear ha hb hb3
      go_enter Try.func87, Try.ntmps87
      go_wp2_with fail
      refine (l1MagCmp_any _ _ _ _ _ _ f g _ _ _ HA.out HB.out).mono ?_
      rintro e w0 ⟨he, q0, rfl⟩
      rw [hcmp] at he
      subst he
      clear hcmp
      go_wp2_with fail
      go_region_held3 (fun w' => S2b w.heap.size #[.bool false, .slice a n c] #[.bool true, .slice b m d] w') (first | exact S2b.start (q := q0) | exact S2b.call (by assumption) (by assumption) | exact S2b.set (by assumption) _ _)
        (first
          | (go_at_call 94; refine (l1MagSub_any _ _ _ _ _ _ g f _ _ _ ((HB.out.drewN q0).below (Below.refl _ _).drew) ((HA.out.drewN q0).below (Below.refl _ _).drew) (by omega)).mono ?_; rintro e w1 ⟨q, k, c1, f1, rfl, hm, hbl⟩; have hz : w.heap.size + 1 + 1 < w1.heap.size := (by have := hbl.size; simp at this; omega); have h0 : w1.cell? ⟨w.heap.size + 1 + 1, 0, none⟩ = some (.bool false) := (by rw [hbl.cell (p := ⟨w.heap.size + 1 + 1, 0, none⟩) (by simp)]; go_simp); have h1' : w1.cell? ⟨w.heap.size + 1 + 1, 1, none⟩ = some (.slice none 0 0) := (by rw [hbl.cell (p := ⟨w.heap.size + 1 + 1, 1, none⟩) (by simp)]; go_simp); have hf : ∀ j, w1.frozen? ⟨w.heap.size + 1 + 1, j, none⟩ = false := fun j => (by rw [hbl.frozen (p := ⟨w.heap.size + 1 + 1, j, none⟩) (by simp)]; go_simp)))
      have HM : Hid (∀ u0 u1, Mag ((w1.setCell ⟨w.heap.size + 1 + 1, 0, none⟩ u0).setCell ⟨w.heap.size + 1 + 1, 1, none⟩ u1) (some ⟨q, 0, none⟩) k c1 f1 (y.natAbs - x.natAbs) ∧ Below w.heap.size w ((w1.setCell ⟨w.heap.size + 1 + 1, 0, none⟩ u0).setCell ⟨w.heap.size + 1 + 1, 1, none⟩ u1)) :=
        res2 hm h0 (notG_bool _) ((HB3.out.trans ((Joins.below_draws _ _ q0).trans (Below.refl _ _).drew)).trans (hbl.mono (by simp; omega))) (by omega)
      clear hm hbl
      go_wp2
      exact bodyPost_ret (v := .agg #[.bool true, .slice (some ⟨q, 0, none⟩) k c1]) (by simp [results, Try.results87, go_sem, h0, h1']) rfl ⟨_, rfl, zis_mk (by simp; omega) (by rw [show (x + y).natAbs = y.natAbs - x.natAbs from by omega]; exact (HM.out _ _).1), (HM.out _ _).2⟩
    · have hcmp : cmpN x.natAbs y.natAbs = 0 := by unfold cmpN; rw [if_neg (by omega), if_neg (by omega)]
      have hb3 := Joins.below_alloc3 w (.cells #[.bool false, .slice a n c] 63) (.cells #[.bool true, .slice b m d] 63) (.cells #[.bool false, .slice none 0 0] 63)
      have HA : Hid (Mag (((w.alloc (.cells #[.bool false, .slice a n c] 63)).alloc (.cells #[.bool true, .slice b m d] 63)).alloc (.cells #[.bool false, .slice none 0 0] 63)) a n c f x.natAbs) := ha.below hb3
      have HB : Hid (Mag (((w.alloc (.cells #[.bool false, .slice a n c] 63)).alloc (.cells #[.bool true, .slice b m d] 63)).alloc (.cells #[.bool false, .slice none 0 0] 63)) b m d g y.natAbs) := hb.below hb3
      have HB3 : Hid (Below w.heap.size w (((w.alloc (.cells #[.bool false, .slice a n c] 63)).alloc (.cells #[.bool true, .slice b m d] 63)).alloc (.cells #[.bool false, .slice none 0 0] 63))) := hb3
      clear ha hb hb3
      go_enter Try.func87, Try.ntmps87
      go_wp2_with fail
      refine (l1MagCmp_any _ _ _ _ _ _ f g _ _ _ HA.out HB.out).mono ?_
      rintro e w0 ⟨he, q0, rfl⟩
      rw [hcmp] at he
      subst he
      clear hcmp
      go_wp2
      exact bodyPost_ret (v := .agg #[.bool false, .slice none 0 0]) (by simp [results, Try.results87, go_sem]) rfl ⟨_, rfl, zis_zero (by omega), ((HB3.out.trans (Joins.below_draws _ _ q0)).setCell (p := ⟨w.heap.size + 1 + 1, 0, none⟩) (by show w.heap.size ≤ w.heap.size + 1 + 1; omega) _).setCell (p := ⟨w.heap.size + 1 + 1, 1, none⟩) (by show w.heap.size ≤ w.heap.size + 1 + 1; omega) _⟩
    · have hcmp : cmpN x.natAbs y.natAbs = 1 := by unfold cmpN; rw [if_neg (by omega), if_pos (by omega)]
      have hb3 := Joins.below_alloc3 w (.cells #[.bool false, .slice a n c] 63) (.cells #[.bool true, .slice b m d] 63) (.cells #[.bool false, .slice none 0 0] 63)
      have HA : Hid (Mag (((w.alloc (.cells #[.bool false, .slice a n c] 63)).alloc (.cells #[.bool true, .slice b m d] 63)).alloc (.cells #[.bool false, .slice none 0 0] 63)) a n c f x.natAbs) := ha.below hb3
      have HB : Hid (Mag (((w.alloc (.cells #[.bool false, .slice a n c] 63)).alloc (.cells #[.bool true, .slice b m d] 63)).alloc (.cells #[.bool false, .slice none 0 0] 63)) b m d g y.natAbs) := hb.below hb3
      have HB3 : Hid (Below w.heap.size w (((w.alloc (.cells #[.bool false, .slice a n c] 63)).alloc (.cells #[.bool true, .slice b m d] 63)).alloc (.cells #[.bool false, .slice none 0 0] 63))) := hb3
      clear ha hb hb3
      go_enter Try.func87, Try.ntmps87
      go_wp2_with fail
      refine (l1MagCmp_any _ _ _ _ _ _ f g _ _ _ HA.out HB.out).mono ?_
      rintro e w0 ⟨he, q0, rfl⟩
      rw [hcmp] at he
      subst he
      clear hcmp
      go_wp2_with fail
      go_region_held3 (fun w' => S2b w.heap.size #[.bool false, .slice a n c] #[.bool true, .slice b m d] w') (first | exact S2b.start (q := q0) | exact S2b.call (by assumption) (by assumption) | exact S2b.set (by assumption) _ _)
        (first
          | (go_at_call 94; refine (l1MagSub_any _ _ _ _ _ _ f g _ _ _ ((HA.out.drewN q0).below (Below.refl _ _).drew) ((HB.out.drewN q0).below (Below.refl _ _).drew) (by omega)).mono ?_; rintro e w1 ⟨q, k, c1, f1, rfl, hm, hbl⟩; have hz : w.heap.size + 1 + 1 < w1.heap.size := (by have := hbl.size; simp at this; omega); have h0 : w1.cell? ⟨w.heap.size + 1 + 1, 0, none⟩ = some (.bool false) := (by rw [hbl.cell (p := ⟨w.heap.size + 1 + 1, 0, none⟩) (by simp)]; go_simp); have h1' : w1.cell? ⟨w.heap.size + 1 + 1, 1, none⟩ = some (.slice none 0 0) := (by rw [hbl.cell (p := ⟨w.heap.size + 1 + 1, 1, none⟩) (by simp)]; go_simp); have hf : ∀ j, w1.frozen? ⟨w.heap.size + 1 + 1, j, none⟩ = false := fun j => (by rw [hbl.frozen (p := ⟨w.heap.size + 1 + 1, j, none⟩) (by simp)]; go_simp)))
      have HM : Hid (∀ u0 u1, Mag ((w1.setCell ⟨w.heap.size + 1 + 1, 0, none⟩ u0).setCell ⟨w.heap.size + 1 + 1, 1, none⟩ u1) (some ⟨q, 0, none⟩) k c1 f1 (x.natAbs - y.natAbs) ∧ Below w.heap.size w ((w1.setCell ⟨w.heap.size + 1 + 1, 0, none⟩ u0).setCell ⟨w.heap.size + 1 + 1, 1, none⟩ u1)) :=
        res2 hm h0 (notG_bool _) ((HB3.out.trans ((Joins.below_draws _ _ q0).trans (Below.refl _ _).drew)).trans (hbl.mono (by simp; omega))) (by omega)
      clear hm hbl
      go_wp2
      exact bodyPost_ret (v := .agg #[.bool false, .slice (some ⟨q, 0, none⟩) k c1]) (by simp [results, Try.results87, go_sem, h0, h1']) rfl ⟨_, rfl, zis_mk (by simp; omega) (by rw [show (x + y).natAbs = x.natAbs - y.natAbs from by omega]; exact (HM.out _ _).1), (HM.out _ _).2⟩
end Go.Proofs.Ytikepklkjbohmaa
