import Derived.Test.YtikepklkjbohmaaZed
import Derived.Deep.RegionHeld3
namespace Go.Proofs.Ytikepklkjbohmaa
open Go.RowKit

/-- A result of two cells written into its place: what stands elsewhere stays. -/
theorem res2 {w w1 : World} {B b : Nat} {a : Option Addr} {n c : Nat} {f : Nat → Nat} {m : Nat} (hm : Mag w1 a n c f m) {u : Value} (h0 : w1.cell? ⟨b, 0, none⟩ = some u) (hu : NotG u) (hb : Below B w w1) (hB : B ≤ b) (u0 u1 : Value) :
    Mag ((w1.setCell ⟨b, 0, none⟩ u0).setCell ⟨b, 1, none⟩ u1) a n c f m ∧ Below B w ((w1.setCell ⟨b, 0, none⟩ u0).setCell ⟨b, 1, none⟩ u1) :=
  ⟨hm.other b u h0 hu (set2_other _ _ _ _), (hb.setCell (p := ⟨b, 0, none⟩) hB u0).setCell (p := ⟨b, 1, none⟩) hB u1⟩

set_option maxHeartbeats 1000000 in
theorem l1ZMul_core (s1 s2 : Bool) (a b : Option Addr) (n m c d : Nat) (f g : Nat → Nat) (X Y : Nat) (w : World) (ha : Mag w a n c f X) (hb : Mag w b m d g Y) (hnm : n + m ≤ 8) :
    Calls Try.prog 80 #[.agg #[.bool s1, .slice a n c], .agg #[.bool s2, .slice b m d]] w fun e w' => ∃ a1 n1 c1 f1, e = .returned (.agg #[.bool ((s1 != s2) && decide (0 < X * Y)), .slice a1 n1 c1]) ∧ Mag w' a1 n1 c1 f1 (X * Y) ∧ Below w.heap.size w w' := by
  have hb3 := Joins.below_alloc3 w (.cells #[.bool s1, .slice a n c] 63) (.cells #[.bool s2, .slice b m d] 63) (.cells #[.bool false, .slice none 0 0] 63)
  have HA : Hid (Mag (((w.alloc (.cells #[.bool s1, .slice a n c] 63)).alloc (.cells #[.bool s2, .slice b m d] 63)).alloc (.cells #[.bool false, .slice none 0 0] 63)) a n c f X) := ha.below hb3
  have HB : Hid (Mag (((w.alloc (.cells #[.bool s1, .slice a n c] 63)).alloc (.cells #[.bool s2, .slice b m d] 63)).alloc (.cells #[.bool false, .slice none 0 0] 63)) b m d g Y) := hb.below hb3
  have HB3 : Hid _ := hb3
  clear ha hb hb3
  cases s1 <;> cases s2
  all_goals
    go_enter Try.func80, Try.ntmps80
    go_wp2_with fail
    refine (l1MagMul_any _ _ _ _ _ _ f g X Y _ HA.out HB.out hnm).mono ?_
    rintro e w1 ⟨q, k, c1, f1, rfl, hm, hbl⟩
    obtain ⟨hc, hf⟩ := bcell hbl
    have hz : w.heap.size + 1 + 1 < w1.heap.size := by have := hbl.size; simp at this; omega
    have h0 : w1.cell? ⟨w.heap.size + 1 + 1, 0, none⟩ = some (.bool false) := by rw [hbl.cell (p := ⟨w.heap.size + 1 + 1, 0, none⟩) (by simp)]; go_simp
    have HM : Hid (∀ u0 u1, Mag ((w1.setCell ⟨w.heap.size + 1 + 1, 0, none⟩ u0).setCell ⟨w.heap.size + 1 + 1, 1, none⟩ u1) (some ⟨q, 0, none⟩) k c1 f1 (X * Y) ∧ Below w.heap.size w ((w1.setCell ⟨w.heap.size + 1 + 1, 0, none⟩ u0).setCell ⟨w.heap.size + 1 + 1, 1, none⟩ u1)) :=
      res2 hm h0 (notG_bool _) (HB3.out.trans (hbl.mono (by simp; omega))) (by omega)
    have hk8 := hm.sl.small
    have hkk : decide (0 < X * Y) = decide ((0 : Int) < (k : Int)) := by
      rw [decide_eq_decide]
      constructor
      · intro h; have := hm.pos h; omega
      · intro h
        rcases Nat.eq_zero_or_pos (X * Y) with h1 | h1
        · rw [h1] at hm; have := hm.zero; omega
        · exact h1
    have HK : Hid (decide (0 < X * Y) = decide ((0 : Int) < (k : Int))) := hkk
    clear hm hbl hkk
    go_wp2
  · exact bodyPost_ret (v := .agg #[.bool false, .slice (some ⟨q, 0, none⟩) k c1]) (by simp [results, Try.results80, go_sem, hc]) rfl ⟨_, _, _, f1, rfl, (HM.out _ _).1, (HM.out _ _).2⟩
  · exact bodyPost_ret (v := .agg #[.bool (decide ((0 : Int) < (k : Int))), .slice (some ⟨q, 0, none⟩) k c1]) (by simp [results, Try.results80, go_sem, hc]) rfl ⟨_, _, _, f1, by rw [HK.out]; rfl, (HM.out _ _).1, (HM.out _ _).2⟩
  · exact bodyPost_ret (v := .agg #[.bool (decide ((0 : Int) < (k : Int))), .slice (some ⟨q, 0, none⟩) k c1]) (by simp [results, Try.results80, go_sem, hc]) rfl ⟨_, _, _, f1, by rw [HK.out]; rfl, (HM.out _ _).1, (HM.out _ _).2⟩
  · exact bodyPost_ret (v := .agg #[.bool false, .slice (some ⟨q, 0, none⟩) k c1]) (by simp [results, Try.results80, go_sem, hc]) rfl ⟨_, _, _, f1, rfl, (HM.out _ _).1, (HM.out _ _).2⟩

theorem sgn_mul (x y : Int) : ((decide (x < 0) != decide (y < 0)) && decide (0 < x.natAbs * y.natAbs)) = decide (x * y < 0) := by
  rw [Bool.eq_iff_iff]
  simp only [Bool.and_eq_true, bne_iff_ne, ne_eq, decide_eq_decide, decide_eq_true_eq]
  rcases Int.lt_trichotomy x 0 with h1 | h1 | h1
  · rcases Int.lt_trichotomy y 0 with h2 | h2 | h2
    · have := Int.mul_pos_of_neg_of_neg h1 h2
      constructor
      · rintro ⟨h3, _⟩; exact absurd (by simp [h1, h2]) h3
      · intro h3; omega
    · subst h2; simp
    · have := Int.mul_neg_of_neg_of_pos h1 h2
      refine ⟨fun _ => this, fun _ => ⟨by simp [h1]; omega, Nat.mul_pos (by omega) (by omega)⟩⟩
  · subst h1; simp
  · rcases Int.lt_trichotomy y 0 with h2 | h2 | h2
    · have := Int.mul_neg_of_pos_of_neg h1 h2
      refine ⟨fun _ => this, fun _ => ⟨by simp [h2]; omega, Nat.mul_pos (by omega) (by omega)⟩⟩
    · subst h2; simp
    · have := Int.mul_pos h1 h2
      constructor
      · rintro ⟨h3, _⟩; exfalso; apply h3; constructor <;> intro <;> omega
      · intro h3; omega

/-- Of two whole numbers the product. -/
theorem l1ZMul_any (x y : Int) (v u : Value) (w : World) (hx : ZIs w v x) (hy : ZIs w u y) (hxs : x.natAbs < 18446744073709551616) (hys : y.natAbs < 18446744073709551616) :
    Calls Try.prog 80 #[v, u] w fun e w' => ∃ r, e = .returned r ∧ ZIs w' r (x * y) ∧ Below w.heap.size w w' := by
  obtain ⟨a, n, c, f, rfl, ha⟩ := hx
  obtain ⟨b, m, d, g, rfl, hb⟩ := hy
  refine (l1ZMul_core _ _ a b n m c d f g _ _ w ha hb (by have := ha.len2 hxs; have := hb.len2 hys; omega)).mono ?_
  rintro e w' ⟨a1, n1, c1, f1, rfl, hm, hbl⟩
  refine ⟨_, rfl, ⟨a1, n1, c1, f1, ?_, by rw [Int.natAbs_mul]; exact hm⟩, hbl⟩
  rw [sgn_mul]
end Go.Proofs.Ytikepklkjbohmaa
