import Derived.Test.YtikepklkjbohmaaMdiv
import Derived.Deep.LoopGhost
namespace Go.Proofs.Ytikepklkjbohmaa
open Go.RowKit

/-- Quotient and rest of x by y are told right. -/
def DivC (x y : Nat) : Prop := ∀ (a b : Option Addr) (n m c d : Nat) (f g : Nat → Nat) (w : World), Mag w a n c f x → Mag w b m d g y →
  Calls Try.prog 69 #[.slice a n c, .slice b m d] w fun e w' => ∃ a1 n1 c1 f1 a2 n2 c2 f2, e = .returned (.tuple #[.slice a1 n1 c1, .slice a2 n2 c2]) ∧ Mag w' a1 n1 c1 f1 (x / y) ∧ Mag w' a2 n2 c2 f2 (x % y) ∧ Below w.heap.size w w'

theorem Mag.len1 {w : World} {a : Option Addr} {n c : Nat} {f : Nat → Nat} {x : Nat} (h : Mag w a n c f x) (h0 : 0 < x) (hx : x < 4294967296) : n = 1 := by
  have hn : n ≠ 0 := by
    rintro rfl
    have := h.is
    simp [val] at this; omega
  rcases h.top with h1 | h1
  · exact absurd h1 hn
  · rcases Nat.lt_or_ge 1 n with h2 | h2
    · have h3 := val_top (n - 1) f h1
      rw [show n - 1 + 1 = n by omega, h.is] at h3
      have h4 : 4294967296 ^ 1 ≤ 4294967296 ^ (n - 1) := Nat.pow_le_pow_right (by omega) (by omega)
      omega
    · omega
theorem Mag.zero {w : World} {a : Option Addr} {n c : Nat} {f : Nat → Nat} (h : Mag w a n c f 0) : n = 0 := by
  rcases h.top with h1 | h1
  · exact h1
  · rcases Nat.eq_zero_or_pos n with h2 | h2
    · exact h2
    · have h3 := val_top (n - 1) f h1
      rw [show n - 1 + 1 = n by omega, h.is] at h3
      have : 0 < 4294967296 ^ (n - 1) := Nat.pow_pos (by omega)
      omega
theorem Mag.pos {w : World} {a : Option Addr} {n c : Nat} {f : Nat → Nat} {x : Nat} (h : Mag w a n c f x) (hx : 0 < x) : 0 < n := by
  rcases Nat.eq_zero_or_pos n with h2 | h2
  · subst h2; have := h.is; simp [val] at this; omega
  · exact h2

set_option maxRecDepth 100000 in
set_option maxHeartbeats 1000000 in
theorem divC_small (x y : Nat) (h0 : 0 < y) (h1 : y < 4294967296) (hxy : y ≤ x) : DivC x y := by
  intro a b n m c d f g w ha hb
  have hm := hb.len1 h0 h1
  subst hm
  obtain ⟨gb, rfl, cb⟩ := hb.sl.at_ (by omega)
  have hg : g 0 = y := by have := hb.is; simp [val] at this; omega
  have hcb := cb 0 (by omega)
  rw [hg] at hcb
  have HA : Hid (Mag w a n c f x) := ha
  have HB : Hid (Mag w (some ⟨gb, 0, none⟩) 1 d g y) := hb
  have HC : Hid (cmpN x y = 0 ∨ cmpN x y = 1) := by unfold Hid cmpN; rw [if_neg (by omega)]; split <;> simp
  clear ha hb cb hg
  go_enter Try.func69, Try.ntmps69
  go_wp2_with fail
  refine (l1MagCmp_any _ _ _ _ _ _ f g x y _ HA.out HB.out).mono ?_
  rintro e w1 ⟨rfl, q, rfl⟩
  have hc0 : (0 : Int) ≤ cmpN x y := by rcases HC.out with h | h <;> rw [h] <;> omega
  go_wp2_with fail
  refine (l1MagDiv1_any _ _ _ y f x _ (HA.out.drewN q) h0 h1).mono ?_
  rintro e w2 ⟨q1, k1, c1, f1, q2, k2, c2, f2, rfl, hm1, hm2, hb2⟩
  go_wp2
  go_ret2
  exact ⟨_, _, _, f1, _, _, _, f2, rfl, hm1, hm2, (Joins.below_draws _ _ q).trans hb2⟩

/-- The greatest common divisor, wherever its quotients are told right. -/
theorem gcd_rest (p q : Nat) : Nat.gcd q (p % q) = Nat.gcd p q := by rw [Nat.gcd_comm q (p % q), ← Nat.gcd_rec, Nat.gcd_comm]

set_option maxHeartbeats 1000000 in
theorem l1ZGcd_any (D : Nat → Nat → Prop) (hD : ∀ p q, D p q → 0 < q → DivC p q ∧ D q (p % q)) (s1 s2 : Bool) (a b : Option Addr) (n m c d : Nat) (f g : Nat → Nat) (x y : Nat) (w : World) (ha : Mag w a n c f x) (hb : Mag w b m d g y) (hxy : D x y) :
    Calls Try.prog 68 #[.agg #[.bool s1, .slice a n c], .agg #[.bool s2, .slice b m d]] w fun e w' => ∃ a1 n1 c1 f1, e = .returned (.agg #[.bool false, .slice a1 n1 c1]) ∧ Mag w' a1 n1 c1 f1 (Nat.gcd x y) ∧ Below w.heap.size w w' := by
  have HA : Hid (Mag w a n c f x) := ha
  have HB : Hid (Mag w b m d g y) := hb
  have HD : Hid (∀ p q, D p q → 0 < q → DivC p q ∧ D q (p % q)) := hD
  have HX : Hid (D x y) := hxy
  clear ha hb hD hxy
  go_enter Try.func68, Try.ntmps68
  go_wp2
  go_loopg [5, 6] y (fun q xv yv wr => ∃ (p : Nat) (a1 a2 : Option Addr) (n1 n2 c1 c2 : Nat) (f1 f2 : Nat → Nat), xv = .slice a1 n1 c1 ∧ yv = .slice a2 n2 c2 ∧ Mag wr a1 n1 c1 f1 p ∧ Mag wr a2 n2 c2 f2 q ∧ D p q ∧ Nat.gcd p q = Nat.gcd x y ∧ Below (w.heap.size + 3) (((w.alloc (.cells #[.bool s1, .slice a n c] 63)).alloc (.cells #[.bool s2, .slice b m d] 63)).alloc (.cells #[.bool false, .slice none 0 0] 63)) wr)
  case atStart =>
    have hb3 := Joins.below_alloc3 w (.cells #[.bool s1, .slice a n c] 63) (.cells #[.bool s2, .slice b m d] 63) (.cells #[.bool false, .slice none 0 0] 63)
    exact ⟨x, _, _, _, _, _, _, f, g, rfl, rfl, HA.out.below hb3, HB.out.below hb3, HX.out, rfl, Below.refl _ _⟩
  case round =>
    obtain ⟨p, a1, a2, n1, n2, c1, c2, f1, f2, rfl, rfl, hm1, hm2, hd, hg, hbel⟩ := hrel
    have HM : Hid (Mag wr a1 n1 c1 f1 p ∧ Mag wr a2 n2 c2 f2 gk ∧ D p gk ∧ Nat.gcd p gk = Nat.gcd x y ∧ Below (w.heap.size + 3) (((w.alloc (.cells #[.bool s1, .slice a n c] 63)).alloc (.cells #[.bool s2, .slice b m d] 63)).alloc (.cells #[.bool false, .slice none 0 0] 63)) wr) := ⟨hm1, hm2, hd, hg, hbel⟩
    have hn8 := hm2.sl.small
    have h0 : wr.cell? ⟨w.heap.size + 1 + 1, 0, none⟩ = some (.bool false) := by rw [hbel.cell (p := ⟨w.heap.size + 1 + 1, 0, none⟩) (by show w.heap.size + 1 + 1 < w.heap.size + 3; omega)]; go_simp
    have h1 : wr.cell? ⟨w.heap.size + 1 + 1, 1, none⟩ = some (.slice none 0 0) := by rw [hbel.cell (p := ⟨w.heap.size + 1 + 1, 1, none⟩) (by show w.heap.size + 1 + 1 < w.heap.size + 3; omega)]; go_simp
    have hf : ∀ j, wr.frozen? ⟨w.heap.size + 1 + 1, j, none⟩ = false := fun j => by rw [hbel.frozen (p := ⟨w.heap.size + 1 + 1, j, none⟩) (by show w.heap.size + 1 + 1 < w.heap.size + 3; omega)]; go_simp
    have hsz : w.heap.size + 1 + 1 < wr.heap.size := by have := hbel.size; simp at this; omega
    by_cases hq : gk = 0
    · have hz : n2 = 0 := by rw [hq] at hm2; exact hm2.zero
      have hz' : ¬ (0 : Int) < (n2 : Int) := by omega
      have HP : Hid (∀ u0 u1, Mag ((wr.setCell ⟨w.heap.size + 1 + 1, 0, none⟩ u0).setCell ⟨w.heap.size + 1 + 1, 1, none⟩ u1) a1 n1 c1 f1 (Nat.gcd x y) ∧ Below w.heap.size w ((wr.setCell ⟨w.heap.size + 1 + 1, 0, none⟩ u0).setCell ⟨w.heap.size + 1 + 1, 1, none⟩ u1)) := fun u0 u1 => by
        rw [hq, Nat.gcd_zero_right] at hg
        refine ⟨?_, ?_⟩
        · rw [← hg]; exact hm1.other (w.heap.size + 1 + 1) _ h0 (notG_bool _) (set2_other _ _ _ _)
        · exact (((Joins.below_alloc3 w _ _ _).trans (hbel.mono (by omega))).setCell (p := ⟨w.heap.size + 1 + 1, 0, none⟩) (by show w.heap.size ≤ w.heap.size + 1 + 1; omega) u0).setCell (p := ⟨w.heap.size + 1 + 1, 1, none⟩) (by show w.heap.size ≤ w.heap.size + 1 + 1; omega) u1
      clear hm1 hm2 hd hg hbel hq hz
      go_wp2
      refine bodyPost_ret (v := .agg #[.bool false, .slice a1 n1 c1]) (by simp [results, Try.results68, go_sem, h0, h1]) rfl ⟨_, _, _, rfl, ⟨f1, (HP.out _ _).1⟩, (HP.out _ _).2⟩
    · have hq' : 0 < gk := by omega
      have hn2 := hm2.pos hq'
      have hn2' : (0 : Int) < (n2 : Int) := by omega
      clear hm1 hm2 hd hg hbel h0 h1 hf hq
      go_wp2_with fail
      refine ((HD.out p gk HM.out.2.2.1 hq').1 _ _ _ _ _ _ f1 f2 _ HM.out.1 HM.out.2.1).mono ?_
      rintro e w2 ⟨a3, n3, c3, f3, a4, n4, c4, f4, rfl, hm3, hm4, hb2⟩
      have HN : Hid (Mag w2 a2 n2 c2 f2 gk ∧ Mag w2 a4 n4 c4 f4 (p % gk) ∧ Below (w.heap.size + 3) (((w.alloc (.cells #[.bool s1, .slice a n c] 63)).alloc (.cells #[.bool s2, .slice b m d] 63)).alloc (.cells #[.bool false, .slice none 0 0] 63)) w2) := ⟨HM.out.2.1.below hb2, hm4, HM.out.2.2.2.2.trans (hb2.mono (by omega))⟩
      clear hm3 hm4 hb2
      go_wp2
      go_roundg (p % gk)
      case measure => exact Nat.mod_lt _ hq'
      case rel => exact ⟨gk, _, _, _, _, _, _, f2, f4, rfl, rfl, HN.out.1, HN.out.2.1, (HD.out p gk HM.out.2.2.1 hq').2, (gcd_rest p gk).trans HM.out.2.2.2.1, HN.out.2.2⟩
end Go.Proofs.Ytikepklkjbohmaa
