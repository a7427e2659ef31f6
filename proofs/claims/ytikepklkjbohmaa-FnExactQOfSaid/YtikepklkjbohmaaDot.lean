import Derived.Test.YtikepklkjbohmaaRaddb
import Derived.Test.YtikepklkjbohmaaTame
namespace Go.Proofs.Ytikepklkjbohmaa
open Go.RowKit

theorem l1rAdd_any (x y : Int) (v u : Value) (w : World) (hv : RIs w v x 1) (hu : RIs w u y 1) (hx : x.natAbs ≤ 4611686018427387904) (hy : y.natAbs ≤ 4611686018427387904) :
    Calls Try.prog 77 #[v, u] w fun e w' => ∃ p0 q0 s0 l0 c0, e = .returned (.agg #[.int .i64 p0, .int .i64 q0, .slice s0 l0 c0]) ∧ RIs w' (.agg #[.int .i64 p0, .int .i64 q0, .slice s0 l0 c0]) (x + y) 1 ∧ Below w.heap.size w w' := by
  have hv' := hv
  have hu' := hu
  rcases hv with ⟨s1, rfl⟩ | ⟨s1, g1, a1, n1, c1, f1, b1, m1, d1, k1, rfl, _⟩ <;> rcases hu with ⟨s2, rfl⟩ | ⟨s2, g2, a2, n2, c2, f2, b2, m2, d2, k2, rfl, _⟩
  · exact l1rAdd_small x y w s1.1 s2.1
  · exact l1rAdd_big x y _ _ _ _ _ _ _ _ _ _ w hv' hu' hx hy (by omega) (by omega) (by omega)
  · exact l1rAdd_big x y _ _ _ _ _ _ _ _ _ _ w hv' hu' hx hy (by omega) (by omega) (by omega)
  · exact l1rAdd_big x y _ _ _ _ _ _ _ _ _ _ w hv' hu' hx hy (by omega) (by omega) (by omega)

/-- The sign. -/
def sg3 (P : Int) : Int := if P < 0 then -1 else if 0 < P then 1 else 0
set_option maxHeartbeats 400000 in
theorem l1ZSign_any (P : Int) (a : Option Addr) (n c : Nat) (f : Nat → Nat) (w : World) (h : Mag w a n c f P.natAbs) :
    Calls Try.prog 73 #[.agg #[.bool (decide (P < 0)), .slice a n c]] w fun e w' => e = .returned (.int .i64 (sg3 P)) ∧ Below w.heap.size w w' := by
  have hn8 := h.sl.small
  rcases Int.lt_trichotomy P 0 with h1 | h1 | h1
  · have hn := h.pos (by omega)
    have hnz : ((n : Int) == 0) = false := by simp; omega
    have HR : Hid (-1 = sg3 P) := by unfold Hid sg3; rw [if_pos h1]
    rw [show decide (P < 0) = true by simpa using h1]
    clear h h1
    go_enter Try.func73, Try.ntmps73
    go_wp2
    go_ret
    exact ⟨ret_int HR.out, Joins.below_alloc1 _ _⟩
  · subst h1
    have hn := h.zero
    subst hn
    clear h
    go_enter Try.func73, Try.ntmps73
    go_wp2
    go_ret
    exact ⟨rfl, Joins.below_alloc1 _ _⟩
  · have hn := h.pos (by omega)
    have hnz : ((n : Int) == 0) = false := by simp; omega
    have HR : Hid (1 = sg3 P) := by unfold Hid sg3; rw [if_neg (by omega), if_pos h1]
    rw [show decide (P < 0) = false by simp; omega]
    clear h h1
    go_enter Try.func73, Try.ntmps73
    go_wp2
    go_ret
    exact ⟨ret_int HR.out, Joins.below_alloc1 _ _⟩

set_option maxHeartbeats 400000 in
theorem l1rSign_any (P : Int) (Q : Nat) (v : Value) (w : World) (h : RIs w v P Q) :
    Calls Try.prog 39 #[v] w fun e w' => e = .returned (.int .i64 (sg3 P)) ∧ Below w.heap.size w w' := by
  rcases h with ⟨s1, rfl⟩ | ⟨s1, g1, a1, n1, c1, f1, b1, m1, d1, k1, rfl, hc, hm, _⟩
  · clear s1
    rcases Int.lt_trichotomy P 0 with h1 | h1 | h1
    · have HR : Hid (-1 = sg3 P) := by unfold Hid sg3; rw [if_pos h1]
      go_enter Try.func39, Try.ntmps39
      go_wp2
      go_ret
      exact ⟨ret_int HR.out, Joins.below_alloc1 _ _⟩
    · subst h1
      go_enter Try.func39, Try.ntmps39
      go_wp2
      go_ret
      exact ⟨rfl, Joins.below_alloc1 _ _⟩
    · have HR : Hid (1 = sg3 P) := by unfold Hid sg3; rw [if_neg (by omega), if_pos h1]
      go_enter Try.func39, Try.ntmps39
      go_wp2
      go_ret
      exact ⟨ret_int HR.out, Joins.below_alloc1 _ _⟩
  · have hg : g1 < w.heap.size := World.block_lt_of_cell? w ⟨g1, 0, none⟩ (u := .bool (decide (P < 0))) (hc 0)
    have hc' : ∀ o j, (w.alloc o).cell? ⟨g1, j, none⟩ = #[Value.bool (decide (P < 0)), .slice a1 n1 c1, .bool false, .slice b1 m1 d1][j]? := fun o j => by
      rw [(Joins.below_alloc1 w o).cell (p := ⟨g1, j, none⟩) hg]; exact hc j
    have HM : Hid (∀ o, Mag (w.alloc o) a1 n1 c1 f1 P.natAbs) := fun o => hm.below (Joins.below_alloc1 _ _)
    clear hc hm s1
    go_enter Try.func39, Try.ntmps39
    go_wp2_with fail
    refine (l1ZSign_any P _ _ _ f1 _ (HM.out _)).mono ?_
    rintro e w1 ⟨rfl, hb⟩
    go_wp2
    go_ret
    exact ⟨rfl, (Joins.below_alloc1 w _).trans (hb.mono (by simp))⟩

set_option maxHeartbeats 400000 in
theorem l2Sub3_any (a b c x y z : Int) (w : World) (h1 : -67108864 ≤ a ∧ a ≤ 67108864) (h2 : -67108864 ≤ b ∧ b ≤ 67108864) (h3 : -67108864 ≤ c ∧ c ≤ 67108864)
    (h4 : -67108864 ≤ x ∧ x ≤ 67108864) (h5 : -67108864 ≤ y ∧ y ≤ 67108864) (h6 : -67108864 ≤ z ∧ z ≤ 67108864) :
    Calls Try.prog 48 #[V3i a b c, V3i x y z] w fun e w' => ∃ g, e = .returned (.slice (some ⟨g, 0, none⟩) 3 3) ∧ S1 g #[.int .i64 (a - x), .int .i64 (b - y), .int .i64 (c - z)] w' ∧ Below w.heap.size w w' := by
  have HS : Hid (∀ o1 o2 t, S1 (w.heap.size + 1 + 1) #[.int .i64 (a - x), .int .i64 (b - y), .int .i64 (c - z)] (((w.alloc o1).alloc o2).alloc (.cells #[.int .i64 (a - x), .int .i64 (b - y), .int .i64 (c - z)] t))) := fun o1 o2 t =>
    ⟨fun j => by rw [Joins.cell_alloc_mark_at _ _ _ _ _ _ (by simp)], by simp⟩
  go_enter Try.func48, Try.ntmps48
  go_wp2
  go_ret
  exact ⟨_, rfl, HS.out _ _ _, Joins.below_alloc3 _ _ _ _⟩
end Go.Proofs.Ytikepklkjbohmaa
