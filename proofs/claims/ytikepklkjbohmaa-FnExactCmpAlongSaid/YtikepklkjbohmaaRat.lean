import Derived.Test.YtikepklkjbohmaaZint
namespace Go.Proofs.Ytikepklkjbohmaa
open Go.RowKit

/-- A fraction, small. -/
def smallR (P : Int) (Q : Nat) : Prop := P.natAbs ≤ 2147483647 ∧ Q ≤ 2147483647
/-- A fraction P by Q as the specification holds it. -/
def RIs (w : World) (v : Value) (P : Int) (Q : Nat) : Prop :=
  (smallR P Q ∧ v = .agg #[.int .i64 P, .int .i64 Q, .slice none 0 0]) ∨
  (¬ smallR P Q ∧ ∃ g a n c f b m d h, v = .agg #[.int .i64 0, .int .i64 0, .slice (some ⟨g, 0, none⟩) 2 2] ∧ (∀ j, w.cell? ⟨g, j, none⟩ = #[Value.bool (decide (P < 0)), .slice a n c, .bool false, .slice b m d][j]?) ∧ Mag w a n c f P.natAbs ∧ Mag w b m d h Q)
theorem RIs.below {w w' : World} {v : Value} {P : Int} {Q : Nat} (h : RIs w v P Q) (hb : Below w.heap.size w w') : RIs w' v P Q := by
  rcases h with h | ⟨h0, g, a, n, c, f, b, m, d, k, e, hc, h1, h2⟩
  · exact .inl h
  · refine .inr ⟨h0, g, a, n, c, f, b, m, d, k, e, fun j => ?_, h1.below hb, h2.below hb⟩
    have hg : g < w.heap.size := World.block_lt_of_cell? w ⟨g, 0, none⟩ (u := .bool (decide (P < 0))) (hc 0)
    rw [hb.cell (p := ⟨g, j, none⟩) hg]; exact hc j
/-- A fraction stays when a result of three cells is written elsewhere. -/
theorem RIs.set3 {w : World} {v : Value} {P : Int} {Q : Nat} (h : RIs w v P Q) (b : Nat) (x : Int) (hb : w.cell? ⟨b, 0, none⟩ = some (.int .i64 x)) (u0 u1 u2 : Value) : RIs (((w.setCell ⟨b, 0, none⟩ u0).setCell ⟨b, 1, none⟩ u1).setCell ⟨b, 2, none⟩ u2) v P Q := by
  rcases h with h | ⟨h0, g, a, n, c, f, b', m, d, k, e, hc, h1, h2⟩
  · exact .inl h
  · refine .inr ⟨h0, g, a, n, c, f, b', m, d, k, e, fun j => ?_, h1.other b _ hb (notG_i64 _) (set3_other _ _ _ _ _), h2.other b _ hb (notG_i64 _) (set3_other _ _ _ _ _)⟩
    have hg : g ≠ b := by
      rintro rfl
      have := hc 0
      rw [hb] at this
      simp at this
    rw [cell_same (set3_other _ _ _ _ _ g hg)]; exact hc j
theorem below_set3 {B b : Nat} {w w1 : World} (h : Below B w w1) (hB : B ≤ b) (u0 u1 u2 : Value) : Below B w (((w1.setCell ⟨b, 0, none⟩ u0).setCell ⟨b, 1, none⟩ u1).setCell ⟨b, 2, none⟩ u2) :=
  ((h.setCell (p := ⟨b, 0, none⟩) hB u0).setCell (p := ⟨b, 1, none⟩) hB u1).setCell (p := ⟨b, 2, none⟩) hB u2

theorem zi_of (P : Int) (M : Nat) (h : P.natAbs ≤ M) : zi (decide (P < 0)) P.natAbs M = P := by
  unfold zi; rw [if_pos h]
  by_cases hp : P < 0
  · rw [show decide (P < 0) = true by simpa using hp, if_pos rfl]; omega
  · rw [show decide (P < 0) = false by simpa using hp]; simp; omega

theorem pack_big {w w2 : World} {P : Int} {Q : Nat} {a b : Option Addr} {n m c d : Nat} {f g : Nat → Nat} (h1 : Mag w2 a n c f P.natAbs) (h2 : Mag w2 b m d g Q) (hb : Below w.heap.size w w2) (h0 : w2.cell? ⟨w.heap.size + 1 + 1, 0, none⟩ = some (.int .i64 0)) (hs : ¬ smallR P Q) (hz : w.heap.size + 1 + 1 < w2.heap.size) :
    RIs ((((w2.setCell ⟨w.heap.size + 1 + 1, 0, none⟩ (.int .i64 0)).setCell ⟨w.heap.size + 1 + 1, 1, none⟩ (.int .i64 0)).setCell ⟨w.heap.size + 1 + 1, 2, none⟩ (.slice (some ⟨w2.heap.size, 0, none⟩) 2 2)).alloc (.cells #[.bool (decide (P < 0)), .slice a n c, .bool false, .slice b m d] 63)) (.agg #[.int .i64 0, .int .i64 0, .slice (some ⟨w2.heap.size, 0, none⟩) 2 2]) P Q ∧
    Below w.heap.size w ((((w2.setCell ⟨w.heap.size + 1 + 1, 0, none⟩ (.int .i64 0)).setCell ⟨w.heap.size + 1 + 1, 1, none⟩ (.int .i64 0)).setCell ⟨w.heap.size + 1 + 1, 2, none⟩ (.slice (some ⟨w2.heap.size, 0, none⟩) 2 2)).alloc (.cells #[.bool (decide (P < 0)), .slice a n c, .bool false, .slice b m d] 63)) := by
  have hb' := below_set3 hb (b := w.heap.size + 1 + 1) (by omega) (.int .i64 0) (.int .i64 0) (.slice (some ⟨w2.heap.size, 0, none⟩) 2 2)
  refine ⟨.inr ⟨hs, w2.heap.size, a, n, c, f, b, m, d, g, rfl, fun j => ?_, ?_, ?_⟩, hb'.alloc (by simp; omega) _⟩
  · rw [Joins.cell_alloc_mark_at _ _ _ _ _ _ (by simp)]
  · exact (h1.other _ _ h0 (notG_i64 _) (set3_other _ _ _ _ _)).below (Joins.below_alloc1 _ _)
  · exact (h2.other _ _ h0 (notG_i64 _) (set3_other _ _ _ _ _)).below (Joins.below_alloc1 _ _)

set_option maxHeartbeats 2000000 in
theorem l1rPack_any (P : Int) (Q : Nat) (a b : Option Addr) (n m c d : Nat) (f g : Nat → Nat) (w : World) (ha : Mag w a n c f P.natAbs) (hb : Mag w b m d g Q) :
    Calls Try.prog 70 #[.agg #[.bool (decide (P < 0)), .slice a n c], .agg #[.bool false, .slice b m d]] w fun e w' => ∃ v, e = .returned v ∧ RIs w' v P Q ∧ Below w.heap.size w w' := by
  have hb3 := Joins.below_alloc3 w (.cells #[.bool (decide (P < 0)), .slice a n c] 63) (.cells #[.bool false, .slice b m d] 63) (.cells #[.int .i64 0, .int .i64 0, .slice none 0 0] 59)
  have HA := ha.below hb3
  have HB := hb.below hb3
  have HB3 : Hid _ := hb3
  have HA' : Hid _ := HA
  have HB' : Hid _ := HB
  clear ha hb hb3 HA HB
  go_enter Try.func70, Try.ntmps70
  go_wp2_with fail
  refine (l1ZInt_any _ _ _ _ f _ 2147483647 _ HA'.out (by omega)).mono ?_
  rintro e w1 ⟨rfl, hb1⟩
  obtain ⟨hc1, hf1⟩ := bcell hb1
  go_wp2_with fail
  refine (l1ZInt_any _ _ _ _ g _ 2147483647 _ (HB'.out.below hb1) (by omega)).mono ?_
  rintro e w2 ⟨rfl, hb2⟩
  have hb12 := hb1.trans (hb2.mono hb1.size)
  clear hc1 hf1
  obtain ⟨hc, hf⟩ := bcell hb12
  have hz : w.heap.size + 1 + 1 < w2.heap.size := by have := hb12.size; simp at this; omega
  have h0 : w2.cell? ⟨w.heap.size + 1 + 1, 0, none⟩ = some (.int .i64 0) := by rw [hb12.cell (p := ⟨w.heap.size + 1 + 1, 0, none⟩) (by simp)]; go_simp
  have HW : Hid (Mag w2 a n c f P.natAbs ∧ Mag w2 b m d g Q ∧ Below w.heap.size w w2) := ⟨HA'.out.below hb12, HB'.out.below hb12, HB3.out.trans (hb12.mono (by simp; omega))⟩
  clear HA' HB' HB3 hb1 hb2 hb12
  by_cases h1 : P.natAbs ≤ 2147483647
  · have k1 : zok P.natAbs 2147483647 = true := by unfold zok; simpa using h1
    by_cases h2 : Q ≤ 2147483647
    · have k2 : zok Q 2147483647 = true := by unfold zok; simpa using h2
      go_wp2
      refine bodyPost_ret (v := .agg #[.int .i64 (zi (decide (P < 0)) P.natAbs 2147483647), .int .i64 (zi false Q 2147483647), .slice none 0 0]) (by simp [results, Try.results70, go_sem, hc]) rfl ⟨_, rfl, .inl ⟨⟨h1, h2⟩, ?_⟩, below_set3 HW.out.2.2 (by omega) _ _ _⟩
      rw [zi_of P _ h1]
      have : zi false Q 2147483647 = Q := by unfold zi; rw [if_pos h2]; rfl
      rw [this]
    · have k2 : zok Q 2147483647 = false := by unfold zok; simpa using h2
      have hs : ¬ smallR P Q := fun h => h2 h.2
      have HZ : Hid _ := pack_big HW.out.1 HW.out.2.1 HW.out.2.2 h0 hs hz
      clear hs
      go_wp2
      exact bodyPost_ret (v := .agg #[.int .i64 0, .int .i64 0, .slice (some ⟨w2.heap.size, 0, none⟩) 2 2]) (by simp [results, Try.results70, go_sem, hc, hz]) rfl ⟨_, rfl, HZ.out.1, HZ.out.2⟩
  · have k1 : zok P.natAbs 2147483647 = false := by unfold zok; simpa using h1
    have hs : ¬ smallR P Q := fun h => h1 h.1
    have HZ : Hid _ := pack_big HW.out.1 HW.out.2.1 HW.out.2.2 h0 hs hz
    clear hs
    go_wp2
    exact bodyPost_ret (v := .agg #[.int .i64 0, .int .i64 0, .slice (some ⟨w2.heap.size, 0, none⟩) 2 2]) (by simp [results, Try.results70, go_sem, hc, hz]) rfl ⟨_, rfl, HZ.out.1, HZ.out.2⟩
end Go.Proofs.Ytikepklkjbohmaa
