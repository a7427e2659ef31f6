import Derived.Test.YtikepklkjbohmaaCmp2
namespace Go.Proofs.Ytikepklkjbohmaa
open Go.RowKit

set_option maxHeartbeats 400000 in
theorem l1rNeg_small (x : Int) (w : World) (hx : x.natAbs ≤ 2147483647) :
    Calls Try.prog 76 #[.agg #[.int .i64 x, .int .i64 1, .slice none 0 0]] w fun e w' => e = .returned (.agg #[.int .i64 (-x), .int .i64 1, .slice none 0 0]) ∧ Below w.heap.size w w' := by
  go_enter Try.func76, Try.ntmps76
  go_wp2
  exact bodyPost_ret (v := .agg #[.int .i64 (-x), .int .i64 1, .slice none 0 0]) (by simp [results, Try.results76, go_sem]) rfl ⟨rfl, Joins.below_alloc2 _ _ _⟩

theorem S2p.set3 {b5 b6 : Nat} {A5 A6 : Array Value} {w' : World} (h : S2p b5 b6 A5 A6 w') {b : Nat} (h5 : b5 ≠ b) (h6 : b6 ≠ b) (u0 u1 u2 : Value) : S2p b5 b6 A5 A6 (((w'.setCell ⟨b, 0, none⟩ u0).setCell ⟨b, 1, none⟩ u1).setCell ⟨b, 2, none⟩ u2) := ⟨h.1.set3 h5 _ _ _, h.2.set3 h6 _ _ _⟩

set_option maxHeartbeats 1000000 in
theorem l1rNeg_big (P : Int) (g : Nat) (a b : Option Addr) (n m c d : Nat) (f h : Nat → Nat) (w : World) (hc : ∀ j, w.cell? ⟨g, j, none⟩ = #[Value.bool (decide (P < 0)), .slice a n c, .bool false, .slice b m d][j]?) (h1 : Mag w a n c f P.natAbs) (h2 : Mag w b m d h 1) (hs : ¬ smallR P 1) :
    Calls Try.prog 76 #[.agg #[.int .i64 0, .int .i64 0, .slice (some ⟨g, 0, none⟩) 2 2]] w fun e w' => ∃ v, e = .returned v ∧ RIs w' v (-P) 1 ∧ Below w.heap.size w w' := by
  have hg : g < w.heap.size := World.block_lt_of_cell? w ⟨g, 0, none⟩ (u := .bool (decide (P < 0))) (hc 0)
  have hB := Joins.below_alloc2 w (.cells #[.int .i64 0, .int .i64 0, .slice (some ⟨g, 0, none⟩) 2 2] 59) (.cells #[.int .i64 0, .int .i64 0, .slice none 0 0] 59)
  have hS : S2p w.heap.size g #[.int .i64 0, .int .i64 0, .slice (some ⟨g, 0, none⟩) 2 2] #[Value.bool (decide (P < 0)), .slice a n c, .bool false, .slice b m d] ((w.alloc (.cells #[.int .i64 0, .int .i64 0, .slice (some ⟨g, 0, none⟩) 2 2] 59)).alloc (.cells #[.int .i64 0, .int .i64 0, .slice none 0 0] 59)) := ⟨⟨fun j => by go_simp, by simp; omega⟩, ⟨fun j => by rw [hB.cell (p := ⟨g, j, none⟩) hg]; exact hc j, by simp; omega⟩⟩
  have hR : ResAt ((w.alloc (.cells #[.int .i64 0, .int .i64 0, .slice (some ⟨g, 0, none⟩) 2 2] 59)).alloc (.cells #[.int .i64 0, .int .i64 0, .slice none 0 0] 59)) (w.heap.size + 1) := ⟨by go_simp, by go_simp, by go_simp, fun j => by go_simp, by simp⟩
  have HM : Hid (Mag ((w.alloc (.cells #[.int .i64 0, .int .i64 0, .slice (some ⟨g, 0, none⟩) 2 2] 59)).alloc (.cells #[.int .i64 0, .int .i64 0, .slice none 0 0] 59)) a n c f P.natAbs ∧ Mag ((w.alloc (.cells #[.int .i64 0, .int .i64 0, .slice (some ⟨g, 0, none⟩) 2 2] 59)).alloc (.cells #[.int .i64 0, .int .i64 0, .slice none 0 0] 59)) b m d h 1 ∧ Below w.heap.size w ((w.alloc (.cells #[.int .i64 0, .int .i64 0, .slice (some ⟨g, 0, none⟩) 2 2] 59)).alloc (.cells #[.int .i64 0, .int .i64 0, .slice none 0 0] 59)) ∧ ResAt ((w.alloc (.cells #[.int .i64 0, .int .i64 0, .slice (some ⟨g, 0, none⟩) 2 2] 59)).alloc (.cells #[.int .i64 0, .int .i64 0, .slice none 0 0] 59)) (w.heap.size + 1)) := ⟨h1.below hB, h2.below hB, hB, hR⟩
  have hgn : g ≠ w.heap.size + 1 := by omega
  have HS : Hid (¬ smallR (-P) 1) := fun h => hs ⟨by have := h.1; omega, h.2⟩
  clear hc h1 h2 hs hB hR
  go_enter Try.func76, Try.ntmps76
  go_wp2_with fail
  go_region_held3 (fun w' => S2p w.heap.size g #[.int .i64 0, .int .i64 0, .slice (some ⟨g, 0, none⟩) 2 2] #[Value.bool (decide (P < 0)), .slice a n c, .bool false, .slice b m d] w') (first | with_reducible exact S2p.drew hS | with_reducible exact S2p.call (by assumption) (by assumption) | with_reducible exact S2p.call (by assumption) (Joins.below_alloc1 _ _) | with_reducible exact S2p.call (S2p.set3 (S2p.call hS Q6.out) (by omega) (by omega) _ _ _) (Joins.below_alloc1 _ _) | with_reducible assumption)
    (first
      | (go_at_call 67; refine (l1ZNeg_any P _ _ _ f _ (HM.out.1.below (Below.refl _ _).drew)).mono ?_; rintro e w6 ⟨rfl, hb6⟩; have Q6 : Hid (Below ((w.alloc (.cells #[.int .i64 0, .int .i64 0, .slice (some ⟨g, 0, none⟩) 2 2] 59)).alloc (.cells #[.int .i64 0, .int .i64 0, .slice none 0 0] 59)).heap.size ((w.alloc (.cells #[.int .i64 0, .int .i64 0, .slice (some ⟨g, 0, none⟩) 2 2] 59)).alloc (.cells #[.int .i64 0, .int .i64 0, .slice none 0 0] 59)) w6) := (Below.refl _ _).drew.trans (hb6.mono (Nat.le_refl _)); obtain ⟨k0, k1, k2, kf, ks⟩ := HM.out.2.2.2.below Q6.out))
  have H6 : Hid (RIs ((((w6.setCell ⟨w.heap.size + 1, 0, none⟩ (.int .i64 0)).setCell ⟨w.heap.size + 1, 1, none⟩ (.int .i64 0)).setCell ⟨w.heap.size + 1, 2, none⟩ (.slice (some ⟨w6.heap.size, 0, none⟩) 2 2)).alloc (.cells #[.bool (decide (0 < P)), .slice a n c, .bool false, .slice b m d] 63)) (.agg #[.int .i64 0, .int .i64 0, .slice (some ⟨w6.heap.size, 0, none⟩) 2 2]) (-P) 1 ∧ Below w.heap.size w ((((w6.setCell ⟨w.heap.size + 1, 0, none⟩ (.int .i64 0)).setCell ⟨w.heap.size + 1, 1, none⟩ (.int .i64 0)).setCell ⟨w.heap.size + 1, 2, none⟩ (.slice (some ⟨w6.heap.size, 0, none⟩) 2 2)).alloc (.cells #[.bool (decide (0 < P)), .slice a n c, .bool false, .slice b m d] 63))) := by
    have hP : decide (0 < P) = decide (-P < 0) := by rw [decide_eq_decide]; omega
    have hN : (-P).natAbs = P.natAbs := by omega
    have hb6' := HM.out.2.2.1.trans (Q6.out.mono HM.out.2.2.1.size)
    have hb7 := below_set3 hb6' (b := w.heap.size + 1) (by omega) (.int .i64 0) (.int .i64 0) (.slice (some ⟨w6.heap.size, 0, none⟩) 2 2)
    refine ⟨.inr ⟨HS.out, w6.heap.size, a, n, c, f, b, m, d, h, rfl, fun j => ?_, ?_, ?_⟩, hb7.alloc (by simp; have := hb6'.size; omega) _⟩
    · rw [Joins.cell_alloc_mark_at _ _ _ _ _ _ (by simp), hP]
    · rw [hN]; exact ((HM.out.1.below Q6.out).other _ _ k0 (notG_i64 _) (set3_other _ _ _ _ _)).below (Joins.below_alloc1 _ _)
    · exact ((HM.out.2.1.below Q6.out).other _ _ k0 (notG_i64 _) (set3_other _ _ _ _ _)).below (Joins.below_alloc1 _ _)
  go_wp2
  exact bodyPost_ret (v := .agg #[.int .i64 0, .int .i64 0, .slice (some ⟨w6.heap.size, 0, none⟩) 2 2]) (by simp [results, Try.results76, go_sem, k0, k1, k2, ks]) rfl ⟨_, rfl, H6.out.1, H6.out.2⟩

theorem l1rNeg_any (x : Int) (v : Value) (w : World) (hv : RIs w v x 1) :
    Calls Try.prog 76 #[v] w fun e w' => ∃ p0 q0 s0 l0 c0, e = .returned (.agg #[.int .i64 p0, .int .i64 q0, .slice s0 l0 c0]) ∧ RIs w' (.agg #[.int .i64 p0, .int .i64 q0, .slice s0 l0 c0]) (-x) 1 ∧ Below w.heap.size w w' := by
  rcases hv with ⟨s1, rfl⟩ | ⟨s1, g1, a1, n1, c1, f1, b1, m1, d1, k1, rfl, hc, h1, h2⟩
  · exact (l1rNeg_small x w s1.1).mono fun e w' ⟨he, hb⟩ => ⟨_, _, _, _, _, he, .inl ⟨⟨by have := s1.1; omega, by decide⟩, rfl⟩, hb⟩
  · exact (l1rNeg_big x g1 a1 b1 n1 m1 c1 d1 f1 k1 w hc h1 h2 s1).mono fun e w' ⟨v, he, hr, hb⟩ => by
      obtain ⟨p0, q0, s0, l0, c0, hv⟩ := hr.agg
      subst hv
      exact ⟨p0, q0, s0, l0, c0, he, hr, hb⟩
end Go.Proofs.Ytikepklkjbohmaa
