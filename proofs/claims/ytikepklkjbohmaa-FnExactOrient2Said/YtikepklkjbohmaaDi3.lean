import Derived.Test.YtikepklkjbohmaaDi2
import Derived.Test.YtikepklkjbohmaaInter2
namespace Go.Proofs.Ytikepklkjbohmaa
open Go.RowKit

theorem cmp3_sub (x y : Int) : cmp3 x y = sg3 (x - y) := by
  unfold cmp3 sg3
  rcases Int.lt_trichotomy x y with h | h | h
  · rw [if_pos h, if_pos (by omega)]
  · rw [if_neg (by omega), if_neg (by omega), if_neg (by omega), if_neg (by omega)]
  · rw [if_neg (by omega), if_pos h, if_neg (by omega), if_pos (by omega)]
def LSE (k : Nat) (m1 m2 : Bool) : Array Bool := #[true, true, decide (0 < k), true, true, decide (1 < k), m1, m2, false, false]
def ide (k : Nat) : Nat := if k = 0 then 2 else 5
def FRE (N : Nat) (a0 a1 a2 b0 b1 b2 c0 c1 c2 : Int) (k : Nat) (t1 t2 : Value) : Act := { tmps := #[V3i a0 a1 a2, V3i b0 b1 b2, V3i c0 c1 c2, .pointer (some ⟨N, 0, none⟩), .pointer (some ⟨N + 1, 0, none⟩), .pointer (some ⟨N + 1 + 1, 0, none⟩), .int .i64 0, t1, t2, .agg #[.int .i64 a0, .int .i64 a1, .int .i64 a2], .bool false, .bool false, .agg #[.int .i64 b0, .int .i64 b1, .int .i64 b2], .bool false, .bool false, .bool false, .agg #[.int .i64 c0, .int .i64 c1, .int .i64 c2], .bool false, .bool false, .agg #[.int .i64 b0, .int .i64 b1, .int .i64 b2], .agg #[.int .i64 a0, .int .i64 a1, .int .i64 a2], cc 0 k (.agg #[.int .i64 (b0 - a0), .int .i64 (b1 - a1), .int .i64 (b2 - a2)]), .agg #[.int .i64 c0, .int .i64 c1, .int .i64 c2], .agg #[.int .i64 a0, .int .i64 a1, .int .i64 a2], cc 1 k (.agg #[.int .i64 (c0 - a0), .int .i64 (c1 - a1), .int .i64 (c2 - a2)]), undef, undef, undef, undef, undef, undef, undef], defers := [] }
set_option maxHeartbeats 1000000 in
theorem implDist_tame (a0 a1 a2 b0 b1 b2 c0 c1 c2 : Int) (w : World) (h : (inB3 a0 a1 a2 && inB3 b0 b1 b2 && inB3 c0 c1 c2) = true) :
    Calls Try.prog 23 #[V3i a0 a1 a2, V3i b0 b1 b2, V3i c0 c1 c2] w fun e w' => e = .returned (.int .i64 (sg3 (((b0 - a0) * (b0 - a0) + (b1 - a1) * (b1 - a1) + (b2 - a2) * (b2 - a2)) - ((c0 - a0) * (c0 - a0) + (c1 - a1) * (c1 - a1) + (c2 - a2) * (c2 - a2))))) ∧ Below w.heap.size w w' := by
  have H := h
  simp only [Bool.and_eq_true] at H
  obtain ⟨⟨g1, g2⟩, g3⟩ := H
  have n1 : (!inB3 a0 a1 a2) = false := by rw [g1]; rfl
  have n2 : (!inB3 b0 b1 b2) = false := by rw [g2]; rfl
  have n3 : (!inB3 c0 c1 c2) = false := by rw [g3]; rfl
  have HT : Hid _ := tame3 h
  have HM : Hid ((-18014398509481984 ≤ (b0 - a0) * (b0 - a0) ∧ (b0 - a0) * (b0 - a0) ≤ 18014398509481984) ∧ (-18014398509481984 ≤ (b1 - a1) * (b1 - a1) ∧ (b1 - a1) * (b1 - a1) ≤ 18014398509481984) ∧ (-18014398509481984 ≤ (b2 - a2) * (b2 - a2) ∧ (b2 - a2) * (b2 - a2) ≤ 18014398509481984) ∧ (-18014398509481984 ≤ (c0 - a0) * (c0 - a0) ∧ (c0 - a0) * (c0 - a0) ≤ 18014398509481984) ∧ (-18014398509481984 ≤ (c1 - a1) * (c1 - a1) ∧ (c1 - a1) * (c1 - a1) ≤ 18014398509481984) ∧ (-18014398509481984 ≤ (c2 - a2) * (c2 - a2) ∧ (c2 - a2) * (c2 - a2) ≤ 18014398509481984)) := by
    obtain ⟨⟨x0, x1, x2⟩, ⟨y0, y1, y2⟩, ⟨z0, z1, z2⟩⟩ := tame3 h
    have mb0 := mul_le54 (x := b0 - a0) (y := b0 - a0) (by omega) (by omega)
    have mb1 := mul_le54 (x := b1 - a1) (y := b1 - a1) (by omega) (by omega)
    have mb2 := mul_le54 (x := b2 - a2) (y := b2 - a2) (by omega) (by omega)
    have mc0 := mul_le54 (x := c0 - a0) (y := c0 - a0) (by omega) (by omega)
    have mc1 := mul_le54 (x := c1 - a1) (y := c1 - a1) (by omega) (by omega)
    have mc2 := mul_le54 (x := c2 - a2) (y := c2 - a2) (by omega) (by omega)
    exact ⟨⟨by omega, by omega⟩, ⟨by omega, by omega⟩, ⟨by omega, by omega⟩, ⟨by omega, by omega⟩, ⟨by omega, by omega⟩, ⟨by omega, by omega⟩⟩
  clear h g1 g2 g3
  go_enter Try.func23, Try.ntmps23
  go_wp2_with fail
  refine (wild3_any _ _ _ _).mono ?_
  rintro e w1 ⟨rfl, hb1⟩
  obtain ⟨hc, hf⟩ := bcell hb1
  go_wp2_with fail
  refine (wild3_any _ _ _ _).mono ?_
  rintro e w2 ⟨rfl, hb2⟩
  have hb12 := hb1.trans (hb2.mono hb1.size)
  obtain ⟨hc2, hf2⟩ := bcell hb12
  clear hc hf
  go_wp2_with fail
  refine (wild3_any _ _ _ _).mono ?_
  rintro e w3 ⟨rfl, hb3⟩
  have hb13 := hb12.trans (hb3.mono hb12.size)
  have hS := S3p.of_below hb13
  have hB : Below w.heap.size w w3 := (Joins.below_alloc3 _ _ _ _).trans (hb13.mono (by simp; omega))
  clear hc2 hf2 hb1 hb2 hb3 hb12 hb13
  go_wp2_with fail
  have hz3 : w.heap.size + 1 + 1 < w3.heap.size := hS.2.2.2
  refine wp_region_noPanic ?_
  refine wp_region_held_drew (S := fun wx => S3p w.heap.size #[.int .i64 a0, .int .i64 a1, .int .i64 a2] #[.int .i64 b0, .int .i64 b1, .int .i64 b2] #[.int .i64 c0, .int .i64 c1, .int .i64 c2] wx ∧ Below w3.heap.size w3 wx) (by kernel_rfl) ⟨S3p.drew hS, Joins.below_draws _ _ 1⟩ ?_
  intro hS'
  refine wpAnyH_take (i := 0) (v := .agg #[.int .i64 b0, .int .i64 b1, .int .i64 b2]) rfl (by kernel_rfl) (by kernel_rfl) (by kernel_rfl) (fun _ _ _ h => h) (.inl ⟨by rfl, ?_⟩) hS' ?_
  · intro wx hx
    have hx4 := hx.1
    clear hx
    go_simp
  simp only [Act.put, List.setIfInBounds_toArray]
  refine wpAnyH_take (i := 1) (v := .agg #[.int .i64 a0, .int .i64 a1, .int .i64 a2]) rfl (by kernel_rfl) (by kernel_rfl) (by kernel_rfl) (fun _ _ _ h => h) (.inl ⟨by rfl, ?_⟩) hS' ?_
  · intro wx hx
    have hx4 := hx.1
    clear hx
    go_simp
  simp only [Act.put]
  refine wpAnyH_take (i := 3) (v := .agg #[.int .i64 c0, .int .i64 c1, .int .i64 c2]) rfl (by kernel_rfl) (by kernel_rfl) (by kernel_rfl) (fun _ _ _ h => h) (.inl ⟨by rfl, ?_⟩) hS' ?_
  · intro wx hx
    have hx4 := hx.1
    clear hx
    go_simp
  simp only [Act.put]
  refine wpAnyH_take (i := 4) (v := .agg #[.int .i64 a0, .int .i64 a1, .int .i64 a2]) rfl (by kernel_rfl) (by kernel_rfl) (by kernel_rfl) (fun _ _ _ h => h) (.inl ⟨by rfl, ?_⟩) hS' ?_
  · intro wx hx
    have hx4 := hx.1
    clear hx
    go_simp
  simp only [Act.put]
  refine wpAnyH_cast (f' := 4 + 2) (l' := LSE 0 false false) (a' := FRE w.heap.size a0 a1 a2 b0 b1 b2 c0 c1 c2 0 undef undef) (by kernel_rfl) (by kernel_rfl) (by rfl) ?_
  refine interleave2 w3.heap.size 2 (.cells #[.int .i64 0, .int .i64 0, .int .i64 0] 76) LSE (FRE w.heap.size a0 a1 a2 b0 b1 b2 c0 c1 c2) ide 6 7 2 ?hr ?hlc ?hl1 ?hl2 ?hS ?hN ?hcall ?ha1 ?ha2 ?fin 4 0 false false undef undef 0 0 _ (by omega) (by rfl) hS' At1.none At1.none (fun h => by cases h)
  case hr =>
    intro k m1 m2 hk hne
    have h7 : k = 0 ∨ k = 1 ∨ k = 2 := by omega
    rcases h7 with rfl | rfl | rfl <;> cases m1 <;> cases m2 <;> first | (exfalso; simp at hne; done) | (show _ = _; kernel_rfl)
  case hlc =>
    intro k m1 m2 hk
    have h7 : k = 0 ∨ k = 1 := by omega
    rcases h7 with rfl | rfl <;> rfl
  case hl1 => intro k m2 hk; rfl
  case hl2 => intro k m1 hk; rfl
  case hS => intro wa wb ha hb; exact ⟨ha.1.call hb, ha.2.trans (hb.mono ha.2.size)⟩
  case hN => intro wa ha; exact ha.2.size
  case hcall =>
    intro k hk t1 t2 wx K hx hK
    have h7 : k = 0 ∨ k = 1 := by omega
    rcases h7 with rfl | rfl
    · change wpOp _ _ _ 2 _ _ _
      refine wpOp_step (o := _) rfl (fun K' hK' => ?_)
      clear hS' hx hS
      simp only [FRE, cc, Nat.reduceLT, reduceIte]
      go_simp
      refine (less3_any _ _ _ _ _ _ _ HT.out.2.1.1 HT.out.2.1.2.1 HT.out.2.1.2.2 HT.out.1.1 HT.out.1.2.1 HT.out.1.2.2).mono ?_
      rintro e w' ⟨rfl, hb⟩
      exact hK' _ _ (hK w' hb)
    · change wpOp _ _ _ 5 _ _ _
      refine wpOp_step (o := _) rfl (fun K' hK' => ?_)
      clear hS' hx hS
      simp only [FRE, cc, Nat.reduceLT, reduceIte]
      go_simp
      refine (less3_any _ _ _ _ _ _ _ HT.out.2.2.1 HT.out.2.2.2.1 HT.out.2.2.2.2 HT.out.1.1 HT.out.1.2.1 HT.out.1.2.2).mono ?_
      rintro e w' ⟨rfl, hb⟩
      exact hK' _ _ (hK w' hb)
  case ha1 =>
    intro k hk t2 wx K h
    refine wpOp_step (o := _) rfl (fun K' hK' => ?_)
    simp only [FRE]
    go_simp
    exact hK' _ _ h
  case ha2 =>
    intro k hk t1 wx K h
    refine wpOp_step (o := _) rfl (fun K' hK' => ?_)
    simp only [FRE]
    go_simp
    exact hK' _ _ h
  case fin =>
    clear hS' hS
    intro g1 g2 wx hx q1 q2 n1 n2 d12
    refine wpAnyH_all (rs := [8]) (by kernel_rfl) (by simp) ?_
    intro i hi
    rw [List.mem_singleton] at hi
    subst hi
    refine wpOp_step (o := _) rfl (fun K' hK' => ?_)
    have kc : ∀ j, wx.cell? ⟨g1, j, none⟩ = #[.int .i64 0, .int .i64 0, .int .i64 0][j]? := fun j => Joins.cell_of_block q1 j
    have kf : ∀ j, wx.frozen? ⟨g1, j, none⟩ = false := fun j => Joins.unfrozen_of_block q1 j
    have HH : Hid ((S3p w.heap.size #[.int .i64 a0, .int .i64 a1, .int .i64 a2] #[.int .i64 b0, .int .i64 b1, .int .i64 b2] #[.int .i64 c0, .int .i64 c1, .int .i64 c2] (W3 wx g1 (.int .i64 (b0 - a0)) (.int .i64 (b1 - a1)) (.int .i64 (b2 - a2))) ∧ Below w3.heap.size w3 (W3 wx g1 (.int .i64 (b0 - a0)) (.int .i64 (b1 - a1)) (.int .i64 (b2 - a2)))) ∧ (W3 wx g1 (.int .i64 (b0 - a0)) (.int .i64 (b1 - a1)) (.int .i64 (b2 - a2))).heap[g1]? = some (.cells #[.int .i64 (b0 - a0), .int .i64 (b1 - a1), .int .i64 (b2 - a2)] 76) ∧ (W3 wx g1 (.int .i64 (b0 - a0)) (.int .i64 (b1 - a1)) (.int .i64 (b2 - a2))).heap[g2]? = wx.heap[g2]?) := ⟨⟨⟨hx.1.1.set3 (by omega) _ _ _, hx.1.2.1.set3 (by omega) _ _ _, hx.1.2.2.set3 (by omega) _ _ _⟩, W3_below hx.2 n1⟩, W3_at q1, W3_other (Ne.symm d12)⟩
    rw [q2] at HH
    clear hx q1 q2
    simp only [FRE, cc, Nat.reduceLT, reduceIte]
    go_simp
    refine hK' _ _ ⟨HH.out.1, ?_⟩
    clear hK' K'
    change wpAnyH _ _ _ _ _ _ _ _ (W3 wx g1 (.int .i64 (b0 - a0)) (.int .i64 (b1 - a1)) (.int .i64 (b2 - a2)))
    obtain ⟨hx, q1, q2⟩ := HH.out
    clear HH kc kf
    generalize W3 wx g1 (.int .i64 (b0 - a0)) (.int .i64 (b1 - a1)) (.int .i64 (b2 - a2)) = wy at hx q1 q2 ⊢
    clear wx
    refine wpAnyH_all (rs := [9]) (by kernel_rfl) (by simp) ?_
    intro i hi
    rw [List.mem_singleton] at hi
    subst hi
    refine wpOp_step (o := _) rfl (fun K' hK' => ?_)
    have kc : ∀ j, wy.cell? ⟨g2, j, none⟩ = #[.int .i64 0, .int .i64 0, .int .i64 0][j]? := fun j => Joins.cell_of_block q2 j
    have kf : ∀ j, wy.frozen? ⟨g2, j, none⟩ = false := fun j => Joins.unfrozen_of_block q2 j
    have HH : Hid ((S3p w.heap.size #[.int .i64 a0, .int .i64 a1, .int .i64 a2] #[.int .i64 b0, .int .i64 b1, .int .i64 b2] #[.int .i64 c0, .int .i64 c1, .int .i64 c2] (W3 wy g2 (.int .i64 (c0 - a0)) (.int .i64 (c1 - a1)) (.int .i64 (c2 - a2))) ∧ Below w3.heap.size w3 (W3 wy g2 (.int .i64 (c0 - a0)) (.int .i64 (c1 - a1)) (.int .i64 (c2 - a2)))) ∧ (W3 wy g2 (.int .i64 (c0 - a0)) (.int .i64 (c1 - a1)) (.int .i64 (c2 - a2))).heap[g2]? = some (.cells #[.int .i64 (c0 - a0), .int .i64 (c1 - a1), .int .i64 (c2 - a2)] 76) ∧ (W3 wy g2 (.int .i64 (c0 - a0)) (.int .i64 (c1 - a1)) (.int .i64 (c2 - a2))).heap[g1]? = wy.heap[g1]?) := ⟨⟨⟨hx.1.1.set3 (by omega) _ _ _, hx.1.2.1.set3 (by omega) _ _ _, hx.1.2.2.set3 (by omega) _ _ _⟩, W3_below hx.2 n2⟩, W3_at q2, W3_other d12⟩
    rw [q1] at HH
    clear hx q1 q2
    simp only
    go_simp
    refine hK' _ _ ⟨HH.out.1, ?_⟩
    clear hK' K'
    change wpAnyH _ _ _ _ _ _ _ _ (W3 wy g2 (.int .i64 (c0 - a0)) (.int .i64 (c1 - a1)) (.int .i64 (c2 - a2)))
    obtain ⟨hx, q2, q1⟩ := HH.out
    clear HH kc kf
    generalize W3 wy g2 (.int .i64 (c0 - a0)) (.int .i64 (c1 - a1)) (.int .i64 (c2 - a2)) = wz at hx q1 q2 ⊢
    clear wy
    refine wpAnyH_done (by kernel_rfl) ?_ _
    refine NoPanic.normal ?_
    have hR : S2p g1 g2 #[.int .i64 (b0 - a0), .int .i64 (b1 - a1), .int .i64 (b2 - a2)] #[.int .i64 (c0 - a0), .int .i64 (c1 - a1), .int .i64 (c2 - a2)] wz := ⟨⟨fun j => Joins.cell_of_block q1 j, lt_of_heap q1⟩, ⟨fun j => Joins.cell_of_block q2 j, lt_of_heap q2⟩⟩
    have hY : Below w.heap.size w wz := hB.trans (hx.2.mono hB.size)
    clear q1 q2 hx n1 n2 d12 hB hz3
    go_wp2_with fail
    go_region_held3 (fun w' => S2p g1 g2 #[.int .i64 (b0 - a0), .int .i64 (b1 - a1), .int .i64 (b2 - a2)] #[.int .i64 (c0 - a0), .int .i64 (c1 - a1), .int .i64 (c2 - a2)] w' ∧ Below w.heap.size w w') (first | with_reducible exact ⟨S2p.drew hR, hY.drew⟩ | (have hh := ‹(S2p g1 g2 #[.int .i64 (b0 - a0), .int .i64 (b1 - a1), .int .i64 (b2 - a2)] #[.int .i64 (c0 - a0), .int .i64 (c1 - a1), .int .i64 (c2 - a2)] _ ∧ Below w.heap.size w _)›; first | with_reducible exact ⟨hh.1.call (by assumption), hh.2.trans (Below.mono (by assumption) hh.2.size)⟩ | with_reducible exact hh))
      (first
        | (go_at_call_of 51 (Value.agg #[Value.int IntKind.i64 (b0 - a0), Value.int IntKind.i64 (b1 - a1), Value.int IntKind.i64 (b2 - a2)]); refine (stepDot_any _ _ _ _ _ _ _ HM.out.1 HM.out.2.1 HM.out.2.2.1).mono ?_; rintro e w' ⟨rfl, hb⟩)
        | (go_at_call 51; refine (stepDot_any _ _ _ _ _ _ _ HM.out.2.2.2.1 HM.out.2.2.2.2.1 HM.out.2.2.2.2.2).mono ?_; rintro e w' ⟨rfl, hb⟩)
        | (go_at_call 53; refine (order_any _ _ _).mono ?_; rintro e w' ⟨rfl, rfl⟩))
    have hh := ‹(S2p g1 g2 #[.int .i64 (b0 - a0), .int .i64 (b1 - a1), .int .i64 (b2 - a2)] #[.int .i64 (c0 - a0), .int .i64 (c1 - a1), .int .i64 (c2 - a2)] _ ∧ Below w.heap.size w _)›
    have HH : Hid _ := hh.2
    clear hh hR hY
    go_wp2
    go_ret
    exact ⟨ret_int (cmp3_sub _ _), HH.out⟩
end Go.Proofs.Ytikepklkjbohmaa
