import Derived.Test.YtikepklkjbohmaaF3w
namespace Go.Proofs.Ytikepklkjbohmaa
open Go.RowKit
attribute [local go_sem] run_store_float

set_option maxHeartbeats 2000000 in
theorem implF3_tame (a0 a1 a2 b0 b1 b2 c0 c1 c2 d0 d1 d2 : Int) (p q r P Q R det per err : Nat) (w : World) (h : (inB3 a0 a1 a2 && inB3 b0 b1 b2 && inB3 c0 c1 c2 && inB3 d0 d1 d2) = true)
    (kp : Cross (fl (b1 - d1)) (fl (c2 - d2)) (fl (b2 - d2)) (fl (c1 - d1)) p P) (kq : Cross (fl (b2 - d2)) (fl (c0 - d0)) (fl (b0 - d0)) (fl (c2 - d2)) q Q) (kr : Cross (fl (b0 - d0)) (fl (c1 - d1)) (fl (b1 - d1)) (fl (c0 - d0)) r R)
    (kd : Three (fl (a0 - d0)) (fl (a1 - d1)) (fl (a2 - d2)) p q r det) (ke : Three (Flt.absN (fl (a0 - d0))) (Flt.absN (fl (a1 - d1))) (Flt.absN (fl (a2 - d2))) P Q R per) (km : floatBits .mul .f64 per 4382002437431492608 = some err)
    (f0 : Flt.F (fl (a0 - d0)) 29) (f1 : Flt.F (fl (a1 - d1)) 29) (f2 : Flt.F (fl (a2 - d2)) 29) :
    Calls Try.prog 25 #[V3i a0 a1 a2, V3i b0 b1 b2, V3i c0 c1 c2, V3i d0 d1 d2] w fun e w' => e = .returned (.tuple #[.float .f64 det, .float .f64 err, .int .i64 (sg det err)]) ∧ Below w.heap.size w w' := by
  obtain ⟨⟨x0, x1, x2⟩, ⟨y0, y1, y2⟩, ⟨z0, z1, z2⟩, u0, u1, u2⟩ := tame4 h
  simp only [Bool.and_eq_true] at h
  have g1 : (!inB3 a0 a1 a2) = false := by rw [h.1.1.1]; rfl
  have g2 : (!inB3 b0 b1 b2) = false := by rw [h.1.1.2]; rfl
  have g3 : (!inB3 c0 c1 c2) = false := by rw [h.1.2]; rfl
  have g4 : (!inB3 d0 d1 d2) = false := by rw [h.2]; rfl
  clear h
  have r1 := fun w => run_float_arith (P := Try.prog) w .mul 46 .f64 _ _ _ km
  have HF : Hid (Flt.F (fl (a0 - d0)) 29 ∧ Flt.F (fl (a1 - d1)) 29 ∧ Flt.F (fl (a2 - d2)) 29) := ⟨f0, f1, f2⟩
  have HC : Hid (Cross (fl (b1 - d1)) (fl (c2 - d2)) (fl (b2 - d2)) (fl (c1 - d1)) p P ∧ Cross (fl (b2 - d2)) (fl (c0 - d0)) (fl (b0 - d0)) (fl (c2 - d2)) q Q ∧ Cross (fl (b0 - d0)) (fl (c1 - d1)) (fl (b1 - d1)) (fl (c0 - d0)) r R) := ⟨kp, kq, kr⟩
  have HT : Hid (Three (fl (a0 - d0)) (fl (a1 - d1)) (fl (a2 - d2)) p q r det ∧ Three (Flt.absN (fl (a0 - d0))) (Flt.absN (fl (a1 - d1))) (Flt.absN (fl (a2 - d2))) P Q R per) := ⟨kd, ke⟩
  clear f0 f1 f2 kp kq kr kd ke km
  go_enter Try.func25, Try.ntmps25
  go_wp2_with fail
  refine (wild3_any _ _ _ _).mono ?_
  rintro e w1 ⟨rfl, hb1⟩
  obtain ⟨hc, hf⟩ := bcell hb1
  go_wp2_with fail
  refine (wild3_any _ _ _ _).mono ?_
  rintro e w2 ⟨rfl, hb2⟩
  have hb12 := hb1.trans (hb2.mono hb1.size)
  clear hc hf hb1 hb2
  obtain ⟨hc2, hf2⟩ := bcell hb12
  go_wp2_with fail
  refine (wild3_any _ _ _ _).mono ?_
  rintro e w3 ⟨rfl, hb3⟩
  have hb13 := hb12.trans (hb3.mono hb12.size)
  clear hc2 hf2 hb12 hb3
  obtain ⟨hc3, hf3⟩ := bcell hb13
  go_wp2_with fail
  refine (wild3_any _ _ _ _).mono ?_
  rintro e w4 ⟨rfl, hb4⟩
  have hb14 := hb13.trans (hb4.mono hb13.size)
  clear hc3 hf3 hb13 hb4
  have hS := S4.start hb14
  have hs4 := hS.2.2.2.2
  have HB : Hid (Below w.heap.size w w4) := (below_alloc4 _ _ _ _ _).trans (hb14.mono (by simp; omega))
  clear hb14
  go_wp2_with fail
  refine wp_region_noPanic ?_
  refine wp_region_held_drew (S := fun w' => Below (w.heap.size + 4) w4 w') (by kernel_rfl) (Joins.below_draws _ _ 1) ?_
  intro hS'
  have hread : ∀ wx, Below (w.heap.size + 4) w4 wx → S4 w.heap.size #[.int .i64 a0, .int .i64 a1, .int .i64 a2] #[.int .i64 b0, .int .i64 b1, .int .i64 b2] #[.int .i64 c0, .int .i64 c1, .int .i64 c2] #[.int .i64 d0, .int .i64 d1, .int .i64 d2] wx := fun wx hx => S4.of hS hx
  have HR : Hid (∀ wx, Below (w.heap.size + 4) w4 wx → S4 w.heap.size #[.int .i64 a0, .int .i64 a1, .int .i64 a2] #[.int .i64 b0, .int .i64 b1, .int .i64 b2] #[.int .i64 c0, .int .i64 c1, .int .i64 c2] #[.int .i64 d0, .int .i64 d1, .int .i64 d2] wx) := hread
  clear hread hS
  refine wpAnyH_take (i := 0) (v := .agg #[.int .i64 a0, .int .i64 a1, .int .i64 a2]) rfl (by kernel_rfl) (by kernel_rfl) (by kernel_rfl) (fun _ _ _ h => h) (.inl ⟨by rfl, ?_⟩) hS' ?_
  · intro wx hx
    have hx4 := HR.out wx hx
    clear hx
    go_simp
  simp only [Act.put, List.setIfInBounds_toArray]
  refine wpAnyH_take (i := 1) (v := .agg #[.int .i64 d0, .int .i64 d1, .int .i64 d2]) rfl (by kernel_rfl) (by kernel_rfl) (by kernel_rfl) (fun _ _ _ h => h) (.inl ⟨by rfl, ?_⟩) hS' ?_
  · intro wx hx
    have hx4 := HR.out wx hx
    clear hx
    go_simp
  simp only [Act.put]
  refine wpAnyH_take (i := 4) (v := .agg #[.int .i64 b0, .int .i64 b1, .int .i64 b2]) rfl (by kernel_rfl) (by kernel_rfl) (by kernel_rfl) (fun _ _ _ h => h) (.inl ⟨by rfl, ?_⟩) hS' ?_
  · intro wx hx
    have hx4 := HR.out wx hx
    clear hx
    go_simp
  simp only [Act.put]
  refine wpAnyH_take (i := 5) (v := .agg #[.int .i64 d0, .int .i64 d1, .int .i64 d2]) rfl (by kernel_rfl) (by kernel_rfl) (by kernel_rfl) (fun _ _ _ h => h) (.inl ⟨by rfl, ?_⟩) hS' ?_
  · intro wx hx
    have hx4 := HR.out wx hx
    clear hx
    go_simp
  simp only [Act.put]
  refine wpAnyH_take (i := 8) (v := .agg #[.int .i64 c0, .int .i64 c1, .int .i64 c2]) rfl (by kernel_rfl) (by kernel_rfl) (by kernel_rfl) (fun _ _ _ h => h) (.inl ⟨by rfl, ?_⟩) hS' ?_
  · intro wx hx
    have hx4 := HR.out wx hx
    clear hx
    go_simp
  simp only [Act.put]
  refine wpAnyH_take (i := 9) (v := .agg #[.int .i64 d0, .int .i64 d1, .int .i64 d2]) rfl (by kernel_rfl) (by kernel_rfl) (by kernel_rfl) (fun _ _ _ h => h) (.inl ⟨by rfl, ?_⟩) hS' ?_
  · intro wx hx
    have hx4 := HR.out wx hx
    clear hx
    go_simp
  simp only [Act.put]
  refine wpAnyH_cast (f' := 9 + 3) (l' := LST 0 false false false) (a' := FRM w.heap.size a0 a1 a2 b0 b1 b2 c0 c1 c2 d0 d1 d2 0 undef undef undef) (by kernel_rfl) (by kernel_rfl) (by rfl) ?_
  refine interleave (w.heap.size + 4) 6 (.cells #[.float .f64 0, .float .f64 0, .float .f64 0] 92) LST (FRM w.heap.size a0 a1 a2 b0 b1 b2 c0 c1 c2 d0 d1 d2) idx 12 13 14 3 ?hr ?hlc ?hl1 ?hl2 ?hl3 ?hS ?hN ?hcall ?ha1 ?ha2 ?ha3 ?fin 9 0 false false false undef undef undef 0 0 0 _ (by omega) (by rfl) hS' At1.none At1.none At1.none (fun h => by cases h) (fun h => by cases h) (fun h => by cases h)
  case hr =>
    intro k m1 m2 m3 hk hne
    have h7 : k = 0 ∨ k = 1 ∨ k = 2 ∨ k = 3 ∨ k = 4 ∨ k = 5 ∨ k = 6 := by omega
    rcases h7 with rfl | rfl | rfl | rfl | rfl | rfl | rfl <;> cases m1 <;> cases m2 <;> cases m3 <;> first | (exfalso; simp at hne; done) | (show _ = _; kernel_rfl)
  case hlc =>
    intro k m1 m2 m3 hk
    rcases six hk with rfl | rfl | rfl | rfl | rfl | rfl <;> rfl
  case hl1 => intro k m2 m3 hk; rfl
  case hl2 => intro k m2 m3 hk; rfl
  case hl3 => intro k m2 m3 hk; rfl
  case hS => intro wa wb ha hb; exact ha.trans (hb.mono (by have := ha.size; omega))
  case hN => intro wa ha; have := ha.size; omega
  case hcall =>
    intro k hk t1 t2 t3 wx K hx hK
    rcases six hk with rfl | rfl | rfl | rfl | rfl | rfl
    · change wpOp _ _ _ 2 _ _ _
      refine wpOp_step (o := _) rfl (fun K' hK' => ?_)
      clear hS' hx
      simp only [FRM, cc, Nat.reduceLT, reduceIte]
      go_simp
      refine (less3_any _ _ _ _ _ _ _ x0 x1 x2 u0 u1 u2).mono ?_
      rintro e w' ⟨rfl, hb⟩
      exact hK' _ _ (hK w' hb)
    · change wpOp _ _ _ 3 _ _ _
      refine wpOp_step (o := _) rfl (fun K' hK' => ?_)
      clear hS' hx
      simp only [FRM, cc, Nat.reduceLT, reduceIte]
      go_simp
      refine (floats_any _ _ _ _).mono ?_
      rintro e w' ⟨rfl, hb⟩
      exact hK' _ _ (hK w' hb)
    · change wpOp _ _ _ 6 _ _ _
      refine wpOp_step (o := _) rfl (fun K' hK' => ?_)
      clear hS' hx
      simp only [FRM, cc, Nat.reduceLT, reduceIte]
      go_simp
      refine (less3_any _ _ _ _ _ _ _ y0 y1 y2 u0 u1 u2).mono ?_
      rintro e w' ⟨rfl, hb⟩
      exact hK' _ _ (hK w' hb)
    · change wpOp _ _ _ 7 _ _ _
      refine wpOp_step (o := _) rfl (fun K' hK' => ?_)
      clear hS' hx
      simp only [FRM, cc, Nat.reduceLT, reduceIte]
      go_simp
      refine (floats_any _ _ _ _).mono ?_
      rintro e w' ⟨rfl, hb⟩
      exact hK' _ _ (hK w' hb)
    · change wpOp _ _ _ 10 _ _ _
      refine wpOp_step (o := _) rfl (fun K' hK' => ?_)
      clear hS' hx
      simp only [FRM, cc, Nat.reduceLT, reduceIte]
      go_simp
      refine (less3_any _ _ _ _ _ _ _ z0 z1 z2 u0 u1 u2).mono ?_
      rintro e w' ⟨rfl, hb⟩
      exact hK' _ _ (hK w' hb)
    · change wpOp _ _ _ 11 _ _ _
      refine wpOp_step (o := _) rfl (fun K' hK' => ?_)
      clear hS' hx
      simp only [FRM, cc, Nat.reduceLT, reduceIte]
      go_simp
      refine (floats_any _ _ _ _).mono ?_
      rintro e w' ⟨rfl, hb⟩
      exact hK' _ _ (hK w' hb)
  case ha1 =>
    intro k hk t2 t3 wx K h
    refine wpOp_step (o := _) rfl (fun K' hK' => ?_)
    simp only [FRM]
    go_simp
    exact hK' _ _ h
  case ha2 =>
    intro k hk t1 t3 wx K h
    refine wpOp_step (o := _) rfl (fun K' hK' => ?_)
    simp only [FRM]
    go_simp
    exact hK' _ _ h
  case ha3 =>
    intro k hk t1 t2 wx K h
    refine wpOp_step (o := _) rfl (fun K' hK' => ?_)
    simp only [FRM]
    go_simp
    exact hK' _ _ h
  case fin =>
    clear hS'
    intro g1 g2 g3 wx hx q1 q2 q3 n1 n2 n3 d12 d13 d23
    refine wpAnyH_all (rs := [15]) (by kernel_rfl) (by simp) ?_
    intro i hi
    rw [List.mem_singleton] at hi
    subst hi
    refine wpOp_step (o := _) rfl (fun K' hK' => ?_)
    have kc : ∀ j, wx.cell? ⟨g1, j, none⟩ = #[.float .f64 0, .float .f64 0, .float .f64 0][j]? := fun j => Joins.cell_of_block q1 j
    have kf : ∀ j, wx.frozen? ⟨g1, j, none⟩ = false := fun j => Joins.unfrozen_of_block q1 j
    have hbel : Below (w.heap.size + 4) w4 (W3 wx g1 (.float .f64 (fl (a0 - d0))) (.float .f64 (fl (a1 - d1))) (.float .f64 (fl (a2 - d2)))) := W3_below hx n1
    have r1 : (W3 wx g1 (.float .f64 (fl (a0 - d0))) (.float .f64 (fl (a1 - d1))) (.float .f64 (fl (a2 - d2)))).heap[g1]? = some (.cells #[.float .f64 (fl (a0 - d0)), .float .f64 (fl (a1 - d1)), .float .f64 (fl (a2 - d2))] 92) := W3_at q1
    have r2 := (W3_other (w := wx) (g := g1) (u0 := .float .f64 (fl (a0 - d0))) (u1 := .float .f64 (fl (a1 - d1))) (u2 := .float .f64 (fl (a2 - d2))) d12.symm).trans q2
    have r3 := (W3_other (w := wx) (g := g1) (u0 := .float .f64 (fl (a0 - d0))) (u1 := .float .f64 (fl (a1 - d1))) (u2 := .float .f64 (fl (a2 - d2))) d13.symm).trans q3
    have HH : Hid (Below (w.heap.size + 4) w4 (W3 wx g1 (.float .f64 (fl (a0 - d0))) (.float .f64 (fl (a1 - d1))) (.float .f64 (fl (a2 - d2)))) ∧ (W3 wx g1 (.float .f64 (fl (a0 - d0))) (.float .f64 (fl (a1 - d1))) (.float .f64 (fl (a2 - d2)))).heap[g1]? = _ ∧ (W3 wx g1 (.float .f64 (fl (a0 - d0))) (.float .f64 (fl (a1 - d1))) (.float .f64 (fl (a2 - d2)))).heap[g2]? = _ ∧ (W3 wx g1 (.float .f64 (fl (a0 - d0))) (.float .f64 (fl (a1 - d1))) (.float .f64 (fl (a2 - d2)))).heap[g3]? = _) := ⟨hbel, r1, r2, r3⟩
    clear hbel r1 r2 r3 hx q1 q2 q3
    simp only [FRM, cc, Nat.reduceLT, reduceIte]
    go_simp
    refine hK' _ _ ⟨HH.out.1, ?_⟩
    clear hK' K'
    change wpAnyH _ _ _ _ _ _ _ _ (W3 wx g1 (.float .f64 (fl (a0 - d0))) (.float .f64 (fl (a1 - d1))) (.float .f64 (fl (a2 - d2))))
    obtain ⟨hx, q1, q2, q3⟩ := HH.out
    clear HH kc kf
    generalize W3 wx g1 (.float .f64 (fl (a0 - d0))) (.float .f64 (fl (a1 - d1))) (.float .f64 (fl (a2 - d2))) = wy at hx q1 q2 q3 ⊢
    clear wx
    refine wpAnyH_all (rs := [16]) (by kernel_rfl) (by simp) ?_
    intro i hi
    rw [List.mem_singleton] at hi
    subst hi
    refine wpOp_step (o := _) rfl (fun K' hK' => ?_)
    have kc : ∀ j, wy.cell? ⟨g2, j, none⟩ = #[.float .f64 0, .float .f64 0, .float .f64 0][j]? := fun j => Joins.cell_of_block q2 j
    have kf : ∀ j, wy.frozen? ⟨g2, j, none⟩ = false := fun j => Joins.unfrozen_of_block q2 j
    have hbel : Below (w.heap.size + 4) w4 (W3 wy g2 (.float .f64 (fl (b0 - d0))) (.float .f64 (fl (b1 - d1))) (.float .f64 (fl (b2 - d2)))) := W3_below hx n2
    have r2 : (W3 wy g2 (.float .f64 (fl (b0 - d0))) (.float .f64 (fl (b1 - d1))) (.float .f64 (fl (b2 - d2)))).heap[g2]? = some (.cells #[.float .f64 (fl (b0 - d0)), .float .f64 (fl (b1 - d1)), .float .f64 (fl (b2 - d2))] 92) := W3_at q2
    have r1 := (W3_other (w := wy) (g := g2) (u0 := .float .f64 (fl (b0 - d0))) (u1 := .float .f64 (fl (b1 - d1))) (u2 := .float .f64 (fl (b2 - d2))) d12).trans q1
    have r3 := (W3_other (w := wy) (g := g2) (u0 := .float .f64 (fl (b0 - d0))) (u1 := .float .f64 (fl (b1 - d1))) (u2 := .float .f64 (fl (b2 - d2))) d23.symm).trans q3
    have HH : Hid (Below (w.heap.size + 4) w4 (W3 wy g2 (.float .f64 (fl (b0 - d0))) (.float .f64 (fl (b1 - d1))) (.float .f64 (fl (b2 - d2)))) ∧ (W3 wy g2 (.float .f64 (fl (b0 - d0))) (.float .f64 (fl (b1 - d1))) (.float .f64 (fl (b2 - d2)))).heap[g1]? = _ ∧ (W3 wy g2 (.float .f64 (fl (b0 - d0))) (.float .f64 (fl (b1 - d1))) (.float .f64 (fl (b2 - d2)))).heap[g2]? = _ ∧ (W3 wy g2 (.float .f64 (fl (b0 - d0))) (.float .f64 (fl (b1 - d1))) (.float .f64 (fl (b2 - d2)))).heap[g3]? = _) := ⟨hbel, r1, r2, r3⟩
    clear hbel r1 r2 r3 hx q1 q2 q3
    go_simp
    refine hK' _ _ ⟨HH.out.1, ?_⟩
    clear hK' K'
    change wpAnyH _ _ _ _ _ _ _ _ (W3 wy g2 (.float .f64 (fl (b0 - d0))) (.float .f64 (fl (b1 - d1))) (.float .f64 (fl (b2 - d2))))
    obtain ⟨hx, q1, q2, q3⟩ := HH.out
    clear HH kc kf
    generalize W3 wy g2 (.float .f64 (fl (b0 - d0))) (.float .f64 (fl (b1 - d1))) (.float .f64 (fl (b2 - d2))) = wz at hx q1 q2 q3 ⊢
    clear wy
    refine wpAnyH_all (rs := [17]) (by kernel_rfl) (by simp) ?_
    intro i hi
    rw [List.mem_singleton] at hi
    subst hi
    refine wpOp_step (o := _) rfl (fun K' hK' => ?_)
    have kc : ∀ j, wz.cell? ⟨g3, j, none⟩ = #[.float .f64 0, .float .f64 0, .float .f64 0][j]? := fun j => Joins.cell_of_block q3 j
    have kf : ∀ j, wz.frozen? ⟨g3, j, none⟩ = false := fun j => Joins.unfrozen_of_block q3 j
    have hbel : Below (w.heap.size + 4) w4 (W3 wz g3 (.float .f64 (fl (c0 - d0))) (.float .f64 (fl (c1 - d1))) (.float .f64 (fl (c2 - d2)))) := W3_below hx n3
    have r3 : (W3 wz g3 (.float .f64 (fl (c0 - d0))) (.float .f64 (fl (c1 - d1))) (.float .f64 (fl (c2 - d2)))).heap[g3]? = some (.cells #[.float .f64 (fl (c0 - d0)), .float .f64 (fl (c1 - d1)), .float .f64 (fl (c2 - d2))] 92) := W3_at q3
    have r1 := (W3_other (w := wz) (g := g3) (u0 := .float .f64 (fl (c0 - d0))) (u1 := .float .f64 (fl (c1 - d1))) (u2 := .float .f64 (fl (c2 - d2))) d13).trans q1
    have r2 := (W3_other (w := wz) (g := g3) (u0 := .float .f64 (fl (c0 - d0))) (u1 := .float .f64 (fl (c1 - d1))) (u2 := .float .f64 (fl (c2 - d2))) d23).trans q2
    have HH : Hid (Below (w.heap.size + 4) w4 (W3 wz g3 (.float .f64 (fl (c0 - d0))) (.float .f64 (fl (c1 - d1))) (.float .f64 (fl (c2 - d2)))) ∧ (W3 wz g3 (.float .f64 (fl (c0 - d0))) (.float .f64 (fl (c1 - d1))) (.float .f64 (fl (c2 - d2)))).heap[g1]? = _ ∧ (W3 wz g3 (.float .f64 (fl (c0 - d0))) (.float .f64 (fl (c1 - d1))) (.float .f64 (fl (c2 - d2)))).heap[g2]? = _ ∧ (W3 wz g3 (.float .f64 (fl (c0 - d0))) (.float .f64 (fl (c1 - d1))) (.float .f64 (fl (c2 - d2)))).heap[g3]? = _) := ⟨hbel, r1, r2, r3⟩
    clear hbel r1 r2 r3 hx q1 q2 q3
    go_simp
    refine hK' _ _ ⟨HH.out.1, ?_⟩
    clear hK' K'
    change wpAnyH _ _ _ _ _ _ _ _ (W3 wz g3 (.float .f64 (fl (c0 - d0))) (.float .f64 (fl (c1 - d1))) (.float .f64 (fl (c2 - d2))))
    obtain ⟨hx, q1, q2, q3⟩ := HH.out
    clear HH kc kf
    generalize W3 wz g3 (.float .f64 (fl (c0 - d0))) (.float .f64 (fl (c1 - d1))) (.float .f64 (fl (c2 - d2))) = wv at hx q1 q2 q3 ⊢
    clear wz
    refine wpAnyH_done (by kernel_rfl) ?_ _
    refine NoPanic.normal ?_
    have k1 : ∀ j, wv.cell? ⟨g1, j, none⟩ = #[.float .f64 (fl (a0 - d0)), .float .f64 (fl (a1 - d1)), .float .f64 (fl (a2 - d2))][j]? := fun j => Joins.cell_of_block q1 j
    have k2 : ∀ j, wv.cell? ⟨g2, j, none⟩ = #[.float .f64 (fl (b0 - d0)), .float .f64 (fl (b1 - d1)), .float .f64 (fl (b2 - d2))][j]? := fun j => Joins.cell_of_block q2 j
    have k3 : ∀ j, wv.cell? ⟨g3, j, none⟩ = #[.float .f64 (fl (c0 - d0)), .float .f64 (fl (c1 - d1)), .float .f64 (fl (c2 - d2))][j]? := fun j => Joins.cell_of_block q3 j
    have HX : Hid (Below w.heap.size w wv ∧ g1 < wv.heap.size) := ⟨HB.out.trans (hx.mono (by omega)), lt_of_heap q1⟩
    clear q1 q2 q3 hx n1 n2 n3 d12 d13 d23 hs4 HB HR
    go_wp2_with fail
    refine (minor_of HC.out.1 _).mono ?_
    rintro e w' ⟨rfl, rfl⟩
    go_wp2_with fail
    refine (minor_of HC.out.2.1 _).mono ?_
    rintro e w' ⟨rfl, rfl⟩
    go_wp2_with fail
    refine (minor_of HC.out.2.2 _).mono ?_
    rintro e w' ⟨rfl, rfl⟩
    go_wp2_with fail
    refine (dot_of HT.out.1 _).mono ?_
    rintro e wd ⟨rfl, hbd⟩
    have k1' : ∀ j, wd.cell? ⟨g1, j, none⟩ = #[.float .f64 (fl (a0 - d0)), .float .f64 (fl (a1 - d1)), .float .f64 (fl (a2 - d2))][j]? := fun j => by
      rw [hbd.cell (p := ⟨g1, j, none⟩) HX.out.2]; exact k1 j
    have HD : Hid (Below w.heap.size w wd) := HX.out.1.trans (hbd.mono HX.out.1.size)
    clear k1 k2 k3 HX hbd
    go_wp2_with fail
    refine (sizes_any _ _ _ _ HF.out.1.2 HF.out.2.1.2 HF.out.2.2.2).mono ?_
    rintro e ws ⟨rfl, hbs⟩
    have HS : Hid (Below w.heap.size w ws) := HD.out.trans (hbs.mono HD.out.size)
    clear k1' HD hbs
    go_wp2_with fail
    refine (dot_of HT.out.2 _).mono ?_
    rintro e we ⟨rfl, hbe⟩
    have HE : Hid (Below w.heap.size w we) := HS.out.trans (hbe.mono HS.out.size)
    clear HS hbe
    go_wp2_with fail
    refine (sureSign_any _ _ _).mono ?_
    rintro e w' ⟨rfl, rfl⟩
    go_wp2
    go_ret3
    exact ⟨rfl, HE.out⟩
end Go.Proofs.Ytikepklkjbohmaa
