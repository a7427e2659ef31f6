import Derived.Test.YtikepklkjbohmaaC2
import Derived.Test.YtikepklkjbohmaaInter1
namespace Go.Proofs.Ytikepklkjbohmaa
open Go.RowKit
attribute [local go_sem] run_store_float

section
variable (N : Nat) (a0 a1 b0 b1 c0 c1 d0 d1 : Int)
def FRC (k : Nat) (t1 t2 t3 : Value) : Act := { tmps := #[V2i a0 a1, V2i b0 b1, V2i c0 c1, V2i d0 d1, .pointer (some ⟨N, 0, none⟩), .pointer (some ⟨N + 1, 0, none⟩), .pointer (some ⟨N + 1 + 1, 0, none⟩), .pointer (some ⟨N + 1 + 1 + 1, 0, none⟩), .float .f64 0, .float .f64 0, .int .i64 0, t1, t2, t3, undef, undef, undef, undef, undef, undef, undef, undef, undef, .agg #[.int .i64 a0, .int .i64 a1], .bool false, .bool false, .agg #[.int .i64 b0, .int .i64 b1], .bool false, .bool false, .bool false, .agg #[.int .i64 c0, .int .i64 c1], .bool false, .bool false, .bool false, .agg #[.int .i64 d0, .int .i64 d1], .bool false, .bool false, .agg #[.int .i64 a0, .int .i64 a1], .agg #[.int .i64 d0, .int .i64 d1], cc 0 k (V3i (a0 - d0) (a1 - d1) 0), cc 1 k (V3f (fl (a0 - d0)) (fl (a1 - d1)) (fl 0)), .agg #[.int .i64 b0, .int .i64 b1], .agg #[.int .i64 d0, .int .i64 d1], cc 2 k (V3i (b0 - d0) (b1 - d1) 0), cc 3 k (V3f (fl (b0 - d0)) (fl (b1 - d1)) (fl 0)), .agg #[.int .i64 c0, .int .i64 c1], .agg #[.int .i64 d0, .int .i64 d1], cc 4 k (V3i (c0 - d0) (c1 - d1) 0), cc 5 k (V3f (fl (c0 - d0)) (fl (c1 - d1)) (fl 0)), undef, undef, undef, undef, undef, undef, undef, undef, undef, undef, undef, undef, undef, undef, undef, undef, undef, undef, undef, undef, undef, undef, undef, undef, undef, undef, undef, undef, undef, undef, undef, undef, undef, undef, undef, undef, undef, undef, undef, undef, undef, undef, undef, undef, undef, undef, undef, undef, undef, undef, undef, undef, undef, undef, undef, undef, undef, undef, undef, undef, undef], defers := [] }
end
section
variable (N g1 g2 g3 : Nat) (a0 a1 b0 b1 c0 c1 d0 d1 : Int) (A B C p q r P Q R : Nat)
def FRD (k : Nat) (t : Value) : Act := { tmps := #[V2i a0 a1, V2i b0 b1, V2i c0 c1, V2i d0 d1, .pointer (some ⟨N, 0, none⟩), .pointer (some ⟨N + 1, 0, none⟩), .pointer (some ⟨N + 1 + 1, 0, none⟩), .pointer (some ⟨N + 1 + 1 + 1, 0, none⟩), .float .f64 0, .float .f64 0, .int .i64 0, .pointer (some ⟨g1, 0, none⟩), .pointer (some ⟨g2, 0, none⟩), .pointer (some ⟨g3, 0, none⟩), .float .f64 p, .float .f64 P, .float .f64 q, .float .f64 Q, .float .f64 r, .float .f64 R, t, undef, undef, .agg #[.int .i64 a0, .int .i64 a1], .bool false, .bool false, .agg #[.int .i64 b0, .int .i64 b1], .bool false, .bool false, .bool false, .agg #[.int .i64 c0, .int .i64 c1], .bool false, .bool false, .bool false, .agg #[.int .i64 d0, .int .i64 d1], .bool false, .bool false, .agg #[.int .i64 a0, .int .i64 a1], .agg #[.int .i64 d0, .int .i64 d1], V3i (a0 - d0) (a1 - d1) 0, V3f (fl (a0 - d0)) (fl (a1 - d1)) (fl 0), .agg #[.int .i64 b0, .int .i64 b1], .agg #[.int .i64 d0, .int .i64 d1], V3i (b0 - d0) (b1 - d1) 0, V3f (fl (b0 - d0)) (fl (b1 - d1)) (fl 0), .agg #[.int .i64 c0, .int .i64 c1], .agg #[.int .i64 d0, .int .i64 d1], V3i (c0 - d0) (c1 - d1) 0, V3f (fl (c0 - d0)) (fl (c1 - d1)) (fl 0), .tuple #[.float .f64 p, .float .f64 P], .pointer (some ⟨g2, 0, none⟩), .float .f64 (fl (b0 - d0)), .pointer (some ⟨g3, 1, none⟩), .float .f64 (fl (c1 - d1)), .pointer (some ⟨g3, 0, none⟩), .float .f64 (fl (c0 - d0)), .pointer (some ⟨g2, 1, none⟩), .float .f64 (fl (b1 - d1)), .tuple #[.float .f64 p, .float .f64 P], .float .f64 p, .float .f64 P, .tuple #[.float .f64 q, .float .f64 Q], .pointer (some ⟨g3, 0, none⟩), .float .f64 (fl (c0 - d0)), .pointer (some ⟨g1, 1, none⟩), .float .f64 (fl (a1 - d1)), .pointer (some ⟨g1, 0, none⟩), .float .f64 (fl (a0 - d0)), .pointer (some ⟨g3, 1, none⟩), .float .f64 (fl (c1 - d1)), .tuple #[.float .f64 q, .float .f64 Q], .float .f64 q, .float .f64 Q, .tuple #[.float .f64 r, .float .f64 R], .pointer (some ⟨g1, 0, none⟩), .float .f64 (fl (a0 - d0)), .pointer (some ⟨g2, 1, none⟩), .float .f64 (fl (b1 - d1)), .pointer (some ⟨g2, 0, none⟩), .float .f64 (fl (b0 - d0)), .pointer (some ⟨g1, 1, none⟩), .float .f64 (fl (a1 - d1)), .tuple #[.float .f64 r, .float .f64 R], .float .f64 r, .float .f64 R, .agg #[.float .f64 (fl (a0 - d0)), .float .f64 (fl (a1 - d1)), .float .f64 (fl 0)], cc 0 k (.float .f64 A), .agg #[.float .f64 (fl (b0 - d0)), .float .f64 (fl (b1 - d1)), .float .f64 (fl 0)], cc 1 k (.float .f64 B), .agg #[.float .f64 (fl (c0 - d0)), .float .f64 (fl (c1 - d1)), .float .f64 (fl 0)], cc 2 k (.float .f64 C), cc 3 k (V3f A B C), undef, undef, undef, undef, undef, undef, undef, undef, undef, undef, undef, undef, undef, undef, undef, undef, undef, undef], defers := [] }
end
def LSD (k : Nat) (m : Bool) : Array Bool := #[true, decide (0 < k), true, decide (1 < k), true, decide (2 < k), decide (3 < k), m, false]
def idd (k : Nat) : Nat := if k = 0 then 1 else if k = 1 then 3 else if k = 2 then 5 else 6

set_option maxHeartbeats 4000000 in
theorem implC_tame (a0 a1 b0 b1 c0 c1 d0 d1 : Int) (A B C p q r P Q R det per err : Nat) (w : World) (h : (inB2 a0 a1 && inB2 b0 b1 && inB2 c0 c1 && inB2 d0 d1) = true)
    (sA : Sq (fl (a0 - d0)) (fl (a1 - d1)) A) (sB : Sq (fl (b0 - d0)) (fl (b1 - d1)) B) (sC : Sq (fl (c0 - d0)) (fl (c1 - d1)) C)
    (kp : Cross (fl (b0 - d0)) (fl (c1 - d1)) (fl (c0 - d0)) (fl (b1 - d1)) p P) (kq : Cross (fl (c0 - d0)) (fl (a1 - d1)) (fl (a0 - d0)) (fl (c1 - d1)) q Q) (kr : Cross (fl (a0 - d0)) (fl (b1 - d1)) (fl (b0 - d0)) (fl (a1 - d1)) r R)
    (kd : Three A B C p q r det) (ke : Three A B C P Q R per) (km : floatBits .mul .f64 per 4386506037058863104 = some err) :
    Calls Try.prog 28 #[V2i a0 a1, V2i b0 b1, V2i c0 c1, V2i d0 d1] w fun e w' => e = .returned (.tuple #[.float .f64 det, .float .f64 err, .int .i64 (sg det err)]) ∧ Below w.heap.size w w' := by
  obtain ⟨⟨x0, x1⟩, ⟨y0, y1⟩, ⟨z0, z1⟩, u0, u1⟩ := tame4c h
  simp only [Bool.and_eq_true] at h
  have g1 : (!inB2 a0 a1) = false := by rw [h.1.1.1]; rfl
  have g2 : (!inB2 b0 b1) = false := by rw [h.1.1.2]; rfl
  have g3 : (!inB2 c0 c1) = false := by rw [h.1.2]; rfl
  have g4 : (!inB2 d0 d1) = false := by rw [h.2]; rfl
  clear h
  have r1 := fun w => run_float_arith (P := Try.prog) w .mul 46 .f64 _ _ _ km
  have HQ : Hid (Sq (fl (a0 - d0)) (fl (a1 - d1)) A ∧ Sq (fl (b0 - d0)) (fl (b1 - d1)) B ∧ Sq (fl (c0 - d0)) (fl (c1 - d1)) C) := ⟨sA, sB, sC⟩
  have HC : Hid (Cross (fl (b0 - d0)) (fl (c1 - d1)) (fl (c0 - d0)) (fl (b1 - d1)) p P ∧ Cross (fl (c0 - d0)) (fl (a1 - d1)) (fl (a0 - d0)) (fl (c1 - d1)) q Q ∧ Cross (fl (a0 - d0)) (fl (b1 - d1)) (fl (b0 - d0)) (fl (a1 - d1)) r R) := ⟨kp, kq, kr⟩
  have HT : Hid (Three A B C p q r det ∧ Three A B C P Q R per) := ⟨kd, ke⟩
  clear sA sB sC kp kq kr kd ke km
  go_enter Try.func28, Try.ntmps28
  go_wp2_with fail
  refine (wild2_any _ _ _).mono ?_
  rintro e w1 ⟨rfl, hb1⟩
  obtain ⟨hc, hf⟩ := bcell hb1
  go_wp2_with fail
  refine (wild2_any _ _ _).mono ?_
  rintro e w2 ⟨rfl, hb2⟩
  have hb12 := hb1.trans (hb2.mono hb1.size)
  clear hc hf hb1 hb2
  obtain ⟨hc2, hf2⟩ := bcell hb12
  go_wp2_with fail
  refine (wild2_any _ _ _).mono ?_
  rintro e w3 ⟨rfl, hb3⟩
  have hb13 := hb12.trans (hb3.mono hb12.size)
  clear hc2 hf2 hb12 hb3
  obtain ⟨hc3, hf3⟩ := bcell hb13
  go_wp2_with fail
  refine (wild2_any _ _ _).mono ?_
  rintro e w4 ⟨rfl, hb4⟩
  have hb14 := hb13.trans (hb4.mono hb13.size)
  clear hc3 hf3 hb13 hb4
  have hS := S4.start hb14
  have hs4 := hS.2.2.2.2
  have HB : Hid (Below w.heap.size w w4) := (below_alloc4 _ _ _ _ _).trans (hb14.mono (by simp; omega))
  clear hb14
  go_wp2_with fail
  refine wp_region_noPanic ?_
  refine wp_region_held_drew (S := fun w' => Below (w.heap.size + 4) w4 w') (by kernel_rfl) (Joins.below_draws _ _ 1) ?_
  intro hS'
  have hread : ∀ wx, Below (w.heap.size + 4) w4 wx → S4 w.heap.size #[.int .i64 a0, .int .i64 a1] #[.int .i64 b0, .int .i64 b1] #[.int .i64 c0, .int .i64 c1] #[.int .i64 d0, .int .i64 d1] wx := fun wx hx => S4.of hS hx
  have HR : Hid (∀ wx, Below (w.heap.size + 4) w4 wx → S4 w.heap.size #[.int .i64 a0, .int .i64 a1] #[.int .i64 b0, .int .i64 b1] #[.int .i64 c0, .int .i64 c1] #[.int .i64 d0, .int .i64 d1] wx) := hread
  clear hread hS
  refine wpAnyH_take (i := 0) (v := .agg #[.int .i64 a0, .int .i64 a1]) rfl (by kernel_rfl) (by kernel_rfl) (by kernel_rfl) (fun _ _ _ h => h) (.inl ⟨by rfl, ?_⟩) hS' ?_
  · intro wx hx
    have hx4 := HR.out wx hx
    clear hx
    go_simp
  simp only [Act.put, List.setIfInBounds_toArray]
  refine wpAnyH_take (i := 1) (v := .agg #[.int .i64 d0, .int .i64 d1]) rfl (by kernel_rfl) (by kernel_rfl) (by kernel_rfl) (fun _ _ _ h => h) (.inl ⟨by rfl, ?_⟩) hS' ?_
  · intro wx hx
    have hx4 := HR.out wx hx
    clear hx
    go_simp
  simp only [Act.put]
  refine wpAnyH_take (i := 4) (v := .agg #[.int .i64 b0, .int .i64 b1]) rfl (by kernel_rfl) (by kernel_rfl) (by kernel_rfl) (fun _ _ _ h => h) (.inl ⟨by rfl, ?_⟩) hS' ?_
  · intro wx hx
    have hx4 := HR.out wx hx
    clear hx
    go_simp
  simp only [Act.put]
  refine wpAnyH_take (i := 5) (v := .agg #[.int .i64 d0, .int .i64 d1]) rfl (by kernel_rfl) (by kernel_rfl) (by kernel_rfl) (fun _ _ _ h => h) (.inl ⟨by rfl, ?_⟩) hS' ?_
  · intro wx hx
    have hx4 := HR.out wx hx
    clear hx
    go_simp
  simp only [Act.put]
  refine wpAnyH_take (i := 8) (v := .agg #[.int .i64 c0, .int .i64 c1]) rfl (by kernel_rfl) (by kernel_rfl) (by kernel_rfl) (fun _ _ _ h => h) (.inl ⟨by rfl, ?_⟩) hS' ?_
  · intro wx hx
    have hx4 := HR.out wx hx
    clear hx
    go_simp
  simp only [Act.put]
  refine wpAnyH_take (i := 9) (v := .agg #[.int .i64 d0, .int .i64 d1]) rfl (by kernel_rfl) (by kernel_rfl) (by kernel_rfl) (fun _ _ _ h => h) (.inl ⟨by rfl, ?_⟩) hS' ?_
  · intro wx hx
    have hx4 := HR.out wx hx
    clear hx
    go_simp
  simp only [Act.put]
  refine wpAnyH_cast (f' := 9 + 3) (l' := LST 0 false false false) (a' := FRC w.heap.size a0 a1 b0 b1 c0 c1 d0 d1 0 undef undef undef) (by kernel_rfl) (by kernel_rfl) (by rfl) ?_
  refine interleave (w.heap.size + 4) 6 (.cells #[.float .f64 0, .float .f64 0, .float .f64 0] 92) LST (FRC w.heap.size a0 a1 b0 b1 c0 c1 d0 d1) idx 12 13 14 3 ?hr ?hlc ?hl1 ?hl2 ?hl3 ?hS ?hN ?hcall ?ha1 ?ha2 ?ha3 ?fin 9 0 false false false undef undef undef 0 0 0 _ (by omega) (by rfl) hS' At1.none At1.none At1.none (fun h => by cases h) (fun h => by cases h) (fun h => by cases h)
  case hr =>
    intro k m1 m2 m3 hk hne
    have h7 : k = 0 ∨ k = 1 ∨ k = 2 ∨ k = 3 ∨ k = 4 ∨ k = 5 ∨ k = 6 := by omega
    rcases h7 with rfl | rfl | rfl | rfl | rfl | rfl | rfl <;> cases m1 <;> cases m2 <;> cases m3 <;> first | (exfalso; simp at hne; done) | (show _ = _; kernel_rfl)
  case hlc =>
    intro k m1 m2 m3 hk
    rcases six hk with rfl | rfl | rfl | rfl | rfl | rfl <;> rfl
  case hl1 => intro k m2 m3 hk; rfl
  case hl2 => intro k m2 m3 hk; rfl
  case hl3 => intro k m2 m3 hk; rfl
  case hS => intro wa wb ha hb; exact ha.trans (hb.mono (by have := ha.size; omega))
  case hN => intro wa ha; have := ha.size; omega
  case hcall =>
    intro k hk t1 t2 t3 wx K hx hK
    rcases six hk with rfl | rfl | rfl | rfl | rfl | rfl
    · change wpOp _ _ _ 2 _ _ _
      refine wpOp_step (o := _) rfl (fun K' hK' => ?_)
      clear hS' hx
      simp only [FRC, cc, Nat.reduceLT, reduceIte]
      go_simp
      refine (less2_any _ _ _ _ _ x0 x1 u0 u1).mono ?_
      rintro e w' ⟨rfl, hb⟩
      exact hK' _ _ (hK w' hb)
    · change wpOp _ _ _ 3 _ _ _
      refine wpOp_step (o := _) rfl (fun K' hK' => ?_)
      clear hS' hx
      simp only [FRC, cc, Nat.reduceLT, reduceIte]
      go_simp
      refine (floats_any _ _ _ _).mono ?_
      rintro e w' ⟨rfl, hb⟩
      exact hK' _ _ (hK w' hb)
    · change wpOp _ _ _ 6 _ _ _
      refine wpOp_step (o := _) rfl (fun K' hK' => ?_)
      clear hS' hx
      simp only [FRC, cc, Nat.reduceLT, reduceIte]
      go_simp
      refine (less2_any _ _ _ _ _ y0 y1 u0 u1).mono ?_
      rintro e w' ⟨rfl, hb⟩
      exact hK' _ _ (hK w' hb)
    · change wpOp _ _ _ 7 _ _ _
      refine wpOp_step (o := _) rfl (fun K' hK' => ?_)
      clear hS' hx
      simp only [FRC, cc, Nat.reduceLT, reduceIte]
      go_simp
      refine (floats_any _ _ _ _).mono ?_
      rintro e w' ⟨rfl, hb⟩
      exact hK' _ _ (hK w' hb)
    · change wpOp _ _ _ 10 _ _ _
      refine wpOp_step (o := _) rfl (fun K' hK' => ?_)
      clear hS' hx
      simp only [FRC, cc, Nat.reduceLT, reduceIte]
      go_simp
      refine (less2_any _ _ _ _ _ z0 z1 u0 u1).mono ?_
      rintro e w' ⟨rfl, hb⟩
      exact hK' _ _ (hK w' hb)
    · change wpOp _ _ _ 11 _ _ _
      refine wpOp_step (o := _) rfl (fun K' hK' => ?_)
      clear hS' hx
      simp only [FRC, cc, Nat.reduceLT, reduceIte]
      go_simp
      refine (floats_any _ _ _ _).mono ?_
      rintro e w' ⟨rfl, hb⟩
      exact hK' _ _ (hK w' hb)
  case ha1 =>
    intro k hk t2 t3 wx K h
    refine wpOp_step (o := _) rfl (fun K' hK' => ?_)
    simp only [FRC]
    go_simp
    exact hK' _ _ h
  case ha2 =>
    intro k hk t1 t3 wx K h
    refine wpOp_step (o := _) rfl (fun K' hK' => ?_)
    simp only [FRC]
    go_simp
    exact hK' _ _ h
  case ha3 =>
    intro k hk t1 t2 wx K h
    refine wpOp_step (o := _) rfl (fun K' hK' => ?_)
    simp only [FRC]
    go_simp
    exact hK' _ _ h
  case fin =>
    clear hS'
    intro g1 g2 g3 wx hx q1 q2 q3 n1 n2 n3 d12 d13 d23
    refine wpAnyH_all (rs := [15]) (by kernel_rfl) (by simp) ?_
    intro i hi
    rw [List.mem_singleton] at hi
    subst hi
    refine wpOp_step (o := _) rfl (fun K' hK' => ?_)
    have kc : ∀ j, wx.cell? ⟨g1, j, none⟩ = #[.float .f64 0, .float .f64 0, .float .f64 0][j]? := fun j => Joins.cell_of_block q1 j
    have kf : ∀ j, wx.frozen? ⟨g1, j, none⟩ = false := fun j => Joins.unfrozen_of_block q1 j
    have hbel : Below (w.heap.size + 4) w4 (W3 wx g1 (.float .f64 (fl (a0 - d0))) (.float .f64 (fl (a1 - d1))) (.float .f64 (fl 0))) := W3_below hx n1
    have r1 : (W3 wx g1 (.float .f64 (fl (a0 - d0))) (.float .f64 (fl (a1 - d1))) (.float .f64 (fl 0))).heap[g1]? = some (.cells #[.float .f64 (fl (a0 - d0)), .float .f64 (fl (a1 - d1)), .float .f64 (fl 0)] 92) := W3_at q1
    have r2 := (W3_other (w := wx) (g := g1) (u0 := .float .f64 (fl (a0 - d0))) (u1 := .float .f64 (fl (a1 - d1))) (u2 := .float .f64 (fl 0)) d12.symm).trans q2
    have r3 := (W3_other (w := wx) (g := g1) (u0 := .float .f64 (fl (a0 - d0))) (u1 := .float .f64 (fl (a1 - d1))) (u2 := .float .f64 (fl 0)) d13.symm).trans q3
    have HH : Hid (Below (w.heap.size + 4) w4 (W3 wx g1 (.float .f64 (fl (a0 - d0))) (.float .f64 (fl (a1 - d1))) (.float .f64 (fl 0))) ∧ (W3 wx g1 (.float .f64 (fl (a0 - d0))) (.float .f64 (fl (a1 - d1))) (.float .f64 (fl 0))).heap[g1]? = _ ∧ (W3 wx g1 (.float .f64 (fl (a0 - d0))) (.float .f64 (fl (a1 - d1))) (.float .f64 (fl 0))).heap[g2]? = _ ∧ (W3 wx g1 (.float .f64 (fl (a0 - d0))) (.float .f64 (fl (a1 - d1))) (.float .f64 (fl 0))).heap[g3]? = _) := ⟨hbel, r1, r2, r3⟩
    clear hbel r1 r2 r3 hx q1 q2 q3
    simp only [FRC, cc, Nat.reduceLT, reduceIte]
    go_simp
    refine hK' _ _ ⟨HH.out.1, ?_⟩
    clear hK' K'
    change wpAnyH _ _ _ _ _ _ _ _ (W3 wx g1 (.float .f64 (fl (a0 - d0))) (.float .f64 (fl (a1 - d1))) (.float .f64 (fl 0)))
    obtain ⟨hx, q1, q2, q3⟩ := HH.out
    clear HH kc kf
    generalize W3 wx g1 (.float .f64 (fl (a0 - d0))) (.float .f64 (fl (a1 - d1))) (.float .f64 (fl 0)) = wy at hx q1 q2 q3 ⊢
    clear wx
    refine wpAnyH_all (rs := [16]) (by kernel_rfl) (by simp) ?_
    intro i hi
    rw [List.mem_singleton] at hi
    subst hi
    refine wpOp_step (o := _) rfl (fun K' hK' => ?_)
    have kc : ∀ j, wy.cell? ⟨g2, j, none⟩ = #[.float .f64 0, .float .f64 0, .float .f64 0][j]? := fun j => Joins.cell_of_block q2 j
    have kf : ∀ j, wy.frozen? ⟨g2, j, none⟩ = false := fun j => Joins.unfrozen_of_block q2 j
    have hbel : Below (w.heap.size + 4) w4 (W3 wy g2 (.float .f64 (fl (b0 - d0))) (.float .f64 (fl (b1 - d1))) (.float .f64 (fl 0))) := W3_below hx n2
    have r2 : (W3 wy g2 (.float .f64 (fl (b0 - d0))) (.float .f64 (fl (b1 - d1))) (.float .f64 (fl 0))).heap[g2]? = some (.cells #[.float .f64 (fl (b0 - d0)), .float .f64 (fl (b1 - d1)), .float .f64 (fl 0)] 92) := W3_at q2
    have r1 := (W3_other (w := wy) (g := g2) (u0 := .float .f64 (fl (b0 - d0))) (u1 := .float .f64 (fl (b1 - d1))) (u2 := .float .f64 (fl 0)) d12).trans q1
    have r3 := (W3_other (w := wy) (g := g2) (u0 := .float .f64 (fl (b0 - d0))) (u1 := .float .f64 (fl (b1 - d1))) (u2 := .float .f64 (fl 0)) d23.symm).trans q3
    have HH : Hid (Below (w.heap.size + 4) w4 (W3 wy g2 (.float .f64 (fl (b0 - d0))) (.float .f64 (fl (b1 - d1))) (.float .f64 (fl 0))) ∧ (W3 wy g2 (.float .f64 (fl (b0 - d0))) (.float .f64 (fl (b1 - d1))) (.float .f64 (fl 0))).heap[g1]? = _ ∧ (W3 wy g2 (.float .f64 (fl (b0 - d0))) (.float .f64 (fl (b1 - d1))) (.float .f64 (fl 0))).heap[g2]? = _ ∧ (W3 wy g2 (.float .f64 (fl (b0 - d0))) (.float .f64 (fl (b1 - d1))) (.float .f64 (fl 0))).heap[g3]? = _) := ⟨hbel, r1, r2, r3⟩
    clear hbel r1 r2 r3 hx q1 q2 q3
    go_simp
    refine hK' _ _ ⟨HH.out.1, ?_⟩
    clear hK' K'
    change wpAnyH _ _ _ _ _ _ _ _ (W3 wy g2 (.float .f64 (fl (b0 - d0))) (.float .f64 (fl (b1 - d1))) (.float .f64 (fl 0)))
    obtain ⟨hx, q1, q2, q3⟩ := HH.out
    clear HH kc kf
    generalize W3 wy g2 (.float .f64 (fl (b0 - d0))) (.float .f64 (fl (b1 - d1))) (.float .f64 (fl 0)) = wz at hx q1 q2 q3 ⊢
    clear wy
    refine wpAnyH_all (rs := [17]) (by kernel_rfl) (by simp) ?_
    intro i hi
    rw [List.mem_singleton] at hi
    subst hi
    refine wpOp_step (o := _) rfl (fun K' hK' => ?_)
    have kc : ∀ j, wz.cell? ⟨g3, j, none⟩ = #[.float .f64 0, .float .f64 0, .float .f64 0][j]? := fun j => Joins.cell_of_block q3 j
    have kf : ∀ j, wz.frozen? ⟨g3, j, none⟩ = false := fun j => Joins.unfrozen_of_block q3 j
    have hbel : Below (w.heap.size + 4) w4 (W3 wz g3 (.float .f64 (fl (c0 - d0))) (.float .f64 (fl (c1 - d1))) (.float .f64 (fl 0))) := W3_below hx n3
    have r3 : (W3 wz g3 (.float .f64 (fl (c0 - d0))) (.float .f64 (fl (c1 - d1))) (.float .f64 (fl 0))).heap[g3]? = some (.cells #[.float .f64 (fl (c0 - d0)), .float .f64 (fl (c1 - d1)), .float .f64 (fl 0)] 92) := W3_at q3
    have r1 := (W3_other (w := wz) (g := g3) (u0 := .float .f64 (fl (c0 - d0))) (u1 := .float .f64 (fl (c1 - d1))) (u2 := .float .f64 (fl 0)) d13).trans q1
    have r2 := (W3_other (w := wz) (g := g3) (u0 := .float .f64 (fl (c0 - d0))) (u1 := .float .f64 (fl (c1 - d1))) (u2 := .float .f64 (fl 0)) d23).trans q2
    have HH : Hid (Below (w.heap.size + 4) w4 (W3 wz g3 (.float .f64 (fl (c0 - d0))) (.float .f64 (fl (c1 - d1))) (.float .f64 (fl 0))) ∧ (W3 wz g3 (.float .f64 (fl (c0 - d0))) (.float .f64 (fl (c1 - d1))) (.float .f64 (fl 0))).heap[g1]? = _ ∧ (W3 wz g3 (.float .f64 (fl (c0 - d0))) (.float .f64 (fl (c1 - d1))) (.float .f64 (fl 0))).heap[g2]? = _ ∧ (W3 wz g3 (.float .f64 (fl (c0 - d0))) (.float .f64 (fl (c1 - d1))) (.float .f64 (fl 0))).heap[g3]? = _) := ⟨hbel, r1, r2, r3⟩
    clear hbel r1 r2 r3 hx q1 q2 q3
    go_simp
    refine hK' _ _ ⟨HH.out.1, ?_⟩
    clear hK' K'
    change wpAnyH _ _ _ _ _ _ _ _ (W3 wz g3 (.float .f64 (fl (c0 - d0))) (.float .f64 (fl (c1 - d1))) (.float .f64 (fl 0)))
    obtain ⟨hx, q1, q2, q3⟩ := HH.out
    clear HH kc kf
    generalize W3 wz g3 (.float .f64 (fl (c0 - d0))) (.float .f64 (fl (c1 - d1))) (.float .f64 (fl 0)) = wv at hx q1 q2 q3 ⊢
    clear wz
    refine wpAnyH_done (by kernel_rfl) ?_ _
    refine NoPanic.normal ?_
    have k1 : ∀ j, wv.cell? ⟨g1, j, none⟩ = #[.float .f64 (fl (a0 - d0)), .float .f64 (fl (a1 - d1)), .float .f64 (fl 0)][j]? := fun j => Joins.cell_of_block q1 j
    have k2 : ∀ j, wv.cell? ⟨g2, j, none⟩ = #[.float .f64 (fl (b0 - d0)), .float .f64 (fl (b1 - d1)), .float .f64 (fl 0)][j]? := fun j => Joins.cell_of_block q2 j
    have k3 : ∀ j, wv.cell? ⟨g3, j, none⟩ = #[.float .f64 (fl (c0 - d0)), .float .f64 (fl (c1 - d1)), .float .f64 (fl 0)][j]? := fun j => Joins.cell_of_block q3 j
    have HX : Hid (Below w.heap.size w wv ∧ w.heap.size ≤ wv.heap.size) := ⟨HB.out.trans (hx.mono (by omega)), by have := HB.out.size; have := hx.size; omega⟩
    have l1 := lt_of_heap q1
    have l2 := lt_of_heap q2
    have l3 := lt_of_heap q3
    clear q1 q2 q3 hx n1 n2 n3 d12 d13 d23 hs4 HB HR
    go_wp2_with fail
    refine (minor_of HC.out.1 _).mono ?_
    rintro e w' ⟨rfl, rfl⟩
    go_wp2_with fail
    refine (minor_of HC.out.2.1 _).mono ?_
    rintro e w' ⟨rfl, rfl⟩
    go_wp2_with fail
    refine (minor_of HC.out.2.2 _).mono ?_
    rintro e ww ⟨rfl, rfl⟩
    go_wp2_with fail
    refine wp_region_noPanic ?_
    refine wp_region_held_drew (S := fun wx => Below ww.heap.size ww wx) (by kernel_rfl) (Joins.below_draws _ _ 1) ?_
    intro hS'
    have HK : Hid (∀ wx, Below ww.heap.size ww wx → (∀ j, wx.cell? ⟨g1, j, none⟩ = #[.float .f64 (fl (a0 - d0)), .float .f64 (fl (a1 - d1)), .float .f64 (fl 0)][j]?) ∧ (∀ j, wx.cell? ⟨g2, j, none⟩ = #[.float .f64 (fl (b0 - d0)), .float .f64 (fl (b1 - d1)), .float .f64 (fl 0)][j]?) ∧ (∀ j, wx.cell? ⟨g3, j, none⟩ = #[.float .f64 (fl (c0 - d0)), .float .f64 (fl (c1 - d1)), .float .f64 (fl 0)][j]?)) :=
      fun wx hx => ⟨fun j => (hx.cell (p := ⟨g1, j, none⟩) l1).trans (k1 j), fun j => (hx.cell (p := ⟨g2, j, none⟩) l2).trans (k2 j), fun j => (hx.cell (p := ⟨g3, j, none⟩) l3).trans (k3 j)⟩
    clear k1 k2 k3
    refine wpAnyH_take (i := 0) (v := .agg #[.float .f64 (fl (a0 - d0)), .float .f64 (fl (a1 - d1)), .float .f64 (fl 0)]) rfl (by kernel_rfl) (by kernel_rfl) (by kernel_rfl) (fun _ _ _ h => h) (.inl ⟨by rfl, ?_⟩) hS' ?_
    · intro wx hx
      have hx4 := HK.out wx hx
      clear hx
      go_simp
    simp only [Act.put, List.setIfInBounds_toArray]
    refine wpAnyH_take (i := 2) (v := .agg #[.float .f64 (fl (b0 - d0)), .float .f64 (fl (b1 - d1)), .float .f64 (fl 0)]) rfl (by kernel_rfl) (by kernel_rfl) (by kernel_rfl) (fun _ _ _ h => h) (.inl ⟨by rfl, ?_⟩) hS' ?_
    · intro wx hx
      have hx4 := HK.out wx hx
      clear hx
      go_simp
    simp only [Act.put]
    refine wpAnyH_take (i := 4) (v := .agg #[.float .f64 (fl (c0 - d0)), .float .f64 (fl (c1 - d1)), .float .f64 (fl 0)]) rfl (by kernel_rfl) (by kernel_rfl) (by kernel_rfl) (fun _ _ _ h => h) (.inl ⟨by rfl, ?_⟩) hS' ?_
    · intro wx hx
      have hx4 := HK.out wx hx
      clear hx
      go_simp
    simp only [Act.put]
    refine wpAnyH_cast (f' := 5 + 1) (l' := LSD 0 false) (a' := FRD w.heap.size g1 g2 g3 a0 a1 b0 b1 c0 c1 d0 d1 A B C p q r P Q R 0 undef) (by kernel_rfl) (by kernel_rfl) (by rfl) ?_
    refine interleave1 ww.heap.size 4 (.cells #[.float .f64 0, .float .f64 0, .float .f64 0] 92) LSD (FRD w.heap.size g1 g2 g3 a0 a1 b0 b1 c0 c1 d0 d1 A B C p q r P Q R) idd 7 1 ?hr ?hlc ?hl1 ?hS ?hN ?hcall ?ha1 ?fin 5 0 false undef 0 _ (by omega) (by rfl) hS' At1.none
    case hr =>
      intro k m1 hk hne
      have h7 : k = 0 ∨ k = 1 ∨ k = 2 ∨ k = 3 ∨ k = 4 := by omega
      rcases h7 with rfl | rfl | rfl | rfl | rfl <;> cases m1 <;> first | (exfalso; simp at hne; done) | (show _ = _; kernel_rfl)
    case hlc =>
      intro k m1 hk
      have h7 : k = 0 ∨ k = 1 ∨ k = 2 ∨ k = 3 := by omega
      rcases h7 with rfl | rfl | rfl | rfl <;> rfl
    case hl1 => intro k hk; rfl
    case hS => intro wa wb ha hb; exact ha.trans (hb.mono ha.size)
    case hN => intro wa ha; exact ha.size
    case hcall =>
      intro k hk t1 wx K hx hK
      have h7 : k = 0 ∨ k = 1 ∨ k = 2 ∨ k = 3 := by omega
      rcases h7 with rfl | rfl | rfl | rfl
      · change wpOp _ _ _ 1 _ _ _
        refine wpOp_step (o := _) rfl (fun K' hK' => ?_)
        clear hS' hx
        simp only [FRD, cc, Nat.reduceLT, reduceIte]
        go_simp
        refine (square_sq HQ.out.1 _).mono ?_
        rintro e w' ⟨rfl, hb⟩
        exact hK' _ _ (hK w' hb)
      · change wpOp _ _ _ 3 _ _ _
        refine wpOp_step (o := _) rfl (fun K' hK' => ?_)
        clear hS' hx
        simp only [FRD, cc, Nat.reduceLT, reduceIte]
        go_simp
        refine (square_sq HQ.out.2.1 _).mono ?_
        rintro e w' ⟨rfl, hb⟩
        exact hK' _ _ (hK w' hb)
      · change wpOp _ _ _ 5 _ _ _
        refine wpOp_step (o := _) rfl (fun K' hK' => ?_)
        clear hS' hx
        simp only [FRD, cc, Nat.reduceLT, reduceIte]
        go_simp
        refine (square_sq HQ.out.2.2 _).mono ?_
        rintro e w' ⟨rfl, hb⟩
        exact hK' _ _ (hK w' hb)
      · change wpOp _ _ _ 6 _ _ _
        refine wpOp_step (o := _) rfl (fun K' hK' => ?_)
        clear hS' hx
        simp only [FRD, cc, Nat.reduceLT, reduceIte]
        go_simp
        exact hK' _ _ (hK wx (Below.refl _ _))
    case ha1 =>
      intro k hk wx K h
      refine wpOp_step (o := _) rfl (fun K' hK' => ?_)
      simp only [FRD]
      go_simp
      exact hK' _ _ h
    case fin =>
      clear hS'
      intro g4 wx hx q4 n4
      refine wpAnyH_all (rs := [8]) (by kernel_rfl) (by simp) ?_
      intro i hi
      rw [List.mem_singleton] at hi
      subst hi
      refine wpOp_step (o := _) rfl (fun K' hK' => ?_)
      have kc : ∀ j, wx.cell? ⟨g4, j, none⟩ = #[.float .f64 0, .float .f64 0, .float .f64 0][j]? := fun j => Joins.cell_of_block q4 j
      have kf : ∀ j, wx.frozen? ⟨g4, j, none⟩ = false := fun j => Joins.unfrozen_of_block q4 j
      have hbel : Below ww.heap.size ww (W3 wx g4 (.float .f64 A) (.float .f64 B) (.float .f64 C)) := W3_below hx n4
      have r4 : (W3 wx g4 (.float .f64 A) (.float .f64 B) (.float .f64 C)).heap[g4]? = some (.cells #[.float .f64 A, .float .f64 B, .float .f64 C] 92) := W3_at q4
      have HH : Hid (Below ww.heap.size ww (W3 wx g4 (.float .f64 A) (.float .f64 B) (.float .f64 C)) ∧ (W3 wx g4 (.float .f64 A) (.float .f64 B) (.float .f64 C)).heap[g4]? = some (.cells #[.float .f64 A, .float .f64 B, .float .f64 C] 92)) := ⟨hbel, r4⟩
      clear hbel r4 hx q4
      simp only [FRD, cc, Nat.reduceLT, reduceIte]
      go_simp
      refine hK' _ _ ⟨HH.out.1, ?_⟩
      clear hK' K'
      change wpAnyH _ _ _ _ _ _ _ _ (W3 wx g4 (.float .f64 A) (.float .f64 B) (.float .f64 C))
      obtain ⟨hx, q4⟩ := HH.out
      clear HH kc kf
      generalize W3 wx g4 (.float .f64 A) (.float .f64 B) (.float .f64 C) = wy at hx q4 ⊢
      clear wx
      refine wpAnyH_done (by kernel_rfl) ?_ _
      refine NoPanic.normal ?_
      have k4 : ∀ j, wy.cell? ⟨g4, j, none⟩ = #[.float .f64 A, .float .f64 B, .float .f64 C][j]? := fun j => Joins.cell_of_block q4 j
      have l4 := lt_of_heap q4
      have HY : Hid (Below w.heap.size w wy) := HX.out.1.trans (hx.mono HX.out.2)
      clear q4 hx n4 HK HX l1 l2 l3
      go_wp2_with fail
      refine (dot_of HT.out.1 _).mono ?_
      rintro e wd ⟨rfl, hbd⟩
      have k4' : ∀ j, wd.cell? ⟨g4, j, none⟩ = #[.float .f64 A, .float .f64 B, .float .f64 C][j]? := fun j => (hbd.cell (p := ⟨g4, j, none⟩) l4).trans (k4 j)
      have HD : Hid (Below w.heap.size w wd) := HY.out.trans (hbd.mono HY.out.size)
      clear k4 l4 HY hbd
      go_wp2_with fail
      refine (dot_of HT.out.2 _).mono ?_
      rintro e we ⟨rfl, hbe⟩
      have HE : Hid (Below w.heap.size w we) := HD.out.trans (hbe.mono HD.out.size)
      clear HD hbe
      go_wp2_with fail
      refine (sureSign_any _ _ _).mono ?_
      rintro e w' ⟨rfl, rfl⟩
      go_wp2
      go_ret3
      exact ⟨rfl, HE.out⟩
end Go.Proofs.Ytikepklkjbohmaa
