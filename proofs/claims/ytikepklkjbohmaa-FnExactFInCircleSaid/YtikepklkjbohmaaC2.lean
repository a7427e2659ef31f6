import Derived.Test.YtikepklkjbohmaaF3Law
namespace Go.Proofs.Ytikepklkjbohmaa
open Go.RowKit
attribute [local go_sem] run_store_float

abbrev V2i (a b : Int) : Value := .agg #[.int .i64 a, .int .i64 b]

set_option maxHeartbeats 400000 in
theorem less2_any (a b x y : Int) (w : World) (h1 : -67108864 ≤ a ∧ a ≤ 67108864) (h2 : -67108864 ≤ b ∧ b ≤ 67108864)
    (h4 : -67108864 ≤ x ∧ x ≤ 67108864) (h5 : -67108864 ≤ y ∧ y ≤ 67108864) :
    Calls Try.prog 44 #[V2i a b, V2i x y] w fun e w' => e = .returned (V3i (a - x) (b - y) 0) ∧ Below w.heap.size w w' := by
  go_enter Try.func44, Try.ntmps44
  go_wp2
  refine bodyPost_ret (v := V3i (a - x) (b - y) 0) (by simp [results, Try.results44, go_sem]) rfl ⟨rfl, ?_⟩
  exact Joins.below_alloc3 _ _ _ _

set_option maxHeartbeats 400000 in
theorem toP2_any (a b : Int) (w : World) :
    Calls Try.prog 17 #[V2i a b] w fun e w' => e = .returned (V2i a b) ∧ Below w.heap.size w w' := by
  go_enter Try.func17, Try.ntmps17
  go_wp2
  refine bodyPost_ret (v := V2i a b) (by simp [results, Try.results17, go_sem]) rfl ⟨rfl, ?_⟩
  exact Joins.below_alloc3 _ _ _ _

theorem all4c (a0 a1 b0 b1 c0 c1 d0 d1 : Int) : (allB 4 fun j => inB2 (pick4 a0 b0 c0 d0 j) (pick4 a1 b1 c1 d1 j)) = (inB2 a0 a1 && inB2 b0 b1 && inB2 c0 c1 && inB2 d0 d1) := by
  simp [allB, pick4]
theorem inB2_out {x y : Int} (h : inB2 x y = true) : (-67108864 ≤ x ∧ x ≤ 67108864) ∧ (-67108864 ≤ y ∧ y ≤ 67108864) := by
  unfold inB2 at h
  simp only [Bool.and_eq_true] at h
  exact ⟨inB_out h.1, inB_out h.2⟩
theorem tame4c {a0 a1 b0 b1 c0 c1 d0 d1 : Int} (h : (inB2 a0 a1 && inB2 b0 b1 && inB2 c0 c1 && inB2 d0 d1) = true) :
    ((-67108864 ≤ a0 ∧ a0 ≤ 67108864) ∧ (-67108864 ≤ a1 ∧ a1 ≤ 67108864)) ∧ ((-67108864 ≤ b0 ∧ b0 ≤ 67108864) ∧ (-67108864 ≤ b1 ∧ b1 ≤ 67108864)) ∧
    ((-67108864 ≤ c0 ∧ c0 ≤ 67108864) ∧ (-67108864 ≤ c1 ∧ c1 ≤ 67108864)) ∧ ((-67108864 ≤ d0 ∧ d0 ≤ 67108864) ∧ (-67108864 ≤ d1 ∧ d1 ≤ 67108864)) := by
  simp only [Bool.and_eq_true] at h
  exact ⟨inB2_out h.1.1.1, inB2_out h.1.1.2, inB2_out h.1.2, inB2_out h.2⟩

/-- The square of a step, as both tell it. -/
def Sq (x y s : Nat) : Prop := ∃ a b, floatBits .mul .f64 x x = some a ∧ floatBits .mul .f64 y y = some b ∧ floatBits .add .f64 a b = some s ∧ Flt.absN a = a ∧ Flt.absN b = b ∧ Flt.F a 60 ∧ Flt.F b 60
theorem sq_ex {x y : Nat} (hx : Flt.F x 29) (hy : Flt.F y 29) : ∃ s, Sq x y s ∧ Flt.F s 62 := by
  obtain ⟨a, ha, fa⟩ := Flt.mulF hx hx (by omega) (by omega)
  obtain ⟨b, hb, fb⟩ := Flt.mulF hy hy (by omega) (by omega)
  obtain ⟨s, hs, fs⟩ := Flt.addF fa fb (by omega) (by omega)
  exact ⟨s, ⟨a, b, ha, hb, hs, Flt.square_abs hx.1 (by omega) (by omega) ha, Flt.square_abs hy.1 (by omega) (by omega) hb, fa.mono (by omega), fb.mono (by omega)⟩, fs.mono (by omega)⟩
theorem l2Both_sq {x y s : Nat} (h : Sq x y s) (w : World) :
    Calls Try.prog 57 #[.float .f64 x, .float .f64 x, .float .f64 y, .float .f64 y] w fun e w' => e = .returned (.float .f64 s) ∧ w' = w := by
  obtain ⟨a, b, h1, h2, h3, e1, e2, fa, fb⟩ := h
  exact l2Both_any x x y y a b s 60 w h1 h2 (by rw [e1, e2]; exact h3) fa fb
theorem square_sq {x y z s : Nat} (h : Sq x y s) (w : World) :
    Calls Try.prog 64 #[V3f x y z] w fun e w' => e = .returned (.float .f64 s) ∧ Below w.heap.size w w' := by
  obtain ⟨a, b, h1, h2, h3, e1, e2, fa, fb⟩ := h
  exact square_any x y z a b s w h1 h2 h3

set_option maxHeartbeats 1000000 in
theorem specC_wild (a0 a1 b0 b1 c0 c1 d0 d1 : Int) (w : World) (h : (inB2 a0 a1 && inB2 b0 b1 && inB2 c0 c1 && inB2 d0 d1) = false) :
    Calls Try.prog 27 #[V2i a0 a1, V2i b0 b1, V2i c0 c1, V2i d0 d1] w fun e w' => e = .returned (.tuple #[.float .f64 0, .float .f64 0, .int .i64 2]) ∧ Below w.heap.size w w' := by
  have H : Hid ((allB 4 fun j => inB2 (pick4 a0 b0 c0 d0 j) (pick4 a1 b1 c1 d1 j)) = false) := by unfold Hid; rw [all4c]; exact h
  clear h
  go_enter Try.func27, Try.ntmps27
  go_wp2_with fail
  refine (l2Tame2_any _ 4 _ (pick4 a0 b0 c0 d0) (pick4 a1 b1 c1 d1) _ (by omega) ?_ ?_).mono ?_
  · refine lt4 ?_ ?_ ?_ ?_ <;> (rw [Joins.cell_alloc_mark_at _ _ _ _ _ _ (by simp)]; rfl)
  · refine lt4 ?_ ?_ ?_ ?_ <;> (rw [Joins.cell_alloc_mark_at _ _ _ _ _ _ (by simp)]; rfl)
  rw [H.out]
  rintro e w' ⟨rfl, rfl⟩
  go_wp2
  go_ret3
  exact ⟨rfl, below_alloc5 _ _ _ _ _ _⟩

set_option maxHeartbeats 1000000 in
theorem specC_tame (a0 a1 b0 b1 c0 c1 d0 d1 : Int) (A B C p q r P Q R det per err : Nat) (w : World) (h : (inB2 a0 a1 && inB2 b0 b1 && inB2 c0 c1 && inB2 d0 d1) = true)
    (sA : Sq (fl (a0 - d0)) (fl (a1 - d1)) A) (sB : Sq (fl (b0 - d0)) (fl (b1 - d1)) B) (sC : Sq (fl (c0 - d0)) (fl (c1 - d1)) C)
    (kp : Cross (fl (b0 - d0)) (fl (c1 - d1)) (fl (c0 - d0)) (fl (b1 - d1)) p P) (kq : Cross (fl (c0 - d0)) (fl (a1 - d1)) (fl (a0 - d0)) (fl (c1 - d1)) q Q) (kr : Cross (fl (a0 - d0)) (fl (b1 - d1)) (fl (b0 - d0)) (fl (a1 - d1)) r R)
    (kd : Three A B C p q r det) (ke : Three A B C P Q R per) (km : floatBits .mul .f64 per 4386506037058863104 = some err) :
    Calls Try.prog 27 #[V2i a0 a1, V2i b0 b1, V2i c0 c1, V2i d0 d1] w fun e w' => e = .returned (.tuple #[.float .f64 det, .float .f64 err, .int .i64 (sg det err)]) ∧ Below w.heap.size w w' := by
  have H : Hid ((allB 4 fun j => inB2 (pick4 a0 b0 c0 d0 j) (pick4 a1 b1 c1 d1 j)) = true) := by unfold Hid; rw [all4c]; exact h
  obtain ⟨⟨x0, x1⟩, ⟨y0, y1⟩, ⟨z0, z1⟩, u0, u1⟩ := tame4c h
  clear h
  have r1 := fun w => run_float_arith (P := Try.prog) w .mul 46 .f64 _ _ _ km
  have HQ : Hid (Sq (fl (a0 - d0)) (fl (a1 - d1)) A ∧ Sq (fl (b0 - d0)) (fl (b1 - d1)) B ∧ Sq (fl (c0 - d0)) (fl (c1 - d1)) C) := ⟨sA, sB, sC⟩
  have HC : Hid (Cross (fl (b0 - d0)) (fl (c1 - d1)) (fl (c0 - d0)) (fl (b1 - d1)) p P ∧ Cross (fl (c0 - d0)) (fl (a1 - d1)) (fl (a0 - d0)) (fl (c1 - d1)) q Q ∧ Cross (fl (a0 - d0)) (fl (b1 - d1)) (fl (b0 - d0)) (fl (a1 - d1)) r R) := ⟨kp, kq, kr⟩
  have HT : Hid (Three A B C p q r det ∧ Three A B C P Q R per) := ⟨kd, ke⟩
  clear sA sB sC kp kq kr kd ke km
  go_enter Try.func27, Try.ntmps27
  go_wp2_with fail
  refine (l2Tame2_any _ 4 _ (pick4 a0 b0 c0 d0) (pick4 a1 b1 c1 d1) _ (by omega) ?_ ?_).mono ?_
  · refine lt4 ?_ ?_ ?_ ?_ <;> (rw [Joins.cell_alloc_mark_at _ _ _ _ _ _ (by simp)]; rfl)
  · refine lt4 ?_ ?_ ?_ ?_ <;> (rw [Joins.cell_alloc_mark_at _ _ _ _ _ _ (by simp)]; rfl)
  rw [H.out]
  rintro e w' ⟨rfl, rfl⟩
  go_wp2_with fail
  go_quiet (fail)
  go_wp2_with fail
  go_quiet (fail)
  go_wp2_with fail
  go_quiet (fail)
  go_wp2_with fail
  refine (l2Both_sq HQ.out.1 _).mono ?_
  rintro e w' ⟨rfl, rfl⟩
  go_wp2_with fail
  refine (l2Both_sq HQ.out.2.1 _).mono ?_
  rintro e w' ⟨rfl, rfl⟩
  go_wp2_with fail
  refine (l2Both_sq HQ.out.2.2 _).mono ?_
  rintro e w' ⟨rfl, rfl⟩
  go_wp2_with fail
  refine (l2Cross_of HC.out.1 _).mono ?_
  rintro e w' ⟨rfl, rfl⟩
  go_wp2_with fail
  refine (l2Cross_of HC.out.2.1 _).mono ?_
  rintro e w' ⟨rfl, rfl⟩
  go_wp2_with fail
  refine (l2Cross_of HC.out.2.2 _).mono ?_
  rintro e w' ⟨rfl, rfl⟩
  go_wp2_with fail
  refine (l2Three_of HT.out.1 _).mono ?_
  rintro e w' ⟨rfl, rfl⟩
  go_wp2_with fail
  refine (l2Both_of HC.out.1 _).mono ?_
  rintro e w' ⟨rfl, rfl⟩
  go_wp2_with fail
  refine (l2Both_of HC.out.2.1 _).mono ?_
  rintro e w' ⟨rfl, rfl⟩
  go_wp2_with fail
  refine (l2Both_of HC.out.2.2 _).mono ?_
  rintro e w' ⟨rfl, rfl⟩
  go_wp2_with fail
  refine (l2Three_of HT.out.2 _).mono ?_
  rintro e w' ⟨rfl, rfl⟩
  go_wp2_with fail
  refine (l2Sure_any _ _ _).mono ?_
  rintro e w' ⟨rfl, rfl⟩
  go_wp2
  go_ret3
  exact ⟨rfl, (below_alloc5 _ _ _ _ _ _).trans (Joins.below_draws _ _ _)⟩

set_option maxHeartbeats 1000000 in
theorem implC_wild (a0 a1 b0 b1 c0 c1 d0 d1 : Int) (w : World) (h : (inB2 a0 a1 && inB2 b0 b1 && inB2 c0 c1 && inB2 d0 d1) = false) :
    Calls Try.prog 28 #[V2i a0 a1, V2i b0 b1, V2i c0 c1, V2i d0 d1] w fun e w' => e = .returned (.tuple #[.float .f64 0, .float .f64 0, .int .i64 2]) ∧ Below w.heap.size w w' := by
  cases h1 : inB2 a0 a1
  · have g1 : (!inB2 a0 a1) = true := by rw [h1]; rfl
    clear h h1
    go_enter Try.func28, Try.ntmps28
    go_wp2_with fail
    refine (wild2_any _ _ _).mono ?_
    rintro e w1 ⟨rfl, hb1⟩
    go_wp2
    go_ret3
    exact ⟨rfl, (below_alloc4 _ _ _ _ _).trans (hb1.mono (by simp; omega))⟩
  · have g1 : (!inB2 a0 a1) = false := by rw [h1]; rfl
    rw [h1, Bool.true_and] at h
    clear h1
    cases h2 : inB2 b0 b1
    · have g2 : (!inB2 b0 b1) = true := by rw [h2]; rfl
      clear h h2
      go_enter Try.func28, Try.ntmps28
      go_wp2_with fail
      refine (wild2_any _ _ _).mono ?_
      rintro e w1 ⟨rfl, hb1⟩
      obtain ⟨hc, hf⟩ := bcell hb1
      go_wp2_with fail
      refine (wild2_any _ _ _).mono ?_
      rintro e w2 ⟨rfl, hb2⟩
      go_wp2
      go_ret3
      exact ⟨rfl, (below_alloc4 _ _ _ _ _).trans ((hb1.trans (hb2.mono hb1.size)).mono (by simp; omega))⟩
    · have g2 : (!inB2 b0 b1) = false := by rw [h2]; rfl
      rw [h2, Bool.true_and] at h
      clear h2
      cases h3 : inB2 c0 c1
      · have g3 : (!inB2 c0 c1) = true := by rw [h3]; rfl
        clear h h3
        go_enter Try.func28, Try.ntmps28
        go_wp2_with fail
        refine (wild2_any _ _ _).mono ?_
        rintro e w1 ⟨rfl, hb1⟩
        obtain ⟨hc, hf⟩ := bcell hb1
        go_wp2_with fail
        refine (wild2_any _ _ _).mono ?_
        rintro e w2 ⟨rfl, hb2⟩
        have hb12 := hb1.trans (hb2.mono hb1.size)
        obtain ⟨hc2, hf2⟩ := bcell hb12
        go_wp2_with fail
        refine (wild2_any _ _ _).mono ?_
        rintro e w3 ⟨rfl, hb3⟩
        go_wp2
        go_ret3
        exact ⟨rfl, (below_alloc4 _ _ _ _ _).trans ((hb12.trans (hb3.mono hb12.size)).mono (by simp; omega))⟩
      · have g3 : (!inB2 c0 c1) = false := by rw [h3]; rfl
        rw [h3, Bool.true_and] at h
        have g4 : (!inB2 d0 d1) = true := by rw [h]; rfl
        clear h h3
        go_enter Try.func28, Try.ntmps28
        go_wp2_with fail
        refine (wild2_any _ _ _).mono ?_
        rintro e w1 ⟨rfl, hb1⟩
        obtain ⟨hc, hf⟩ := bcell hb1
        go_wp2_with fail
        refine (wild2_any _ _ _).mono ?_
        rintro e w2 ⟨rfl, hb2⟩
        have hb12 := hb1.trans (hb2.mono hb1.size)
        obtain ⟨hc2, hf2⟩ := bcell hb12
        go_wp2_with fail
        refine (wild2_any _ _ _).mono ?_
        rintro e w3 ⟨rfl, hb3⟩
        have hb13 := hb12.trans (hb3.mono hb12.size)
        obtain ⟨hc3, hf3⟩ := bcell hb13
        go_wp2_with fail
        refine (wild2_any _ _ _).mono ?_
        rintro e w4 ⟨rfl, hb4⟩
        go_wp2
        go_ret3
        exact ⟨rfl, (below_alloc4 _ _ _ _ _).trans ((hb13.trans (hb4.mono hb13.size)).mono (by simp; omega))⟩

end Go.Proofs.Ytikepklkjbohmaa
