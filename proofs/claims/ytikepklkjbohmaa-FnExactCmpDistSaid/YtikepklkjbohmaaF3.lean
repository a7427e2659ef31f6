import Derived.Test.YtikepklkjbohmaaTame
namespace Go.Proofs.Ytikepklkjbohmaa
open Go.RowKit

def Cross (x y z u p q : Nat) : Prop := ∃ s t, floatBits .mul .f64 x y = some s ∧ floatBits .mul .f64 z u = some t ∧ floatBits .sub .f64 s t = some p ∧ floatBits .add .f64 (Flt.absN s) (Flt.absN t) = some q ∧ Flt.F s 200 ∧ Flt.F t 200
def Three (f0 f1 f2 g0 g1 g2 r : Nat) : Prop := ∃ a b s c, floatBits .mul .f64 f0 g0 = some a ∧ floatBits .mul .f64 f1 g1 = some b ∧ floatBits .add .f64 a b = some s ∧ floatBits .mul .f64 f2 g2 = some c ∧ floatBits .add .f64 s c = some r

theorem cross_ex {x y z u : Nat} {b c : Int} (hx : Flt.F x b) (hy : Flt.F y c) (hz : Flt.F z b) (hu : Flt.F u c) (h0 : 0 ≤ b + c + 1) (h1 : b + c + 2 ≤ 200) :
    ∃ p q, Cross x y z u p q ∧ Flt.F p (b + c + 4) ∧ Flt.F q (b + c + 4) := by
  obtain ⟨s, hs, fs⟩ := Flt.mulF hx hy h0 (by omega)
  obtain ⟨t, ht, ft⟩ := Flt.mulF hz hu h0 (by omega)
  obtain ⟨p, hp, fp⟩ := Flt.subF fs ft (by omega) (by omega)
  obtain ⟨q, hq, fq⟩ := Flt.addF (Flt.absF fs) (Flt.absF ft) (by omega) (by omega)
  exact ⟨p, q, ⟨s, t, hs, ht, hp, hq, fs.mono h1, ft.mono h1⟩, fp.mono (by omega), fq.mono (by omega)⟩

theorem three_ex {f0 f1 f2 g0 g1 g2 : Nat} {b c : Int} (h0 : Flt.F f0 b) (h1 : Flt.F f1 b) (h2 : Flt.F f2 b) (h3 : Flt.F g0 c) (h4 : Flt.F g1 c) (h5 : Flt.F g2 c) (hb : 0 ≤ b + c + 1) (hc : b + c + 6 ≤ 900) :
    ∃ r, Three f0 f1 f2 g0 g1 g2 r ∧ Flt.F r (b + c + 6) := by
  obtain ⟨s, hs, fs⟩ := Flt.mulF h0 h3 hb (by omega)
  obtain ⟨t, ht, ft⟩ := Flt.mulF h1 h4 hb (by omega)
  obtain ⟨p, hp, fp⟩ := Flt.addF fs ft (by omega) (by omega)
  obtain ⟨q, hq, fq⟩ := Flt.mulF h2 h5 hb (by omega)
  obtain ⟨r, hr, fr⟩ := Flt.addF fp (fq.mono (show b + c + 2 ≤ b + c + 2 + 2 by omega)) (by omega) (by omega)
  exact ⟨r, ⟨s, t, p, q, hs, ht, hp, hq, hr⟩, fr.mono (by omega)⟩

theorem minor_of {x y z u p q : Nat} (h : Cross x y z u p q) (w : World) :
    Calls Try.prog 60 #[.float .f64 x, .float .f64 y, .float .f64 z, .float .f64 u] w fun e w' => e = .returned (.tuple #[.float .f64 p, .float .f64 q]) ∧ w' = w := by
  obtain ⟨s, t, h1, h2, h3, h4, fs, ft⟩ := h
  exact minor_any x y z u s t p q w h1 h2 h3 h4 fs.2 ft.2
theorem l2Cross_of {x y z u p q : Nat} (h : Cross x y z u p q) (w : World) :
    Calls Try.prog 54 #[.float .f64 x, .float .f64 y, .float .f64 z, .float .f64 u] w fun e w' => e = .returned (.float .f64 p) ∧ w' = w := by
  obtain ⟨s, t, h1, h2, h3, h4, fs, ft⟩ := h
  exact l2Cross_any x y z u s t p w h1 h2 h3
theorem l2Both_of {x y z u p q : Nat} (h : Cross x y z u p q) (w : World) :
    Calls Try.prog 57 #[.float .f64 x, .float .f64 y, .float .f64 z, .float .f64 u] w fun e w' => e = .returned (.float .f64 q) ∧ w' = w := by
  obtain ⟨s, t, h1, h2, h3, h4, fs, ft⟩ := h
  exact l2Both_any x y z u s t q 200 w h1 h2 h4 fs ft
theorem l2Three_of {f0 f1 f2 g0 g1 g2 r : Nat} (h : Three f0 f1 f2 g0 g1 g2 r) (w : World) :
    Calls Try.prog 55 #[.float .f64 f0, .float .f64 g0, .float .f64 f1, .float .f64 g1, .float .f64 f2, .float .f64 g2] w fun e w' => e = .returned (.float .f64 r) ∧ w' = w := by
  obtain ⟨a, b, s, c, h1, h2, h3, h4, h5⟩ := h
  exact l2Three_any _ _ _ _ _ _ _ _ _ _ _ w h1 h2 h3 h4 h5
theorem dot_of {f0 f1 f2 g0 g1 g2 r : Nat} (h : Three f0 f1 f2 g0 g1 g2 r) (w : World) :
    Calls Try.prog 61 #[V3f f0 f1 f2, V3f g0 g1 g2] w fun e w' => e = .returned (.float .f64 r) ∧ Below w.heap.size w w' := by
  obtain ⟨a, b, s, c, h1, h2, h3, h4, h5⟩ := h
  exact dot_any _ _ _ _ _ _ _ _ _ _ _ w h1 h2 h3 h4 h5

/-- Four rows of three. -/
def pick4 (a b c d : Int) : Nat → Int := fun j => if j = 0 then a else if j = 1 then b else if j = 2 then c else d
theorem lt4 {p : Nat → Prop} (h0 : p 0) (h1 : p 1) (h2 : p 2) (h3 : p 3) : ∀ j, j < 4 → p j := by
  intro j hj
  have : j = 0 ∨ j = 1 ∨ j = 2 ∨ j = 3 := by omega
  rcases this with rfl | rfl | rfl | rfl <;> assumption
theorem all4 (a0 a1 a2 b0 b1 b2 c0 c1 c2 d0 d1 d2 : Int) : (allB 4 fun j => inB3 (pick4 a0 b0 c0 d0 j) (pick4 a1 b1 c1 d1 j) (pick4 a2 b2 c2 d2 j)) = (inB3 a0 a1 a2 && inB3 b0 b1 b2 && inB3 c0 c1 c2 && inB3 d0 d1 d2) := by
  simp [allB, pick4]

theorem below_alloc5 (w : World) (o1 o2 o3 o4 o5 : Obj) : Below w.heap.size w (((((w.alloc o1).alloc o2).alloc o3).alloc o4).alloc o5) :=
  ((Joins.below_alloc3 w o1 o2 o3).alloc (by simp; omega) o4).alloc (by simp; omega) o5
theorem below_alloc4 (w : World) (o1 o2 o3 o4 : Obj) : Below w.heap.size w ((((w.alloc o1).alloc o2).alloc o3).alloc o4) :=
  (Joins.below_alloc3 w o1 o2 o3).alloc (by simp; omega) o4
theorem inB3_out {x y z : Int} (h : inB3 x y z = true) : (-67108864 ≤ x ∧ x ≤ 67108864) ∧ (-67108864 ≤ y ∧ y ≤ 67108864) ∧ (-67108864 ≤ z ∧ z ≤ 67108864) := by
  unfold inB3 at h
  simp only [Bool.and_eq_true] at h
  exact ⟨inB_out h.1.1, inB_out h.1.2, inB_out h.2⟩
theorem tame4 {a0 a1 a2 b0 b1 b2 c0 c1 c2 d0 d1 d2 : Int} (h : (inB3 a0 a1 a2 && inB3 b0 b1 b2 && inB3 c0 c1 c2 && inB3 d0 d1 d2) = true) :
    ((-67108864 ≤ a0 ∧ a0 ≤ 67108864) ∧ (-67108864 ≤ a1 ∧ a1 ≤ 67108864) ∧ (-67108864 ≤ a2 ∧ a2 ≤ 67108864)) ∧ ((-67108864 ≤ b0 ∧ b0 ≤ 67108864) ∧ (-67108864 ≤ b1 ∧ b1 ≤ 67108864) ∧ (-67108864 ≤ b2 ∧ b2 ≤ 67108864)) ∧
    ((-67108864 ≤ c0 ∧ c0 ≤ 67108864) ∧ (-67108864 ≤ c1 ∧ c1 ≤ 67108864) ∧ (-67108864 ≤ c2 ∧ c2 ≤ 67108864)) ∧ ((-67108864 ≤ d0 ∧ d0 ≤ 67108864) ∧ (-67108864 ≤ d1 ∧ d1 ≤ 67108864) ∧ (-67108864 ≤ d2 ∧ d2 ≤ 67108864)) := by
  simp only [Bool.and_eq_true] at h
  exact ⟨inB3_out h.1.1.1, inB3_out h.1.1.2, inB3_out h.1.2, inB3_out h.2⟩

abbrev fl (x : Int) : Nat := floatOfInt .f64 x

set_option maxHeartbeats 1000000 in
theorem specF3_wild (a0 a1 a2 b0 b1 b2 c0 c1 c2 d0 d1 d2 : Int) (w : World) (h : (inB3 a0 a1 a2 && inB3 b0 b1 b2 && inB3 c0 c1 c2 && inB3 d0 d1 d2) = false) :
    Calls Try.prog 24 #[V3i a0 a1 a2, V3i b0 b1 b2, V3i c0 c1 c2, V3i d0 d1 d2] w fun e w' => e = .returned (.tuple #[.float .f64 0, .float .f64 0, .int .i64 2]) ∧ Below w.heap.size w w' := by
  have H : Hid ((allB 4 fun j => inB3 (pick4 a0 b0 c0 d0 j) (pick4 a1 b1 c1 d1 j) (pick4 a2 b2 c2 d2 j)) = false) := by unfold Hid; rw [all4]; exact h
  clear h
  go_enter Try.func24, Try.ntmps24
  go_wp2_with fail
  refine (l2Tame_any _ 4 _ (pick4 a0 b0 c0 d0) (pick4 a1 b1 c1 d1) (pick4 a2 b2 c2 d2) _ (by omega) ?_ ?_ ?_).mono ?_
  · refine lt4 ?_ ?_ ?_ ?_ <;> (rw [Joins.cell_alloc_mark_at _ _ _ _ _ _ (by simp)]; rfl)
  · refine lt4 ?_ ?_ ?_ ?_ <;> (rw [Joins.cell_alloc_mark_at _ _ _ _ _ _ (by simp)]; rfl)
  · refine lt4 ?_ ?_ ?_ ?_ <;> (rw [Joins.cell_alloc_mark_at _ _ _ _ _ _ (by simp)]; rfl)
  rw [H.out]
  rintro e w' ⟨rfl, rfl⟩
  go_wp2
  go_ret3
  exact ⟨rfl, below_alloc5 _ _ _ _ _ _⟩

set_option maxHeartbeats 1000000 in
theorem specF3_tame (a0 a1 a2 b0 b1 b2 c0 c1 c2 d0 d1 d2 : Int) (p q r P Q R det per err : Nat) (w : World) (h : (inB3 a0 a1 a2 && inB3 b0 b1 b2 && inB3 c0 c1 c2 && inB3 d0 d1 d2) = true)
    (kp : Cross (fl (b1 - d1)) (fl (c2 - d2)) (fl (b2 - d2)) (fl (c1 - d1)) p P) (kq : Cross (fl (b2 - d2)) (fl (c0 - d0)) (fl (b0 - d0)) (fl (c2 - d2)) q Q) (kr : Cross (fl (b0 - d0)) (fl (c1 - d1)) (fl (b1 - d1)) (fl (c0 - d0)) r R)
    (kd : Three (fl (a0 - d0)) (fl (a1 - d1)) (fl (a2 - d2)) p q r det) (ke : Three (Flt.absN (fl (a0 - d0))) (Flt.absN (fl (a1 - d1))) (Flt.absN (fl (a2 - d2))) P Q R per) (km : floatBits .mul .f64 per 4382002437431492608 = some err)
    (f0 : Flt.F (fl (a0 - d0)) 29) (f1 : Flt.F (fl (a1 - d1)) 29) (f2 : Flt.F (fl (a2 - d2)) 29) :
    Calls Try.prog 24 #[V3i a0 a1 a2, V3i b0 b1 b2, V3i c0 c1 c2, V3i d0 d1 d2] w fun e w' => e = .returned (.tuple #[.float .f64 det, .float .f64 err, .int .i64 (sg det err)]) ∧ Below w.heap.size w w' := by
  have H : Hid ((allB 4 fun j => inB3 (pick4 a0 b0 c0 d0 j) (pick4 a1 b1 c1 d1 j) (pick4 a2 b2 c2 d2 j)) = true) := by unfold Hid; rw [all4]; exact h
  obtain ⟨⟨x0, x1, x2⟩, ⟨y0, y1, y2⟩, ⟨z0, z1, z2⟩, u0, u1, u2⟩ := tame4 h
  clear h
  have r1 := fun w => run_float_arith (P := Try.prog) w .mul 46 .f64 _ _ _ km
  have HF : Hid (Flt.F (fl (a0 - d0)) 29 ∧ Flt.F (fl (a1 - d1)) 29 ∧ Flt.F (fl (a2 - d2)) 29) := ⟨f0, f1, f2⟩
  have HC : Hid (Cross (fl (b1 - d1)) (fl (c2 - d2)) (fl (b2 - d2)) (fl (c1 - d1)) p P ∧ Cross (fl (b2 - d2)) (fl (c0 - d0)) (fl (b0 - d0)) (fl (c2 - d2)) q Q ∧ Cross (fl (b0 - d0)) (fl (c1 - d1)) (fl (b1 - d1)) (fl (c0 - d0)) r R) := ⟨kp, kq, kr⟩
  have HT : Hid (Three (fl (a0 - d0)) (fl (a1 - d1)) (fl (a2 - d2)) p q r det ∧ Three (Flt.absN (fl (a0 - d0))) (Flt.absN (fl (a1 - d1))) (Flt.absN (fl (a2 - d2))) P Q R per) := ⟨kd, ke⟩
  clear f0 f1 f2 kp kq kr kd ke km
  go_enter Try.func24, Try.ntmps24
  go_wp2_with fail
  refine (l2Tame_any _ 4 _ (pick4 a0 b0 c0 d0) (pick4 a1 b1 c1 d1) (pick4 a2 b2 c2 d2) _ (by omega) ?_ ?_ ?_).mono ?_
  · refine lt4 ?_ ?_ ?_ ?_ <;> (rw [Joins.cell_alloc_mark_at _ _ _ _ _ _ (by simp)]; rfl)
  · refine lt4 ?_ ?_ ?_ ?_ <;> (rw [Joins.cell_alloc_mark_at _ _ _ _ _ _ (by simp)]; rfl)
  · refine lt4 ?_ ?_ ?_ ?_ <;> (rw [Joins.cell_alloc_mark_at _ _ _ _ _ _ (by simp)]; rfl)
  rw [H.out]
  rintro e w' ⟨rfl, rfl⟩
  go_wp2_with fail
  go_quiet (fail)
  go_wp2_with fail
  go_quiet (fail)
  go_wp2_with fail
  go_quiet (fail)
  go_wp2_with fail
  refine (l2Cross_of HC.out.1 _).mono ?_
  rintro e w' ⟨rfl, rfl⟩
  go_wp2_with fail
  refine (l2Cross_of HC.out.2.1 _).mono ?_
  rintro e w' ⟨rfl, rfl⟩
  go_wp2_with fail
  refine (l2Cross_of HC.out.2.2 _).mono ?_
  rintro e w' ⟨rfl, rfl⟩
  go_wp2_with fail
  refine (l2Three_of HT.out.1 _).mono ?_
  rintro e w' ⟨rfl, rfl⟩
  go_wp2_with fail
  refine (l2Abs_any _ 29 _ HF.out.1).mono ?_
  rintro e w' ⟨rfl, rfl⟩
  go_wp2_with fail
  refine (l2Both_of HC.out.1 _).mono ?_
  rintro e w' ⟨rfl, rfl⟩
  go_wp2_with fail
  refine (l2Abs_any _ 29 _ HF.out.2.1).mono ?_
  rintro e w' ⟨rfl, rfl⟩
  go_wp2_with fail
  refine (l2Both_of HC.out.2.1 _).mono ?_
  rintro e w' ⟨rfl, rfl⟩
  go_wp2_with fail
  refine (l2Abs_any _ 29 _ HF.out.2.2).mono ?_
  rintro e w' ⟨rfl, rfl⟩
  go_wp2_with fail
  refine (l2Both_of HC.out.2.2 _).mono ?_
  rintro e w' ⟨rfl, rfl⟩
  go_wp2_with fail
  refine (l2Three_of HT.out.2 _).mono ?_
  rintro e w' ⟨rfl, rfl⟩
  go_wp2_with fail
  refine (l2Sure_any _ _ _).mono ?_
  rintro e w' ⟨rfl, rfl⟩
  go_wp2
  go_ret3
  refine ⟨rfl, ?_⟩
  exact (below_alloc5 _ _ _ _ _ _).trans (Joins.below_draws _ _ _)
end Go.Proofs.Ytikepklkjbohmaa
