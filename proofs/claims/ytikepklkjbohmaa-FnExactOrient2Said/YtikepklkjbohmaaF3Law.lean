import Derived.Test.YtikepklkjbohmaaF3i
namespace Go.Proofs.Ytikepklkjbohmaa
open Go.RowKit

set_option maxHeartbeats 400000 in
theorem sameFloat_any (x : Nat) (b : Int) (w : World) (h : Flt.F x b) :
    Calls Try.prog 26 #[.float .f64 x, .float .f64 x] w fun e w' => e = .returned (.bool true) ∧ w' = w := by
  have h1 : (FloatKind.f64.format.order x x != some Ordering.eq) = false := by rw [Flt.order_self h]; rfl
  have h2 : (FloatKind.f64.format.order x x == some Ordering.eq) = true := by rw [Flt.order_self h]; rfl
  rcases Flt.zero_or_not h with ⟨hz, r, hr⟩ | hz
  · have r1 := fun w => run_float_arith (P := Try.prog) w .quo 46 .f64 _ _ _ hr
    clear hr h
    go_enter Try.func26, Try.ntmps26
    go_wp2_with fail
    go_ret
    exact ⟨ret_bool (by simp), rfl⟩
  · clear h
    go_enter Try.func26, Try.ntmps26
    go_wp2_with fail
    go_ret
    exact ⟨rfl, rfl⟩

set_option maxHeartbeats 1000000 in
theorem lawF3_of (a0 a1 a2 b0 b1 b2 c0 c1 c2 d0 d1 d2 : Int) (x y : Nat) (k b : Int) (w : World) (hx : Flt.F x b) (hy : Flt.F y b)
    (hs : ∀ w, Calls Try.prog 24 #[.agg #[.int .i64 a0, .int .i64 a1, .int .i64 a2], .agg #[.int .i64 b0, .int .i64 b1, .int .i64 b2], .agg #[.int .i64 c0, .int .i64 c1, .int .i64 c2], .agg #[.int .i64 d0, .int .i64 d1, .int .i64 d2]] w fun e w' => e = .returned (.tuple #[.float .f64 x, .float .f64 y, .int .i64 k]) ∧ Below w.heap.size w w')
    (hi : ∀ w, Calls Try.prog 25 #[.agg #[.int .i64 a0, .int .i64 a1, .int .i64 a2], .agg #[.int .i64 b0, .int .i64 b1, .int .i64 b2], .agg #[.int .i64 c0, .int .i64 c1, .int .i64 c2], .agg #[.int .i64 d0, .int .i64 d1, .int .i64 d2]] w fun e w' => e = .returned (.tuple #[.float .f64 x, .float .f64 y, .int .i64 k]) ∧ Below w.heap.size w w') :
    Calls Try.prog 8 #[.agg #[.int .i64 a0, .int .i64 a1, .int .i64 a2], .agg #[.int .i64 b0, .int .i64 b1, .int .i64 b2], .agg #[.int .i64 c0, .int .i64 c1, .int .i64 c2], .agg #[.int .i64 d0, .int .i64 d1, .int .i64 d2]] w fun e w' => e = .returned (.bool true) ∧ Below w.heap.size w w' := by
  have HX : Hid (Flt.F x b ∧ Flt.F y b) := ⟨hx, hy⟩
  have HS : Hid (∀ w, Calls Try.prog 24 #[.agg #[.int .i64 a0, .int .i64 a1, .int .i64 a2], .agg #[.int .i64 b0, .int .i64 b1, .int .i64 b2], .agg #[.int .i64 c0, .int .i64 c1, .int .i64 c2], .agg #[.int .i64 d0, .int .i64 d1, .int .i64 d2]] w fun e w' => e = .returned (.tuple #[.float .f64 x, .float .f64 y, .int .i64 k]) ∧ Below w.heap.size w w') := hs
  have HI : Hid (∀ w, Calls Try.prog 25 #[.agg #[.int .i64 a0, .int .i64 a1, .int .i64 a2], .agg #[.int .i64 b0, .int .i64 b1, .int .i64 b2], .agg #[.int .i64 c0, .int .i64 c1, .int .i64 c2], .agg #[.int .i64 d0, .int .i64 d1, .int .i64 d2]] w fun e w' => e = .returned (.tuple #[.float .f64 x, .float .f64 y, .int .i64 k]) ∧ Below w.heap.size w w') := hi
  clear hx hy hs hi
  go_enter Try.func8, Try.ntmps8
  go_wp2_with fail
  have hS := S4.start (Below.refl (((((w.alloc (.cells #[.int .i64 a0, .int .i64 a1, .int .i64 a2] 39)).alloc (.cells #[.int .i64 b0, .int .i64 b1, .int .i64 b2] 39)).alloc (.cells #[.int .i64 c0, .int .i64 c1, .int .i64 c2] 39)).alloc (.cells #[.int .i64 d0, .int .i64 d1, .int .i64 d2] 39))).heap.size ((((w.alloc (.cells #[.int .i64 a0, .int .i64 a1, .int .i64 a2] 39)).alloc (.cells #[.int .i64 b0, .int .i64 b1, .int .i64 b2] 39)).alloc (.cells #[.int .i64 c0, .int .i64 c1, .int .i64 c2] 39)).alloc (.cells #[.int .i64 d0, .int .i64 d1, .int .i64 d2] 39)))
  have hB := below_alloc4 w (.cells #[.int .i64 a0, .int .i64 a1, .int .i64 a2] 39) (.cells #[.int .i64 b0, .int .i64 b1, .int .i64 b2] 39) (.cells #[.int .i64 c0, .int .i64 c1, .int .i64 c2] 39) (.cells #[.int .i64 d0, .int .i64 d1, .int .i64 d2] 39)
  go_region_held3 (fun w' => S4 w.heap.size #[.int .i64 a0, .int .i64 a1, .int .i64 a2] #[.int .i64 b0, .int .i64 b1, .int .i64 b2] #[.int .i64 c0, .int .i64 c1, .int .i64 c2] #[.int .i64 d0, .int .i64 d1, .int .i64 d2] w' ∧ Below w.heap.size w w') (first | exact ⟨S4.drew hS, hB.drew⟩ | (have hh := ‹(S4 w.heap.size #[.int .i64 a0, .int .i64 a1, .int .i64 a2] #[.int .i64 b0, .int .i64 b1, .int .i64 b2] #[.int .i64 c0, .int .i64 c1, .int .i64 c2] #[.int .i64 d0, .int .i64 d1, .int .i64 d2] _ ∧ Below w.heap.size w _)›; exact ⟨hh.1.call (by assumption), hh.2.trans (Below.mono (by assumption) hh.2.size)⟩))
    (first
      | (go_at_call 20; refine (toP3_any _ _ _ _).mono ?_; rintro e w' ⟨rfl, hb⟩)
      | (go_at_call 24; refine (HS.out _).mono ?_; rintro e w' ⟨rfl, hb⟩))
  have hh := ‹(S4 w.heap.size #[.int .i64 a0, .int .i64 a1, .int .i64 a2] #[.int .i64 b0, .int .i64 b1, .int .i64 b2] #[.int .i64 c0, .int .i64 c1, .int .i64 c2] #[.int .i64 d0, .int .i64 d1, .int .i64 d2] _ ∧ Below w.heap.size w _)›
  clear hS hB
  go_wp2_with fail
  go_region_held3 (fun w' => S4 w.heap.size #[.int .i64 a0, .int .i64 a1, .int .i64 a2] #[.int .i64 b0, .int .i64 b1, .int .i64 b2] #[.int .i64 c0, .int .i64 c1, .int .i64 c2] #[.int .i64 d0, .int .i64 d1, .int .i64 d2] w' ∧ Below w.heap.size w w') (first | exact ⟨S4.drew hh.1, hh.2.drew⟩ | (have hh' := ‹(S4 w.heap.size #[.int .i64 a0, .int .i64 a1, .int .i64 a2] #[.int .i64 b0, .int .i64 b1, .int .i64 b2] #[.int .i64 c0, .int .i64 c1, .int .i64 c2] #[.int .i64 d0, .int .i64 d1, .int .i64 d2] _ ∧ Below w.heap.size w _)›; exact ⟨hh'.1.call (by assumption), hh'.2.trans (Below.mono (by assumption) hh'.2.size)⟩))
    (first
      | (go_at_call 20; refine (toP3_any _ _ _ _).mono ?_; rintro e w' ⟨rfl, hb⟩)
      | (go_at_call 25; refine (HI.out _).mono ?_; rintro e w' ⟨rfl, hb⟩))
  clear hh
  have hh := ‹(S4 w.heap.size #[.int .i64 a0, .int .i64 a1, .int .i64 a2] #[.int .i64 b0, .int .i64 b1, .int .i64 b2] #[.int .i64 c0, .int .i64 c1, .int .i64 c2] #[.int .i64 d0, .int .i64 d1, .int .i64 d2] _ ∧ Below w.heap.size w _)›
  have HH : Hid _ := hh.2
  go_wp2_with fail
  refine (sameFloat_any x b _ HX.out.1).mono ?_
  rintro e w' ⟨rfl, rfl⟩
  go_wp2_with fail
  refine (sameFloat_any y b _ HX.out.2).mono ?_
  rintro e w' ⟨rfl, rfl⟩
  go_wp2
  go_ret
  exact ⟨rfl, HH.out⟩

theorem F_zero : Flt.F 0 29 := ⟨⟨false, 0, -1074, by decide +kernel, fun h => absurd rfl h⟩, by omega⟩

theorem fl_F {x y : Int} (h1 : -67108864 ≤ x ∧ x ≤ 67108864) (h2 : -67108864 ≤ y ∧ y ≤ 67108864) : Flt.F (fl (x - y)) 29 := Flt.ofIntF _ (by omega)
theorem F_c50 : Flt.F 4382002437431492608 (-50) := ⟨⟨false, 4503599627370496, -102, by decide +kernel, fun _ => by decide +kernel⟩, by omega⟩

theorem lawF3_walk (a0 a1 a2 b0 b1 b2 c0 c1 c2 d0 d1 d2 : Int) (w : World) :
    Calls Try.prog 8 #[.agg #[.int .i64 a0, .int .i64 a1, .int .i64 a2], .agg #[.int .i64 b0, .int .i64 b1, .int .i64 b2], .agg #[.int .i64 c0, .int .i64 c1, .int .i64 c2], .agg #[.int .i64 d0, .int .i64 d1, .int .i64 d2]] w fun e w' => e = .returned (.bool true) ∧ Below w.heap.size w w' := by
  cases h : (inB3 a0 a1 a2 && inB3 b0 b1 b2 && inB3 c0 c1 c2 && inB3 d0 d1 d2)
  · exact lawF3_of a0 a1 a2 b0 b1 b2 c0 c1 c2 d0 d1 d2 0 0 2 29 w F_zero F_zero (fun w => specF3_wild _ _ _ _ _ _ _ _ _ _ _ _ w h) (fun w => implF3_wild _ _ _ _ _ _ _ _ _ _ _ _ w h)
  · obtain ⟨⟨x0, x1, x2⟩, ⟨y0, y1, y2⟩, ⟨z0, z1, z2⟩, u0, u1, u2⟩ := tame4 h
    obtain ⟨p, P, kp, fp, fP⟩ := cross_ex (fl_F y1 u1) (fl_F z2 u2) (fl_F y2 u2) (fl_F z1 u1) (by omega) (by omega)
    obtain ⟨q, Q, kq, fq, fQ⟩ := cross_ex (fl_F y2 u2) (fl_F z0 u0) (fl_F y0 u0) (fl_F z2 u2) (by omega) (by omega)
    obtain ⟨r, R, kr, fr, fR⟩ := cross_ex (fl_F y0 u0) (fl_F z1 u1) (fl_F y1 u1) (fl_F z0 u0) (by omega) (by omega)
    obtain ⟨det, kd, fd⟩ := three_ex (fl_F x0 u0) (fl_F x1 u1) (fl_F x2 u2) fp fq fr (by omega) (by omega)
    obtain ⟨per, ke, fe⟩ := three_ex (Flt.absF (fl_F x0 u0)) (Flt.absF (fl_F x1 u1)) (Flt.absF (fl_F x2 u2)) fP fQ fR (by omega) (by omega)
    obtain ⟨err, km, fm⟩ := Flt.mulF fe F_c50 (by omega) (by omega)
    exact lawF3_of a0 a1 a2 b0 b1 b2 c0 c1 c2 d0 d1 d2 det err (sg det err) 900 w (fd.mono (by omega)) (fm.mono (by omega))
      (fun w => specF3_tame _ _ _ _ _ _ _ _ _ _ _ _ p q r P Q R det per err w h kp kq kr kd ke km (fl_F x0 u0) (fl_F x1 u1) (fl_F x2 u2))
      (fun w => implF3_tame _ _ _ _ _ _ _ _ _ _ _ _ p q r P Q R det per err w h kp kq kr kd ke km (fl_F x0 u0) (fl_F x1 u1) (fl_F x2 u2))

end Go.Proofs.Ytikepklkjbohmaa
