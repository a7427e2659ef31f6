import Derived.Test.YtikepklkjbohmaaC2i
namespace Go.Proofs.Ytikepklkjbohmaa
open Go.RowKit

set_option maxHeartbeats 1000000 in
theorem lawC_of (a0 a1 b0 b1 c0 c1 d0 d1 : Int) (x y : Nat) (k b : Int) (w : World) (hx : Flt.F x b) (hy : Flt.F y b)
    (hs : ∀ w, Calls Try.prog 27 #[.agg #[.int .i64 a0, .int .i64 a1], .agg #[.int .i64 b0, .int .i64 b1], .agg #[.int .i64 c0, .int .i64 c1], .agg #[.int .i64 d0, .int .i64 d1]] w fun e w' => e = .returned (.tuple #[.float .f64 x, .float .f64 y, .int .i64 k]) ∧ Below w.heap.size w w')
    (hi : ∀ w, Calls Try.prog 28 #[.agg #[.int .i64 a0, .int .i64 a1], .agg #[.int .i64 b0, .int .i64 b1], .agg #[.int .i64 c0, .int .i64 c1], .agg #[.int .i64 d0, .int .i64 d1]] w fun e w' => e = .returned (.tuple #[.float .f64 x, .float .f64 y, .int .i64 k]) ∧ Below w.heap.size w w') :
    Calls Try.prog 9 #[.agg #[.int .i64 a0, .int .i64 a1], .agg #[.int .i64 b0, .int .i64 b1], .agg #[.int .i64 c0, .int .i64 c1], .agg #[.int .i64 d0, .int .i64 d1]] w fun e w' => e = .returned (.bool true) ∧ Below w.heap.size w w' := by
  have HX : Hid (Flt.F x b ∧ Flt.F y b) := ⟨hx, hy⟩
  have HS : Hid (∀ w, Calls Try.prog 27 #[.agg #[.int .i64 a0, .int .i64 a1], .agg #[.int .i64 b0, .int .i64 b1], .agg #[.int .i64 c0, .int .i64 c1], .agg #[.int .i64 d0, .int .i64 d1]] w fun e w' => e = .returned (.tuple #[.float .f64 x, .float .f64 y, .int .i64 k]) ∧ Below w.heap.size w w') := hs
  have HI : Hid (∀ w, Calls Try.prog 28 #[.agg #[.int .i64 a0, .int .i64 a1], .agg #[.int .i64 b0, .int .i64 b1], .agg #[.int .i64 c0, .int .i64 c1], .agg #[.int .i64 d0, .int .i64 d1]] w fun e w' => e = .returned (.tuple #[.float .f64 x, .float .f64 y, .int .i64 k]) ∧ Below w.heap.size w w') := hi
  clear hx hy hs hi
  go_enter Try.func9, Try.ntmps9
  go_wp2_with fail
  have hS := S4.start (Below.refl (((((w.alloc (.cells #[.int .i64 a0, .int .i64 a1] 33)).alloc (.cells #[.int .i64 b0, .int .i64 b1] 33)).alloc (.cells #[.int .i64 c0, .int .i64 c1] 33)).alloc (.cells #[.int .i64 d0, .int .i64 d1] 33))).heap.size ((((w.alloc (.cells #[.int .i64 a0, .int .i64 a1] 33)).alloc (.cells #[.int .i64 b0, .int .i64 b1] 33)).alloc (.cells #[.int .i64 c0, .int .i64 c1] 33)).alloc (.cells #[.int .i64 d0, .int .i64 d1] 33)))
  have hB := below_alloc4 w (.cells #[.int .i64 a0, .int .i64 a1] 33) (.cells #[.int .i64 b0, .int .i64 b1] 33) (.cells #[.int .i64 c0, .int .i64 c1] 33) (.cells #[.int .i64 d0, .int .i64 d1] 33)
  go_region_held3 (fun w' => S4 w.heap.size #[.int .i64 a0, .int .i64 a1] #[.int .i64 b0, .int .i64 b1] #[.int .i64 c0, .int .i64 c1] #[.int .i64 d0, .int .i64 d1] w' ∧ Below w.heap.size w w') (first | exact ⟨S4.drew hS, hB.drew⟩ | (have hh := ‹(S4 w.heap.size #[.int .i64 a0, .int .i64 a1] #[.int .i64 b0, .int .i64 b1] #[.int .i64 c0, .int .i64 c1] #[.int .i64 d0, .int .i64 d1] _ ∧ Below w.heap.size w _)›; exact ⟨hh.1.call (by assumption), hh.2.trans (Below.mono (by assumption) hh.2.size)⟩))
    (first
      | (go_at_call 17; refine (toP2_any _ _ _).mono ?_; rintro e w' ⟨rfl, hb⟩)
      | (go_at_call 27; refine (HS.out _).mono ?_; rintro e w' ⟨rfl, hb⟩))
  have hh := ‹(S4 w.heap.size #[.int .i64 a0, .int .i64 a1] #[.int .i64 b0, .int .i64 b1] #[.int .i64 c0, .int .i64 c1] #[.int .i64 d0, .int .i64 d1] _ ∧ Below w.heap.size w _)›
  clear hS hB
  go_wp2_with fail
  go_region_held3 (fun w' => S4 w.heap.size #[.int .i64 a0, .int .i64 a1] #[.int .i64 b0, .int .i64 b1] #[.int .i64 c0, .int .i64 c1] #[.int .i64 d0, .int .i64 d1] w' ∧ Below w.heap.size w w') (first | exact ⟨S4.drew hh.1, hh.2.drew⟩ | (have hh' := ‹(S4 w.heap.size #[.int .i64 a0, .int .i64 a1] #[.int .i64 b0, .int .i64 b1] #[.int .i64 c0, .int .i64 c1] #[.int .i64 d0, .int .i64 d1] _ ∧ Below w.heap.size w _)›; exact ⟨hh'.1.call (by assumption), hh'.2.trans (Below.mono (by assumption) hh'.2.size)⟩))
    (first
      | (go_at_call 17; refine (toP2_any _ _ _).mono ?_; rintro e w' ⟨rfl, hb⟩)
      | (go_at_call 28; refine (HI.out _).mono ?_; rintro e w' ⟨rfl, hb⟩))
  clear hh
  have hh := ‹(S4 w.heap.size #[.int .i64 a0, .int .i64 a1] #[.int .i64 b0, .int .i64 b1] #[.int .i64 c0, .int .i64 c1] #[.int .i64 d0, .int .i64 d1] _ ∧ Below w.heap.size w _)›
  have HH : Hid _ := hh.2
  go_wp2_with fail
  refine (sameFloat_any x b _ HX.out.1).mono ?_
  rintro e w' ⟨rfl, rfl⟩
  go_wp2_with fail
  refine (sameFloat_any y b _ HX.out.2).mono ?_
  rintro e w' ⟨rfl, rfl⟩
  go_wp2
  go_ret
  exact ⟨rfl, HH.out⟩


theorem F_c49 : Flt.F 4386506037058863104 (-49) := ⟨⟨false, 4503599627370496, -101, by decide +kernel, fun _ => by decide +kernel⟩, by omega⟩

theorem lawC_walk (a0 a1 b0 b1 c0 c1 d0 d1 : Int) (w : World) :
    Calls Try.prog 9 #[.agg #[.int .i64 a0, .int .i64 a1], .agg #[.int .i64 b0, .int .i64 b1], .agg #[.int .i64 c0, .int .i64 c1], .agg #[.int .i64 d0, .int .i64 d1]] w fun e w' => e = .returned (.bool true) ∧ Below w.heap.size w w' := by
  cases h : (inB2 a0 a1 && inB2 b0 b1 && inB2 c0 c1 && inB2 d0 d1)
  · exact lawC_of a0 a1 b0 b1 c0 c1 d0 d1 0 0 2 29 w F_zero F_zero (fun w => specC_wild _ _ _ _ _ _ _ _ w h) (fun w => implC_wild _ _ _ _ _ _ _ _ w h)
  · obtain ⟨⟨x0, x1⟩, ⟨y0, y1⟩, ⟨z0, z1⟩, u0, u1⟩ := tame4c h
    obtain ⟨A, sA, fA⟩ := sq_ex (fl_F x0 u0) (fl_F x1 u1)
    obtain ⟨B, sB, fB⟩ := sq_ex (fl_F y0 u0) (fl_F y1 u1)
    obtain ⟨C, sC, fC⟩ := sq_ex (fl_F z0 u0) (fl_F z1 u1)
    obtain ⟨p, P, kp, fp, fP⟩ := cross_ex (fl_F y0 u0) (fl_F z1 u1) (fl_F z0 u0) (fl_F y1 u1) (by omega) (by omega)
    obtain ⟨q, Q, kq, fq, fQ⟩ := cross_ex (fl_F z0 u0) (fl_F x1 u1) (fl_F x0 u0) (fl_F z1 u1) (by omega) (by omega)
    obtain ⟨r, R, kr, fr, fR⟩ := cross_ex (fl_F x0 u0) (fl_F y1 u1) (fl_F y0 u0) (fl_F x1 u1) (by omega) (by omega)
    obtain ⟨det, kd, fd⟩ := three_ex fA fB fC fp fq fr (by omega) (by omega)
    obtain ⟨per, ke, fe⟩ := three_ex fA fB fC fP fQ fR (by omega) (by omega)
    obtain ⟨err, km, fm⟩ := Flt.mulF fe F_c49 (by omega) (by omega)
    exact lawC_of a0 a1 b0 b1 c0 c1 d0 d1 det err (sg det err) 900 w (fd.mono (by omega)) (fm.mono (by omega))
      (fun w => specC_tame _ _ _ _ _ _ _ _ A B C p q r P Q R det per err w h sA sB sC kp kq kr kd ke km)
      (fun w => implC_tame _ _ _ _ _ _ _ _ A B C p q r P Q R det per err w h sA sB sC kp kq kr kd ke km)
end Go.Proofs.Ytikepklkjbohmaa
