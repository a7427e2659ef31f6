import Derived.Test.YtoopipljedoeeaaSq
import Derived.Deep.RegionHeld3
namespace Go.Proofs.Ytoopipljedoeeaa
open Go.RowKit

theorem pok_q {a b c d k l m n : Int} (h : pok a b c d k l m n = true) : qok a b = true ∧ qok c d = true ∧ qok k l = true ∧ qok m n = true := by
  unfold pok at h
  simp only [Bool.and_eq_true] at h
  exact ⟨h.1.1.1.1, h.1.1.1.2, h.1.1.2, h.1.2⟩

set_option maxHeartbeats 1000000 in
theorem specDrop_no0 (a b c d k l m n p q r s t u : Int) (w : World) (hp : pok a b c d k l m n = false) :
    Calls Try.prog 12 #[.agg #[.int .i64 a, .int .i64 b, .int .i64 c, .int .i64 d, .int .i64 k, .int .i64 l, .int .i64 m, .int .i64 n], .agg #[.int .i64 p, .int .i64 q, .int .i64 r, .int .i64 s, .int .i64 t, .int .i64 u]] w fun e w' => e = .returned (.tuple #[.agg #[.int .i64 0, .int .i64 0, .int .i64 0, .int .i64 0], .bool false]) ∧ Below w.heap.size w w' := by
  have H0 : Hid (A3 w a b c d k l m n p q r s t u _) := A3.start w a b c d k l m n p q r s t u
  go_enter Try.func12, Try.ntmps12
  go_wp2_with fail
  refine (specPlaneOk_any _ _ _ _ _ _ _ _ _).mono ?_
  rintro e w1 ⟨rfl, hb1⟩
  rw [hp]
  have H1 : Hid (A3 w a b c d k l m n p q r s t u w1) := H0.out.call hb1
  clear hb1 H0
  obtain ⟨y, yf, ys⟩ := H1.out.fr
  go_wp2
  exact bodyPost_ret (v := .tuple #[.agg #[.int .i64 0, .int .i64 0, .int .i64 0, .int .i64 0], .bool false]) (by simp [results, Try.results12, go_sem, y]) rfl ⟨rfl, ((((H1.out.fb.setCell (p := ⟨w.heap.size + 1 + 1, 0, none⟩) (by simp; omega) _).setCell (p := ⟨w.heap.size + 1 + 1, 1, none⟩) (by simp; omega) _).setCell (p := ⟨w.heap.size + 1 + 1, 2, none⟩) (by simp; omega) _).setCell (p := ⟨w.heap.size + 1 + 1, 3, none⟩) (by simp; omega) _)⟩

set_option maxHeartbeats 1000000 in
theorem specDrop_no1 (a b c d k l m n p q r s t u : Int) (w : World) (hp : pok a b c d k l m n = true) (hv : (qok p q && qok r s && qok t u) = false) :
    Calls Try.prog 12 #[.agg #[.int .i64 a, .int .i64 b, .int .i64 c, .int .i64 d, .int .i64 k, .int .i64 l, .int .i64 m, .int .i64 n], .agg #[.int .i64 p, .int .i64 q, .int .i64 r, .int .i64 s, .int .i64 t, .int .i64 u]] w fun e w' => e = .returned (.tuple #[.agg #[.int .i64 0, .int .i64 0, .int .i64 0, .int .i64 0], .bool false]) ∧ Below w.heap.size w w' := by
  have H0 : Hid (A3 w a b c d k l m n p q r s t u _) := A3.start w a b c d k l m n p q r s t u
  go_enter Try.func12, Try.ntmps12
  go_wp2_with fail
  refine (specPlaneOk_any _ _ _ _ _ _ _ _ _).mono ?_
  rintro e w1 ⟨rfl, hb1⟩
  rw [hp]
  have H1 : Hid (A3 w a b c d k l m n p q r s t u w1) := H0.out.call hb1
  clear hb1 H0
  obtain ⟨x, xf, xs⟩ := H1.out.fv
  go_wp2_with fail
  refine (specV3Ok_any _ _ _ _ _ _ _).mono ?_
  rintro e w2 ⟨rfl, hb2⟩
  rw [hv]
  have H2 : Hid (A3 w a b c d k l m n p q r s t u w2) := H1.out.call hb2
  clear hb2 H1 x xf xs
  obtain ⟨y, yf, ys⟩ := H2.out.fr
  go_wp2
  exact bodyPost_ret (v := .tuple #[.agg #[.int .i64 0, .int .i64 0, .int .i64 0, .int .i64 0], .bool false]) (by simp [results, Try.results12, go_sem, y]) rfl ⟨rfl, ((((H2.out.fb.setCell (p := ⟨w.heap.size + 1 + 1, 0, none⟩) (by simp; omega) _).setCell (p := ⟨w.heap.size + 1 + 1, 1, none⟩) (by simp; omega) _).setCell (p := ⟨w.heap.size + 1 + 1, 2, none⟩) (by simp; omega) _).setCell (p := ⟨w.heap.size + 1 + 1, 3, none⟩) (by simp; omega) _)⟩

set_option maxHeartbeats 1000000 in
theorem specDrop_0 (a b c d k l m n p q r s t u : Int) (w : World) (hp : pok a b c d k l m n = true) (hq1 : qok p q = true) (hq2 : qok r s = true) (hq3 : qok t u = true) (hk : k ≠ 0) :
    Calls Try.prog 12 #[.agg #[.int .i64 a, .int .i64 b, .int .i64 c, .int .i64 d, .int .i64 k, .int .i64 l, .int .i64 m, .int .i64 n], .agg #[.int .i64 p, .int .i64 q, .int .i64 r, .int .i64 s, .int .i64 t, .int .i64 u]] w fun e w' => e = .returned (.tuple #[.agg #[.int .i64 p, .int .i64 q, .int .i64 r, .int .i64 s], .bool true]) ∧ Below w.heap.size w w' := by
  have G : Hid _ := And.intro hq1 (And.intro hq2 hq3)
  have GP : Hid _ := pok_q hp
  have hv : (qok p q && qok r s && qok t u) = true := by rw [hq1, hq2, hq3]; rfl
  clear hq1 hq2 hq3
  have H0 : Hid (A3 w a b c d k l m n p q r s t u _) := A3.start w a b c d k l m n p q r s t u
  go_enter Try.func12, Try.ntmps12
  go_wp2_with fail
  refine (specPlaneOk_any _ _ _ _ _ _ _ _ _).mono ?_
  rintro e w1 ⟨rfl, hb1⟩
  rw [hp]
  have H1 : Hid (A3 w a b c d k l m n p q r s t u w1) := H0.out.call hb1
  clear hb1 H0
  obtain ⟨x, xf, xs⟩ := H1.out.fv
  go_wp2_with fail
  refine (specV3Ok_any _ _ _ _ _ _ _).mono ?_
  rintro e w2 ⟨rfl, hb2⟩
  rw [hv]
  have H2 : Hid (A3 w a b c d k l m n p q r s t u w2) := H1.out.call hb2
  clear hb2 H1 x xf xs
  clear hv hp
  go_wp2_with fail
  go_region_held3 (fun w' => S2z w.heap.size (w.heap.size + 1) #[.int .i64 a, .int .i64 b, .int .i64 c, .int .i64 d, .int .i64 k, .int .i64 l, .int .i64 m, .int .i64 n] #[.int .i64 p, .int .i64 q, .int .i64 r, .int .i64 s, .int .i64 t, .int .i64 u] w') (first | with_reducible exact A3.s2 H2.out | with_reducible exact S2z.call (by assumption) (by assumption) | with_reducible exact S2z.set4 (by assumption) (by omega) (by omega))
    (first
      | (go_at_call 22; refine (l11Plane_any _ _ _ _ _ _ _ _ _ GP.out).mono ?_; rintro e w3 ⟨p1, q1, s1, l1, c1, p2, q2, s2, l2, c2, p3, q3, s3, l3, c3, p4, q4, s4, l4, c4, rfl, hr1, hr2, hr3, hr4, hb3⟩)
      | (go_at_call 21; refine (l11Axis_0 _ _ _ _ _ _ _ _ _ _ _ _ _ _ _ _ _ _ _ _ _ _ _ _ _ hr3 hr2 hk).mono ?_; rintro e w4 ⟨rfl, hb4⟩)
      | (go_at_call 23; refine (l11p_any _ _ _ _ _ _ _ G.out).mono ?_; rintro e w5 ⟨p5, q5, s5, l5, c5, p6, q6, s6, l6, c6, p7, q7, s7, l7, c7, rfl, hr5, hr6, hr7, hb5⟩)
      | (go_at_call 20; refine (l11Drop_0 _ _ _ _ _ _ _ _ _ _ _ _ _ _ _ _).mono ?_; rintro e w6 ⟨rfl, hb6⟩)
      | (go_at_call 19; refine (l3V_any _ _ _ _ _ _ _ _ _ _ _ _ _ _ _ G.out.1 G.out.2.1 (hr5.below hb6) (hr6.below hb6)).mono ?_; rintro e w7 ⟨rfl, hb7⟩; have H7 : Hid (A3 w a b c d k l m n p q r s t u w7) := (((((H2.out.call (Below.refl _ _).drew).call hb3).call hb4).call hb5).call hb6).call hb7; obtain ⟨y, yf, ys⟩ := H7.out.fr; have y0 := y 0; have y1 := y 1; have y2 := y 2; have y3 := y 3))
  clear hb3 hb4 hb5 hb6 hb7 H2 hr1 hr2 hr3 hr4 hr5 hr6 hr7
  go_wp2
  exact bodyPost_ret (v := .tuple #[.agg #[.int .i64 p, .int .i64 q, .int .i64 r, .int .i64 s], .bool true]) (by simp [results, Try.results12, go_sem, y]) rfl ⟨rfl, ((((H7.out.fb.setCell (p := ⟨w.heap.size + 1 + 1, 0, none⟩) (by simp; omega) _).setCell (p := ⟨w.heap.size + 1 + 1, 1, none⟩) (by simp; omega) _).setCell (p := ⟨w.heap.size + 1 + 1, 2, none⟩) (by simp; omega) _).setCell (p := ⟨w.heap.size + 1 + 1, 3, none⟩) (by simp; omega) _)⟩

set_option maxHeartbeats 1000000 in
theorem specDrop_1 (a b c d l m n p q r s t u : Int) (w : World) (hp : pok a b c d 0 l m n = true) (hq1 : qok p q = true) (hq2 : qok r s = true) (hq3 : qok t u = true) (hc : c ≠ 0) :
    Calls Try.prog 12 #[.agg #[.int .i64 a, .int .i64 b, .int .i64 c, .int .i64 d, .int .i64 0, .int .i64 l, .int .i64 m, .int .i64 n], .agg #[.int .i64 p, .int .i64 q, .int .i64 r, .int .i64 s, .int .i64 t, .int .i64 u]] w fun e w' => e = .returned (.tuple #[.agg #[.int .i64 p, .int .i64 q, .int .i64 t, .int .i64 u], .bool true]) ∧ Below w.heap.size w w' := by
  have G : Hid _ := And.intro hq1 (And.intro hq2 hq3)
  have GP : Hid _ := pok_q hp
  have hv : (qok p q && qok r s && qok t u) = true := by rw [hq1, hq2, hq3]; rfl
  clear hq1 hq2 hq3
  have H0 : Hid (A3 w a b c d 0 l m n p q r s t u _) := A3.start w a b c d 0 l m n p q r s t u
  go_enter Try.func12, Try.ntmps12
  go_wp2_with fail
  refine (specPlaneOk_any _ _ _ _ _ _ _ _ _).mono ?_
  rintro e w1 ⟨rfl, hb1⟩
  rw [hp]
  have H1 : Hid (A3 w a b c d 0 l m n p q r s t u w1) := H0.out.call hb1
  clear hb1 H0
  obtain ⟨x, xf, xs⟩ := H1.out.fv
  go_wp2_with fail
  refine (specV3Ok_any _ _ _ _ _ _ _).mono ?_
  rintro e w2 ⟨rfl, hb2⟩
  rw [hv]
  have H2 : Hid (A3 w a b c d 0 l m n p q r s t u w2) := H1.out.call hb2
  clear hb2 H1 x xf xs
  clear hv hp
  go_wp2_with fail
  go_region_held3 (fun w' => S2z w.heap.size (w.heap.size + 1) #[.int .i64 a, .int .i64 b, .int .i64 c, .int .i64 d, .int .i64 0, .int .i64 l, .int .i64 m, .int .i64 n] #[.int .i64 p, .int .i64 q, .int .i64 r, .int .i64 s, .int .i64 t, .int .i64 u] w') (first | with_reducible exact A3.s2 H2.out | with_reducible exact S2z.call (by assumption) (by assumption) | with_reducible exact S2z.set4 (by assumption) (by omega) (by omega))
    (first
      | (go_at_call 22; refine (l11Plane_any _ _ _ _ _ _ _ _ _ GP.out).mono ?_; rintro e w3 ⟨p1, q1, s1, l1, c1, p2, q2, s2, l2, c2, p3, q3, s3, l3, c3, p4, q4, s4, l4, c4, rfl, hr1, hr2, hr3, hr4, hb3⟩)
      | (go_at_call 21; refine (l11Axis_1 _ _ _ _ _ _ _ _ _ _ _ _ _ _ _ _ _ _ _ _ _ _ _ _ hr3 hr2 hc).mono ?_; rintro e w4 ⟨rfl, hb4⟩)
      | (go_at_call 23; refine (l11p_any _ _ _ _ _ _ _ G.out).mono ?_; rintro e w5 ⟨p5, q5, s5, l5, c5, p6, q6, s6, l6, c6, p7, q7, s7, l7, c7, rfl, hr5, hr6, hr7, hb5⟩)
      | (go_at_call 20; refine (l11Drop_1 _ _ _ _ _ _ _ _ _ _ _ _ _ _ _ _).mono ?_; rintro e w6 ⟨rfl, hb6⟩)
      | (go_at_call 19; refine (l3V_any _ _ _ _ _ _ _ _ _ _ _ _ _ _ _ G.out.1 G.out.2.2 (hr5.below hb6) (hr7.below hb6)).mono ?_; rintro e w7 ⟨rfl, hb7⟩; have H7 : Hid (A3 w a b c d 0 l m n p q r s t u w7) := (((((H2.out.call (Below.refl _ _).drew).call hb3).call hb4).call hb5).call hb6).call hb7; obtain ⟨y, yf, ys⟩ := H7.out.fr; have y0 := y 0; have y1 := y 1; have y2 := y 2; have y3 := y 3))
  clear hb3 hb4 hb5 hb6 hb7 H2 hr1 hr2 hr3 hr4 hr5 hr6 hr7
  go_wp2
  exact bodyPost_ret (v := .tuple #[.agg #[.int .i64 p, .int .i64 q, .int .i64 t, .int .i64 u], .bool true]) (by simp [results, Try.results12, go_sem, y]) rfl ⟨rfl, ((((H7.out.fb.setCell (p := ⟨w.heap.size + 1 + 1, 0, none⟩) (by simp; omega) _).setCell (p := ⟨w.heap.size + 1 + 1, 1, none⟩) (by simp; omega) _).setCell (p := ⟨w.heap.size + 1 + 1, 2, none⟩) (by simp; omega) _).setCell (p := ⟨w.heap.size + 1 + 1, 3, none⟩) (by simp; omega) _)⟩

set_option maxHeartbeats 1000000 in
theorem specDrop_2 (a b d l m n p q r s t u : Int) (w : World) (hp : pok a b 0 d 0 l m n = true) (hq1 : qok p q = true) (hq2 : qok r s = true) (hq3 : qok t u = true)  :
    Calls Try.prog 12 #[.agg #[.int .i64 a, .int .i64 b, .int .i64 0, .int .i64 d, .int .i64 0, .int .i64 l, .int .i64 m, .int .i64 n], .agg #[.int .i64 p, .int .i64 q, .int .i64 r, .int .i64 s, .int .i64 t, .int .i64 u]] w fun e w' => e = .returned (.tuple #[.agg #[.int .i64 r, .int .i64 s, .int .i64 t, .int .i64 u], .bool true]) ∧ Below w.heap.size w w' := by
  have G : Hid _ := And.intro hq1 (And.intro hq2 hq3)
  have GP : Hid _ := pok_q hp
  have hv : (qok p q && qok r s && qok t u) = true := by rw [hq1, hq2, hq3]; rfl
  clear hq1 hq2 hq3
  have H0 : Hid (A3 w a b 0 d 0 l m n p q r s t u _) := A3.start w a b 0 d 0 l m n p q r s t u
  go_enter Try.func12, Try.ntmps12
  go_wp2_with fail
  refine (specPlaneOk_any _ _ _ _ _ _ _ _ _).mono ?_
  rintro e w1 ⟨rfl, hb1⟩
  rw [hp]
  have H1 : Hid (A3 w a b 0 d 0 l m n p q r s t u w1) := H0.out.call hb1
  clear hb1 H0
  obtain ⟨x, xf, xs⟩ := H1.out.fv
  go_wp2_with fail
  refine (specV3Ok_any _ _ _ _ _ _ _).mono ?_
  rintro e w2 ⟨rfl, hb2⟩
  rw [hv]
  have H2 : Hid (A3 w a b 0 d 0 l m n p q r s t u w2) := H1.out.call hb2
  clear hb2 H1 x xf xs
  clear hv hp
  go_wp2_with fail
  go_region_held3 (fun w' => S2z w.heap.size (w.heap.size + 1) #[.int .i64 a, .int .i64 b, .int .i64 0, .int .i64 d, .int .i64 0, .int .i64 l, .int .i64 m, .int .i64 n] #[.int .i64 p, .int .i64 q, .int .i64 r, .int .i64 s, .int .i64 t, .int .i64 u] w') (first | with_reducible exact A3.s2 H2.out | with_reducible exact S2z.call (by assumption) (by assumption) | with_reducible exact S2z.set4 (by assumption) (by omega) (by omega))
    (first
      | (go_at_call 22; refine (l11Plane_any _ _ _ _ _ _ _ _ _ GP.out).mono ?_; rintro e w3 ⟨p1, q1, s1, l1, c1, p2, q2, s2, l2, c2, p3, q3, s3, l3, c3, p4, q4, s4, l4, c4, rfl, hr1, hr2, hr3, hr4, hb3⟩)
      | (go_at_call 21; refine (l11Axis_2 _ _ _ _ _ _ _ _ _ _ _ _ _ _ _ _ _ _ _ _ _ _ _ hr3 hr2).mono ?_; rintro e w4 ⟨rfl, hb4⟩)
      | (go_at_call 23; refine (l11p_any _ _ _ _ _ _ _ G.out).mono ?_; rintro e w5 ⟨p5, q5, s5, l5, c5, p6, q6, s6, l6, c6, p7, q7, s7, l7, c7, rfl, hr5, hr6, hr7, hb5⟩)
      | (go_at_call 20; refine (l11Drop_2 _ _ _ _ _ _ _ _ _ _ _ _ _ _ _ _).mono ?_; rintro e w6 ⟨rfl, hb6⟩)
      | (go_at_call 19; refine (l3V_any _ _ _ _ _ _ _ _ _ _ _ _ _ _ _ G.out.2.1 G.out.2.2 (hr6.below hb6) (hr7.below hb6)).mono ?_; rintro e w7 ⟨rfl, hb7⟩; have H7 : Hid (A3 w a b 0 d 0 l m n p q r s t u w7) := (((((H2.out.call (Below.refl _ _).drew).call hb3).call hb4).call hb5).call hb6).call hb7; obtain ⟨y, yf, ys⟩ := H7.out.fr; have y0 := y 0; have y1 := y 1; have y2 := y 2; have y3 := y 3))
  clear hb3 hb4 hb5 hb6 hb7 H2 hr1 hr2 hr3 hr4 hr5 hr6 hr7
  go_wp2
  exact bodyPost_ret (v := .tuple #[.agg #[.int .i64 r, .int .i64 s, .int .i64 t, .int .i64 u], .bool true]) (by simp [results, Try.results12, go_sem, y]) rfl ⟨rfl, ((((H7.out.fb.setCell (p := ⟨w.heap.size + 1 + 1, 0, none⟩) (by simp; omega) _).setCell (p := ⟨w.heap.size + 1 + 1, 1, none⟩) (by simp; omega) _).setCell (p := ⟨w.heap.size + 1 + 1, 2, none⟩) (by simp; omega) _).setCell (p := ⟨w.heap.size + 1 + 1, 3, none⟩) (by simp; omega) _)⟩
end Go.Proofs.Ytoopipljedoeeaa
