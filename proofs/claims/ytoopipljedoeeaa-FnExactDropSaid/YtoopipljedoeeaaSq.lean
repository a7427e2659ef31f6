import Derived.Test.YtoopipljedoeeaaSp
namespace Go.Proofs.Ytoopipljedoeeaa
open Go.RowKit

theorem sg3_ne {n : Int} (h : n ≠ 0) : (sg3 n != 0) = true := by
  unfold sg3; rw [bne_iff_ne]; split
  · omega
  · split <;> omega
theorem sg3_zero : sg3 0 = 0 := rfl
theorem l1rQ_int (x d : Int) (v : Value) (w : World) (h : qok x d = true) (hr : RIs w v x d.natAbs) : Calls Try.prog 33 #[v] w fun e w' => e = .returned (.tuple #[.agg #[.int .i64 x, .int .i64 d], .bool true]) ∧ Below w.heap.size w w' := by
  obtain ⟨h1, h2, h3⟩ := qok_b h
  have he : qres x d.natAbs = .tuple #[.agg #[.int .i64 x, .int .i64 d], .bool true] := by
    have hf : qfit x d.natAbs = true := by unfold qfit; simp; omega
    unfold qres
    rw [hf, if_pos rfl, if_pos rfl, show ((d.natAbs : Nat) : Int) = d by omega]
  have := l1rQ_any x d.natAbs v w hr (by omega) h3
  rw [he] at this
  exact this

set_option maxHeartbeats 1000000 in
theorem l11Axis_0 (p1 q1 p2 q2 p3 q3 p4 q4 : Int) (s1 s2 s3 s4 : Option Addr) (l1 c1 l2 c2 l3 c3 l4 c4 : Nat) (k c : Int) (Q3 Q2 : Nat) (w : World) (h3 : RIs w (.agg #[.int .i64 p3, .int .i64 q3, .slice s3 l3 c3]) k Q3) (h2 : RIs w (.agg #[.int .i64 p2, .int .i64 q2, .slice s2 l2 c2]) c Q2) (hk : k ≠ 0) :
    Calls Try.prog 21 #[.agg #[.int .i64 p1, .int .i64 q1, .slice s1 l1 c1, .int .i64 p2, .int .i64 q2, .slice s2 l2 c2, .int .i64 p3, .int .i64 q3, .slice s3 l3 c3, .int .i64 p4, .int .i64 q4, .slice s4 l4 c4, .slice none 0 0]] w fun e w' => e = .returned (.int .i64 2) ∧ Below w.heap.size w w' := by
  have hs := sg3_ne hk
  clear hk
  have H0 : Hid (∀ o, RIs (w.alloc o) (.agg #[.int .i64 p3, .int .i64 q3, .slice s3 l3 c3]) k Q3 ∧ RIs (w.alloc o) (.agg #[.int .i64 p2, .int .i64 q2, .slice s2 l2 c2]) c Q2) := fun o => ⟨h3.below (Joins.below_alloc1 _ _), h2.below (Joins.below_alloc1 _ _)⟩
  clear h3 h2
  go_enter Try.func21, Try.ntmps21
  go_wp2_with fail
  refine (l1rSign_any k Q3 _ _ (H0.out _).1).mono ?_
  rintro e w1 ⟨rfl, hb1⟩
  have HB : Hid _ := hb1
  clear hb1
  clear H0
  go_wp2
  go_ret
  exact ⟨rfl, (Joins.below_alloc1 _ _).trans (HB.out.mono (by simp))⟩

set_option maxHeartbeats 1000000 in
theorem l11Axis_1 (p1 q1 p2 q2 p3 q3 p4 q4 : Int) (s1 s2 s3 s4 : Option Addr) (l1 c1 l2 c2 l3 c3 l4 c4 : Nat) (c : Int) (Q3 Q2 : Nat) (w : World) (h3 : RIs w (.agg #[.int .i64 p3, .int .i64 q3, .slice s3 l3 c3]) 0 Q3) (h2 : RIs w (.agg #[.int .i64 p2, .int .i64 q2, .slice s2 l2 c2]) c Q2) (hc : c ≠ 0) :
    Calls Try.prog 21 #[.agg #[.int .i64 p1, .int .i64 q1, .slice s1 l1 c1, .int .i64 p2, .int .i64 q2, .slice s2 l2 c2, .int .i64 p3, .int .i64 q3, .slice s3 l3 c3, .int .i64 p4, .int .i64 q4, .slice s4 l4 c4, .slice none 0 0]] w fun e w' => e = .returned (.int .i64 1) ∧ Below w.heap.size w w' := by
  have hs := sg3_ne hc
  clear hc
  have H0 : Hid (∀ o, RIs (w.alloc o) (.agg #[.int .i64 p3, .int .i64 q3, .slice s3 l3 c3]) 0 Q3 ∧ RIs (w.alloc o) (.agg #[.int .i64 p2, .int .i64 q2, .slice s2 l2 c2]) c Q2) := fun o => ⟨h3.below (Joins.below_alloc1 _ _), h2.below (Joins.below_alloc1 _ _)⟩
  clear h3 h2
  go_enter Try.func21, Try.ntmps21
  go_wp2_with fail
  refine (l1rSign_any 0 Q3 _ _ (H0.out _).1).mono ?_
  rintro e w1 ⟨rfl, hb1⟩
  rw [sg3_zero]
  obtain ⟨hc1, hf1⟩ := bcell hb1
  have HB1 : Hid _ := hb1
  clear hb1
  go_wp2_with fail
  refine (l1rSign_any c Q2 _ _ ((H0.out _).2.below HB1.out)).mono ?_
  rintro e w2 ⟨rfl, hb2⟩
  have HB : Hid (Below _ _ w2) := HB1.out.trans (hb2.mono HB1.out.size)
  clear hb2 HB1 hc1 hf1
  clear H0
  go_wp2
  go_ret
  exact ⟨rfl, (Joins.below_alloc1 _ _).trans (HB.out.mono (by simp))⟩

set_option maxHeartbeats 1000000 in
theorem l11Axis_2 (p1 q1 p2 q2 p3 q3 p4 q4 : Int) (s1 s2 s3 s4 : Option Addr) (l1 c1 l2 c2 l3 c3 l4 c4 : Nat) (Q3 Q2 : Nat) (w : World) (h3 : RIs w (.agg #[.int .i64 p3, .int .i64 q3, .slice s3 l3 c3]) 0 Q3) (h2 : RIs w (.agg #[.int .i64 p2, .int .i64 q2, .slice s2 l2 c2]) 0 Q2)  :
    Calls Try.prog 21 #[.agg #[.int .i64 p1, .int .i64 q1, .slice s1 l1 c1, .int .i64 p2, .int .i64 q2, .slice s2 l2 c2, .int .i64 p3, .int .i64 q3, .slice s3 l3 c3, .int .i64 p4, .int .i64 q4, .slice s4 l4 c4, .slice none 0 0]] w fun e w' => e = .returned (.int .i64 0) ∧ Below w.heap.size w w' := by
  have H0 : Hid (∀ o, RIs (w.alloc o) (.agg #[.int .i64 p3, .int .i64 q3, .slice s3 l3 c3]) 0 Q3 ∧ RIs (w.alloc o) (.agg #[.int .i64 p2, .int .i64 q2, .slice s2 l2 c2]) 0 Q2) := fun o => ⟨h3.below (Joins.below_alloc1 _ _), h2.below (Joins.below_alloc1 _ _)⟩
  clear h3 h2
  go_enter Try.func21, Try.ntmps21
  go_wp2_with fail
  refine (l1rSign_any 0 Q3 _ _ (H0.out _).1).mono ?_
  rintro e w1 ⟨rfl, hb1⟩
  rw [sg3_zero]
  obtain ⟨hc1, hf1⟩ := bcell hb1
  have HB1 : Hid _ := hb1
  clear hb1
  go_wp2_with fail
  refine (l1rSign_any 0 Q2 _ _ ((H0.out _).2.below HB1.out)).mono ?_
  rintro e w2 ⟨rfl, hb2⟩
  have HB : Hid (Below _ _ w2) := HB1.out.trans (hb2.mono HB1.out.size)
  clear hb2 HB1 hc1 hf1
  rw [sg3_zero]
  clear H0
  go_wp2
  go_ret
  exact ⟨rfl, (Joins.below_alloc1 _ _).trans (HB.out.mono (by simp))⟩

set_option maxHeartbeats 1000000 in
theorem l11Drop_0 (p1 q1 p2 q2 p3 q3 : Int) (s1 s2 s3 : Option Addr) (l1 c1 l2 c2 l3 c3 : Nat) (w : World) :
    Calls Try.prog 20 #[.int .i64 2, .agg #[.int .i64 p1, .int .i64 q1, .slice s1 l1 c1, .int .i64 p2, .int .i64 q2, .slice s2 l2 c2, .int .i64 p3, .int .i64 q3, .slice s3 l3 c3]] w fun e w' => e = .returned (.agg #[.int .i64 p1, .int .i64 q1, .slice s1 l1 c1, .int .i64 p2, .int .i64 q2, .slice s2 l2 c2]) ∧ Below w.heap.size w w' := by
  go_enter Try.func20, Try.ntmps20
  go_wp2
  exact bodyPost_ret (v := .agg #[.int .i64 p1, .int .i64 q1, .slice s1 l1 c1, .int .i64 p2, .int .i64 q2, .slice s2 l2 c2]) (by simp [results, Try.results20, go_sem]) rfl ⟨rfl, Joins.below_alloc2 _ _ _⟩

set_option maxHeartbeats 1000000 in
theorem l11Drop_1 (p1 q1 p2 q2 p3 q3 : Int) (s1 s2 s3 : Option Addr) (l1 c1 l2 c2 l3 c3 : Nat) (w : World) :
    Calls Try.prog 20 #[.int .i64 1, .agg #[.int .i64 p1, .int .i64 q1, .slice s1 l1 c1, .int .i64 p2, .int .i64 q2, .slice s2 l2 c2, .int .i64 p3, .int .i64 q3, .slice s3 l3 c3]] w fun e w' => e = .returned (.agg #[.int .i64 p1, .int .i64 q1, .slice s1 l1 c1, .int .i64 p3, .int .i64 q3, .slice s3 l3 c3]) ∧ Below w.heap.size w w' := by
  go_enter Try.func20, Try.ntmps20
  go_wp2
  exact bodyPost_ret (v := .agg #[.int .i64 p1, .int .i64 q1, .slice s1 l1 c1, .int .i64 p3, .int .i64 q3, .slice s3 l3 c3]) (by simp [results, Try.results20, go_sem]) rfl ⟨rfl, Joins.below_alloc2 _ _ _⟩

set_option maxHeartbeats 1000000 in
theorem l11Drop_2 (p1 q1 p2 q2 p3 q3 : Int) (s1 s2 s3 : Option Addr) (l1 c1 l2 c2 l3 c3 : Nat) (w : World) :
    Calls Try.prog 20 #[.int .i64 0, .agg #[.int .i64 p1, .int .i64 q1, .slice s1 l1 c1, .int .i64 p2, .int .i64 q2, .slice s2 l2 c2, .int .i64 p3, .int .i64 q3, .slice s3 l3 c3]] w fun e w' => e = .returned (.agg #[.int .i64 p2, .int .i64 q2, .slice s2 l2 c2, .int .i64 p3, .int .i64 q3, .slice s3 l3 c3]) ∧ Below w.heap.size w w' := by
  go_enter Try.func20, Try.ntmps20
  go_wp2
  exact bodyPost_ret (v := .agg #[.int .i64 p2, .int .i64 q2, .slice s2 l2 c2, .int .i64 p3, .int .i64 q3, .slice s3 l3 c3]) (by simp [results, Try.results20, go_sem]) rfl ⟨rfl, Joins.below_alloc2 _ _ _⟩

set_option maxHeartbeats 1000000 in
theorem l3V_any (p1 q1 p2 q2 : Int) (s1 s2 : Option Addr) (l1 c1 l2 c2 : Nat) (a b c d : Int) (w : World) (g1 : qok a b = true) (g2 : qok c d = true) (hr1 : RIs w (.agg #[.int .i64 p1, .int .i64 q1, .slice s1 l1 c1]) a b.natAbs) (hr2 : RIs w (.agg #[.int .i64 p2, .int .i64 q2, .slice s2 l2 c2]) c d.natAbs) :
    Calls Try.prog 19 #[.agg #[.int .i64 p1, .int .i64 q1, .slice s1 l1 c1, .int .i64 p2, .int .i64 q2, .slice s2 l2 c2]] w fun e w' => e = .returned (.tuple #[.agg #[.int .i64 a, .int .i64 b, .int .i64 c, .int .i64 d], .bool true]) ∧ Below w.heap.size w w' := by
  have H0 : Hid (Ar ((w.alloc (.cells #[.int .i64 p1, .int .i64 q1, .slice s1 l1 c1, .int .i64 p2, .int .i64 q2, .slice s2 l2 c2] 54)).alloc (.cells #[.int .i64 0, .int .i64 0, .int .i64 0, .int .i64 0] 40)) w.heap.size #[.int .i64 p1, .int .i64 q1, .slice s1 l1 c1, .int .i64 p2, .int .i64 q2, .slice s2 l2 c2] ∧ Ar ((w.alloc (.cells #[.int .i64 p1, .int .i64 q1, .slice s1 l1 c1, .int .i64 p2, .int .i64 q2, .slice s2 l2 c2] 54)).alloc (.cells #[.int .i64 0, .int .i64 0, .int .i64 0, .int .i64 0] 40)) (w.heap.size + 1) #[.int .i64 0, .int .i64 0, .int .i64 0, .int .i64 0] ∧ RIs ((w.alloc (.cells #[.int .i64 p1, .int .i64 q1, .slice s1 l1 c1, .int .i64 p2, .int .i64 q2, .slice s2 l2 c2] 54)).alloc (.cells #[.int .i64 0, .int .i64 0, .int .i64 0, .int .i64 0] 40)) (.agg #[.int .i64 p1, .int .i64 q1, .slice s1 l1 c1]) a b.natAbs ∧ RIs ((w.alloc (.cells #[.int .i64 p1, .int .i64 q1, .slice s1 l1 c1, .int .i64 p2, .int .i64 q2, .slice s2 l2 c2] 54)).alloc (.cells #[.int .i64 0, .int .i64 0, .int .i64 0, .int .i64 0] 40)) (.agg #[.int .i64 p2, .int .i64 q2, .slice s2 l2 c2]) c d.natAbs) := ⟨⟨fun j => by go_simp, fun j => by go_simp, by simp; omega⟩, ⟨fun j => by go_simp, fun j => by go_simp, by simp⟩, hr1.below (Joins.below_alloc2 _ _ _), hr2.below (Joins.below_alloc2 _ _ _)⟩
  clear hr1 hr2
  go_enter Try.func19, Try.ntmps19
  go_wp2_with fail
  refine (l1rQ_int a b _ _ g1 H0.out.2.2.1).mono ?_
  rintro e w1 ⟨rfl, hx1⟩
  have H1 : Hid (Ar w1 w.heap.size #[.int .i64 p1, .int .i64 q1, .slice s1 l1 c1, .int .i64 p2, .int .i64 q2, .slice s2 l2 c2] ∧ Ar w1 (w.heap.size + 1) #[.int .i64 0, .int .i64 0, .int .i64 0, .int .i64 0] ∧ RIs w1 (.agg #[.int .i64 p2, .int .i64 q2, .slice s2 l2 c2]) c d.natAbs ∧ Below w.heap.size w w1) := ⟨H0.out.1.below hx1, H0.out.2.1.below hx1, H0.out.2.2.2.below hx1, (Joins.below_alloc2 w _ _).trans (hx1.mono (by simp; omega))⟩
  clear hx1 H0
  obtain ⟨p, pf, ps⟩ := H1.out.1
  have z3 := p 3
  have z4 := p 4
  have z5 := p 5
  clear p pf
  go_wp2_with fail
  refine (l1rQ_int c d _ _ g2 (H1.out.2.2.1.below (Joins.below_alloc1 _ _))).mono ?_
  rintro e w2 ⟨rfl, hx2⟩
  have H2 : Hid (Ar w2 w1.heap.size #[.int .i64 a, .int .i64 b] ∧ Ar w2 (w.heap.size + 1) #[.int .i64 0, .int .i64 0, .int .i64 0, .int .i64 0] ∧ Below w.heap.size w w2) := ⟨Ar.below ⟨fun j => by go_simp, fun j => by go_simp, by simp⟩ hx2, (H1.out.2.1.below (Joins.below_alloc1 _ _)).below hx2, H1.out.2.2.2.trans (((Joins.below_alloc1 w1 _).trans (hx2.mono (by simp))).mono H1.out.2.2.2.size)⟩
  clear hx2 H1 z3 z4 z5
  obtain ⟨x, xf, xs⟩ := H2.out.1
  obtain ⟨r, rf, rs⟩ := H2.out.2.1
  have x0 := x 0
  have x1 := x 1
  clear x
  go_wp2
  exact bodyPost_ret (v := .tuple #[.agg #[.int .i64 a, .int .i64 b, .int .i64 c, .int .i64 d], .bool true]) (by simp [results, Try.results19, go_sem, r, rs]) rfl ⟨rfl, (((((H2.out.2.2.setCell (p := ⟨w.heap.size + 1, 0, none⟩) (Nat.le_succ _) _).setCell (p := ⟨w.heap.size + 1, 1, none⟩) (Nat.le_succ _) _).setCell (p := ⟨w.heap.size + 1, 2, none⟩) (Nat.le_succ _) _).setCell (p := ⟨w.heap.size + 1, 3, none⟩) (Nat.le_succ _) _)).alloc (by simpa using H2.out.2.2.size) _⟩
end Go.Proofs.Ytoopipljedoeeaa
