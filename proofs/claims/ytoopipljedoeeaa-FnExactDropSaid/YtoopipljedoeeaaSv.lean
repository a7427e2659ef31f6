import Derived.Test.YtoopipljedoeeaaAx
namespace Go.Proofs.Ytoopipljedoeeaa
open Go.RowKit

set_option maxHeartbeats 1000000 in
theorem v_any (a b c d : Int) (w : World) (ha1 : -1000000000000000000 ≤ a) (ha2 : a ≤ 1000000000000000000) (hc1 : -1000000000000000000 ≤ c) (hc2 : c ≤ 1000000000000000000) (hb1 : 1 ≤ b) (hb2 : b ≤ 1000000000000000000) (hd1 : 1 ≤ d) (hd2 : d ≤ 1000000000000000000) :
    Calls Try.prog 27 #[.agg #[.int .i64 a, .int .i64 b, .pointer none, .int .i64 c, .int .i64 d, .pointer none]] w fun e w' => e = .returned (.tuple #[.agg #[.int .i64 a, .int .i64 b, .int .i64 c, .int .i64 d], .bool true]) ∧ Below w.heap.size w w' := by
  have H0 : Hid (Ar ((w.alloc (.cells #[.int .i64 a, .int .i64 b, .pointer none, .int .i64 c, .int .i64 d, .pointer none] 68)).alloc (.cells #[.int .i64 0, .int .i64 0, .int .i64 0, .int .i64 0] 40)) w.heap.size #[.int .i64 a, .int .i64 b, .pointer none, .int .i64 c, .int .i64 d, .pointer none] ∧ Ar ((w.alloc (.cells #[.int .i64 a, .int .i64 b, .pointer none, .int .i64 c, .int .i64 d, .pointer none] 68)).alloc (.cells #[.int .i64 0, .int .i64 0, .int .i64 0, .int .i64 0] 40)) (w.heap.size + 1) #[.int .i64 0, .int .i64 0, .int .i64 0, .int .i64 0]) := ⟨⟨fun j => by go_simp, fun j => by go_simp, by simp; omega⟩, ⟨fun j => by go_simp, fun j => by go_simp, by simp⟩⟩
  go_enter Try.func27, Try.ntmps27
  go_wp2_with fail
  refine (q_any _ _ _ ha1 ha2 hb1 hb2).mono ?_
  rintro e w1 ⟨rfl, hx1⟩
  have H1 : Hid (Ar w1 w.heap.size #[.int .i64 a, .int .i64 b, .pointer none, .int .i64 c, .int .i64 d, .pointer none] ∧ Ar w1 (w.heap.size + 1) #[.int .i64 0, .int .i64 0, .int .i64 0, .int .i64 0] ∧ Below w.heap.size w w1) := ⟨H0.out.1.below hx1, H0.out.2.below hx1, (Joins.below_alloc2 w _ _).trans (hx1.mono (by simp; omega))⟩
  clear hx1 H0
  obtain ⟨p, pf, ps⟩ := H1.out.1
  have p3 := p 3
  have p4 := p 4
  have p5 := p 5
  clear p pf
  go_wp2_with fail
  refine (q_any _ _ _ hc1 hc2 hd1 hd2).mono ?_
  rintro e w2 ⟨rfl, hx2⟩
  have H2 : Hid (Ar w2 w1.heap.size #[.int .i64 a, .int .i64 b] ∧ Ar w2 (w.heap.size + 1) #[.int .i64 0, .int .i64 0, .int .i64 0, .int .i64 0] ∧ Below w.heap.size w w2) := ⟨Ar.below ⟨fun j => by go_simp, fun j => by go_simp, by simp⟩ hx2, (H1.out.2.1.below (Joins.below_alloc1 _ _)).below hx2, H1.out.2.2.trans (((Joins.below_alloc1 w1 _).trans (hx2.mono (by simp))).mono H1.out.2.2.size)⟩
  clear hx2 H1 p3 p4 p5
  obtain ⟨x, xf, xs⟩ := H2.out.1
  obtain ⟨r, rf, rs⟩ := H2.out.2.1
  have x0 := x 0
  have x1 := x 1
  clear x
  go_wp2
  exact bodyPost_ret (v := .tuple #[.agg #[.int .i64 a, .int .i64 b, .int .i64 c, .int .i64 d], .bool true]) (by simp [results, Try.results27, go_sem, r, rs]) rfl ⟨rfl, (((((H2.out.2.2.setCell (p := ⟨w.heap.size + 1, 0, none⟩) (Nat.le_succ _) _).setCell (p := ⟨w.heap.size + 1, 1, none⟩) (Nat.le_succ _) _).setCell (p := ⟨w.heap.size + 1, 2, none⟩) (Nat.le_succ _) _).setCell (p := ⟨w.heap.size + 1, 3, none⟩) (Nat.le_succ _) _)).alloc (by simpa using H2.out.2.2.size) _⟩
end Go.Proofs.Ytoopipljedoeeaa
