import Derived.Test.YtikepklkjbohmaaAl
namespace Go.Proofs.Ytikepklkjbohmaa
open Go.RowKit

/-- What the sum of products is asked to do. -/
def DotOK : Prop := ∀ (g1 g2 : Nat) (x y : Nat → Int) (w : World), (∀ j, j < 3 → w.cell? ⟨g1, j, none⟩ = some (.int .i64 (x j))) → (∀ j, j < 3 → w.cell? ⟨g2, j, none⟩ = some (.int .i64 (y j))) → (∀ j, j < 3 → (x j).natAbs ≤ 134217728) → (∀ j, j < 3 → (y j).natAbs ≤ 134217728) →
    Calls Try.prog 47 #[.slice (some ⟨g1, 0, none⟩) 3 3, .slice (some ⟨g2, 0, none⟩) 3 3] w fun e w' => ∃ p0 q0 s0 l0 c0, e = .returned (.agg #[.int .i64 p0, .int .i64 q0, .slice s0 l0 c0]) ∧ RIs w' (.agg #[.int .i64 p0, .int .i64 q0, .slice s0 l0 c0]) (dotS x y 3) 1 ∧ Below w.heap.size w w'

def pick3 (a b c : Int) : Nat → Int := fun j => if j = 0 then a else if j = 1 then b else c
theorem lt3 {p : Nat → Prop} (h0 : p 0) (h1 : p 1) (h2 : p 2) : ∀ j, j < 3 → p j := by
  intro j hj
  match j, hj with
  | 0, _ => exact h0
  | 1, _ => exact h1
  | 2, _ => exact h2
theorem dot_pick (a b c x y z : Int) : dotS (pick3 a b c) (pick3 x y z) 3 = a * x + b * y + c * z := by
  show 0 + a * x + b * y + c * z = _
  omega

/-- The sum of products, of two lists of three. -/
theorem l2Dot_three (hd : DotOK) (g1 g2 : Nat) (a b c x y z : Int) (w : World) (h1 : S1 g1 #[.int .i64 a, .int .i64 b, .int .i64 c] w) (h2 : S1 g2 #[.int .i64 x, .int .i64 y, .int .i64 z] w)
    (ha : a.natAbs ≤ 134217728) (hb : b.natAbs ≤ 134217728) (hc : c.natAbs ≤ 134217728) (hx : x.natAbs ≤ 134217728) (hy : y.natAbs ≤ 134217728) (hz : z.natAbs ≤ 134217728) :
    Calls Try.prog 47 #[.slice (some ⟨g1, 0, none⟩) 3 3, .slice (some ⟨g2, 0, none⟩) 3 3] w fun e w' => ∃ p0 q0 s0 l0 c0, e = .returned (.agg #[.int .i64 p0, .int .i64 q0, .slice s0 l0 c0]) ∧ RIs w' (.agg #[.int .i64 p0, .int .i64 q0, .slice s0 l0 c0]) (a * x + b * y + c * z) 1 ∧ Below w.heap.size w w' := by
  have h := hd g1 g2 (pick3 a b c) (pick3 x y z) w (lt3 (h1.1 0) (h1.1 1) (h1.1 2)) (lt3 (h2.1 0) (h2.1 1) (h2.1 2)) (lt3 ha hb hc) (lt3 hx hy hz)
  rw [dot_pick] at h
  exact h

set_option maxHeartbeats 1000000 in
theorem implAlong_tame (a0 a1 a2 b0 b1 b2 c0 c1 c2 d0 d1 d2 : Int) (w : World) (h : (inB3 a0 a1 a2 && inB3 b0 b1 b2 && inB3 c0 c1 c2 && inB3 d0 d1 d2) = true) :
    Calls Try.prog 21 #[V3i a0 a1 a2, V3i b0 b1 b2, V3i c0 c1 c2, V3i d0 d1 d2] w fun e w' => e = .returned (.int .i64 (sg3 ((b0 - a0) * (d0 - c0) + (b1 - a1) * (d1 - c1) + (b2 - a2) * (d2 - c2)))) ∧ Below w.heap.size w w' := by
  have H := h
  simp only [Bool.and_eq_true] at H
  obtain ⟨⟨⟨g1, g2⟩, g3⟩, g4⟩ := H
  have n1 : (!inB3 a0 a1 a2) = false := by rw [g1]; rfl
  have n2 : (!inB3 b0 b1 b2) = false := by rw [g2]; rfl
  have n3 : (!inB3 c0 c1 c2) = false := by rw [g3]; rfl
  have n4 : (!inB3 d0 d1 d2) = false := by rw [g4]; rfl
  have HT : Hid _ := tame4 h
  have HM : Hid ((-18014398509481984 ≤ (b0 - a0) * (d0 - c0) ∧ (b0 - a0) * (d0 - c0) ≤ 18014398509481984) ∧ (-18014398509481984 ≤ (b1 - a1) * (d1 - c1) ∧ (b1 - a1) * (d1 - c1) ≤ 18014398509481984) ∧ (-18014398509481984 ≤ (b2 - a2) * (d2 - c2) ∧ (b2 - a2) * (d2 - c2) ≤ 18014398509481984)) := by
    obtain ⟨⟨x0, x1, x2⟩, ⟨y0, y1, y2⟩, ⟨z0, z1, z2⟩, u0, u1, u2⟩ := tame4 h
    have m0 := mul_le54 (x := b0 - a0) (y := d0 - c0) (by omega) (by omega)
    have m1 := mul_le54 (x := b1 - a1) (y := d1 - c1) (by omega) (by omega)
    have m2 := mul_le54 (x := b2 - a2) (y := d2 - c2) (by omega) (by omega)
    exact ⟨⟨by omega, by omega⟩, ⟨by omega, by omega⟩, ⟨by omega, by omega⟩⟩
  clear h g1 g2 g3 g4
  go_enter Try.func21, Try.ntmps21
  go_wp2_with fail
  refine (wild3_any _ _ _ _).mono ?_
  rintro e w1 ⟨rfl, hb1⟩
  obtain ⟨hc, hf⟩ := bcell hb1
  go_wp2_with fail
  refine (wild3_any _ _ _ _).mono ?_
  rintro e w2 ⟨rfl, hb2⟩
  have hb12 := hb1.trans (hb2.mono hb1.size)
  obtain ⟨hc2, hf2⟩ := bcell hb12
  clear hc hf
  go_wp2_with fail
  refine (wild3_any _ _ _ _).mono ?_
  rintro e w3 ⟨rfl, hb3⟩
  have hb13 := hb12.trans (hb3.mono hb12.size)
  obtain ⟨hc3, hf3⟩ := bcell hb13
  clear hc2 hf2
  go_wp2_with fail
  refine (wild3_any _ _ _ _).mono ?_
  rintro e w4 ⟨rfl, hb4⟩
  have hb14 := hb13.trans (hb4.mono hb13.size)
  have hS := S4.start hb14
  have hB : Below w.heap.size w w4 := (below_alloc4 _ _ _ _ _).trans (hb14.mono (by simp; omega))
  clear hc3 hf3 hb1 hb2 hb3 hb4 hb12 hb13 hb14
  go_wp2_with fail
  go_region_held3 (fun w' => S4 w.heap.size #[.int .i64 a0, .int .i64 a1, .int .i64 a2] #[.int .i64 b0, .int .i64 b1, .int .i64 b2] #[.int .i64 c0, .int .i64 c1, .int .i64 c2] #[.int .i64 d0, .int .i64 d1, .int .i64 d2] w' ∧ Below w.heap.size w w') (first | with_reducible exact ⟨S4.drew hS, hB.drew⟩ | (have hh := ‹(S4 w.heap.size #[.int .i64 a0, .int .i64 a1, .int .i64 a2] #[.int .i64 b0, .int .i64 b1, .int .i64 b2] #[.int .i64 c0, .int .i64 c1, .int .i64 c2] #[.int .i64 d0, .int .i64 d1, .int .i64 d2] _ ∧ Below w.heap.size w _)›; first | with_reducible exact ⟨hh.1.call (by assumption), hh.2.trans (Below.mono (by assumption) hh.2.size)⟩ | with_reducible exact hh))
    (first
      | (go_at_call_of 50 (Value.agg #[Value.int IntKind.i64 b0, Value.int IntKind.i64 b1, Value.int IntKind.i64 b2]); refine (less3_any _ _ _ _ _ _ _ HT.out.2.1.1 HT.out.2.1.2.1 HT.out.2.1.2.2 HT.out.1.1 HT.out.1.2.1 HT.out.1.2.2).mono ?_; rintro e w' ⟨rfl, hb⟩)
      | (go_at_call_of 50 (Value.agg #[Value.int IntKind.i64 d0, Value.int IntKind.i64 d1, Value.int IntKind.i64 d2]); refine (less3_any _ _ _ _ _ _ _ HT.out.2.2.2.1 HT.out.2.2.2.2.1 HT.out.2.2.2.2.2 HT.out.2.2.1.1 HT.out.2.2.1.2.1 HT.out.2.2.1.2.2).mono ?_; rintro e w' ⟨rfl, hb⟩)
      | (go_at_call 51; refine (stepDot_any _ _ _ _ _ _ _ HM.out.1 HM.out.2.1 HM.out.2.2).mono ?_; rintro e w' ⟨rfl, hb⟩)
      | (go_at_call 45; refine (signOf_any _ _).mono ?_; rintro e w' ⟨rfl, rfl⟩))
  have hh := ‹(S4 w.heap.size #[.int .i64 a0, .int .i64 a1, .int .i64 a2] #[.int .i64 b0, .int .i64 b1, .int .i64 b2] #[.int .i64 c0, .int .i64 c1, .int .i64 c2] #[.int .i64 d0, .int .i64 d1, .int .i64 d2] _ ∧ Below w.heap.size w _)›
  have HH : Hid _ := hh.2
  clear hh
  go_wp2
  go_ret
  exact ⟨rfl, HH.out⟩
end Go.Proofs.Ytikepklkjbohmaa
