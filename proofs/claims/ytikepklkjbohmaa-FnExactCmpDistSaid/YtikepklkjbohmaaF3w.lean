import Derived.Test.YtikepklkjbohmaaF3
import Derived.Test.YtikepklkjbohmaaInter
namespace Go.Proofs.Ytikepklkjbohmaa
open Go.RowKit
attribute [local go_sem] run_store_float

def cc (j k : Nat) (v : Value) : Value := if j < k then v else undef
def LST (k : Nat) (m1 m2 m3 : Bool) : Array Bool := #[true, true, decide (0 < k), decide (1 < k), true, true, decide (2 < k), decide (3 < k), true, true, decide (4 < k), decide (5 < k), m1, m2, m3, false, false, false]
def idx (k : Nat) : Nat := if k = 0 then 2 else if k = 1 then 3 else if k = 2 then 6 else if k = 3 then 7 else if k = 4 then 10 else 11
theorem six {k : Nat} (h : k < 6) : k = 0 ∨ k = 1 ∨ k = 2 ∨ k = 3 ∨ k = 4 ∨ k = 5 := by omega
theorem wpAnyH_cast {P : Program} {ops : Array Oper} {Q : Exit → Act → World → Prop} {S : World → Prop} {f f' : Nat} {l l' : Array Bool} {a a' : Act} {w : World} (h1 : f = f') (h2 : l = l') (h3 : a = a') (h : wpAnyH P .any ops Q S f' l' a' w) : wpAnyH P .any ops Q S f l a w := by
  subst h1 h2 h3; exact h

/-- Three cells of a block written. -/
def W3 (w : World) (g : Nat) (u0 u1 u2 : Value) : World := ((w.setCell ⟨g, 0, none⟩ u0).setCell ⟨g, 1, none⟩ u1).setCell ⟨g, 2, none⟩ u2
theorem W3_at {w : World} {g : Nat} {x0 x1 x2 u0 u1 u2 : Value} {t : TypeId} (h : w.heap[g]? = some (.cells #[x0, x1, x2] t)) : (W3 w g u0 u1 u2).heap[g]? = some (.cells #[u0, u1, u2] t) := by
  have h1 := Joins.block_setCell (i := 0) h u0
  have h2 := Joins.block_setCell (i := 1) h1 u1
  have h3 := Joins.block_setCell (i := 2) h2 u2
  unfold W3; simpa using h3
theorem W3_other {w : World} {g k : Nat} {u0 u1 u2 : Value} (h : k ≠ g) : (W3 w g u0 u1 u2).heap[k]? = w.heap[k]? := by
  unfold W3
  rw [Below.heap_setCell _ _ _ _ (by exact h), Below.heap_setCell _ _ _ _ (by exact h), Below.heap_setCell _ _ _ _ (by exact h)]
theorem W3_below {B : Nat} {w w' : World} {g : Nat} {u0 u1 u2 : Value} (h : Below B w w') (hg : B ≤ g) : Below B w (W3 w' g u0 u1 u2) :=
  ((h.setCell (p := ⟨g, 0, none⟩) hg u0).setCell (p := ⟨g, 1, none⟩) hg u1).setCell (p := ⟨g, 2, none⟩) hg u2

section
variable (N : Nat) (a0 a1 a2 b0 b1 b2 c0 c1 c2 d0 d1 d2 : Int)
def FRM (k : Nat) (t1 t2 t3 : Value) : Act := { tmps := #[V3i a0 a1 a2, V3i b0 b1 b2, V3i c0 c1 c2, V3i d0 d1 d2, .pointer (some ⟨N, 0, none⟩), .pointer (some ⟨N + 1, 0, none⟩), .pointer (some ⟨N + 1 + 1, 0, none⟩), .pointer (some ⟨N + 1 + 1 + 1, 0, none⟩), .float .f64 0, .float .f64 0, .int .i64 0, t1, t2, t3, undef, undef, undef, undef, undef, undef, undef, undef, .agg #[.int .i64 a0, .int .i64 a1, .int .i64 a2], .bool false, .bool false, .agg #[.int .i64 b0, .int .i64 b1, .int .i64 b2], .bool false, .bool false, .bool false, .agg #[.int .i64 c0, .int .i64 c1, .int .i64 c2], .bool false, .bool false, .bool false, .agg #[.int .i64 d0, .int .i64 d1, .int .i64 d2], .bool false, .bool false, .agg #[.int .i64 a0, .int .i64 a1, .int .i64 a2], .agg #[.int .i64 d0, .int .i64 d1, .int .i64 d2], cc 0 k (V3i (a0 - d0) (a1 - d1) (a2 - d2)), cc 1 k (V3f (fl (a0 - d0)) (fl (a1 - d1)) (fl (a2 - d2))), .agg #[.int .i64 b0, .int .i64 b1, .int .i64 b2], .agg #[.int .i64 d0, .int .i64 d1, .int .i64 d2], cc 2 k (V3i (b0 - d0) (b1 - d1) (b2 - d2)), cc 3 k (V3f (fl (b0 - d0)) (fl (b1 - d1)) (fl (b2 - d2))), .agg #[.int .i64 c0, .int .i64 c1, .int .i64 c2], .agg #[.int .i64 d0, .int .i64 d1, .int .i64 d2], cc 4 k (V3i (c0 - d0) (c1 - d1) (c2 - d2)), cc 5 k (V3f (fl (c0 - d0)) (fl (c1 - d1)) (fl (c2 - d2))), undef, undef, undef, undef, undef, undef, undef, undef, undef, undef, undef, undef, undef, undef, undef, undef, undef, undef, undef, undef, undef, undef, undef, undef, undef, undef, undef, undef, undef, undef, undef, undef, undef, undef, undef, undef, undef, undef, undef, undef, undef, undef, undef, undef, undef, undef, undef, undef, undef, undef, undef, undef, undef, undef, undef], defers := [] }
end

set_option maxHeartbeats 1000000 in
theorem implF3_wild (a0 a1 a2 b0 b1 b2 c0 c1 c2 d0 d1 d2 : Int) (w : World) (h : (inB3 a0 a1 a2 && inB3 b0 b1 b2 && inB3 c0 c1 c2 && inB3 d0 d1 d2) = false) :
    Calls Try.prog 25 #[V3i a0 a1 a2, V3i b0 b1 b2, V3i c0 c1 c2, V3i d0 d1 d2] w fun e w' => e = .returned (.tuple #[.float .f64 0, .float .f64 0, .int .i64 2]) ∧ Below w.heap.size w w' := by
  cases h1 : inB3 a0 a1 a2
  · have g1 : (!inB3 a0 a1 a2) = true := by rw [h1]; rfl
    clear h h1
    go_enter Try.func25, Try.ntmps25
    go_wp2_with fail
    refine (wild3_any _ _ _ _).mono ?_
    rintro e w1 ⟨rfl, hb1⟩
    go_wp2
    go_ret3
    exact ⟨rfl, (below_alloc4 _ _ _ _ _).trans (hb1.mono (by simp; omega))⟩
  · have g1 : (!inB3 a0 a1 a2) = false := by rw [h1]; rfl
    rw [h1, Bool.true_and] at h
    clear h1
    cases h2 : inB3 b0 b1 b2
    · have g2 : (!inB3 b0 b1 b2) = true := by rw [h2]; rfl
      clear h h2
      go_enter Try.func25, Try.ntmps25
      go_wp2_with fail
      refine (wild3_any _ _ _ _).mono ?_
      rintro e w1 ⟨rfl, hb1⟩
      obtain ⟨hc, hf⟩ := bcell hb1
      go_wp2_with fail
      refine (wild3_any _ _ _ _).mono ?_
      rintro e w2 ⟨rfl, hb2⟩
      go_wp2
      go_ret3
      exact ⟨rfl, (below_alloc4 _ _ _ _ _).trans ((hb1.trans (hb2.mono hb1.size)).mono (by simp; omega))⟩
    · have g2 : (!inB3 b0 b1 b2) = false := by rw [h2]; rfl
      rw [h2, Bool.true_and] at h
      clear h2
      cases h3 : inB3 c0 c1 c2
      · have g3 : (!inB3 c0 c1 c2) = true := by rw [h3]; rfl
        clear h h3
        go_enter Try.func25, Try.ntmps25
        go_wp2_with fail
        refine (wild3_any _ _ _ _).mono ?_
        rintro e w1 ⟨rfl, hb1⟩
        obtain ⟨hc, hf⟩ := bcell hb1
        go_wp2_with fail
        refine (wild3_any _ _ _ _).mono ?_
        rintro e w2 ⟨rfl, hb2⟩
        have hb12 := hb1.trans (hb2.mono hb1.size)
        obtain ⟨hc2, hf2⟩ := bcell hb12
        go_wp2_with fail
        refine (wild3_any _ _ _ _).mono ?_
        rintro e w3 ⟨rfl, hb3⟩
        go_wp2
        go_ret3
        exact ⟨rfl, (below_alloc4 _ _ _ _ _).trans ((hb12.trans (hb3.mono hb12.size)).mono (by simp; omega))⟩
      · have g3 : (!inB3 c0 c1 c2) = false := by rw [h3]; rfl
        rw [h3, Bool.true_and] at h
        have g4 : (!inB3 d0 d1 d2) = true := by rw [h]; rfl
        clear h h3
        go_enter Try.func25, Try.ntmps25
        go_wp2_with fail
        refine (wild3_any _ _ _ _).mono ?_
        rintro e w1 ⟨rfl, hb1⟩
        obtain ⟨hc, hf⟩ := bcell hb1
        go_wp2_with fail
        refine (wild3_any _ _ _ _).mono ?_
        rintro e w2 ⟨rfl, hb2⟩
        have hb12 := hb1.trans (hb2.mono hb1.size)
        obtain ⟨hc2, hf2⟩ := bcell hb12
        go_wp2_with fail
        refine (wild3_any _ _ _ _).mono ?_
        rintro e w3 ⟨rfl, hb3⟩
        have hb13 := hb12.trans (hb3.mono hb12.size)
        obtain ⟨hc3, hf3⟩ := bcell hb13
        go_wp2_with fail
        refine (wild3_any _ _ _ _).mono ?_
        rintro e w4 ⟨rfl, hb4⟩
        go_wp2
        go_ret3
        exact ⟨rfl, (below_alloc4 _ _ _ _ _).trans ((hb13.trans (hb4.mono hb13.size)).mono (by simp; omega))⟩

/-- Four blocks as they were laid. -/
abbrev S4 (N : Nat) (A0 A1 A2 A3 : Array Value) (w' : World) : Prop := (∀ j, w'.cell? ⟨N, j, none⟩ = A0[j]?) ∧ (∀ j, w'.cell? ⟨N + 1, j, none⟩ = A1[j]?) ∧ (∀ j, w'.cell? ⟨N + 1 + 1, j, none⟩ = A2[j]?) ∧ (∀ j, w'.cell? ⟨N + 1 + 1 + 1, j, none⟩ = A3[j]?) ∧ N + 4 ≤ w'.heap.size

theorem S4.call {N : Nat} {A0 A1 A2 A3 : Array Value} {w' w1 : World} (h : S4 N A0 A1 A2 A3 w') (hb : Below w'.heap.size w' w1) : S4 N A0 A1 A2 A3 w1 := by
  obtain ⟨h0, h1, h2, h3, hs⟩ := h
  refine ⟨fun j => ?_, fun j => ?_, fun j => ?_, fun j => ?_, Nat.le_trans hs hb.size⟩
  · rw [← h0 j]; exact hb.cell (p := ⟨N, j, none⟩) (by show N < _; omega)
  · rw [← h1 j]; exact hb.cell (p := ⟨N + 1, j, none⟩) (by show N + 1 < _; omega)
  · rw [← h2 j]; exact hb.cell (p := ⟨N + 1 + 1, j, none⟩) (by show N + 1 + 1 < _; omega)
  · rw [← h3 j]; exact hb.cell (p := ⟨N + 1 + 1 + 1, j, none⟩) (by show N + 1 + 1 + 1 < _; omega)
theorem S4.of {N : Nat} {A0 A1 A2 A3 : Array Value} {w' w1 : World} (h : S4 N A0 A1 A2 A3 w') (hb : Below (N + 4) w' w1) : S4 N A0 A1 A2 A3 w1 := by
  obtain ⟨h0, h1, h2, h3, hs⟩ := h
  refine ⟨fun j => ?_, fun j => ?_, fun j => ?_, fun j => ?_, Nat.le_trans hs hb.size⟩
  · rw [← h0 j]; exact hb.cell (p := ⟨N, j, none⟩) (by show N < _; omega)
  · rw [← h1 j]; exact hb.cell (p := ⟨N + 1, j, none⟩) (by show N + 1 < _; omega)
  · rw [← h2 j]; exact hb.cell (p := ⟨N + 1 + 1, j, none⟩) (by show N + 1 + 1 < _; omega)
  · rw [← h3 j]; exact hb.cell (p := ⟨N + 1 + 1 + 1, j, none⟩) (by show N + 1 + 1 + 1 < _; omega)
theorem S4.alloc {N : Nat} {A0 A1 A2 A3 : Array Value} {w' : World} (h : S4 N A0 A1 A2 A3 w') (o : Obj) : S4 N A0 A1 A2 A3 (w'.alloc o) := h.call ((Below.refl _ _).alloc (Nat.le_refl _) o)
theorem S4.drew {N : Nat} {A0 A1 A2 A3 : Array Value} {w' : World} (h : S4 N A0 A1 A2 A3 w') : S4 N A0 A1 A2 A3 w'.drew := h.call (Joins.below_draws _ _ 1)
theorem S4.start {w w4 : World} {A0 A1 A2 A3 : Array Value} {t : TypeId} (hb : Below ((((w.alloc (.cells A0 t)).alloc (.cells A1 t)).alloc (.cells A2 t)).alloc (.cells A3 t)).heap.size ((((w.alloc (.cells A0 t)).alloc (.cells A1 t)).alloc (.cells A2 t)).alloc (.cells A3 t)) w4) : S4 w.heap.size A0 A1 A2 A3 w4 := by
  refine ⟨fun j => ?_, fun j => ?_, fun j => ?_, fun j => ?_, ?_⟩
  · rw [hb.cell (p := ⟨w.heap.size, j, none⟩) (by simp; omega)]; go_simp
  · rw [hb.cell (p := ⟨w.heap.size + 1, j, none⟩) (by simp)]; go_simp
  · rw [hb.cell (p := ⟨w.heap.size + 1 + 1, j, none⟩) (by simp)]; go_simp
  · rw [hb.cell (p := ⟨w.heap.size + 1 + 1 + 1, j, none⟩) (by simp)]; go_simp
  · have := hb.size; simp at this; omega

end Go.Proofs.Ytikepklkjbohmaa
