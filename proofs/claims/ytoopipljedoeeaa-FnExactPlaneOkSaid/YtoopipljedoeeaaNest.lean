import Derived.Test.YtoopipljedoeeaaQok
import Derived.ProofKit
import Derived.OpenShut
import Derived.Lib.SmallJoins
namespace Go.Proofs.Ytoopipljedoeeaa
open Go.ChangeShapes Go.WideShapes Go.ChangeAt Go.RowKit Go.Joins

theorem cells23 : Try.prog.cellsOf 23 = 2 := by kernel_rfl
theorem cells25 : Try.prog.cellsOf 25 = 6 := by kernel_rfl
theorem cells33 : Try.prog.cellsOf 33 = 8 := by kernel_rfl
theorem cells2 : Try.prog.cellsOf 2 = 1 := by kernel_rfl
variable {H : Type} {enc : TypeId × Value → H} {W : World} {sp : Nat → Bool}
theorem q_open {n : Nat} {c0 c1 : Value} {y : DataW H × List MemPlace} (h : DataW.trod enc Try.prog W 0 sp true n 23 [c0, c1] = some y) :
    ∃ a b, c0 = .int .i64 a ∧ c1 = .int .i64 b ∧ y = (.agg [.lit (.int .i64 a), .lit (.int .i64 b)], []) ∧ (Lit.int IntKind.i64 a).wf = true ∧ (Lit.int IntKind.i64 b).wf = true := by
  obtain ⟨y0, y1, n, hx, _, h0, h1⟩ := trod_struct2 Try.underlying23 h
  simp [cells2] at h0 h1
  obtain ⟨a, e0, rfl, wa⟩ := DataW.trod_int Try.underlying2 h0
  obtain ⟨b, e1, rfl, wb⟩ := DataW.trod_int Try.underlying2 h1
  simp at e0 e1
  exact ⟨a, b, e0, e1, by simpa using hx, wa, wb⟩
theorem q_shut {a b : Int} (wa : (Lit.int IntKind.i64 a).wf = true) (wb : (Lit.int IntKind.i64 b).wf = true) : DataW.trod enc Try.prog W 0 sp true 2 23 [.int .i64 a, .int .i64 b] = some (.agg [.lit (.int .i64 a), .lit (.int .i64 b)], []) := by
  have := trod_struct2_mk (enc := enc) (w := W) (base := 0) (spare := sp) (held := true) (n := 1) (cs := [.int .i64 a, .int .i64 b]) (y0 := (.lit (.int .i64 a), [])) (y1 := (.lit (.int .i64 b), [])) Try.underlying23 (by simp [cells23]) (by simp [cells2, DataW.trod, Try.underlying2, wa]) (by simp [cells2, DataW.trod, Try.underlying2, wb])
  simpa using this
theorem v3_open {n : Nat} {c0 c1 c2 c3 c4 c5 : Value} {y : DataW H × List MemPlace} (h : DataW.trod enc Try.prog W 0 sp true n 25 [c0, c1, c2, c3, c4, c5] = some y) :
    ∃ a' b' c' d' k' l', c0 = .int .i64 a' ∧ c1 = .int .i64 b' ∧ c2 = .int .i64 c' ∧ c3 = .int .i64 d' ∧ c4 = .int .i64 k' ∧ c5 = .int .i64 l' ∧ y = (.agg [.agg [.lit (.int .i64 a'), .lit (.int .i64 b')], .agg [.lit (.int .i64 c'), .lit (.int .i64 d')], .agg [.lit (.int .i64 k'), .lit (.int .i64 l')]], []) ∧ (Lit.int IntKind.i64 a').wf = true ∧ (Lit.int IntKind.i64 b').wf = true ∧ (Lit.int IntKind.i64 c').wf = true ∧ (Lit.int IntKind.i64 d').wf = true ∧ (Lit.int IntKind.i64 k').wf = true ∧ (Lit.int IntKind.i64 l').wf = true := by
  obtain ⟨y0, y1, y2, n, hx, _, h0, h1, h2⟩ := Deep.trod_struct3 Try.underlying25 h
  simp [cells23] at h0 h1 h2
  obtain ⟨a, b, rfl, rfl, rfl, wa, wb⟩ := q_open h0
  obtain ⟨c, d, rfl, rfl, rfl, wc, wd⟩ := q_open h1
  obtain ⟨k, l, rfl, rfl, rfl, wk, wl⟩ := q_open h2
  exact ⟨a, b, c, d, k, l, rfl, rfl, rfl, rfl, rfl, rfl, by simpa using hx, wa, wb, wc, wd, wk, wl⟩
theorem v3_shut {a b c d k l : Int} (wa : (Lit.int IntKind.i64 a).wf = true) (wb : (Lit.int IntKind.i64 b).wf = true) (wc : (Lit.int IntKind.i64 c).wf = true) (wd : (Lit.int IntKind.i64 d).wf = true) (wk : (Lit.int IntKind.i64 k).wf = true) (wl : (Lit.int IntKind.i64 l).wf = true) : DataW.trod enc Try.prog W 0 sp true 3 25 [.int .i64 a, .int .i64 b, .int .i64 c, .int .i64 d, .int .i64 k, .int .i64 l] = some (.agg [.agg [.lit (.int .i64 a), .lit (.int .i64 b)], .agg [.lit (.int .i64 c), .lit (.int .i64 d)], .agg [.lit (.int .i64 k), .lit (.int .i64 l)]], []) := by
  have := Deep.trod_struct3_mk (enc := enc) (w := W) (base := 0) (spare := sp) (held := true) (n := 2) (cs := [.int .i64 a, .int .i64 b, .int .i64 c, .int .i64 d, .int .i64 k, .int .i64 l]) (y0 := (.agg [.lit (.int .i64 a), .lit (.int .i64 b)], [])) (y1 := (.agg [.lit (.int .i64 c), .lit (.int .i64 d)], [])) (y2 := (.agg [.lit (.int .i64 k), .lit (.int .i64 l)], [])) Try.underlying25 (by simp [cells25]) (by simpa [cells23] using q_shut wa wb) (by simpa [cells23] using q_shut wc wd) (by simpa [cells23] using q_shut wk wl)
  simpa using this
theorem array6 {α : Type} {cs : Array α} (h : cs.size = 6) : ∃ c0 c1 c2 c3 c4 c5, cs = #[c0, c1, c2, c3, c4, c5] := by
  obtain ⟨l⟩ := cs
  match l, h with
  | [c0, c1, c2, c3, c4, c5], _ => exact ⟨c0, c1, c2, c3, c4, c5, rfl⟩
set_option maxRecDepth 100000 in
theorem V3_open {r : Reach} {b0 : Nat} {v : Value} {d' : DataW H} {p : List MemPlace} (hv : Value.okWide Try.prog W r b0 25 v) (h : DataW.Trod enc Try.prog W 0 sp true 25 v d' p) :
    ∃ a b c d k l, v = .agg #[.int .i64 a, .int .i64 b, .int .i64 c, .int .i64 d, .int .i64 k, .int .i64 l] ∧ d' = .agg [.agg [.lit (.int .i64 a), .lit (.int .i64 b)], .agg [.lit (.int .i64 c), .lit (.int .i64 d)], .agg [.lit (.int .i64 k), .lit (.int .i64 l)]] ∧ p = [] ∧ (Lit.int IntKind.i64 a).wf = true ∧ (Lit.int IntKind.i64 b).wf = true ∧ (Lit.int IntKind.i64 c).wf = true ∧ (Lit.int IntKind.i64 d).wf = true ∧ (Lit.int IntKind.i64 k).wf = true ∧ (Lit.int IntKind.i64 l).wf = true := by
  obtain ⟨cs, rfl, hsz⟩ := okWide_struct Try.underlying25 hv
  obtain ⟨c0, c1, c2, c3, c4, c5, rfl⟩ := array6 (hsz.trans cells25)
  obtain ⟨fuel, hf⟩ := h
  obtain ⟨a, b, c, d, k, l, rfl, rfl, rfl, rfl, rfl, rfl, hx, w⟩ := v3_open (by simpa [Value.cells] using hf)
  simp only [Prod.mk.injEq] at hx
  exact ⟨a, b, c, d, k, l, rfl, hx.1, hx.2, w⟩
theorem pl_open {n : Nat} {c0 c1 c2 c3 c4 c5 c6 c7 : Value} {y : DataW H × List MemPlace} (h : DataW.trod enc Try.prog W 0 sp true n 33 [c0, c1, c2, c3, c4, c5, c6, c7] = some y) :
    ∃ a' b' c' d' k' l' m' n', c0 = .int .i64 a' ∧ c1 = .int .i64 b' ∧ c2 = .int .i64 c' ∧ c3 = .int .i64 d' ∧ c4 = .int .i64 k' ∧ c5 = .int .i64 l' ∧ c6 = .int .i64 m' ∧ c7 = .int .i64 n' ∧ y = (.agg [.agg [.lit (.int .i64 a'), .lit (.int .i64 b')], .agg [.lit (.int .i64 c'), .lit (.int .i64 d')], .agg [.lit (.int .i64 k'), .lit (.int .i64 l')], .agg [.lit (.int .i64 m'), .lit (.int .i64 n')]], []) ∧ (Lit.int IntKind.i64 a').wf = true ∧ (Lit.int IntKind.i64 b').wf = true ∧ (Lit.int IntKind.i64 c').wf = true ∧ (Lit.int IntKind.i64 d').wf = true ∧ (Lit.int IntKind.i64 k').wf = true ∧ (Lit.int IntKind.i64 l').wf = true ∧ (Lit.int IntKind.i64 m').wf = true ∧ (Lit.int IntKind.i64 n').wf = true := by
  obtain ⟨y0, y1, y2, y3, n, hx, _, h0, h1, h2, h3⟩ := trod_struct4 Try.underlying33 h
  simp [cells23] at h0 h1 h2 h3
  obtain ⟨a, b, rfl, rfl, rfl, wa, wb⟩ := q_open h0
  obtain ⟨c, d, rfl, rfl, rfl, wc, wd⟩ := q_open h1
  obtain ⟨k, l, rfl, rfl, rfl, wk, wl⟩ := q_open h2
  obtain ⟨m, n, rfl, rfl, rfl, wm, wn⟩ := q_open h3
  exact ⟨a, b, c, d, k, l, m, n, rfl, rfl, rfl, rfl, rfl, rfl, rfl, rfl, by simpa using hx, wa, wb, wc, wd, wk, wl, wm, wn⟩
theorem pl_shut {a b c d k l m n : Int} (wa : (Lit.int IntKind.i64 a).wf = true) (wb : (Lit.int IntKind.i64 b).wf = true) (wc : (Lit.int IntKind.i64 c).wf = true) (wd : (Lit.int IntKind.i64 d).wf = true) (wk : (Lit.int IntKind.i64 k).wf = true) (wl : (Lit.int IntKind.i64 l).wf = true) (wm : (Lit.int IntKind.i64 m).wf = true) (wn : (Lit.int IntKind.i64 n).wf = true) : DataW.trod enc Try.prog W 0 sp true 3 33 [.int .i64 a, .int .i64 b, .int .i64 c, .int .i64 d, .int .i64 k, .int .i64 l, .int .i64 m, .int .i64 n] = some (.agg [.agg [.lit (.int .i64 a), .lit (.int .i64 b)], .agg [.lit (.int .i64 c), .lit (.int .i64 d)], .agg [.lit (.int .i64 k), .lit (.int .i64 l)], .agg [.lit (.int .i64 m), .lit (.int .i64 n)]], []) := by
  have := trod_struct4_mk (enc := enc) (w := W) (base := 0) (spare := sp) (held := true) (n := 2) (cs := [.int .i64 a, .int .i64 b, .int .i64 c, .int .i64 d, .int .i64 k, .int .i64 l, .int .i64 m, .int .i64 n]) (y0 := (.agg [.lit (.int .i64 a), .lit (.int .i64 b)], [])) (y1 := (.agg [.lit (.int .i64 c), .lit (.int .i64 d)], [])) (y2 := (.agg [.lit (.int .i64 k), .lit (.int .i64 l)], [])) (y3 := (.agg [.lit (.int .i64 m), .lit (.int .i64 n)], [])) Try.underlying33 (by simp [cells33]) (by simpa [cells23] using q_shut wa wb) (by simpa [cells23] using q_shut wc wd) (by simpa [cells23] using q_shut wk wl) (by simpa [cells23] using q_shut wm wn)
  simpa using this
theorem array8 {α : Type} {cs : Array α} (h : cs.size = 8) : ∃ c0 c1 c2 c3 c4 c5 c6 c7, cs = #[c0, c1, c2, c3, c4, c5, c6, c7] := by
  obtain ⟨l⟩ := cs
  match l, h with
  | [c0, c1, c2, c3, c4, c5, c6, c7], _ => exact ⟨c0, c1, c2, c3, c4, c5, c6, c7, rfl⟩
set_option maxRecDepth 100000 in
theorem PL_open {r : Reach} {b0 : Nat} {v : Value} {d' : DataW H} {p : List MemPlace} (hv : Value.okWide Try.prog W r b0 33 v) (h : DataW.Trod enc Try.prog W 0 sp true 33 v d' p) :
    ∃ a b c d k l m n, v = .agg #[.int .i64 a, .int .i64 b, .int .i64 c, .int .i64 d, .int .i64 k, .int .i64 l, .int .i64 m, .int .i64 n] ∧ d' = .agg [.agg [.lit (.int .i64 a), .lit (.int .i64 b)], .agg [.lit (.int .i64 c), .lit (.int .i64 d)], .agg [.lit (.int .i64 k), .lit (.int .i64 l)], .agg [.lit (.int .i64 m), .lit (.int .i64 n)]] ∧ p = [] ∧ (Lit.int IntKind.i64 a).wf = true ∧ (Lit.int IntKind.i64 b).wf = true ∧ (Lit.int IntKind.i64 c).wf = true ∧ (Lit.int IntKind.i64 d).wf = true ∧ (Lit.int IntKind.i64 k).wf = true ∧ (Lit.int IntKind.i64 l).wf = true ∧ (Lit.int IntKind.i64 m).wf = true ∧ (Lit.int IntKind.i64 n).wf = true := by
  obtain ⟨cs, rfl, hsz⟩ := okWide_struct Try.underlying33 hv
  obtain ⟨c0, c1, c2, c3, c4, c5, c6, c7, rfl⟩ := array8 (hsz.trans cells33)
  obtain ⟨fuel, hf⟩ := h
  obtain ⟨a, b, c, d, k, l, m, n, rfl, rfl, rfl, rfl, rfl, rfl, rfl, rfl, hx, w⟩ := pl_open (by simpa [Value.cells] using hf)
  simp only [Prod.mk.injEq] at hx
  exact ⟨a, b, c, d, k, l, m, n, rfl, hx.1, hx.2, w⟩
end Go.Proofs.Ytoopipljedoeeaa
