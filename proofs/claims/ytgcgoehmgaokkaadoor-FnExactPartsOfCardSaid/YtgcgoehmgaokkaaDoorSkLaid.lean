import Derived.Test.YtgcgoehmgaokkaaDoorSkRow
import Derived.Test.YtgcgoehmgaokkaaDoorTie
import Derived.Test.YtgcgoehmgaokkaaDoorCards
import Derived.LaidMore
import Derived.Stop.Joined
import Derived.Lib.LaidTab
import Derived.LaidSub
import Derived.SevenTiedAt
namespace Go.Proofs.YtgcgoehmgaokkaaDoor
open Go.ChangeShapes Go.WideShapes Go.ChangeAt Go.WideMaps Go.WideElems Go.RowKit Go.Joins

theorem laidOut : laidOutB Tryd.prog = true := by kernel_rfl
theorem own : ownKnob Tryd.prog.godebug = none := by kernel_rfl
theorem gRules : Tryd.prog.globalNamed "loop.example/g00022/impl.ruleNames" = some 0 := by kernel_rfl
theorem tRules : (Tryd.prog.globals[0]?).map (·.type) = some 100 := by kernel_rfl
theorem cellsPair : Tryd.prog.cellsOf 99 = 2 := by kernel_rfl
theorem cellsInt : Tryd.prog.cellsOf 3 = 1 := by kernel_rfl

/-- The list of one table, the rules'. -/
abbrev laidR : List (String × DataW Unit) := [("loop.example/g00022/impl.ruleNames", Rows.laid_loop_example_g00022_impl_ruleNames)]

theorem rules_met (os : Os) (args : Array Value) : laidMetH Tryd.prog laidR ((World.doorLaid Tryd.prog 400 os).forCall (fun _ _ => 0) ⟨#[], args, []⟩).memory :=
  laidMetH_of_parts3 (fuel := 8) (laidMet_of_run' 8 (by kernel_rfl) (by kernel_rfl)) (by kernel_rfl) (by kernel_rfl)

/-- A pair of the table, read. -/
theorem pair_cells {H : Type} {enc : TypeId × Value → H} {W : World} {base : Nat} {sp : Nat → Bool} {held : Bool} {m : Nat} {cs : List Value} {i : Nat} {a b : Int} {q : List MemPlace}
    (h : DataW.trod enc Tryd.prog W base sp held m 99 ((cs.drop (i * 2)).take 2) = some (.agg [.lit (.int .i64 a), .lit (.int .i64 b)], q)) : cs[i * 2]? = some (.int .i64 a) ∧ cs[i * 2 + 1]? = some (.int .i64 b) := by
  obtain ⟨y0, y1, n, hx, _, h0, h1⟩ := trod_struct2 Tryd.underlying99 h
  simp [cellsInt] at h0 h1
  obtain ⟨a', e0, rfl, _⟩ := DataW.trod_int Tryd.underlying3 h0
  obtain ⟨b', e1, rfl, _⟩ := DataW.trod_int Tryd.underlying3 h1
  simp at hx
  obtain ⟨⟨rfl, rfl⟩, _⟩ := hx
  have c0 := congrArg (fun l => l[0]?) e0
  have c1 := congrArg (fun l => l[0]?) e1
  simp [List.getElem?_drop] at c0 c1
  exact ⟨c0, c1⟩

theorem rules_cells {H : Type} {enc : TypeId × Value → H} {W : World} {base : Nat} {sp : Nat → Bool} {held : Bool} {fuel : Nat} {cs : List Value} {p : List MemPlace}
    (h : DataW.trod enc Tryd.prog W base sp held fuel 100 cs = some (Rows.laid_loop_example_g00022_impl_ruleNames, p)) : ∀ k, k < 24 → cs[k]? = some (.int .i64 (tabv k)) := by
  obtain ⟨xs, m, rfl, hx, hlen, hn, hel⟩ := DataW.trod_array Tryd.underlying100 h
  rw [cellsPair] at hel
  simp only [Prod.mk.injEq, Rows.laid_loop_example_g00022_impl_ruleNames, DataW.agg.injEq] at hx
  obtain ⟨hx, _⟩ := hx
  match xs, hn, hx with
  | [x0, x1, x2, x3, x4, x5, x6, x7, x8, x9, x10, x11], _, hx =>
    simp only [List.map_cons, List.map_nil, List.cons.injEq] at hx
    obtain ⟨e0, e1, e2, e3, e4, e5, e6, e7, e8, e9, e10, e11, _⟩ := hx
    have a0 := pair_cells (cs := cs) (i := 0) (q := x0.2) ((hel 0 (by decide)).trans (by rw [e0]; rfl))
    have a1 := pair_cells (cs := cs) (i := 1) (q := x1.2) ((hel 1 (by decide)).trans (by rw [e1]; rfl))
    have a2 := pair_cells (cs := cs) (i := 2) (q := x2.2) ((hel 2 (by decide)).trans (by rw [e2]; rfl))
    have a3 := pair_cells (cs := cs) (i := 3) (q := x3.2) ((hel 3 (by decide)).trans (by rw [e3]; rfl))
    have a4 := pair_cells (cs := cs) (i := 4) (q := x4.2) ((hel 4 (by decide)).trans (by rw [e4]; rfl))
    have a5 := pair_cells (cs := cs) (i := 5) (q := x5.2) ((hel 5 (by decide)).trans (by rw [e5]; rfl))
    have a6 := pair_cells (cs := cs) (i := 6) (q := x6.2) ((hel 6 (by decide)).trans (by rw [e6]; rfl))
    have a7 := pair_cells (cs := cs) (i := 7) (q := x7.2) ((hel 7 (by decide)).trans (by rw [e7]; rfl))
    have a8 := pair_cells (cs := cs) (i := 8) (q := x8.2) ((hel 8 (by decide)).trans (by rw [e8]; rfl))
    have a9 := pair_cells (cs := cs) (i := 9) (q := x9.2) ((hel 9 (by decide)).trans (by rw [e9]; rfl))
    have a10 := pair_cells (cs := cs) (i := 10) (q := x10.2) ((hel 10 (by decide)).trans (by rw [e10]; rfl))
    have a11 := pair_cells (cs := cs) (i := 11) (q := x11.2) ((hel 11 (by decide)).trans (by rw [e11]; rfl))
    intro k hk
    match k, hk with
    | 0, _ => exact a0.1
    | 1, _ => exact a0.2
    | 2, _ => exact a1.1
    | 3, _ => exact a1.2
    | 4, _ => exact a2.1
    | 5, _ => exact a2.2
    | 6, _ => exact a3.1
    | 7, _ => exact a3.2
    | 8, _ => exact a4.1
    | 9, _ => exact a4.2
    | 10, _ => exact a5.1
    | 11, _ => exact a5.2
    | 12, _ => exact a6.1
    | 13, _ => exact a6.2
    | 14, _ => exact a7.1
    | 15, _ => exact a7.2
    | 16, _ => exact a8.1
    | 17, _ => exact a8.2
    | 18, _ => exact a9.1
    | 19, _ => exact a9.2
    | 20, _ => exact a10.1
    | 21, _ => exact a10.2
    | 22, _ => exact a11.1
    | 23, _ => exact a11.2
    | k + 24, hk => exact absurd hk (by omega)

/-- The table stands when the call begins. -/
theorem rules_of_laid {W : World} (h : laidMetH Tryd.prog laidR W) : RTab W := by
  rw [MakeChecks.laidMetH_plain _ _ _ (by kernel_rfl)] at h
  obtain ⟨ps, ⟨g0, t0, cs0, f0, p0, q0, hg0, ht0, hv0, hd0, _, _⟩, _⟩ := h
  obtain rfl := Option.some.inj (gRules.symm.trans hg0)
  obtain rfl := Option.some.inj (tRules.symm.trans ht0)
  have hc : ∀ k, k < 24 → W.cell? ⟨0, k, none⟩ = some (.int .i64 (tabv k)) := fun k hk => by
    have h1 := World.var?_cell hg0 hv0 k
    have h2 := rules_cells hd0 k hk
    rw [h1]
    simpa using h2
  exact ⟨World.block_lt_of_cell? W ⟨0, 0, none⟩ (hc 0 (by decide)), hc⟩
end Go.Proofs.YtgcgoehmgaokkaaDoor
