import Derived.Test.YtgcgoehmgaokkaaDoorHsRow
import Derived.Test.YtgcgoehmgaokkaaDoorHsTab
import Derived.Test.YtgcgoehmgaokkaaDoorTie
import Derived.Test.YtgcgoehmgaokkaaDoorCards
import Derived.LaidMore
import Derived.Stop.Joined
import Derived.Lib.LaidTab
import Derived.LaidSub
import Derived.SevenTiedAt
namespace Go.Proofs.YtgcgoehmgaokkaaDoor
open Go.ChangeShapes Go.WideShapes Go.ChangeAt Go.WideMaps Go.WideElems Go.RowKit Go.Joins

theorem laidOut : laidOutB Tryd.prog = true := by kernel_rfl
theorem own : ownKnob Tryd.prog.godebug = none := by kernel_rfl
theorem gFeats : Tryd.prog.globalNamed "loop.example/g00022/impl.featNeeds" = some 1 := by kernel_rfl
theorem tFeats : (Tryd.prog.globals[1]?).map (·.type) = some 117 := by kernel_rfl
theorem cellsQuad : Tryd.prog.cellsOf 116 = 4 := by kernel_rfl
theorem cellsInt : Tryd.prog.cellsOf 3 = 1 := by kernel_rfl
theorem cellsBool : Tryd.prog.cellsOf 4 = 1 := by kernel_rfl

/-- The list of one table, the features'. -/
abbrev laidF : List (String × DataW Unit) := [("loop.example/g00022/impl.featNeeds", Rows.laid_loop_example_g00022_impl_featNeeds)]

theorem feats_met (os : Os) (args : Array Value) : laidMetH Tryd.prog laidF ((World.doorLaid Tryd.prog 400 os).forCall (fun _ _ => 0) ⟨#[], args, []⟩).memory :=
  laidMetH_of_parts3 (fuel := 8) (laidMet_of_run' 8 (by kernel_rfl) (by kernel_rfl)) (by kernel_rfl) (by kernel_rfl)

/-- A row of the table, read. -/
theorem quad_cells {H : Type} {enc : TypeId × Value → H} {W : World} {base : Nat} {sp : Nat → Bool} {held : Bool} {m : Nat} {cs : List Value} {i : Nat} {a b : Bool} {c d : Int} {q : List MemPlace}
    (h : DataW.trod enc Tryd.prog W base sp held m 116 ((cs.drop (i * 4)).take 4) = some (.agg [.lit (.bool a), .lit (.bool b), .lit (.int .i64 c), .lit (.int .i64 d)], q)) :
    cs[i * 4]? = some (.bool a) ∧ cs[i * 4 + 1]? = some (.bool b) ∧ cs[i * 4 + 2]? = some (.int .i64 c) ∧ cs[i * 4 + 3]? = some (.int .i64 d) := by
  obtain ⟨xs, n, _, hx, _, hlen, hf⟩ := DataW.trod_struct Tryd.underlying116 h
  match xs, hlen with
  | [y0, y1, y2, y3], _ =>
    have h0 := hf 0 _ rfl
    have h1 := hf 1 _ rfl
    have h2 := hf 2 _ rfl
    have h3 := hf 3 _ rfl
    simp [cellsInt, cellsBool] at h0 h1 h2 h3
    obtain ⟨a', e0, rfl⟩ := DataW.trod_bool Tryd.underlying4 h0
    obtain ⟨b', e1, rfl⟩ := DataW.trod_bool Tryd.underlying4 h1
    obtain ⟨c', e2, rfl, _⟩ := DataW.trod_int Tryd.underlying3 h2
    obtain ⟨d', e3, rfl, _⟩ := DataW.trod_int Tryd.underlying3 h3
    simp at hx
    obtain ⟨⟨rfl, rfl, rfl, rfl⟩, _⟩ := hx
    have k0 := congrArg (fun l => l[0]?) e0
    have k1 := congrArg (fun l => l[0]?) e1
    have k2 := congrArg (fun l => l[0]?) e2
    have k3 := congrArg (fun l => l[0]?) e3
    simp [List.getElem?_drop] at k0 k1 k2 k3
    exact ⟨k0, k1, k2, k3⟩

theorem feats_cells {H : Type} {enc : TypeId × Value → H} {W : World} {base : Nat} {sp : Nat → Bool} {held : Bool} {fuel : Nat} {cs : List Value} {p : List MemPlace}
    (h : DataW.trod enc Tryd.prog W base sp held fuel 117 cs = some (Rows.laid_loop_example_g00022_impl_featNeeds, p)) : ∀ k : Nat, k < 8 → cs[k * 4]? = some (.bool (usesOn k)) ∧ cs[k * 4 + 1]? = some (.bool (usesWith k)) ∧ cs[k * 4 + 2]? = some (.int .i64 (leastN k)) ∧ cs[k * 4 + 3]? = some (.int .i64 (mostN k)) := by
  obtain ⟨xs, m, rfl, hx, hlen, hn, hel⟩ := DataW.trod_array Tryd.underlying117 h
  rw [cellsQuad] at hel
  simp only [Prod.mk.injEq, Rows.laid_loop_example_g00022_impl_featNeeds, DataW.agg.injEq] at hx
  obtain ⟨hx, _⟩ := hx
  match xs, hn, hx with
  | [x0, x1, x2, x3, x4, x5, x6, x7], _, hx =>
    simp only [List.map_cons, List.map_nil, List.cons.injEq] at hx
    obtain ⟨e0, e1, e2, e3, e4, e5, e6, e7, _⟩ := hx
    have a0 := quad_cells (cs := cs) (i := 0) (q := x0.2) ((hel 0 (by decide)).trans (by rw [e0]; rfl))
    have a1 := quad_cells (cs := cs) (i := 1) (q := x1.2) ((hel 1 (by decide)).trans (by rw [e1]; rfl))
    have a2 := quad_cells (cs := cs) (i := 2) (q := x2.2) ((hel 2 (by decide)).trans (by rw [e2]; rfl))
    have a3 := quad_cells (cs := cs) (i := 3) (q := x3.2) ((hel 3 (by decide)).trans (by rw [e3]; rfl))
    have a4 := quad_cells (cs := cs) (i := 4) (q := x4.2) ((hel 4 (by decide)).trans (by rw [e4]; rfl))
    have a5 := quad_cells (cs := cs) (i := 5) (q := x5.2) ((hel 5 (by decide)).trans (by rw [e5]; rfl))
    have a6 := quad_cells (cs := cs) (i := 6) (q := x6.2) ((hel 6 (by decide)).trans (by rw [e6]; rfl))
    have a7 := quad_cells (cs := cs) (i := 7) (q := x7.2) ((hel 7 (by decide)).trans (by rw [e7]; rfl))
    intro k hk
    match k, hk with
    | 0, _ => exact a0
    | 1, _ => exact a1
    | 2, _ => exact a2
    | 3, _ => exact a3
    | 4, _ => exact a4
    | 5, _ => exact a5
    | 6, _ => exact a6
    | 7, _ => exact a7
    | k + 8, hk => exact absurd hk (by omega)

/-- The table stands when the call begins. -/
theorem feats_of_laid {W : World} (h : laidMetH Tryd.prog laidF W) : FTab W := by
  rw [MakeChecks.laidMetH_plain _ _ _ (by kernel_rfl)] at h
  obtain ⟨ps, ⟨g0, t0, cs0, f0, p0, q0, hg0, ht0, hv0, hd0, _, _⟩, _⟩ := h
  obtain rfl := Option.some.inj (gFeats.symm.trans hg0)
  obtain rfl := Option.some.inj (tFeats.symm.trans ht0)
  have hc : ∀ k : Nat, k < 8 → W.cell? ⟨1, k * 4, none⟩ = some (.bool (usesOn k)) ∧ W.cell? ⟨1, k * 4 + 1, none⟩ = some (.bool (usesWith k)) ∧ W.cell? ⟨1, k * 4 + 2, none⟩ = some (.int .i64 (leastN k)) ∧ W.cell? ⟨1, k * 4 + 3, none⟩ = some (.int .i64 (mostN k)) := fun k hk => by
    obtain ⟨c0, c1, c2, c3⟩ := feats_cells hd0 k hk
    exact ⟨(World.var?_cell hg0 hv0 (k * 4)).trans (by simpa using c0), (World.var?_cell hg0 hv0 (k * 4 + 1)).trans (by simpa using c1), (World.var?_cell hg0 hv0 (k * 4 + 2)).trans (by simpa using c2), (World.var?_cell hg0 hv0 (k * 4 + 3)).trans (by simpa using c3)⟩
  exact ⟨World.block_lt_of_cell? W ⟨1, 0, none⟩ (hc 0 (by decide)).1, hc⟩
end Go.Proofs.YtgcgoehmgaokkaaDoor
