import Derived.Test.YtgcgoehmgaokkaaDoorSkLaw
import Derived.ProofKit
import Derived.OpenShut
import Derived.Lib.SmallJoins
import Derived.Deep.Slices
import Derived.Carry
namespace Go.Proofs.YtgcgoehmgaokkaaDoor
open Go.ChangeShapes Go.WideShapes Go.ChangeAt Go.RowKit Go.Joins

theorem cellsQ : Tryd.prog.cellsOf 95 = 2 := by kernel_rfl
theorem cellsRule : Tryd.prog.cellsOf 97 = 9 := by kernel_rfl
theorem cellsI : Tryd.prog.cellsOf 2 = 1 := by kernel_rfl
theorem cellsM : Tryd.prog.cellsOf 24 = 2 := by kernel_rfl
theorem cellsSR : Tryd.prog.cellsOf 22 = 1 := by kernel_rfl

variable {H : Type} {enc : TypeId × Value → H} {W : World} {sp : Nat → Bool}
theorem q_open {n : Nat} {c0 c1 : Value} {y : DataW H × List MemPlace} (h : DataW.trod enc Tryd.prog W 0 sp true n 95 [c0, c1] = some y) : ∃ a b, c0 = .int .i64 a ∧ c1 = .int .i64 b := by
  obtain ⟨y0, y1, n, hx, _, h0, h1⟩ := trod_struct2 Tryd.underlying95 h
  simp [cellsI] at h0 h1
  obtain ⟨a, e0, rfl, wa⟩ := DataW.trod_int Tryd.underlying2 h0
  obtain ⟨b, e1, rfl, wb⟩ := DataW.trod_int Tryd.underlying2 h1
  simp at e0 e1
  exact ⟨a, b, e0, e1⟩
theorem trod_struct7 {t : TypeId} {f0 f1 f2 f3 f4 f5 f6 : Field} {fuel : Nat} {cs : List Value} {x : DataW H × List MemPlace} (ht : Tryd.prog.underlying t = some (.struct #[f0, f1, f2, f3, f4, f5, f6])) (h : DataW.trod enc Tryd.prog W 0 sp true fuel t cs = some x) :
    ∃ n, ∀ (i : Nat) (f : Field), [f0, f1, f2, f3, f4, f5, f6][i]? = some f → ∃ y, DataW.trod enc Tryd.prog W 0 sp true n f.type ((cs.drop f.offset).take (Tryd.prog.cellsOf f.type)) = some y := by
  obtain ⟨xs, n, _, rfl, hl, hlen, hf⟩ := DataW.trod_struct ht h
  match xs, hlen with
  | [y0, y1, y2, y3, y4, y5, y6], _ =>
    refine ⟨n, fun i f hi => ?_⟩
    match i, hi with
    | 0, hi => obtain rfl := Option.some.inj hi; exact ⟨y0, by simpa using hf 0 f0 rfl⟩
    | 1, hi => obtain rfl := Option.some.inj hi; exact ⟨y1, by simpa using hf 1 f1 rfl⟩
    | 2, hi => obtain rfl := Option.some.inj hi; exact ⟨y2, by simpa using hf 2 f2 rfl⟩
    | 3, hi => obtain rfl := Option.some.inj hi; exact ⟨y3, by simpa using hf 3 f3 rfl⟩
    | 4, hi => obtain rfl := Option.some.inj hi; exact ⟨y4, by simpa using hf 4 f4 rfl⟩
    | 5, hi => obtain rfl := Option.some.inj hi; exact ⟨y5, by simpa using hf 5 f5 rfl⟩
    | 6, hi => obtain rfl := Option.some.inj hi; exact ⟨y6, by simpa using hf 6 f6 rfl⟩
theorem rule_open {n : Nat} {c0 c1 c2 c3 c4 c5 c6 c7 c8 : Value} {y : DataW H × List MemPlace} (h : DataW.trod enc Tryd.prog W 0 sp true n 97 [c0, c1, c2, c3, c4, c5, c6, c7, c8] = some y) :
    ∃ x0 x1 x2 x3 x4 x5 x6 x7 x8, c0 = .int .i64 x0 ∧ c1 = .int .i64 x1 ∧ c2 = .int .i64 x2 ∧ c3 = .int .i64 x3 ∧ c4 = .int .i64 x4 ∧ c5 = .int .i64 x5 ∧ c6 = .int .i64 x6 ∧ c7 = .int .i64 x7 ∧ c8 = .int .i64 x8 := by
  obtain ⟨n, hx⟩ := trod_struct7 Tryd.underlying97 h
  obtain ⟨y0, h0⟩ := hx 0 _ rfl
  obtain ⟨y1, h1⟩ := hx 1 _ rfl
  obtain ⟨y2, h2⟩ := hx 2 _ rfl
  obtain ⟨y3, h3⟩ := hx 3 _ rfl
  obtain ⟨y4, h4⟩ := hx 4 _ rfl
  obtain ⟨y5, h5⟩ := hx 5 _ rfl
  obtain ⟨y6, h6⟩ := hx 6 _ rfl
  simp [cellsI, cellsQ] at h0 h1 h2 h3 h4 h5 h6
  obtain ⟨a0, e0, _, _⟩ := DataW.trod_int Tryd.underlying2 h0
  obtain ⟨a1, e1, _, _⟩ := DataW.trod_int Tryd.underlying2 h1
  obtain ⟨a2, e2, _, _⟩ := DataW.trod_int Tryd.underlying2 h2
  obtain ⟨a3, e3, _, _⟩ := DataW.trod_int Tryd.underlying2 h3
  obtain ⟨a4, e4, _, _⟩ := DataW.trod_int Tryd.underlying2 h4
  obtain ⟨a5, a6, rfl, rfl⟩ := q_open h5
  obtain ⟨a7, a8, rfl, rfl⟩ := q_open h6
  simp at e0 e1 e2 e3 e4
  exact ⟨a0, a1, a2, a3, a4, a5, a6, a7, a8, e0, e1, e2, e3, e4, rfl, rfl, rfl, rfl⟩

/-- Elements of S numbers, one behind the other, told by one function. -/
theorem rd_open {S n : Nat} {a : Addr} (hS : 0 < S) (each : ∀ i, i < n → ∃ cs' : List Value, W.cells? 0 (a.add (i * S)) S = some cs' ∧ ∀ q, q < S → ∃ x : Int, cs'[q]? = some (.int .i64 x)) : ∃ F, Rd W S (some a) n F := by
  by_cases hn : n = 0
  · exact ⟨fun _ => 0, fun h => absurd h (by omega)⟩
  · have each' : ∀ i, i < n → ∃ f : Nat → Int, ∀ q, q < S → W.cell? (a.add (i * S + q)) = some (.int .i64 (f q)) := fun i hi => by
      obtain ⟨cs', h1, h2⟩ := each i hi
      obtain ⟨_, hl, hc⟩ := World.cells?_some h1
      obtain ⟨f, hf⟩ := Deep.choose_lt h2
      exact ⟨f, fun q hq => by rw [← Deep.add_add, hc q hq]; exact hf q hq⟩
    obtain ⟨G, hG⟩ := Deep.choose_lt each'
    obtain ⟨cs', h1, _⟩ := each 0 (by omega)
    have hlt := World.cells?_block h1 hS
    have h00 := hG 0 (by omega) 0 hS
    rw [Nat.zero_mul] at hlt h00
    obtain ⟨b, off, spot⟩ := a
    have hspot : spot = none := by simpa [Addr.add] using World.cell?_spot h00
    subst hspot
    refine ⟨fun j => G (j / S) (j % S), fun _ => ⟨b, off, rfl, by simpa [Addr.add] using hlt, fun j hj => ?_⟩⟩
    have h := hG (j / S) (Nat.div_lt_of_lt_mul (by rwa [Nat.mul_comm] at hj)) (j % S) (Nat.mod_lt _ hS)
    rw [add_plain, Nat.div_add_mod' j S] at h
    exact h

theorem array2 {α : Type} {cs : Array α} (h : cs.size = 2) : ∃ c0 c1, cs = #[c0, c1] := by
  obtain ⟨l⟩ := cs
  match l, h with
  | [c0, c1], _ => exact ⟨c0, c1, rfl⟩
theorem rs_open {n : Nat} {c : Value} {y : DataW H × List MemPlace} (h : DataW.trod enc Tryd.prog W 0 sp true n 22 [c] = some y) : ∃ ao len cap F, c = .slice ao len cap ∧ len ≤ maxLen ∧ Rd W 9 ao len F := by
  rcases Deep.open_slice Tryd.underlying22 h with ⟨hc, _⟩ | ⟨a, len, cap, m, n, D, Pl, hc, _, hl, hm, hmm, _, hx⟩
  · simp at hc
    exact ⟨none, 0, 0, fun _ => 0, hc, Nat.zero_le _, fun h => absurd h (Nat.lt_irrefl _)⟩
  · simp at hc
    have hlm : len ≤ m := by rw [hmm]; split <;> omega
    obtain ⟨F, hF⟩ := rd_open (W := W) (S := 9) (n := len) (a := a) (by omega) fun i hi => by
      obtain ⟨cs', h1, h2⟩ := hx i (by omega)
      rw [cellsRule] at h1
      obtain ⟨_, hlen, _⟩ := World.cells?_some h1
      refine ⟨cs', h1, ?_⟩
      match cs', hlen with
      | [v0, v1, v2, v3, v4, v5, v6, v7, v8], _ =>
        obtain ⟨x0, x1, x2, x3, x4, x5, x6, x7, x8, rfl, rfl, rfl, rfl, rfl, rfl, rfl, rfl, rfl⟩ := rule_open h2
        intro q hq
        match q, hq with
        | 0, _ => exact ⟨_, rfl⟩
        | 1, _ => exact ⟨_, rfl⟩
        | 2, _ => exact ⟨_, rfl⟩
        | 3, _ => exact ⟨_, rfl⟩
        | 4, _ => exact ⟨_, rfl⟩
        | 5, _ => exact ⟨_, rfl⟩
        | 6, _ => exact ⟨_, rfl⟩
        | 7, _ => exact ⟨_, rfl⟩
        | 8, _ => exact ⟨_, rfl⟩
    exact ⟨some a, len, cap, F, hc, by omega, hF⟩

set_option maxRecDepth 100000 in
theorem Sketch_open {r : Reach} {b0 : Nat} {v : Value} {d' : DataW H} {p : List MemPlace} (hv : Value.okWide Tryd.prog W r b0 24 v) (h : DataW.Trod enc Tryd.prog W 0 sp true 24 v d' p) :
    ∃ pt ao n cap R, v = .agg #[.int .i64 pt, .slice ao n cap] ∧ n ≤ maxLen ∧ Rd W 9 ao n R := by
  obtain ⟨cs, rfl, hsz⟩ := okWide_struct Tryd.underlying24 hv
  obtain ⟨c0, c1, rfl⟩ := array2 (hsz.trans cellsM)
  obtain ⟨fuel, hf⟩ := h
  have hf' : DataW.trod enc Tryd.prog W 0 sp true fuel 24 [c0, c1] = some (d', p) := by simpa [Value.cells] using hf
  obtain ⟨y0, y1, n, hx, _, h0, h1⟩ := trod_struct2 Tryd.underlying24 hf'
  simp [cellsI, cellsSR] at h0 h1
  obtain ⟨a, e0, rfl, _⟩ := DataW.trod_int Tryd.underlying2 h0
  simp at e0
  obtain ⟨ao, n, cap, R, rfl, mv, rv⟩ := rs_open h1
  exact ⟨a, ao, n, cap, R, by rw [e0], mv, rv⟩
end Go.Proofs.YtgcgoehmgaokkaaDoor
