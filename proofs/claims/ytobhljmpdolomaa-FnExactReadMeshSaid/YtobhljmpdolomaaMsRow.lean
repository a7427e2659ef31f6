import Derived.Test.YtobhljmpdolomaaMsLaw
import Derived.ProofKit
import Derived.OpenShut
import Derived.Lib.SmallJoins
import Derived.Deep.Slices
import Derived.Carry
namespace Go.Proofs.Ytobhljmpdolomaa
open Go.ChangeShapes Go.WideShapes Go.ChangeAt Go.RowKit Go.Joins

theorem cellsQ : Try.prog.cellsOf 84 = 2 := by kernel_rfl
theorem cellsV3 : Try.prog.cellsOf 86 = 6 := by kernel_rfl
theorem cellsTri : Try.prog.cellsOf 88 = 3 := by kernel_rfl
theorem cellsI : Try.prog.cellsOf 2 = 1 := by kernel_rfl
theorem cellsM : Try.prog.cellsOf 25 = 2 := by kernel_rfl
theorem cellsSV : Try.prog.cellsOf 22 = 1 := by kernel_rfl
theorem cellsST : Try.prog.cellsOf 23 = 1 := by kernel_rfl

variable {H : Type} {enc : TypeId × Value → H} {W : World} {sp : Nat → Bool}
theorem q_open {n : Nat} {c0 c1 : Value} {y : DataW H × List MemPlace} (h : DataW.trod enc Try.prog W 0 sp true n 84 [c0, c1] = some y) : ∃ a b, c0 = .int .i64 a ∧ c1 = .int .i64 b := by
  obtain ⟨y0, y1, n, hx, _, h0, h1⟩ := trod_struct2 Try.underlying84 h
  simp [cellsI] at h0 h1
  obtain ⟨a, e0, rfl, wa⟩ := DataW.trod_int Try.underlying2 h0
  obtain ⟨b, e1, rfl, wb⟩ := DataW.trod_int Try.underlying2 h1
  simp at e0 e1
  exact ⟨a, b, e0, e1⟩
theorem v3_open {n : Nat} {c0 c1 c2 c3 c4 c5 : Value} {y : DataW H × List MemPlace} (h : DataW.trod enc Try.prog W 0 sp true n 86 [c0, c1, c2, c3, c4, c5] = some y) :
    ∃ a b c d k l, c0 = .int .i64 a ∧ c1 = .int .i64 b ∧ c2 = .int .i64 c ∧ c3 = .int .i64 d ∧ c4 = .int .i64 k ∧ c5 = .int .i64 l := by
  obtain ⟨y0, y1, y2, n, hx, _, h0, h1, h2⟩ := Deep.trod_struct3 Try.underlying86 h
  simp [cellsQ] at h0 h1 h2
  obtain ⟨a, b, rfl, rfl⟩ := q_open h0
  obtain ⟨c, d, rfl, rfl⟩ := q_open h1
  obtain ⟨k, l, rfl, rfl⟩ := q_open h2
  exact ⟨a, b, c, d, k, l, rfl, rfl, rfl, rfl, rfl, rfl⟩
theorem tri_open {n : Nat} {c0 c1 c2 : Value} {y : DataW H × List MemPlace} (h : DataW.trod enc Try.prog W 0 sp true n 88 [c0, c1, c2] = some y) :
    ∃ a b c, c0 = .int .i64 a ∧ c1 = .int .i64 b ∧ c2 = .int .i64 c := by
  obtain ⟨y0, y1, y2, n, hx, _, h0, h1, h2⟩ := Deep.trod_struct3 Try.underlying88 h
  simp [cellsI] at h0 h1 h2
  obtain ⟨a, e0, rfl, _⟩ := DataW.trod_int Try.underlying2 h0
  obtain ⟨b, e1, rfl, _⟩ := DataW.trod_int Try.underlying2 h1
  obtain ⟨c, e2, rfl, _⟩ := DataW.trod_int Try.underlying2 h2
  simp at e0 e1 e2
  exact ⟨a, b, c, e0, e1, e2⟩

/-- Elements of S numbers, one behind the other, told by one function. -/
theorem rd_open {S n : Nat} {a : Addr} (hS : 0 < S) (each : ∀ i, i < n → ∃ cs' : List Value, W.cells? 0 (a.add (i * S)) S = some cs' ∧ ∀ q, q < S → ∃ x : Int, cs'[q]? = some (.int .i64 x)) : ∃ F, Rd W S (some a) n F := by
  by_cases hn : n = 0
  · exact ⟨fun _ => 0, fun h => absurd h (by omega)⟩
  · have each' : ∀ i, i < n → ∃ f : Nat → Int, ∀ q, q < S → W.cell? (a.add (i * S + q)) = some (.int .i64 (f q)) := fun i hi => by
      obtain ⟨cs', h1, h2⟩ := each i hi
      obtain ⟨_, hl, hc⟩ := World.cells?_some h1
      obtain ⟨f, hf⟩ := Deep.choose_lt h2
      exact ⟨f, fun q hq => by rw [← Deep.add_add, hc q hq]; exact hf q hq⟩
    obtain ⟨G, hG⟩ := Deep.choose_lt each'
    obtain ⟨cs', h1, _⟩ := each 0 (by omega)
    have hlt := World.cells?_block h1 hS
    have h00 := hG 0 (by omega) 0 hS
    rw [Nat.zero_mul] at hlt h00
    obtain ⟨b, off, spot⟩ := a
    have hspot : spot = none := by simpa [Addr.add] using World.cell?_spot h00
    subst hspot
    refine ⟨fun j => G (j / S) (j % S), fun _ => ⟨b, off, rfl, by simpa [Addr.add] using hlt, fun j hj => ?_⟩⟩
    have h := hG (j / S) (Nat.div_lt_of_lt_mul (by rwa [Nat.mul_comm] at hj)) (j % S) (Nat.mod_lt _ hS)
    rw [add_plain, Nat.div_add_mod' j S] at h
    exact h

theorem array2 {α : Type} {cs : Array α} (h : cs.size = 2) : ∃ c0 c1, cs = #[c0, c1] := by
  obtain ⟨l⟩ := cs
  match l, h with
  | [c0, c1], _ => exact ⟨c0, c1, rfl⟩
theorem vs_open {n : Nat} {c : Value} {y : DataW H × List MemPlace} (h : DataW.trod enc Try.prog W 0 sp true n 22 [c] = some y) : ∃ ao len cap F, c = .slice ao len cap ∧ len ≤ maxLen ∧ Rd W 6 ao len F := by
  rcases Deep.open_slice Try.underlying22 h with ⟨hc, _⟩ | ⟨a, len, cap, m, n, D, Pl, hc, _, hl, hm, hmm, _, hx⟩
  · simp at hc
    exact ⟨none, 0, 0, fun _ => 0, hc, Nat.zero_le _, fun h => absurd h (Nat.lt_irrefl _)⟩
  · simp at hc
    have hlm : len ≤ m := by rw [hmm]; split <;> omega
    obtain ⟨F, hF⟩ := rd_open (W := W) (S := 6) (n := len) (a := a) (by omega) fun i hi => by
      obtain ⟨cs', h1, h2⟩ := hx i (by omega)
      rw [cellsV3] at h1
      obtain ⟨_, hlen, _⟩ := World.cells?_some h1
      refine ⟨cs', h1, ?_⟩
      match cs', hlen with
      | [v0, v1, v2, v3, v4, v5], _ =>
        obtain ⟨a, b, c, d, k, l, rfl, rfl, rfl, rfl, rfl, rfl⟩ := v3_open h2
        intro q hq
        match q, hq with
        | 0, _ => exact ⟨_, rfl⟩
        | 1, _ => exact ⟨_, rfl⟩
        | 2, _ => exact ⟨_, rfl⟩
        | 3, _ => exact ⟨_, rfl⟩
        | 4, _ => exact ⟨_, rfl⟩
        | 5, _ => exact ⟨_, rfl⟩
    exact ⟨some a, len, cap, F, hc, by omega, hF⟩
theorem ts_open {n : Nat} {c : Value} {y : DataW H × List MemPlace} (h : DataW.trod enc Try.prog W 0 sp true n 23 [c] = some y) : ∃ ao len cap F, c = .slice ao len cap ∧ len ≤ maxLen ∧ Rd W 3 ao len F := by
  rcases Deep.open_slice Try.underlying23 h with ⟨hc, _⟩ | ⟨a, len, cap, m, n, D, Pl, hc, _, hl, hm, hmm, _, hx⟩
  · simp at hc
    exact ⟨none, 0, 0, fun _ => 0, hc, Nat.zero_le _, fun h => absurd h (Nat.lt_irrefl _)⟩
  · simp at hc
    have hlm : len ≤ m := by rw [hmm]; split <;> omega
    obtain ⟨F, hF⟩ := rd_open (W := W) (S := 3) (n := len) (a := a) (by omega) fun i hi => by
      obtain ⟨cs', h1, h2⟩ := hx i (by omega)
      rw [cellsTri] at h1
      obtain ⟨_, hlen, _⟩ := World.cells?_some h1
      refine ⟨cs', h1, ?_⟩
      match cs', hlen with
      | [v0, v1, v2], _ =>
        obtain ⟨a, b, c, rfl, rfl, rfl⟩ := tri_open h2
        intro q hq
        match q, hq with
        | 0, _ => exact ⟨_, rfl⟩
        | 1, _ => exact ⟨_, rfl⟩
        | 2, _ => exact ⟨_, rfl⟩
    exact ⟨some a, len, cap, F, hc, by omega, hF⟩

set_option maxRecDepth 100000 in
theorem Mesh_open {r : Reach} {b0 : Nat} {v : Value} {d' : DataW H} {p : List MemPlace} (hv : Value.okWide Try.prog W r b0 25 v) (h : DataW.Trod enc Try.prog W 0 sp true 25 v d' p) :
    ∃ vo to nv nt cv ct V T, v = .agg #[.slice vo nv cv, .slice to nt ct] ∧ nv ≤ maxLen ∧ nt ≤ maxLen ∧ Rd W 6 vo nv V ∧ Rd W 3 to nt T := by
  obtain ⟨cs, rfl, hsz⟩ := okWide_struct Try.underlying25 hv
  obtain ⟨c0, c1, rfl⟩ := array2 (hsz.trans cellsM)
  obtain ⟨fuel, hf⟩ := h
  have hf' : DataW.trod enc Try.prog W 0 sp true fuel 25 [c0, c1] = some (d', p) := by simpa [Value.cells] using hf
  obtain ⟨y0, y1, n, hx, _, h0, h1⟩ := trod_struct2 Try.underlying25 hf'
  simp [cellsSV, cellsST] at h0 h1
  obtain ⟨vo, nv, cv, V, rfl, mv, rv⟩ := vs_open h0
  obtain ⟨to, nt, ct, T, rfl, mt, rt⟩ := ts_open h1
  exact ⟨vo, to, nv, nt, cv, ct, V, T, rfl, mv, mt, rv, rt⟩
end Go.Proofs.Ytobhljmpdolomaa
