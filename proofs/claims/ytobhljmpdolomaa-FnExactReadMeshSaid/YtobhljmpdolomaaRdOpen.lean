import Derived.Test.YtobhljmpdolomaaMsRow
import Derived.Test.YtobhljmpdolomaaRdTo
namespace Go.Proofs.Ytobhljmpdolomaa
open Go.ChangeShapes Go.WideShapes Go.ChangeAt Go.RowKit Go.Joins

theorem cellsB : Try.prog.cellsOf 5 = 1 := by kernel_rfl

theorem blk_add {a : Addr} {i n : Nat} (h : (a.add i).block < n) : a.block < n := by
  unfold Addr.add at h
  split at h <;> exact h
set_option maxRecDepth 100000 in
theorem bytes_open {H : Type} {enc : TypeId × Value → H} {W : World} {sp : Nat → Bool} {r : Reach} {b0 : Nat} {v : Value} {d' : DataW H} {p : List MemPlace} (hv : Value.okWide Try.prog W r b0 35 v) (h : DataW.Trod enc Try.prog W 0 sp true 35 v d' p) :
    ∃ ao len cap L, v = .slice ao len cap ∧ len ≤ maxLen ∧ L.length = len ∧ (∀ b ∈ L, 0 ≤ b ∧ b < 256) ∧ RdA W ao len L := by
  obtain ⟨ao, len, cap, rfl⟩ := okWide_slice Try.underlying35 hv
  obtain ⟨fuel, hf⟩ := h
  have hf' : DataW.trod enc Try.prog W 0 sp true fuel 35 [.slice ao len cap] = some (d', p) := by simpa [Value.cells] using hf
  rcases Deep.open_slice Try.underlying35 hf' with ⟨hc, _⟩ | ⟨a, len', cap', m, n, D, Pl, hc, _, hl, hm, hmm, _, hx⟩
  · simp at hc
    obtain ⟨rfl, rfl, rfl⟩ := hc
    exact ⟨none, 0, 0, [], rfl, Nat.zero_le _, rfl, by simp, fun h => absurd h (Nat.lt_irrefl _)⟩
  · simp at hc
    obtain ⟨rfl, rfl, rfl⟩ := hc
    have hlm : len ≤ m := by rw [hmm]; split <;> omega
    have each : ∀ i, i < len → ∃ x : Int, (0 ≤ x ∧ x < 256) ∧ W.cell? (a.add i) = some (.int .u8 x) ∧ a.block < W.heap.size := fun i hi => by
      obtain ⟨cs', h1, h2⟩ := hx i (by omega)
      rw [cellsB, Nat.mul_one] at h1
      have hblk := World.cells?_block h1 (by decide)
      obtain ⟨_, hlen, hcc⟩ := World.cells?_some h1
      obtain ⟨x, e0, _, wx⟩ := DataW.trod_int Try.underlying5 h2
      subst e0
      have hmin : IntKind.u8.min = 0 := rfl
      have hmax : IntKind.u8.max = 255 := rfl
      simp only [Lit.wf, Bool.and_eq_true, decide_eq_true_eq] at wx
      have h3 := hcc 0 (by decide)
      refine ⟨x, by omega, ?_, blk_add hblk⟩
      simpa [Addr.add] using h3
    obtain ⟨f, hf⟩ := Deep.choose_lt each
    refine ⟨some a, len, cap, (List.range len).map f, rfl, by omega, by simp, ?_, fun h0 => ?_⟩
    · intro b hb
      simp only [List.mem_map, List.mem_range] at hb
      obtain ⟨j, hj, rfl⟩ := hb
      exact (hf j hj).1
    · obtain ⟨b, off, spot⟩ := a
      have h00 := (hf 0 h0).2.1
      have hspot : spot = none := by simpa [Addr.add] using World.cell?_spot h00
      subst hspot
      refine ⟨b, off, rfl, (hf 0 h0).2.2, fun j hj => ?_⟩
      have h1 := (hf j hj).2.1
      rw [add_plain] at h1
      rw [h1]
      simp [List.getD, hj]
end Go.Proofs.Ytobhljmpdolomaa
