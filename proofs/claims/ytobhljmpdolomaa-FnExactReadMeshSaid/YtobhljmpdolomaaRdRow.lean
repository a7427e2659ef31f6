import Derived.Test.YtobhljmpdolomaaRdAll
import Derived.Deep.RegionLaw
namespace Go.Proofs.Ytobhljmpdolomaa
open Go.RowKit

/-- append of one element of S numbers, at a step of a region that draws. -/
theorem step_append_nums {ops : Array Oper} {o : Oper} {a : Act} {K : Act → World → Prop} {Q : Exit → Act → World → Prop} {E : Prop} (t e S bytes : Nat) (z : Value) (ht : Try.prog.underlying t = some (.slice e)) (hinfo : (Try.prog.info? e).map (fun i => (i.zero, i.size, i.bytes)) = some (some z, S, bytes)) (hzs : z.cells.size = S) (hS : 0 < S) (hbt : bytes ≤ 48)
    (w : World) (hgd : o.guard = none) (s x : Operand) (ho : o.op = .call { callee := .builtin .append, args := #[s, x], argTypes := #[t, t] })
    (base : Nat) (v : Value) (n : Nat) (F : Nat → Int) (A : Array Value) (hA : A = ((List.range S).map fun q => Value.int .i64 (F (n * S + q))).toArray) (hs : a.eval s = v) (hx : a.eval x = .slice (some ⟨w.heap.size, 0, none⟩) 1 1)
    (hown : OwnI w base e S v n F) (hbase : base ≤ w.heap.size) (hn : n ≤ 1000)
    (h : ∀ g' cap' w', OwnI w' base e S (.slice (some ⟨g', 0, none⟩) (n + 1) cap') (n + 1) F → w.grownBy w' v.ownBlock → (v.ownBlock = some g' ∨ w.heap.size ≤ g') → g' < w'.heap.size → K (a.put o.dst (.slice (some ⟨g', 0, none⟩) (n + 1) cap')) w') :
    if Region.wanted o (yielded ops a.tmps) = true then Oper.wp Try.prog o a (w.alloc (.cells A e)) K Q else E := by
  subst hA
  cases hq : Try.prog.info? e with
  | none => rw [hq] at hinfo; simp at hinfo
  | some i =>
    rw [hq] at hinfo
    simp only [Option.map_some, Option.some.injEq, Prod.mk.injEq] at hinfo
    obtain ⟨hz, hsz, hby⟩ := hinfo
    have hb2 : (n + 1) * bytes ≤ 1001 * 48 := Nat.mul_le_mul (by omega) hbt
    refine step_append_lies _ hgd s x t ho base e i z S bytes ht hq hz hsz hby hzs hS v n _ hs (World.ownsRow.alloc hown _) ⟨w.heap.size, 0, none⟩ 1 1 ((List.range S).map fun q => Value.int .i64 (F (n * S + q))) hx (by simp) ?_ ?_ (by decide) (by simp only [maxLen]; omega) (by omega) (by simp; omega) _ rfl (fun g' cap' w' h2 h3 h4 h5 => ?_)
    · intro j u hj
      have hb := Deep.blk_alloc_new w (.cells ((List.range S).map fun q => Value.int .i64 (F (n * S + q))).toArray e)
      have e2 : (⟨w.heap.size, 0, none⟩ : Addr).add j = ⟨w.heap.size, j, none⟩ := by
        unfold Addr.add
        split
        · rename_i h0; rw [h0]
        · simp
      rw [e2]
      simp only [World.cell?, hb]
      simpa using hj
    · intro u hu
      simp only [List.mem_map] at hu
      obtain ⟨_, _, rfl⟩ := hu
      rfl
    · refine h g' cap' w' ?_ ?_ ?_ h5
      · unfold OwnI
        have e3 : (List.range ((n + 1) * S)).map (fun j => Value.int .i64 (F j)) = (List.range (n * S)).map (fun j => Value.int .i64 (F j)) ++ (List.range S).map fun q => Value.int .i64 (F (n * S + q)) := by
          rw [Nat.add_mul, Nat.one_mul, List.range_add, List.map_append, List.map_map]
          rfl
        rw [e3]
        exact h2
      · refine grown_trans (grown_alloc (grownBy_refl w v.ownBlock) _) h3 (fun k e => Or.inl e.symm)
      · rcases h4 with h4 | h4
        · exact Or.inl h4
        · right; rw [h4]; simp

/-- A slice of n elements of S numbers at the head of a row, whatever lies behind them. -/
def RdS (w : World) (t S : Nat) (ao : Option Addr) (n : Nat) (F : Nat → Int) : Prop :=
  0 < n → ∃ g c f, ao = some ⟨g, 0, none⟩ ∧ w.rowIs g t c f ∧ n * S ≤ c ∧ ∀ j, j < n * S → f j = .int .i64 (F j)
theorem RdS.keep {w w' : World} {t S n : Nat} {ao : Option Addr} {F : Nat → Int} (h : RdS w t S ao n F) (hk : 0 < n → ∀ g, ao = some ⟨g, 0, none⟩ → g < w.heap.size → w'.heap[g]? = w.heap[g]?) : RdS w' t S ao n F := fun h0 => by
  obtain ⟨g, c, f, e, hr, hc, hf⟩ := h h0
  exact ⟨g, c, f, e, hr.of_block (hk h0 g e hr.lt), hc, hf⟩
theorem RdS.below {w w' : World} {t S n B : Nat} {ao : Option Addr} {F : Nat → Int} (h : RdS w t S ao n F) (hb : Below B w w') (hB : w.heap.size ≤ B) : RdS w' t S ao n F :=
  h.keep fun _ g _ hg => hb.block g (Nat.lt_of_lt_of_le hg hB)
theorem RdS.rd {w : World} {t S n : Nat} {ao : Option Addr} {F : Nat → Int} (h : RdS w t S ao n F) : Rd w S ao n F := fun h0 => by
  obtain ⟨g, c, f, e, hr, hc, hf⟩ := h h0
  exact ⟨g, 0, e, hr.lt, fun j hj => by rw [Nat.zero_add, hr.cell (by omega), hf j hj]⟩
theorem RdS.blk {w : World} {t S n : Nat} {ao : Option Addr} {F : Nat → Int} (h : RdS w t S ao n F) : ∀ g, ao = some ⟨g, 0, none⟩ → 0 < n → g < w.heap.size := fun g e h0 => by
  obtain ⟨g', c, f, e', hr, _, _⟩ := h h0
  rw [e] at e'
  simp only [Option.some.injEq, Addr.mk.injEq] at e'
  rw [e'.1]
  exact hr.lt
/-- Of a row of the call's own: the slice, and that it is new. -/
theorem OwnI.told {w : World} {base t S n : Nat} {v : Value} {F : Nat → Int} (h : OwnI w base t S v n F) : ∃ ao cap, v = .slice ao n cap ∧ RdS w t S ao n F ∧ ∀ g, ao = some ⟨g, 0, none⟩ → 0 < n → base ≤ g := by
  have h1 := h.1
  rcases h.2 with ⟨rfl, hn⟩ | ⟨g, cap, cur, rfl, hb, hg, hnc, _, hs, ht⟩
  · subst hn
    exact ⟨none, 0, rfl, fun h => absurd h (Nat.lt_irrefl _), fun _ _ h => absurd h (Nat.lt_irrefl _)⟩
  · refine ⟨some ⟨g, 0, none⟩, cap, rfl, fun _ => ⟨g, cap * S, fun j => cur.getD j default, rfl, ⟨cur, hg, hs, fun i hi => ?_⟩, Nat.mul_le_mul_right _ hnc, fun j hj => ?_⟩, fun g' e _ => ?_⟩
    · have : i < cur.size := by omega
      simp [Array.getD, this]
    · have hle : n * S ≤ cap * S := Nat.mul_le_mul_right _ hnc
      have hj2 : j < cur.size := by omega
      have e : (cur.toList.take (n * S))[j]? = some (.int .i64 (F j)) := by rw [ht]; simp [hj]
      rw [List.getElem?_take, if_pos hj] at e
      have e' : cur[j]? = some (.int .i64 (F j)) := by simpa using e
      simp [Array.getD_eq_getD_getElem?, e']
    · simp only [Option.some.injEq, Addr.mk.injEq] at e
      omega
theorem OwnI.keep {w w' : World} {base t S n : Nat} {v : Value} {F : Nat → Int} (h : OwnI w base t S v n F) (hk : ∀ g, v.ownBlock = some g → w'.heap[g]? = w.heap[g]?) : OwnI w' base t S v n F := by
  refine ⟨h.1, ?_⟩
  rcases h.2 with h1 | ⟨g, cap, cur, hv, h2, h3, h4⟩
  · exact Or.inl h1
  · exact Or.inr ⟨g, cap, cur, hv, h2, (hk g (by rw [hv]; rfl)).trans h3, h4⟩
theorem OwnI.lt {w : World} {base t S n : Nat} {v : Value} {F : Nat → Int} (h : OwnI w base t S v n F) : ∀ g, v.ownBlock = some g → base ≤ g ∧ g < w.heap.size := fun g e => World.ownsRow.lt h g e
theorem own_nil (w : World) (base t S : Nat) (F : Nat → Int) : OwnI w base t S (.slice none 0 0) 0 F := ⟨by simp, Or.inl ⟨rfl, rfl⟩⟩
end Go.Proofs.Ytobhljmpdolomaa
