import Derived.Test.YtgcgoehmgaokkaaDoorPtMath
import Derived.Test.YtgcgoehmgaokkaaDoorSkRule
import Derived.Deep.AppendLies
namespace Go.Proofs.YtgcgoehmgaokkaaDoor
open Go.RowKit

theorem infoI : (Tryd.prog.info? 2).map (fun i => (i.zero, i.size, i.bytes)) = some (some (.int .i64 0), 1, 8) := by kernel_rfl
/-- Numbers as cells. -/
def ints (l : List Int) : List Value := l.map fun x => .int .i64 x
/-- A value that owns a row of these numbers, beyond base. -/
def Gv (w : World) (base : Nat) (v : Value) (l : List Int) : Prop := w.ownsRow base 2 1 v l.length (ints l)

theorem own_block {w w' : World} {base e size n : Nat} {v : Value} {xs : List Value} (h : w.ownsRow base e size v n xs) (hk : ∀ g, v.ownBlock = some g → w'.heap[g]? = w.heap[g]?) : w'.ownsRow base e size v n xs := by
  refine ⟨h.1, ?_⟩
  rcases h.2 with h2 | ⟨g, cap, cur, hv, hb, hg, rest⟩
  · exact .inl h2
  · subst hv
    exact .inr ⟨g, cap, cur, rfl, hb, (hk g rfl).trans hg, rest⟩
theorem below_grown {B : Nat} {w0 w w' : World} {row : Option Nat} (h : Below B w0 w) (hg : w.grownBy w' row) (hB : ∀ k, row = some k → B ≤ k) (hs : B ≤ w.heap.size) : Below B w0 w' :=
  ⟨hg.os.trans h.os, hg.tape.trans h.tape, hg.output.trans h.output, Nat.le_trans h.size hg.size, fun k hk => (hg.block k (Nat.lt_of_lt_of_le hk hs) (fun e => by have := hB k e.symm; omega)).trans (h.block k hk)⟩

/-- One number more behind an own row of numbers. -/
theorem appendI {ops : Array Oper} {rest : List Oper} {o : Oper} {a : Act} {Q : Exit → Act → World → Prop} (w : World) (hgd : o.guard = none) (s x : Operand)
    (ho : o.op = .call { callee := .builtin .append, args := #[s, x], argTypes := #[59, 59] }) (base : Nat) (v : Value) (l : List Int) (hs : a.eval s = v)
    (ad c : Nat) (x0 : Int) (hx : a.eval x = .slice (some ⟨ad, 0, none⟩) 1 c) (hown : Gv w base v l) (hc : w.cell? ⟨ad, 0, none⟩ = some (.int .i64 x0))
    (hn : l.length ≤ 16) (hbase : base ≤ w.heap.size)
    (h : ∀ g' cap' w', Gv w' base (.slice (some ⟨g', 0, none⟩) (l.length + 1) cap') (l ++ [x0]) → w.grownBy w' v.ownBlock → (v.ownBlock = some g' ∨ g' = w.heap.size) → g' < w'.heap.size → wpList Tryd.prog ops Q rest (a.put o.dst (.slice (some ⟨g', 0, none⟩) (l.length + 1) cap')) w') : wpList Tryd.prog ops Q (o :: rest) a w := by
  have hi := infoI
  cases hq : Tryd.prog.info? 2 with
  | none => rw [hq] at hi; simp at hi
  | some i =>
    rw [hq] at hi
    simp only [Option.map_some, Option.some.injEq, Prod.mk.injEq] at hi
    obtain ⟨hz, hsz, hby⟩ := hi
    refine wpList_append_lies w hgd s x 59 ho base 2 i _ 1 8 Tryd.underlying59 hq hz hsz hby rfl (by decide) v l.length (ints l) hs hown ⟨ad, 0, none⟩ 1 c [.int .i64 x0] hx rfl ?_ ?_ (by decide) (by simp only [maxLen]; omega) (by omega) hbase _ rfl (fun g' cap' w' h2 h3 h4 h5 => h g' cap' w' ?_ h3 h4 h5)
    · intro j u hj
      match j, hj with
      | 0, hj => simp at hj; subst hj; simpa [Addr.add] using hc
      | j + 1, hj => simp at hj
    · intro u hu
      simp at hu
      subst hu; rfl
    · unfold Gv ints
      rw [List.map_append, List.length_append]
      exact h2

/-- What a group's value holds. -/
theorem Gv.cell {w : World} {base : Nat} {g n cap : Nat} {l : List Int} (h : Gv w base (.slice (some ⟨g, 0, none⟩) n cap) l) : n = l.length ∧ g < w.heap.size ∧ base ≤ g ∧ (∀ j, j < l.length → w.cell? ⟨g, j, none⟩ = some (.int .i64 (l.getD j 0))) ∧ (∀ j, j < l.length → w.frozen? ⟨g, j, none⟩ = false) := by
  have hl := h.lt g rfl
  rcases h.2 with ⟨h2, _⟩ | ⟨g', cap', cur, hv, hb, hg, hnc, hml, hsz, htk⟩
  · simp at h2
  · simp only [Value.slice.injEq, Option.some.injEq, Addr.mk.injEq, and_true] at hv
    obtain ⟨rfl, hn, rfl⟩ := hv
    refine ⟨hn, hl.2, hl.1, fun j hj => ?_, fun j hj => ?_⟩
    · have e : cur.toList[j]? = some (.int .i64 (l.getD j 0)) := by
        have : (cur.toList.take (l.length * 1))[j]? = (ints l)[j]? := by rw [htk]
        rw [List.getElem?_take, if_pos (by omega)] at this
        rw [this]
        simp [ints, hj, List.getD_eq_getElem?_getD]
      have e' : cur[j]? = some (.int .i64 (l.getD j 0)) := by simpa using e
      simp [World.cell?, hg, e']
    · simp [World.frozen?, hg]
theorem Gv.nil_or {w : World} {base : Nat} {v : Value} {l : List Int} (h : Gv w base v l) : (v = .slice none 0 0 ∧ l = []) ∨ ∃ g cap, v = .slice (some ⟨g, 0, none⟩) l.length cap := by
  rcases h.2 with ⟨h2, h3⟩ | ⟨g, cap, cur, hv, _⟩
  · exact .inl ⟨h2, List.length_eq_zero_iff.1 h3⟩
  · exact .inr ⟨g, cap, hv⟩

/-- Groups in the making: a row gg of values, each of which owns its numbers, no two of them one block. -/
structure GI (gg P : Nat) (L : Nat → List Int) (V : Nat → Value) (w' : World) : Prop where
  row : w'.rowIs gg 59 P V
  own : ∀ q, q < P → Gv w' (gg + 1) (V q) (L q)
  dis : ∀ q r g, q < P → r < P → q ≠ r → (V q).ownBlock = some g → (V r).ownBlock ≠ some g

theorem GI.below {gg P : Nat} {L : Nat → List Int} {V : Nat → Value} {w w' : World} (h : GI gg P L V w) (hb : Below w.heap.size w w') : GI gg P L V w' :=
  ⟨rowIs_below h.row hb h.row.lt, fun q hq => own_block (h.own q hq) fun g hg => hb.block g ((h.own q hq).lt g hg).2, h.dis⟩

/-- An append to a group, and its value put back. -/
theorem GI.step {gg P : Nat} {L : Nat → List Int} {V : Nat → Value} {w w' : World} (h : GI gg P L V w) (q : Nat) (hq : q < P) (x : Int) (g' n' cap' : Nat)
    (hown : Gv w' (gg + 1) (.slice (some ⟨g', 0, none⟩) n' cap') (L q ++ [x])) (hg : w.grownBy w' (V q).ownBlock) (hl : (V q).ownBlock = some g' ∨ g' = w.heap.size) :
    GI gg P (fun r => if r = q then L q ++ [x] else L r) (fun r => if r = q then .slice (some ⟨g', 0, none⟩) n' cap' else V r) (w'.setCell ⟨gg, q, none⟩ (.slice (some ⟨g', 0, none⟩) n' cap')) := by
  have hoq := fun k hk => ((h.own q hq).lt k hk).1
  have hgg : w'.heap[gg]? = w.heap[gg]? := hg.block gg h.row.lt (fun e => by have := hoq gg e.symm; omega)
  have hrow' : w'.rowIs gg 59 P V := h.row.of_block hgg
  have hset : ∀ k, k ≠ gg → (w'.setCell ⟨gg, q, none⟩ (.slice (some ⟨g', 0, none⟩) n' cap')).heap[k]? = w'.heap[k]? := fun k hk => heap_setCell_other w' ⟨gg, q, none⟩ k _ hk
  refine ⟨(hrow'.set q _).congr fun r _ => by by_cases e : r = q <;> simp [e], fun r hr => ?_, fun r s g hr hs hne hrg => ?_⟩
  · by_cases e : r = q
    · subst e
      simp only [if_true]
      exact own_block hown fun g hgb => hset g (by
        have : g' = g := by simpa [Value.ownBlock] using hgb
        subst this
        have := (hown.lt g' rfl).1
        omega)
    · simp only [e, if_false]
      refine own_block (own_block (w := w) (w' := w') (h.own r hr) fun g hgb => ?_) fun g hgb => hset g ?_
      · exact hg.block g ((h.own r hr).lt g hgb).2 (fun e2 => h.dis r q g hr hq e hgb e2.symm)
      · have := ((h.own r hr).lt g hgb).1
        omega
  · have hfresh : ∀ t, t < P → (V t).ownBlock ≠ some w.heap.size := fun t ht e => by have := ((h.own t ht).lt _ e).2; omega
    by_cases e1 : r = q
    · subst e1
      have e2 : s ≠ r := fun e => hne e.symm
      simp only [if_true] at hrg
      simp only [e2, if_false]
      have : g' = g := by simpa [Value.ownBlock] using hrg
      subst this
      rcases hl with hl | hl
      · exact h.dis r s g' hr hs hne hl
      · rw [hl]; exact hfresh s hs
    · simp only [e1, if_false] at hrg
      by_cases e2 : s = q
      · subst e2
        simp only [if_true]
        intro e3
        have : g' = g := by simpa [Value.ownBlock] using e3
        subst this
        rcases hl with hl | hl
        · exact h.dis r s g' hr hs hne hrg hl
        · rw [hl] at hrg; exact hfresh r hr hrg
      · simp only [e2, if_false]
        exact h.dis r s g hr hs hne hrg
end Go.Proofs.YtgcgoehmgaokkaaDoor
