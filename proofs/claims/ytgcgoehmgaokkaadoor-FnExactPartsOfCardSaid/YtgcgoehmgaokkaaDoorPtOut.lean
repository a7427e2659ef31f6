import Derived.Test.YtgcgoehmgaokkaaDoorPtAns
namespace Go.Proofs.YtgcgoehmgaokkaaDoor
open Go.RowKit

theorem infoL : (Tryd.prog.info? 59).map (fun i => (i.zero, i.size, i.bytes)) = some (some (.slice none 0 0), 1, 24) := by kernel_rfl
/-- One list more behind an own row of lists. -/
theorem appendL {ops : Array Oper} {rest : List Oper} {o : Oper} {a : Act} {Q : Exit → Act → World → Prop} (w : World) (hgd : o.guard = none) (s x : Operand)
    (ho : o.op = .call { callee := .builtin .append, args := #[s, x], argTypes := #[33, 33] }) (base gr n cap : Nat) (xs : List Value) (hs : a.eval s = .slice (some ⟨gr, 0, none⟩) n cap)
    (ad c : Nat) (u : Value) (hx : a.eval x = .slice (some ⟨ad, 0, none⟩) 1 c) (hown : w.ownsRow base 59 1 (.slice (some ⟨gr, 0, none⟩) n cap) n xs) (hc : w.cell? ⟨ad, 0, none⟩ = some u) (hu : u.oneCell' = true)
    (hn : n ≤ 16) (hbase : base ≤ w.heap.size)
    (h : ∀ g' cap' w', w'.ownsRow base 59 1 (.slice (some ⟨g', 0, none⟩) (n + 1) cap') (n + 1) (xs ++ [u]) → w.grownBy w' (some gr) → (g' = gr ∨ g' = w.heap.size) → g' < w'.heap.size → wpList Tryd.prog ops Q rest (a.put o.dst (.slice (some ⟨g', 0, none⟩) (n + 1) cap')) w') : wpList Tryd.prog ops Q (o :: rest) a w := by
  have hi := infoL
  cases hq : Tryd.prog.info? 59 with
  | none => rw [hq] at hi; simp at hi
  | some i =>
    rw [hq] at hi
    simp only [Option.map_some, Option.some.injEq, Prod.mk.injEq] at hi
    obtain ⟨hz, hsz, hby⟩ := hi
    refine wpList_append_lies w hgd s x 33 ho base 59 i _ 1 24 Tryd.underlying33 hq hz hsz hby rfl (by decide) _ n xs hs hown ⟨ad, 0, none⟩ 1 c [u] hx rfl ?_ ?_ (by decide) (by simp only [maxLen]; omega) (by omega) hbase _ rfl (fun g' cap' w' h2 h3 h4 h5 => h g' cap' w' h2 h3 ?_ h5)
    · intro j v hj
      match j, hj with
      | 0, hj => simp at hj; subst hj; simpa [Addr.add] using hc
      | j + 1, hj => simp at hj
    · intro v hv
      simp at hv
      subst hv; exact hu
    · rcases h4 with h4 | h4
      · simp [Value.ownBlock] at h4; exact .inl h4.symm
      · exact .inr h4

def outV (Ls : List (List Int)) (hh cc : Nat → Nat) : List Value := (List.range Ls.length).map fun j => .slice (some ⟨hh j, 0, none⟩) (Ls.getD j []).length (cc j)
/-- Lists told one behind the other: the row go of values, each of which owns its numbers. -/
structure GO (base go co : Nat) (Ls : List (List Int)) (hh cc : Nat → Nat) (w' : World) : Prop where
  out : w'.ownsRow base 59 1 (.slice (some ⟨go, 0, none⟩) Ls.length co) Ls.length (outV Ls hh cc)
  own : ∀ j, j < Ls.length → Gv w' base (.slice (some ⟨hh j, 0, none⟩) (Ls.getD j []).length (cc j)) (Ls.getD j []) ∧ hh j ≠ go
  dis : ∀ i j, i < Ls.length → j < Ls.length → i ≠ j → hh i ≠ hh j
theorem GO.below {base go co : Nat} {Ls : List (List Int)} {hh cc : Nat → Nat} {w w' : World} (h : GO base go co Ls hh cc w) (hb : Below w.heap.size w w') : GO base go co Ls hh cc w' :=
  ⟨own_block h.out fun k hk => hb.block k (h.out.lt k hk).2, fun j hj => ⟨own_block (h.own j hj).1 fun k hk => hb.block k ((h.own j hj).1.lt k hk).2, (h.own j hj).2⟩, h.dis⟩

/-- A list more. -/
theorem GO.step {base go co : Nat} {Ls : List (List Int)} {hh cc : Nat → Nat} {w w' : World} (h : GO base go co Ls hh cc w) (gv cv : Nat) (l : List Int) (hl : Gv w base (.slice (some ⟨gv, 0, none⟩) l.length cv) l) (hgv : gv ≠ go ∧ ∀ j, j < Ls.length → gv ≠ hh j)
    (g' cap' : Nat) (hown : w'.ownsRow base 59 1 (.slice (some ⟨g', 0, none⟩) (Ls.length + 1) cap') (Ls.length + 1) (outV Ls hh cc ++ [.slice (some ⟨gv, 0, none⟩) l.length cv])) (hg : w.grownBy w' (some go)) (hloc : g' = go ∨ g' = w.heap.size) :
    GO base g' cap' (Ls ++ [l]) (fun j => if j = Ls.length then gv else hh j) (fun j => if j = Ls.length then cv else cc j) w' := by
  have hgvlt := (hl.lt gv rfl).2
  have hlt : ∀ j, j < Ls.length → hh j < w.heap.size := fun j hj => ((h.own j hj).1.lt _ rfl).2
  have hd : ∀ j, j < Ls.length → (Ls ++ [l]).getD j [] = Ls.getD j [] := fun j hj => by simp [List.getD_eq_getElem?_getD, List.getElem?_append_left, hj]
  have hdl : (Ls ++ [l]).getD Ls.length [] = l := by simp [List.getD_eq_getElem?_getD]
  have hne : ∀ k, k < w.heap.size → k ≠ go → k ≠ g' := fun k hk hkg e => by rcases hloc with e2 | e2 <;> omega
  refine ⟨?_, fun j hj => ?_, fun i j hi hj hij => ?_⟩
  · have e : outV (Ls ++ [l]) (fun j => if j = Ls.length then gv else hh j) (fun j => if j = Ls.length then cv else cc j) = outV Ls hh cc ++ [.slice (some ⟨gv, 0, none⟩) l.length cv] := by
      unfold outV
      rw [List.length_append, List.length_singleton, List.range_succ, List.map_append]
      congr 1
      · apply List.map_congr_left
        intro j hj
        have hj' := List.mem_range.1 hj
        have hjn : j ≠ Ls.length := by omega
        rw [hd j hj']
        simp only [hjn, if_false]
      · simp
    rw [e, List.length_append, List.length_singleton]
    exact hown
  · rw [List.length_append, List.length_singleton] at hj
    by_cases e : j = Ls.length
    · subst e
      simp only [if_true]
      rw [hdl]
      exact ⟨own_block hl fun k hk => hg.block k (hl.lt k hk).2 (fun e2 => by
        have e3 : k = go := Option.some.inj e2
        have e4 : gv = k := by simpa [Value.ownBlock] using hk
        exact hgv.1 (e4.trans e3)), hne gv hgvlt hgv.1⟩
    · have hj' : j < Ls.length := by omega
      simp only [e, if_false]
      rw [hd j hj']
      exact ⟨own_block (h.own j hj').1 fun k hk => hg.block k ((h.own j hj').1.lt k hk).2 (fun e2 => by
        have e3 : k = go := Option.some.inj e2
        have e4 : hh j = k := by simpa [Value.ownBlock] using hk
        exact (h.own j hj').2 (e4.trans e3)), hne _ (hlt j hj') (h.own j hj').2⟩
  · rw [List.length_append, List.length_singleton] at hi hj
    by_cases e1 : i = Ls.length
    · have e2 : j ≠ Ls.length := fun e => hij (e1.trans e.symm)
      simp only [e1, e2, if_true, if_false]
      exact hgv.2 j (by omega)
    · by_cases e2 : j = Ls.length
      · simp only [e1, e2, if_true, if_false]
        exact fun e => hgv.2 i (by omega) e.symm
      · simp only [e1, e2, if_false]
        exact h.dis i j (by omega) (by omega) hij

theorem GO.answer {base go co : Nat} {Ls : List (List Int)} {hh cc : Nat → Nat} {w : World} (h : GO base go co Ls hh cc w) {b0 : Nat} (hb : b0 ≤ base) : LL w b0 (some ⟨go, 0, none⟩) Ls.length (fun j => Ls.getD j []) go hh := by
  have hgo := h.out.lt go rfl
  refine ⟨fun _ => ⟨rfl, by omega, hgo.2⟩, fun j hj => ⟨cc j, ?_⟩, fun j hj => ?_, h.dis⟩
  · rcases h.out.2 with ⟨h2, _⟩ | ⟨g, cap, cur, hv, _, hg, _, _, _, htk⟩
    · simp at h2
    · simp only [Value.slice.injEq, Option.some.injEq, Addr.mk.injEq, and_true, true_and] at hv
      obtain ⟨rfl, rfl⟩ := hv
      have e : cur.toList[j]? = some (.slice (some ⟨hh j, 0, none⟩) (Ls.getD j []).length (cc j)) := by
        have : (cur.toList.take (Ls.length * 1))[j]? = (outV Ls hh cc)[j]? := by rw [htk]
        rw [List.getElem?_take, if_pos (by omega)] at this
        rw [this]
        simp [outV, hj]
      have e' : cur[j]? = some (.slice (some ⟨hh j, 0, none⟩) (Ls.getD j []).length (cc j)) := by simpa using e
      simp [World.cell?, hg, e']
  · obtain ⟨_, h2, h3, h4, h5⟩ := Gv.cell (h.own j hj).1
    exact ⟨by omega, h2, (h.own j hj).2, h4, h5⟩
end Go.Proofs.YtgcgoehmgaokkaaDoor
