import Derived.Test.YtobhljmpdolomaaPkMath
import Derived.Deep.AppendLies
import Derived.Laws.BitsAllLaws
namespace Go.Proofs.Ytobhljmpdolomaa
open Go.RowKit

theorem infoB : (Try.prog.info? 5).map (fun i => (i.zero, i.size, i.bytes)) = some (some (.int .u8 0), 1, 1) := by kernel_rfl
/-- A row of bytes of the call's own. -/
def OwnB (w : World) (base g cap n : Nat) (L : List Int) : Prop := w.ownsRow base 5 1 (.slice (some ⟨g, 0, none⟩) n cap) n (L.map (Value.int .u8))
theorem OwnB.len {w : World} {base g cap n : Nat} {L : List Int} (h : OwnB w base g cap n L) : L.length = n := by have := h.1; simpa using this
theorem OwnB.lt {w : World} {base g cap n : Nat} {L : List Int} (h : OwnB w base g cap n L) : base ≤ g ∧ g < w.heap.size := World.ownsRow.lt h g rfl
theorem grownBy_refl (w : World) (r : Option Nat) : w.grownBy w r := ⟨rfl, rfl, rfl, Nat.le_refl _, fun _ _ _ => rfl⟩
theorem grown_trans {w w1 w2 : World} {r r' : Option Nat} (h : w.grownBy w1 r) (k : w1.grownBy w2 r') (hr : ∀ b, r' = some b → some b = r ∨ w.heap.size ≤ b) : w.grownBy w2 r :=
  ⟨k.os.trans h.os, k.tape.trans h.tape, k.output.trans h.output, Nat.le_trans h.size k.size, fun b hb hne => by
    rw [k.block b (Nat.lt_of_lt_of_le hb h.size) (fun e => (hr b e.symm).elim (fun h1 => hne h1) (fun h1 => absurd hb (Nat.not_lt.2 h1))), h.block b hb hne]⟩
theorem grown_alloc {w w1 : World} {r : Option Nat} (h : w.grownBy w1 r) (o : Obj) : w.grownBy (w1.alloc o) r :=
  ⟨h.os, h.tape, h.output, by have := h.size; simp; omega, fun b hb hne => by rw [Deep.blk_alloc_lt _ _ _ (Nat.lt_of_lt_of_le hb h.size), h.block b hb hne]⟩
theorem grown_below {w w1 : World} {g B : Nat} (h : w.grownBy w1 (some g)) (hB : B ≤ w.heap.size) (hg : B ≤ g) : Below B w w1 :=
  ⟨h.os, h.tape, h.output, h.size, fun k hk => h.block k (by omega) (by simp; omega)⟩

theorem At.grown {w w' : World} {b g : Nat} {A : Array Value} (h : At w b A) (hg : w.grownBy w' (some g)) (hne : b ≠ g) : At w' b A := by
  have hb : w'.heap[b]? = w.heap[b]? := hg.block b h.sz (by simpa using hne)
  exact ⟨fun j => by rw [World.cell?_of_block (a := ⟨b, j, none⟩) (w := w) hb]; exact h.c j, fun j => by rw [World.frozen?_of_block (a := ⟨b, j, none⟩) (w := w) hb]; exact h.fz j, Nat.lt_of_lt_of_le h.sz hg.size⟩
/-- append of one byte. -/
theorem append_byte {ops : Array Oper} {rst : List Oper} {o : Oper} {a : Act} {Q : Exit → Act → World → Prop} (w : World) (hgd : o.guard = none) (s x : Operand)
    (ho : o.op = .call { callee := .builtin .append, args := #[s, x], argTypes := #[35, 35] })
    (base g cap n : Nat) (L : List Int) (b : Int) (hs : a.eval s = .slice (some ⟨g, 0, none⟩) n cap) (hx : a.eval x = .slice (some ⟨w.heap.size, 0, none⟩) 1 1)
    (hown : OwnB w base g cap n L) (hbase : base ≤ w.heap.size) (hL : n ≤ 1000000)
    (h : ∀ g' cap' w', OwnB w' base g' cap' (n + 1) (L ++ [b]) → w.grownBy w' (some g) → (g' = g ∨ w.heap.size ≤ g') → wpList Try.prog ops Q rst (a.put o.dst (.slice (some ⟨g', 0, none⟩) (n + 1) cap')) w') :
    wpList Try.prog ops Q (o :: rst) a (w.alloc (.cells #[.int .u8 b] 5)) := by
  have hi := infoB
  cases hq : Try.prog.info? 5 with
  | none => rw [hq] at hi; simp at hi
  | some i =>
    rw [hq] at hi
    simp only [Option.map_some, Option.some.injEq, Prod.mk.injEq] at hi
    obtain ⟨hz, hsz, hby⟩ := hi
    refine wpList_append_lies _ hgd s x 35 ho base 5 i _ 1 1 Try.underlying35 hq hz hsz hby rfl (by decide) _ n (L.map (Value.int .u8)) hs (World.ownsRow.alloc hown _) ⟨w.heap.size, 0, none⟩ 1 1 [.int .u8 b] hx rfl ?_ ?_ (by decide) (by simp only [maxLen]; omega) (by omega) (by simp; omega) _ rfl (fun g' cap' w' h2 h3 h4 h5 => ?_)
    · intro j u hj
      match j, hj with
      | 0, hj => simp at hj; subst hj; go_simp
      | j + 1, hj => simp at hj
    · intro u hu
      simp at hu
      subst hu
      rfl
    · refine h g' cap' w' ?_ ?_ ?_
      · unfold OwnB
        rw [List.map_append]
        exact h2
      · exact grown_trans (grown_alloc (grownBy_refl w (some g)) _) h3 (fun k e => Or.inl e.symm)
      · rcases h4 with h4 | h4
        · left; have h6 : some g = some g' := h4; exact (Option.some.inj h6).symm
        · right; rw [h4]; simp
/-- append of two bytes. -/
theorem append_two {ops : Array Oper} {rst : List Oper} {o : Oper} {a : Act} {Q : Exit → Act → World → Prop} (w : World) (hgd : o.guard = none) (s x : Operand)
    (ho : o.op = .call { callee := .builtin .append, args := #[s, x], argTypes := #[35, 35] })
    (base g cap n : Nat) (L : List Int) (b c : Int) (hs : a.eval s = .slice (some ⟨g, 0, none⟩) n cap) (hx : a.eval x = .slice (some ⟨w.heap.size, 0, none⟩) 2 2)
    (hown : OwnB w base g cap n L) (hbase : base ≤ w.heap.size) (hL : n ≤ 1000000)
    (h : ∀ g' cap' w', OwnB w' base g' cap' (n + 2) (L ++ [b, c]) → w.grownBy w' (some g) → (g' = g ∨ w.heap.size ≤ g') → wpList Try.prog ops Q rst (a.put o.dst (.slice (some ⟨g', 0, none⟩) (n + 2) cap')) w') :
    wpList Try.prog ops Q (o :: rst) a (w.alloc (.cells #[.int .u8 b, .int .u8 c] 5)) := by
  have hi := infoB
  cases hq : Try.prog.info? 5 with
  | none => rw [hq] at hi; simp at hi
  | some i =>
    rw [hq] at hi
    simp only [Option.map_some, Option.some.injEq, Prod.mk.injEq] at hi
    obtain ⟨hz, hsz, hby⟩ := hi
    refine wpList_append_lies _ hgd s x 35 ho base 5 i _ 1 1 Try.underlying35 hq hz hsz hby rfl (by decide) _ n (L.map (Value.int .u8)) hs (World.ownsRow.alloc hown _) ⟨w.heap.size, 0, none⟩ 2 2 [.int .u8 b, .int .u8 c] hx rfl ?_ ?_ (by decide) (by simp only [maxLen]; omega) (by omega) (by simp; omega) _ rfl (fun g' cap' w' h2 h3 h4 h5 => ?_)
    · intro j u hj
      match j, hj with
      | 0, hj => simp at hj; subst hj; go_simp
      | 1, hj => simp at hj; subst hj; simp [Addr.add]
      | j + 2, hj => simp at hj
    · intro u hu
      simp at hu
      rcases hu with rfl | rfl <;> rfl
    · refine h g' cap' w' ?_ ?_ ?_
      · unfold OwnB
        rw [List.map_append]
        exact h2
      · exact grown_trans (grown_alloc (grownBy_refl w (some g)) _) h3 (fun k e => Or.inl e.symm)
      · rcases h4 with h4 | h4
        · left; have h6 : some g = some g' := h4; exact (Option.some.inj h6).symm
        · right; rw [h4]; simp
end Go.Proofs.Ytobhljmpdolomaa
