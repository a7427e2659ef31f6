import Derived.Test.YtikepklkjbohmaaZed
import Derived.Deep.AppendLies
namespace Go.Proofs.Ytikepklkjbohmaa
open Go.RowKit

theorem add_none (g j : Nat) : (⟨g, 0, none⟩ : Addr).add j = ⟨g, j, none⟩ := by unfold Addr.add; split <;> simp_all
theorem heap_new' (w : World) (o : Obj) : (w.alloc o).heap[w.heap.size]? = some o := by unfold World.alloc; simp
theorem grown_below {B : Nat} {w0 w w' : World} {gr : Nat} (h : Below B w0 w) (hg : w.grownBy w' (some gr)) (hB : B ≤ gr) (hs : B ≤ w.heap.size) : Below B w0 w' :=
  ⟨hg.os.trans h.os, hg.tape.trans h.tape, hg.output.trans h.output, Nat.le_trans h.size hg.size, fun k hk => (hg.block k (Nat.lt_of_lt_of_le hk hs) (fun e => by have := Option.some.inj e; omega)).trans (h.block k hk)⟩
theorem under61 : Try.prog.underlying 61 = some (.slice 114) := by kernel_rfl
def words (f : Nat → Nat) (n : Nat) : List Value := (List.range n).map fun i => .int .u32 (f i)
theorem words_get (f : Nat → Nat) (n j : Nat) (hj : j < n) : (words f n)[j]? = some (.int .u32 (f j)) := by
  unfold words; simp [hj]

/-- The groups of a number behind an own row without any. -/
theorem append61L {ops : Array Oper} {rest : List Oper} {o : Oper} {a : Act} {Q : Exit → Act → World → Prop} (w : World) (hgd : o.guard = none) (s x : Operand)
    (ho : o.op = .call { callee := .builtin .append, args := #[s, x], argTypes := #[61, 61] }) (base gr : Nat) (hs : a.eval s = .slice (some ⟨gr, 0, none⟩) 0 0)
    (ad n c : Nat) (f : Nat → Nat) (hx : a.eval x = .slice (some ⟨ad, 0, none⟩) n c) (hown : w.ownsRow base 114 1 (.slice (some ⟨gr, 0, none⟩) 0 0) 0 []) (hc : ∀ i, i < n → w.cell? ⟨ad, i, none⟩ = some (.int .u32 (f i)))
    (hn : 0 < n ∧ n ≤ 8) (hbase : base ≤ w.heap.size)
    (h : ∀ g' cap' w', w'.ownsRow base 114 1 (.slice (some ⟨g', 0, none⟩) n cap') n (words f n) → w.grownBy w' (some gr) → wpList Try.prog ops Q rest (a.put o.dst (.slice (some ⟨g', 0, none⟩) n cap')) w') : wpList Try.prog ops Q (o :: rest) a w := by
  have hi := info114
  cases hq : Try.prog.info? 114 with
  | none => rw [hq] at hi; simp at hi
  | some i =>
    rw [hq] at hi
    simp only [Option.map_some, Option.some.injEq, Prod.mk.injEq] at hi
    obtain ⟨hz, hsz, hby⟩ := hi
    refine wpList_append_lies w hgd s x 61 ho base 114 i _ 1 4 under61 hq hz hsz hby rfl (by decide) _ 0 [] hs hown ⟨ad, 0, none⟩ n c (words f n) hx (by unfold words; simp) ?_ ?_ hn.1 (by simp only [maxLen]; omega) (by omega) hbase _ rfl (fun g' cap' w' h2 h3 _ _ => by rw [Nat.zero_add] at h2 ⊢; exact h g' cap' w' (by simpa using h2) h3)
    · intro j v hj
      have hjn : j < n := by
        have := (List.getElem?_eq_some_iff.mp hj).1
        simpa [words] using this
      rw [words_get f n j hjn] at hj
      obtain rfl := Option.some.inj hj
      rw [add_none]; exact hc j hjn
    · intro v hv
      simp [words] at hv
      obtain ⟨j, _, rfl⟩ := hv
      rfl

theorem own_sl {w : World} {base g' n cap' : Nat} {f : Nat → Nat} (h : w.ownsRow base 114 1 (.slice (some ⟨g', 0, none⟩) n cap') n (words f n)) (hn : n ≤ 8) (hl : ∀ i, i < n → f i < 4294967296) : Sl w (some ⟨g', 0, none⟩) n cap' f := by
  have hc := h.cells (g := g') rfl
  rcases h.2 with ⟨h2, _⟩ | ⟨g2, cap2, cur, hv, _, _, h3, h4, _, _⟩
  · simp at h2
  · simp at hv
    obtain ⟨rfl, rfl⟩ := hv
    exact ⟨hn, h3, by simpa [maxLen] using h4, hl, fun _ => ⟨g', rfl, fun i hi => by rw [← add_none]; exact hc i _ (words_get f n i hi)⟩⟩

set_option maxRecDepth 100000 in
set_option maxHeartbeats 1000000 in
theorem divC_lt (x y : Nat) (h0 : 0 < x) (hxy : x < y) : DivC x y := by
  intro a b n m c d f g w ha hb
  have hn0 := ha.pos h0
  have hn8 := ha.sl.small
  obtain ⟨ga, rfl, ca⟩ := ha.sl.at_ hn0
  have hga : ga < w.heap.size := World.block_lt_of_cell? w ⟨ga, 0, none⟩ (ca 0 hn0)
  have HA : Hid (Mag w (some ⟨ga, 0, none⟩) n c f x) := ha
  have HB : Hid (Mag w b m d g y) := hb
  have HC : Hid (cmpN x y = -1) := by unfold Hid cmpN; rw [if_pos hxy]
  clear ha hb ca
  go_enter Try.func69, Try.ntmps69
  go_wp2_with fail
  refine (l1MagCmp_any _ _ _ _ _ _ f g x y _ HA.out HB.out).mono ?_
  rintro e w1 ⟨rfl, q, rfl⟩
  rw [HC.out]
  have hfit : Hid ((((w.drewN q).alloc (.cells #[] 114)).alloc (.cells #[] 114)).ownsRow w.heap.size 114 1 (.slice (some ⟨w.heap.size + 1, 0, none⟩) 0 0) 0 []) := by
    refine ⟨rfl, .inr ⟨w.heap.size + 1, 0, #[], rfl, by omega, ?_, Nat.le_refl _, by decide, rfl, rfl⟩⟩
    have := heap_new' ((w.drewN q).alloc (.cells #[] 114)) (.cells #[] 114)
    simpa using this
  have HM : Hid (∀ i, i < n → (((w.drewN q).alloc (.cells #[] 114)).alloc (.cells #[] 114)).cell? ⟨ga, i, none⟩ = some (.int .u32 (f i))) := fun i hi => by
    obtain ⟨g2, e2, c2⟩ := (HA.out.sl.below ((Joins.below_draws _ w q).trans (Joins.below_alloc2 (w.drewN q) (.cells #[] 114) (.cells #[] 114)))).at_ hn0
    simp at e2
    subst e2
    exact c2 i hi
  go_wp2_with (refine append61L _ rfl (.tmp 32) (.tmp 33) rfl w.heap.size (w.heap.size + 1) rfl ga n c f rfl ?_ ?_ ?_ ?_ ?_)
  · exact hfit.out
  · exact HM.out
  · exact ⟨hn0, hn8⟩
  · simp; omega
  intro g' cap' w7 hO7 hG7
  have H7 : Hid (Sl w7 (some ⟨g', 0, none⟩) n cap' f ∧ Below w.heap.size w w7) := ⟨own_sl hO7 hn8 HA.out.sl.lt, grown_below ((Joins.below_draws _ w q).trans (Joins.below_alloc2 (w.drewN q) (.cells #[] 114) (.cells #[] 114))) hG7 (by omega) (by simp; omega)⟩
  clear hO7 hG7 hfit HM
  go_wp2
  go_ret2
  refine ⟨_, _, _, fun _ => 0, _, _, _, f, rfl, ?_, ?_, H7.out.2⟩
  · rw [Nat.div_eq_of_lt hxy]
    exact ⟨⟨by omega, by omega, by omega, fun i hi => by omega, fun h => by omega⟩, .inl rfl, rfl⟩
  · rw [Nat.mod_eq_of_lt hxy]
    exact ⟨H7.out.1, HA.out.top, HA.out.is⟩
end Go.Proofs.Ytikepklkjbohmaa
