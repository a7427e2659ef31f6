import Derived.Test.YtgcgoehmgaokkaaDoorPtGrp
import Derived.Test.YtgcgoehmgaokkaaDoorPtDel
namespace Go.Proofs.YtgcgoehmgaokkaaDoor
open Go.RowKit

/-- A list of lists of numbers beyond base: no two of its rows in one block. -/
structure LL (w : World) (base : Nat) (ao : Option Addr) (n : Nat) (L : Nat → List Int) (b : Nat) (hh : Nat → Nat) : Prop where
  ad : 0 < n → ao = some ⟨b, 0, none⟩ ∧ base ≤ b ∧ b < w.heap.size
  out : ∀ j, j < n → ∃ c, w.cell? ⟨b, j, none⟩ = some (.slice (some ⟨hh j, 0, none⟩) (L j).length c)
  rows : ∀ j, j < n → base ≤ hh j ∧ hh j < w.heap.size ∧ hh j ≠ b ∧ (∀ x, x < (L j).length → w.cell? ⟨hh j, x, none⟩ = some (.int .i64 ((L j).getD x 0))) ∧ (∀ x, x < (L j).length → w.frozen? ⟨hh j, x, none⟩ = false)
  dis : ∀ i j, i < n → j < n → i ≠ j → hh i ≠ hh j
theorem LL.below {w w' : World} {base n b : Nat} {ao : Option Addr} {L : Nat → List Int} {hh : Nat → Nat} (h : LL w base ao n L b hh) {B : Nat} (hb : Below B w w') (hB : w.heap.size ≤ B) : LL w' base ao n L b hh :=
  ⟨fun h0 => ⟨(h.ad h0).1, (h.ad h0).2.1, Nat.lt_of_lt_of_le (h.ad h0).2.2 hb.size⟩,
   fun j hj => by
    obtain ⟨c, hc⟩ := h.out j hj
    exact ⟨c, (hb.cell (p := ⟨b, j, none⟩) (Nat.lt_of_lt_of_le (h.ad (by omega)).2.2 hB)).trans hc⟩,
   fun j hj => by
    obtain ⟨h1, h2, h3, h4, h5⟩ := h.rows j hj
    exact ⟨h1, Nat.lt_of_lt_of_le h2 hb.size, h3, fun x hx => (hb.cell (p := ⟨hh j, x, none⟩) (Nat.lt_of_lt_of_le h2 hB)).trans (h4 x hx), fun x hx => (hb.frozen (p := ⟨hh j, x, none⟩) (Nat.lt_of_lt_of_le h2 hB)).trans (h5 x hx)⟩,
   h.dis⟩

theorem grp_succ (i : Nat) (F : Nat → Int) (q : Int) : grp (i + 1) F q = if F i = q then grp i F q ++ [(i : Int)] else grp i F q := by
  unfold grp
  rw [List.range_succ, List.filter_append, List.map_append]
  by_cases h : F i = q <;> simp [h]
theorem grp_len (p : Nat) (F : Nat → Int) (q : Int) : (grp p F q).length ≤ p := by
  unfold grp
  rw [List.length_map]
  exact Nat.le_trans (List.length_filter_le _ _) (by simp)

/-- Which groups there are. -/
def sel (p : Nat) (F : Nat → Int) : List Nat := (List.range p).filter fun (q : Nat) => !(grp p F q).isEmpty
theorem groups_sel (p : Nat) (F : Nat → Int) : groups p F = (sel p F).map fun (q : Nat) => grp p F q := by
  unfold groups sel
  rw [List.filter_map]
  rfl
theorem keep_sel {p : Nat} {F : Nat → Int} {V : Nat → Value} (h : ∀ q, q < p → vlen (V q) = (grp p F q).length) : keep V p = (sel p F).map V := by
  unfold keep sel
  congr 1
  apply List.filter_congr
  intro q hq
  rw [h q (List.mem_range.1 hq), Bool.eq_iff_iff]
  cases grp p F q <;> simp
theorem sel_lt {p : Nat} {F : Nat → Int} {j : Nat} (h : j < (sel p F).length) : (sel p F).getD j 0 < p ∧ grp p F ((sel p F).getD j 0 : Nat) ≠ [] := by
  have hm : (sel p F).getD j 0 ∈ sel p F := by
    rw [List.getD_eq_getElem?_getD, List.getElem?_eq_getElem h]
    exact List.getElem_mem h
  unfold sel at hm
  have h2 := List.mem_filter.1 hm
  refine ⟨List.mem_range.1 h2.1, fun e => ?_⟩
  have := h2.2
  simp only [sel] at e
  rw [e] at this
  simp at this
theorem sel_inj {p : Nat} {F : Nat → Int} {i j : Nat} (hi : i < (sel p F).length) (hj : j < (sel p F).length) (h : i ≠ j) : (sel p F).getD i 0 ≠ (sel p F).getD j 0 := by
  have hp : (sel p F).Pairwise (· < ·) := List.Pairwise.filter _ List.pairwise_lt_range
  have hlt := List.pairwise_iff_getElem.1 hp
  rw [List.getD_eq_getElem?_getD, List.getD_eq_getElem?_getD, List.getElem?_eq_getElem hi, List.getElem?_eq_getElem hj]
  show (sel p F)[i] ≠ (sel p F)[j]
  rcases Nat.lt_or_gt_of_ne h with h1 | h1
  · exact Nat.ne_of_lt (hlt i j hi hj h1)
  · exact Nat.ne_of_gt (hlt j i hj hi h1)

/-- What the row of groups is when the empty ones are struck. -/
theorem GI.answer {gg P base : Nat} {F : Nat → Int} {V : Nat → Value} {w w' : World} (h : GI gg P (fun q => grp P F q) V w) (hk : Kept gg P V w w') (hb : base ≤ gg) :
    ∃ hh, (keep V P).length = (groups P F).length ∧ LL w' base (some ⟨gg, 0, none⟩) (groups P F).length (fun j => (groups P F).getD j []) gg hh := by
  have hv : ∀ q, q < P → vlen (V q) = (grp P F q).length := fun q hq => by
    rcases (h.own q hq).nil_or with ⟨e, e2⟩ | ⟨g, cap, e⟩
    · rw [e, e2]; rfl
    · rw [e]; rfl
  have hks := keep_sel hv
  have hlen : (groups P F).length = (sel P F).length := by rw [groups_sel, List.length_map]
  have hg : ∀ j, j < (sel P F).length → (groups P F).getD j [] = grp P F ((sel P F).getD j 0 : Nat) := fun j hj => by
    rw [groups_sel]
    simp [List.getD_eq_getElem?_getD, hj]
  have hf : ∀ q, q < P → grp P F (q : Nat) ≠ [] → ∃ g cap, V q = .slice (some ⟨g, 0, none⟩) (grp P F q).length cap := fun q hq hne => by
    rcases (h.own q hq).nil_or with ⟨_, e2⟩ | ⟨g, cap, e⟩
    · exact absurd e2 hne
    · exact ⟨g, cap, e⟩
  have hf2 : ∀ j, j < (sel P F).length → ∃ g : Nat, ∃ cap, V ((sel P F).getD j 0) = .slice (some ⟨g, 0, none⟩) (grp P F ((sel P F).getD j 0 : Nat)).length cap := fun j hj => hf _ (sel_lt hj).1 (sel_lt hj).2
  obtain ⟨hh, hhh⟩ := Deep.choose_lt (p := fun j (g : Nat) => ∃ cap, V ((sel P F).getD j 0) = .slice (some ⟨g, 0, none⟩) (grp P F ((sel P F).getD j 0 : Nat)).length cap) hf2
  obtain ⟨⟨V', hrow, hV'⟩, hoth, hbel⟩ := hk
  have hblk : ∀ j, j < (sel P F).length → gg + 1 ≤ hh j ∧ hh j < w.heap.size := fun j hj => by
    obtain ⟨cap, e⟩ := hhh j hj
    have := (h.own _ (sel_lt hj).1).lt (hh j) (by rw [e]; rfl)
    exact this
  refine ⟨hh, by rw [hks, List.length_map, hlen], ⟨fun _ => ⟨rfl, hb, hrow.lt⟩, fun j hj => ?_, fun j hj => ?_, fun i j hi hj hne => ?_⟩⟩
  · rw [hlen] at hj
    obtain ⟨cap, e⟩ := hhh j hj
    refine ⟨cap, ?_⟩
    have hjP : j < P := Nat.lt_of_lt_of_le hj (Nat.le_trans (List.length_filter_le _ _) (by simp))
    rw [hrow.cell (i := j) hjP, hV' j (by rw [hks, List.length_map]; exact hj), hks, hg j hj]
    simp [List.getD_eq_getElem?_getD, hj] at e ⊢
    exact e
  · rw [hlen] at hj
    obtain ⟨cap, e⟩ := hhh j hj
    have hb2 := hblk j hj
    have ho := h.own _ (sel_lt hj).1
    rw [e] at ho
    obtain ⟨_, _, _, hc, hz⟩ := Gv.cell ho
    have hsame : w'.heap[hh j]? = w.heap[hh j]? := hoth (hh j) hb2.2 (by omega)
    refine ⟨by omega, Nat.lt_of_lt_of_le hb2.2 hbel.size, by omega, fun x hx => ?_, fun x hx => ?_⟩
    · show _ = some (Value.int .i64 (((groups P F).getD j []).getD x 0))
      rw [hg j hj] at hx ⊢
      exact (World.cell?_of_block (a := ⟨hh j, x, none⟩) hsame).trans (hc x hx)
    · rw [hg j hj] at hx
      exact (World.frozen?_of_block (a := ⟨hh j, x, none⟩) hsame).trans (hz x hx)
  · rw [hlen] at hi hj
    obtain ⟨c1, e1⟩ := hhh i hi
    obtain ⟨c2, e2⟩ := hhh j hj
    intro e
    exact h.dis _ _ (hh i) (sel_lt hi).1 (sel_lt hj).1 (sel_inj hi hj hne) (by rw [e1]; rfl) (by rw [e2, e]; rfl)
end Go.Proofs.YtgcgoehmgaokkaaDoor
