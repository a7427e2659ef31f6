import Derived.Test.YtobhljmpdolomaaRdNum
namespace Go.Proofs.Ytobhljmpdolomaa
open Go.RowKit

/-- What is known of a reader: its block, and its bytes in another. -/
structure Rdr (w : World) (R N cap p : Nat) (code : Int) (ao : Option Addr) (L : List Int) : Prop where
  at_ : At w R #[.slice ao N cap, .int .i64 p, .int .i64 code]
  rd : RdB w ao N L
  ne : ∀ g, ao = some ⟨g, 0, none⟩ → 0 < N → g ≠ R
  le : p ≤ N
theorem Rdr.grown {w w' : World} {R N cap p p' : Nat} {code c : Int} {ao : Option Addr} {L : List Int} (h : Rdr w R N cap p code ao L) (hg : w.grownBy w' (some R)) (ha : At w' R #[.slice ao N cap, .int .i64 p', .int .i64 c]) (hp : p' ≤ N) : Rdr w' R N cap p' c ao L :=
  ⟨ha, RdB.keep2 h.rd fun h0 g e hg' => hg.block g hg' (by have := h.ne g e h0; simp; omega), h.ne, hp⟩
theorem Rdr.keep {w w' : World} {R N cap p : Nat} {code : Int} {ao : Option Addr} {L : List Int} (h : Rdr w R N cap p code ao L) (hk : ∀ b, b < w.heap.size → (b = R ∨ ∃ g, ao = some ⟨g, 0, none⟩ ∧ 0 < N ∧ b = g) → w'.heap[b]? = w.heap[b]?) (hs : w.heap.size ≤ w'.heap.size) : Rdr w' R N cap p code ao L := by
  have hb := hk R h.at_.sz (Or.inl rfl)
  refine ⟨⟨fun j => ?_, fun j => ?_, Nat.lt_of_lt_of_le h.at_.sz hs⟩, RdB.keep2 h.rd fun h0 g e hg => hk g hg (Or.inr ⟨g, e, h0, rfl⟩), h.ne, h.le⟩
  · rw [World.cell?_of_block (a := ⟨R, j, none⟩) (w := w) hb]; exact h.at_.c j
  · rw [World.frozen?_of_block (a := ⟨R, j, none⟩) (w := w) hb]; exact h.at_.fz j
theorem Rdr.alloc {w : World} {R N cap p : Nat} {code : Int} {ao : Option Addr} {L : List Int} (h : Rdr w R N cap p code ao L) (o : Obj) : Rdr (w.alloc o) R N cap p code ao L :=
  h.keep (fun b hb _ => Deep.blk_alloc_lt _ _ _ hb) (by simp)

theorem number_r (R N cap p0 : Nat) (code : Int) (ao : Option Addr) (L : List Int) (w : World) (hlen : L.length = N) (hN : N ≤ 1048576) (hby : ∀ b ∈ L, 0 ≤ b ∧ b < 256) (hr : Rdr w R N cap p0 code ao L) :
    Calls Try.prog 43 #[.pointer (some ⟨R, 0, none⟩)] w fun e w' => ∃ c v p', rdNum L p0 code = (c, v, p') ∧ e = .returned (.int .i64 v) ∧ Rdr w' R N cap p' c ao L ∧ w.grownBy w' (some R) := by
  refine (number_any R N cap p0 code ao L w hlen hN hr.le hby hr.at_ hr.rd hr.ne).mono ?_
  rintro e w' ⟨c, v, p', h1, h2, h3, h4, h5⟩
  exact ⟨c, v, p', h1, h2, hr.grown h5 h4 h3, h5⟩

/-- A count. -/
def rdCount (L : List Int) (p : Nat) (code : Int) (most : Int) : Int × Int × Nat :=
  if (rdNum L p code).1 = 0 then (if (rdNum L p code).2.1 < 0 ∨ most < (rdNum L p code).2.1 then (3, 0, (rdNum L p code).2.2) else (0, (rdNum L p code).2.1, (rdNum L p code).2.2)) else ((rdNum L p code).1, 0, (rdNum L p code).2.2)

set_option maxHeartbeats 2000000 in
theorem count_any (R N cap p0 : Nat) (code most : Int) (ao : Option Addr) (L : List Int) (w : World) (hlen : L.length = N) (hN : N ≤ 1048576) (hby : ∀ b ∈ L, 0 ≤ b ∧ b < 256) (hr : Rdr w R N cap p0 code ao L) :
    Calls Try.prog 41 #[.pointer (some ⟨R, 0, none⟩), .int .i64 most] w fun e w' => ∃ c v p', rdCount L p0 code most = (c, v, p') ∧ e = .returned (.int .i64 v) ∧ Rdr w' R N cap p' c ao L ∧ w.grownBy w' (some R) := by
  have HR : Hid (Rdr w R N cap p0 code ao L) := hr
  have HL : Hid (L.length = N) := hlen
  have HY : Hid (∀ b ∈ L, 0 ≤ b ∧ b < 256) := hby
  clear hr hlen hby
  go_enter Try.func41, Try.ntmps41
  go_wp2_with fail
  refine (number_r R N cap p0 code ao L _ HL.out hN HY.out HR.out).mono ?_
  rintro e w1 ⟨c, v, p', h1, rfl, hr1, hg1⟩
  have HR1 : Hid (Rdr w1 R N cap p' c ao L) := hr1
  have HG1 : Hid (w.grownBy w1 (some R)) := hg1
  have a2 : w1.cell? ⟨R, 2, none⟩ = some (.int .i64 c) := hr1.at_.c 2
  have z2 : w1.frozen? ⟨R, 2, none⟩ = false := hr1.at_.fz 2
  have hsz : R < w1.heap.size := hr1.at_.sz
  by_cases hc : c = 0
  · subst hc
    by_cases hv : v < 0 ∨ most < v
    · have HQ : Hid (rdCount L p0 code most = (3, 0, p')) := by unfold rdCount; rw [h1, if_pos rfl, if_pos hv]; exact rfl
      clear h1 hr1 hg1
      by_cases hv0 : v < 0
      · clear hv
        go_wp2
        go_ret
        exact ⟨3, 0, p', HQ.out, rfl, HR1.out.grown (grown_set (grownBy_refl _ _) (Or.inl rfl)) (HR1.out.at_.set3_2 _) HR1.out.le, grown_set HG1.out (Or.inl rfl)⟩
      · have hv1 : most < v := by omega
        clear hv
        go_wp2
        go_ret
        exact ⟨3, 0, p', HQ.out, rfl, HR1.out.grown (grown_set (grownBy_refl _ _) (Or.inl rfl)) (HR1.out.at_.set3_2 _) HR1.out.le, grown_set HG1.out (Or.inl rfl)⟩
    · have HQ : Hid (rdCount L p0 code most = (0, v, p')) := by unfold rdCount; rw [h1, if_pos rfl, if_neg hv]; exact rfl
      have hv0 : 0 ≤ v := by omega
      have hv1 : v ≤ most := by omega
      clear h1 hr1 hg1 hv
      go_wp2
      go_ret
      exact ⟨0, v, p', HQ.out, rfl, HR1.out, HG1.out⟩
  · have HQ : Hid (rdCount L p0 code most = (c, 0, p')) := by unfold rdCount; rw [h1, if_neg hc]; exact rfl
    have hcb : (c == 0) = false := beq_eq_false_iff_ne.2 hc
    clear h1 hr1 hg1
    go_wp2
    go_ret
    exact ⟨c, 0, p', HQ.out, rfl, HR1.out, HG1.out⟩

set_option maxHeartbeats 2000000 in
theorem q_any (R N cap p0 : Nat) (code : Int) (ao : Option Addr) (L : List Int) (w : World) (hlen : L.length = N) (hN : N ≤ 1048576) (hby : ∀ b ∈ L, 0 ≤ b ∧ b < 256) (hr : Rdr w R N cap p0 code ao L) :
    Calls Try.prog 42 #[.pointer (some ⟨R, 0, none⟩)] w fun e w' => ∃ c1 v1 p1 c2 v2 p2, rdNum L p0 code = (c1, v1, p1) ∧ rdNum L p1 c1 = (c2, v2, p2) ∧ e = .returned (.agg #[.int .i64 v1, .int .i64 v2]) ∧ Rdr w' R N cap p2 c2 ao L ∧ w.grownBy w' (some R) := by
  have HR : Hid (Rdr (w.alloc (.cells #[.int .i64 0, .int .i64 0] 49)) R N cap p0 code ao L) := hr.alloc _
  have HRw : Hid (R < w.heap.size) := hr.at_.sz
  have HK : Hid (∀ g, ao = some ⟨g, 0, none⟩ → 0 < N → g < w.heap.size) := hr.rd.blk
  have HL : Hid (L.length = N) := hlen
  have HY : Hid (∀ b ∈ L, 0 ≤ b ∧ b < 256) := hby
  have HZ : Hid (At (w.alloc (.cells #[.int .i64 0, .int .i64 0] 49)) w.heap.size #[.int .i64 0, .int .i64 0]) := ⟨fun j => by go_simp, fun j => by go_simp, by simp⟩
  clear hr hlen hby
  go_enter Try.func42, Try.ntmps42
  go_wp2_with fail
  refine (number_r R N cap p0 code ao L _ HL.out hN HY.out HR.out).mono ?_
  rintro e w1 ⟨c1, v1, p1, h1, rfl, hr1, hg1⟩
  have HR1 : Hid (Rdr w1 R N cap p1 c1 ao L) := hr1
  have HG1 : Hid ((w.alloc (.cells #[.int .i64 0, .int .i64 0] 49)).grownBy w1 (some R)) := hg1
  have HQ1 : Hid (rdNum L p0 code = (c1, v1, p1)) := h1
  clear h1 hr1 hg1 HR
  go_wp2_with fail
  refine (number_r R N cap p1 c1 ao L _ HL.out hN HY.out HR1.out).mono ?_
  rintro e w2 ⟨c2, v2, p2, h2, rfl, hr2, hg2⟩
  have HQ2 : Hid (rdNum L p1 c1 = (c2, v2, p2)) := h2
  have HG2 : Hid ((w.alloc (.cells #[.int .i64 0, .int .i64 0] 49)).grownBy w2 (some R)) := grown_trans HG1.out hg2 (fun b e => Or.inl e.symm)
  have HR2 : Hid (Rdr w2 R N cap p2 c2 ao L) := hr2
  have HZ2 : Hid (At w2 w.heap.size #[.int .i64 0, .int .i64 0]) := HZ.out.grown HG2.out (by have := HRw.out; omega)
  clear h2 hr2 hg2 HR1 HG1 HZ
  obtain ⟨q, qz, qs⟩ := HZ2.out
  go_wp2
  refine bodyPost_ret (v := .agg #[.int .i64 v1, .int .i64 v2]) (by simp [results, Try.results42, go_sem, q]) rfl ⟨c1, v1, p1, c2, v2, p2, HQ1.out, HQ2.out, rfl, ?_, ?_⟩
  · refine HR2.out.keep (fun b hb hbb => ?_) (by simp)
    have hne : b ≠ w.heap.size := by
      rcases hbb with rfl | ⟨g, e, h0, rfl⟩
      · have := HRw.out; omega
      · have := HK.out b e h0; omega
    rw [Deep.blk_setCell_other _ _ _ _ hne, Deep.blk_setCell_other _ _ _ _ hne]
  · exact grown_set (grown_set (grown_trans (grown_alloc (grownBy_refl w (some R)) _) HG2.out (fun b e => Or.inl e.symm)) (Or.inr (Nat.le_refl _))) (Or.inr (Nat.le_refl _))
end Go.Proofs.Ytobhljmpdolomaa
