import Derived.Test.YtobhljmpdolomaaRdIm1
namespace Go.Proofs.Ytobhljmpdolomaa
open Go.RowKit

theorem rdNum_stuck (L : List Int) (p : Nat) {c : Int} (h : c ≠ 0) : rdNum L p c = (c, 0, p) := by unfold rdNum; rw [if_neg h]
theorem rdAt_add (L : List Int) (p : Nat) (c : Int) (i j : Nat) : rdAt L p c (i + j) = rdAt L (rdAt L p c i).2 (rdAt L p c i).1 j := by
  induction j with
  | zero => rfl
  | succ j ih => rw [← Nat.add_assoc, rdAt, ih, rdAt]
theorem rdVal_add (L : List Int) (p : Nat) (c : Int) (i j : Nat) : rdVal L p c (i + j) = rdVal L (rdAt L p c i).2 (rdAt L p c i).1 j := by
  rw [rdVal, rdVal, rdAt_add]
theorem rdAt_stuck (L : List Int) (p : Nat) {c : Int} (h : c ≠ 0) (j : Nat) : rdAt L p c j = (c, p) := by
  induction j with
  | zero => rfl
  | succ j ih => rw [rdAt, ih]; simp only [rdNum_stuck L p h]
/-- From a place on: what was read before, what comes then. -/
theorem rdAt_then {L : List Int} {p p1 : Nat} {c c1 : Int} {i : Nat} (h : rdAt L p c i = (c1, p1)) (j : Nat) : rdAt L p c (i + j) = rdAt L p1 c1 j ∧ rdVal L p c (i + j) = rdVal L p1 c1 j := by
  rw [rdAt_add, rdVal_add, h]
  exact ⟨rfl, rfl⟩
theorem rdAt_dead {L : List Int} {p p1 : Nat} {c c1 : Int} {i : Nat} (h : rdAt L p c i = (c1, p1)) (h1 : c1 ≠ 0) (j : Nat) : rdAt L p c (i + j) = (c1, p1) := by
  rw [(rdAt_then h j).1, rdAt_stuck L p1 h1]
theorem rdAt_one {L : List Int} {p p1 : Nat} {c1 v1 : Int} (h : rdNum L p 0 = (c1, v1, p1)) : rdAt L p 0 1 = (c1, p1) ∧ rdVal L p 0 0 = v1 := by
  have := rdAt_step (L := L) (p := p) (c := 0) (j := 0) (p1 := p) (c1 := 0) rfl h
  exact this

theorem numberI_ok (R g N p0 : Nat) (L : List Int) (w : World) (hlen : L.length = N) (hN : N ≤ 1048576) (hby : ∀ b ∈ L, 0 ≤ b ∧ b < 256) (hl : Lf w R g N p0 L) {v : Int} {p' : Nat} (h : rdNum L p0 0 = (0, v, p')) :
    Calls Try.prog 69 #[.pointer (some ⟨R, 0, none⟩)] w fun e w' => e = .returned (.int .i64 v) ∧ Lf w' R g N p' L ∧ w.grownBy w' (some R) := by
  refine (numberI_any R g N p0 L w hlen hN hby hl).mono ?_
  rintro e w' ⟨⟨c, v', q, h1, h2⟩, hg⟩
  rw [h] at h1
  simp only [Prod.mk.injEq] at h1
  obtain ⟨rfl, rfl, rfl⟩ := h1
  rcases h2 with ⟨_, he, hl'⟩ | ⟨h0, _⟩
  · exact ⟨he, hl', hg⟩
  · exact absurd rfl h0
theorem numberI_bad (R g N p0 : Nat) (L : List Int) (w : World) (hlen : L.length = N) (hN : N ≤ 1048576) (hby : ∀ b ∈ L, 0 ≤ b ∧ b < 256) (hl : Lf w R g N p0 L) {c v : Int} {p' : Nat} (h : rdNum L p0 0 = (c, v, p')) (hc : c ≠ 0) :
    Calls Try.prog 69 #[.pointer (some ⟨R, 0, none⟩)] w fun e w' => e = .panicked (chain c) ∧ Fl w' R c ∧ w.grownBy w' (some R) := by
  refine (numberI_any R g N p0 L w hlen hN hby hl).mono ?_
  rintro e w' ⟨⟨c', v', q, h1, h2⟩, hg⟩
  rw [h] at h1
  simp only [Prod.mk.injEq] at h1
  obtain ⟨rfl, rfl, rfl⟩ := h1
  rcases h2 with ⟨h0, _⟩ | ⟨_, he, hf⟩
  · exact absurd h0 hc
  · exact ⟨he, hf, hg⟩

set_option maxHeartbeats 2000000 in
theorem countI_any (R g N p0 : Nat) (most : Int) (L : List Int) (w : World) (hlen : L.length = N) (hN : N ≤ 1048576) (hby : ∀ b ∈ L, 0 ≤ b ∧ b < 256) (hl : Lf w R g N p0 L) :
    Calls Try.prog 61 #[.pointer (some ⟨R, 0, none⟩), .int .i64 most] w fun e w' => (∃ c v p', rdCount L p0 0 most = (c, v, p') ∧ ((c = 0 ∧ e = .returned (.int .i64 v) ∧ Lf w' R g N p' L) ∨ (c ≠ 0 ∧ e = .panicked (chain c) ∧ Fl w' R c))) ∧ w.grownBy w' (some R) := by
  have HL : Hid (L.length = N) := hlen
  have HY : Hid (∀ b ∈ L, 0 ≤ b ∧ b < 256) := hby
  have HF : Hid (Lf w R g N p0 L) := hl
  obtain ⟨c, v, p', hq⟩ : ∃ c v p', rdNum L p0 0 = (c, v, p') := ⟨_, _, _, rfl⟩
  have HQ : Hid (rdNum L p0 0 = (c, v, p')) := hq
  clear hlen hby hl hq
  by_cases hc : c = 0
  · subst hc
    by_cases hv : v < 0 ∨ most < v
    · have HE : Hid (rdCount L p0 0 most = (3, 0, p')) := by unfold rdCount; rw [HQ.out, if_pos rfl, if_pos hv]; exact rfl
      by_cases hv0 : v < 0
      · clear hv
        go_enter Try.func61, Try.ntmps61
        go_wp2_with fail
        refine (numberI_ok R g N p0 L _ HL.out hN HY.out HF.out HQ.out).mono ?_
        rintro e w1 ⟨rfl, hl1, hg1⟩
        have HF1 : Hid (Lf w1 R g N p' L) := hl1
        obtain ⟨ao, cap, ha, _⟩ := hl1.at_
        have HA : Hid (At w1 R #[.slice ao (N - p') cap, .int .i64 0]) := ha
        have HG : Hid (w.grownBy w1 (some R)) := hg1
        clear hl1 ha hg1
        go_wp2_with fail
        refine (stop_any R 3 0 _ _ HA.out).mono ?_
        rintro e w2 ⟨rfl, rfl⟩
        go_wp2
        exact ⟨rfl, ⟨3, 0, p', HE.out, Or.inr ⟨by decide, rfl, HF1.out.fault 3⟩⟩, grown_set HG.out (Or.inl rfl)⟩
      · have hv1 : most < v := by omega
        clear hv
        go_enter Try.func61, Try.ntmps61
        go_wp2_with fail
        refine (numberI_ok R g N p0 L _ HL.out hN HY.out HF.out HQ.out).mono ?_
        rintro e w1 ⟨rfl, hl1, hg1⟩
        have HF1 : Hid (Lf w1 R g N p' L) := hl1
        obtain ⟨ao, cap, ha, _⟩ := hl1.at_
        have HA : Hid (At w1 R #[.slice ao (N - p') cap, .int .i64 0]) := ha
        have HG : Hid (w.grownBy w1 (some R)) := hg1
        clear hl1 ha hg1
        go_wp2_with fail
        refine (stop_any R 3 0 _ _ HA.out).mono ?_
        rintro e w2 ⟨rfl, rfl⟩
        go_wp2
        exact ⟨rfl, ⟨3, 0, p', HE.out, Or.inr ⟨by decide, rfl, HF1.out.fault 3⟩⟩, grown_set HG.out (Or.inl rfl)⟩
    · have HE : Hid (rdCount L p0 0 most = (0, v, p')) := by unfold rdCount; rw [HQ.out, if_pos rfl, if_neg hv]; exact rfl
      have hv0 : 0 ≤ v := by omega
      have hv1 : v ≤ most := by omega
      clear hv
      go_enter Try.func61, Try.ntmps61
      go_wp2_with fail
      refine (numberI_ok R g N p0 L _ HL.out hN HY.out HF.out HQ.out).mono ?_
      rintro e w1 ⟨rfl, hl1, hg1⟩
      go_wp2
      go_ret
      exact ⟨⟨0, v, p', HE.out, Or.inl ⟨rfl, rfl, hl1⟩⟩, hg1⟩
  · have HE : Hid (rdCount L p0 0 most = (c, 0, p')) := by unfold rdCount; rw [HQ.out, if_neg hc]; exact rfl
    have HC : Hid (c ≠ 0) := hc
    clear hc
    go_enter Try.func61, Try.ntmps61
    go_wp2_with fail
    refine (numberI_bad R g N p0 L _ HL.out hN HY.out HF.out HQ.out HC.out).mono ?_
    rintro e w1 ⟨rfl, hf1, hg1⟩
    go_wp2
    exact ⟨rfl, ⟨c, 0, p', HE.out, Or.inr ⟨HC.out, rfl, hf1⟩⟩, hg1⟩

/-- What a reading of j numbers comes to. -/
def Came (L : List Int) (p j : Nat) (R g N : Nat) (vals : Value) (e : Ending) (w' : World) : Prop :=
  ∃ c p', rdAt L p 0 j = (c, p') ∧ ((c = 0 ∧ e = .returned vals ∧ Lf w' R g N p' L) ∨ (c ≠ 0 ∧ e = .panicked (chain c) ∧ Fl w' R c))

theorem Lf.grown {w w' : World} {R g N p : Nat} {L : List Int} (h : Lf w R g N p L) {b : Nat} (hg : w.grownBy w' (some b)) (hR : R ≠ b) (hgb : g ≠ b) : Lf w' R g N p L :=
  h.keep (hg.block R h.sz (by simpa using hR)) (fun _ hl => hg.block g hl (by simpa using hgb)) hg.size

set_option maxHeartbeats 2000000 in
theorem qI_any (R g N p0 : Nat) (L : List Int) (w : World) (hlen : L.length = N) (hN : N ≤ 1048576) (hN0 : 0 < N) (hby : ∀ b ∈ L, 0 ≤ b ∧ b < 256) (hl : Lf w R g N p0 L) :
    Calls Try.prog 70 #[.pointer (some ⟨R, 0, none⟩)] w fun e w' => Came L p0 2 R g N (.agg #[.int .i64 (rdVal L p0 0 0), .int .i64 (rdVal L p0 0 1)]) e w' ∧ w.grownBy w' (some R) := by
  have HL : Hid (L.length = N) := hlen
  have HY : Hid (∀ b ∈ L, 0 ≤ b ∧ b < 256) := hby
  have HF : Hid (Lf (w.alloc (.cells #[.int .i64 0, .int .i64 0] 49)) R g N p0 L) := hl.alloc _
  have HZ : Hid (R < w.heap.size ∧ g < w.heap.size) := ⟨hl.sz, hl.gsz hN0⟩
  have HX : Hid (At (w.alloc (.cells #[.int .i64 0, .int .i64 0] 49)) w.heap.size #[.int .i64 0, .int .i64 0]) := ⟨fun j => by go_simp, fun j => by go_simp, by simp⟩
  have HW0 : Hid (w.grownBy (w.alloc (.cells #[.int .i64 0, .int .i64 0] 49)) (some R)) := grown_alloc (grownBy_refl _ _) _
  obtain ⟨c1, v1, p1, hq1⟩ : ∃ c v p', rdNum L p0 0 = (c, v, p') := ⟨_, _, _, rfl⟩
  have HQ1 : Hid (rdNum L p0 0 = (c1, v1, p1)) := hq1
  have e1 := rdAt_one hq1
  clear hlen hby hl hq1
  by_cases hc1 : c1 = 0
  · subst hc1
    obtain ⟨c2, v2, p2, hq2⟩ : ∃ c v p', rdNum L p1 0 = (c, v, p') := ⟨_, _, _, rfl⟩
    have HQ2 : Hid (rdNum L p1 0 = (c2, v2, p2)) := hq2
    have e2 := rdAt_step e1.1 hq2
    have HE : Hid (rdAt L p0 0 2 = (c2, p2)) := e2.1
    rw [e1.2, e2.2]
    clear e1 e2 hq2
    by_cases hc2 : c2 = 0
    · subst hc2
      go_enter Try.func70, Try.ntmps70
      go_wp2_with fail
      refine (numberI_ok R g N p0 L _ HL.out hN HY.out HF.out HQ1.out).mono ?_
      rintro e w1 ⟨rfl, hl1, hg1⟩
      have HF1 : Hid (Lf w1 R g N p1 L) := hl1
      have HW1 : Hid (w.grownBy w1 (some R)) := grown_trans HW0.out hg1 (fun b e => Or.inl e.symm)
      have HX1 : Hid (At w1 w.heap.size #[.int .i64 0, .int .i64 0]) := HX.out.grown hg1 (by have := HZ.out; omega)
      clear hl1 hg1 HF HX HW0
      go_wp2_with fail
      refine (numberI_ok R g N p1 L _ HL.out hN HY.out HF1.out HQ2.out).mono ?_
      rintro e w2 ⟨rfl, hl2, hg2⟩
      have HF2 : Hid (Lf w2 R g N p2 L) := hl2
      have HW2 : Hid (w.grownBy w2 (some R)) := grown_trans HW1.out hg2 (fun b e => Or.inl e.symm)
      have HX2 : Hid (At w2 w.heap.size #[.int .i64 0, .int .i64 0]) := HX1.out.grown hg2 (by have := HZ.out; omega)
      clear hl2 hg2 HF1 HX1 HW1
      obtain ⟨q, qz, qs⟩ := HX2.out
      go_wp2
      refine bodyPost_ret (v := .agg #[.int .i64 v1, .int .i64 v2]) (by simp [results, Try.results70, go_sem, q]) rfl ⟨⟨0, p2, HE.out, Or.inl ⟨rfl, rfl, ?_⟩⟩, ?_⟩
      · exact HF2.out.keep (by rw [Deep.blk_setCell_other _ _ _ _ (by have := HZ.out; show R ≠ w.heap.size; omega), Deep.blk_setCell_other _ _ _ _ (by have := HZ.out; show R ≠ w.heap.size; omega)]) (fun _ _ => by rw [Deep.blk_setCell_other _ _ _ _ (by have := HZ.out; show g ≠ w.heap.size; omega), Deep.blk_setCell_other _ _ _ _ (by have := HZ.out; show g ≠ w.heap.size; omega)]) (by simp)
      · exact grown_set (grown_set HW2.out (Or.inr (Nat.le_refl _))) (Or.inr (Nat.le_refl _))
    · have HC : Hid (c2 ≠ 0) := hc2
      clear hc2
      go_enter Try.func70, Try.ntmps70
      go_wp2_with fail
      refine (numberI_ok R g N p0 L _ HL.out hN HY.out HF.out HQ1.out).mono ?_
      rintro e w1 ⟨rfl, hl1, hg1⟩
      have HF1 : Hid (Lf w1 R g N p1 L) := hl1
      have HW1 : Hid (w.grownBy w1 (some R)) := grown_trans HW0.out hg1 (fun b e => Or.inl e.symm)
      clear hl1 hg1 HF HX HW0
      go_wp2_with fail
      refine (numberI_bad R g N p1 L _ HL.out hN HY.out HF1.out HQ2.out HC.out).mono ?_
      rintro e w2 ⟨rfl, hf2, hg2⟩
      go_wp2
      exact ⟨rfl, ⟨c2, p2, HE.out, Or.inr ⟨HC.out, rfl, hf2⟩⟩, grown_trans HW1.out hg2 (fun b e => Or.inl e.symm)⟩
  · have HC : Hid (c1 ≠ 0) := hc1
    have HE : Hid (rdAt L p0 0 2 = (c1, p1)) := rdAt_dead e1.1 hc1 1
    clear hc1 e1
    go_enter Try.func70, Try.ntmps70
    go_wp2_with fail
    refine (numberI_bad R g N p0 L _ HL.out hN HY.out HF.out HQ1.out HC.out).mono ?_
    rintro e w1 ⟨rfl, hf1, hg1⟩
    go_wp2
    exact ⟨rfl, ⟨c1, p1, HE.out, Or.inr ⟨HC.out, rfl, hf1⟩⟩, grown_trans HW0.out hg1 (fun b e => Or.inl e.symm)⟩
end Go.Proofs.Ytobhljmpdolomaa
