import Derived.Test.YtobhljmpdolomaaRdIm2
import Derived.Deep.RegionHeld3
import Derived.RegionDies
namespace Go.Proofs.Ytobhljmpdolomaa
open Go.RowKit

theorem qI_ok (R g N p0 : Nat) (L : List Int) (w : World) (hlen : L.length = N) (hN : N ≤ 1048576) (hN0 : 0 < N) (hby : ∀ b ∈ L, 0 ≤ b ∧ b < 256) (hl : Lf w R g N p0 L) {p' : Nat} {v0 v1 : Int} (h : rdAt L p0 0 2 = (0, p')) (h0 : rdVal L p0 0 0 = v0) (h1 : rdVal L p0 0 1 = v1) :
    Calls Try.prog 70 #[.pointer (some ⟨R, 0, none⟩)] w fun e w' => e = .returned (.agg #[.int .i64 v0, .int .i64 v1]) ∧ Lf w' R g N p' L ∧ w.grownBy w' (some R) := by
  refine (qI_any R g N p0 L w hlen hN hN0 hby hl).mono ?_
  rintro e w' ⟨⟨c, q, h1', h2⟩, hg⟩
  rw [h] at h1'
  simp only [Prod.mk.injEq] at h1'
  obtain ⟨rfl, rfl⟩ := h1'
  subst h0 h1
  rcases h2 with ⟨_, he, hl'⟩ | ⟨h0, _⟩
  · exact ⟨he, hl', hg⟩
  · exact absurd rfl h0
theorem qI_bad (R g N p0 : Nat) (L : List Int) (w : World) (hlen : L.length = N) (hN : N ≤ 1048576) (hN0 : 0 < N) (hby : ∀ b ∈ L, 0 ≤ b ∧ b < 256) (hl : Lf w R g N p0 L) {p' : Nat} {c : Int} (h : rdAt L p0 0 2 = (c, p')) (hc : c ≠ 0) :
    Calls Try.prog 70 #[.pointer (some ⟨R, 0, none⟩)] w fun e w' => e = .panicked (chain c) ∧ Fl w' R c ∧ w.grownBy w' (some R) := by
  refine (qI_any R g N p0 L w hlen hN hN0 hby hl).mono ?_
  rintro e w' ⟨⟨c', q, h1', h2⟩, hg⟩
  rw [h] at h1'
  simp only [Prod.mk.injEq] at h1'
  obtain ⟨rfl, rfl⟩ := h1'
  rcases h2 with ⟨h0, _⟩ | ⟨_, he, hf⟩
  · exact absurd h0 hc
  · exact ⟨he, hf, hg⟩

abbrev Tw (B C : Nat) (a b c d : Int) (w' : World) : Prop := (w'.cell? ⟨B, 0, none⟩ = some (.int .i64 a) ∧ w'.cell? ⟨B, 1, none⟩ = some (.int .i64 b) ∧ w'.cell? ⟨C, 0, none⟩ = some (.int .i64 c) ∧ w'.cell? ⟨C, 1, none⟩ = some (.int .i64 d)) ∧ B < w'.heap.size ∧ C < w'.heap.size
theorem Tw.start {w2 : World} {v0 v1 v2 v3 : Int} {t u : Nat} : Tw w2.heap.size (w2.heap.size + 1) v0 v1 v2 v3 ((w2.alloc (.cells #[.int .i64 v0, .int .i64 v1] t)).alloc (.cells #[.int .i64 v2, .int .i64 v3] u)).drew := by
  refine ⟨⟨?_, ?_, ?_, ?_⟩, ?_, ?_⟩
  · go_simp
  · go_simp
  · go_simp
  · go_simp
  · show w2.heap.size < ((w2.alloc (.cells #[.int .i64 v0, .int .i64 v1] t)).alloc (.cells #[.int .i64 v2, .int .i64 v3] u)).heap.size
    simp; omega
  · show w2.heap.size + 1 < ((w2.alloc (.cells #[.int .i64 v0, .int .i64 v1] t)).alloc (.cells #[.int .i64 v2, .int .i64 v3] u)).heap.size
    simp
theorem Tw.same {B C : Nat} {a b c d : Int} {w' w1 : World} (k : Tw B C a b c d w') (hB : w1.heap[B]? = w'.heap[B]?) (hC : w1.heap[C]? = w'.heap[C]?) (hs : w'.heap.size ≤ w1.heap.size) : Tw B C a b c d w1 :=
  ⟨⟨(World.cell?_of_block (a := ⟨B, 0, none⟩) (w := w') hB).trans k.1.1, (World.cell?_of_block (a := ⟨B, 1, none⟩) (w := w') hB).trans k.1.2.1, (World.cell?_of_block (a := ⟨C, 0, none⟩) (w := w') hC).trans k.1.2.2.1, (World.cell?_of_block (a := ⟨C, 1, none⟩) (w := w') hC).trans k.1.2.2.2⟩, Nat.lt_of_lt_of_le k.2.1 hs, Nat.lt_of_lt_of_le k.2.2 hs⟩
theorem Tw.call {B C g : Nat} {a b c d : Int} {w' w1 : World} (k : Tw B C a b c d w') (hg : w'.grownBy w1 (some g)) (hB : B ≠ g) (hC : C ≠ g) : Tw B C a b c d w1 :=
  k.same (hg.block B k.2.1 (by simpa using hB)) (hg.block C k.2.2 (by simpa using hC)) hg.size
theorem Tw.set6 {B C X : Nat} {a b c d : Int} {w' : World} (k : Tw B C a b c d w') (hB : B ≠ X) (hC : C ≠ X) {u0 u1 u2 u3 u4 u5 : Value} : Tw B C a b c d ((((((w'.setCell ⟨X, 0, none⟩ u0).setCell ⟨X, 1, none⟩ u1).setCell ⟨X, 2, none⟩ u2).setCell ⟨X, 3, none⟩ u3).setCell ⟨X, 4, none⟩ u4).setCell ⟨X, 5, none⟩ u5) :=
  k.same (by rw [Deep.blk_setCell_other _ _ _ _ hB, Deep.blk_setCell_other _ _ _ _ hB, Deep.blk_setCell_other _ _ _ _ hB, Deep.blk_setCell_other _ _ _ _ hB, Deep.blk_setCell_other _ _ _ _ hB, Deep.blk_setCell_other _ _ _ _ hB]) (by rw [Deep.blk_setCell_other _ _ _ _ hC, Deep.blk_setCell_other _ _ _ _ hC, Deep.blk_setCell_other _ _ _ _ hC, Deep.blk_setCell_other _ _ _ _ hC, Deep.blk_setCell_other _ _ _ _ hC, Deep.blk_setCell_other _ _ _ _ hC]) (by simp)
theorem set6_other {w : World} {X b : Nat} (h : b ≠ X) (u0 u1 u2 u3 u4 u5 : Value) : ((((((w.setCell ⟨X, 0, none⟩ u0).setCell ⟨X, 1, none⟩ u1).setCell ⟨X, 2, none⟩ u2).setCell ⟨X, 3, none⟩ u3).setCell ⟨X, 4, none⟩ u4).setCell ⟨X, 5, none⟩ u5).heap[b]? = w.heap[b]? := by
  rw [Deep.blk_setCell_other _ _ _ _ h, Deep.blk_setCell_other _ _ _ _ h, Deep.blk_setCell_other _ _ _ _ h, Deep.blk_setCell_other _ _ _ _ h, Deep.blk_setCell_other _ _ _ _ h, Deep.blk_setCell_other _ _ _ _ h]
theorem Lf.drew {w : World} {R g N p : Nat} {L : List Int} (h : Lf w R g N p L) : Lf w.drew R g N p L := h.keep rfl (fun _ _ => rfl) (Nat.le_refl _)

set_option maxHeartbeats 2000000 in
theorem placeI_any (R g N p0 : Nat) (L : List Int) (w : World) (hlen : L.length = N) (hN : N ≤ 1048576) (hN0 : 0 < N) (hby : ∀ b ∈ L, 0 ≤ b ∧ b < 256) (hl : Lf w R g N p0 L) :
    Calls Try.prog 62 #[.pointer (some ⟨R, 0, none⟩)] w fun e w' => Came L p0 6 R g N (.agg #[.int .i64 (rdVal L p0 0 0), .int .i64 (rdVal L p0 0 1), .int .i64 (rdVal L p0 0 2), .int .i64 (rdVal L p0 0 3), .int .i64 (rdVal L p0 0 4), .int .i64 (rdVal L p0 0 5)]) e w' ∧ w.grownBy w' (some R) := by
  have HL : Hid (L.length = N) := hlen
  have HY : Hid (∀ b ∈ L, 0 ≤ b ∧ b < 256) := hby
  have HF : Hid (Lf (w.alloc (.cells #[.int .i64 0, .int .i64 0, .int .i64 0, .int .i64 0, .int .i64 0, .int .i64 0] 51)) R g N p0 L) := hl.alloc _
  have HZ : Hid (R < w.heap.size ∧ g < w.heap.size) := ⟨hl.sz, hl.gsz hN0⟩
  have HX : Hid (At (w.alloc (.cells #[.int .i64 0, .int .i64 0, .int .i64 0, .int .i64 0, .int .i64 0, .int .i64 0] 51)) w.heap.size #[.int .i64 0, .int .i64 0, .int .i64 0, .int .i64 0, .int .i64 0, .int .i64 0]) := ⟨fun j => by go_simp, fun j => by go_simp, by simp⟩
  have HW0 : Hid (w.grownBy (w.alloc (.cells #[.int .i64 0, .int .i64 0, .int .i64 0, .int .i64 0, .int .i64 0, .int .i64 0] 51)) (some R)) := grown_alloc (grownBy_refl _ _) _
  obtain ⟨c1, p1, hq1⟩ : ∃ c p', rdAt L p0 0 2 = (c, p') := ⟨_, _, rfl⟩
  have HQ1 : Hid (rdAt L p0 0 2 = (c1, p1)) := hq1
  clear hlen hby hl
  by_cases hc1 : c1 = 0
  · subst hc1
    obtain ⟨c2, p2, hq2⟩ : ∃ c p', rdAt L p1 0 2 = (c, p') := ⟨_, _, rfl⟩
    have HQ2 : Hid (rdAt L p1 0 2 = (c2, p2)) := hq2
    have h4 : rdAt L p0 0 4 = (c2, p2) := (rdAt_then hq1 2).1.trans hq2
    rw [show rdVal L p0 0 2 = rdVal L p1 0 0 from (rdAt_then hq1 0).2, show rdVal L p0 0 3 = rdVal L p1 0 1 from (rdAt_then hq1 1).2]
    obtain ⟨v0, hv0⟩ : ∃ v, rdVal L p0 0 0 = v := ⟨_, rfl⟩
    obtain ⟨v1, hv1⟩ : ∃ v, rdVal L p0 0 1 = v := ⟨_, rfl⟩
    obtain ⟨v2, hv2⟩ : ∃ v, rdVal L p1 0 0 = v := ⟨_, rfl⟩
    obtain ⟨v3, hv3⟩ : ∃ v, rdVal L p1 0 1 = v := ⟨_, rfl⟩
    rw [hv0, hv1, hv2, hv3]
    have HV : Hid ((rdVal L p0 0 0 = v0 ∧ rdVal L p0 0 1 = v1) ∧ rdVal L p1 0 0 = v2 ∧ rdVal L p1 0 1 = v3) := ⟨⟨hv0, hv1⟩, hv2, hv3⟩
    clear hv0 hv1 hv2 hv3 hq1 hq2
    by_cases hc2 : c2 = 0
    · subst hc2
      obtain ⟨c3, p3, hq3⟩ : ∃ c p', rdAt L p2 0 2 = (c, p') := ⟨_, _, rfl⟩
      have HQ3 : Hid (rdAt L p2 0 2 = (c3, p3)) := hq3
      have HE : Hid (rdAt L p0 0 6 = (c3, p3)) := (rdAt_then h4 2).1.trans hq3
      rw [show rdVal L p0 0 4 = rdVal L p2 0 0 from (rdAt_then h4 0).2, show rdVal L p0 0 5 = rdVal L p2 0 1 from (rdAt_then h4 1).2]
      obtain ⟨v4, hv4⟩ : ∃ v, rdVal L p2 0 0 = v := ⟨_, rfl⟩
      obtain ⟨v5, hv5⟩ : ∃ v, rdVal L p2 0 1 = v := ⟨_, rfl⟩
      rw [hv4, hv5]
      have HV2 : Hid (rdVal L p2 0 0 = v4 ∧ rdVal L p2 0 1 = v5) := ⟨hv4, hv5⟩
      clear hv4 hv5 hq3 h4
      go_enter Try.func62, Try.ntmps62
      go_wp2_with fail
      refine (qI_ok R g N p0 L _ HL.out hN hN0 HY.out HF.out HQ1.out HV.out.1.1 HV.out.1.2).mono ?_
      rintro e w1 ⟨rfl, hl1, hg1⟩
      have HF1 : Hid (Lf w1 R g N p1 L) := hl1
      have HW1 : Hid (w.grownBy w1 (some R)) := grown_trans HW0.out hg1 (fun b e => Or.inl e.symm)
      have HX1 : Hid (At w1 w.heap.size #[.int .i64 0, .int .i64 0, .int .i64 0, .int .i64 0, .int .i64 0, .int .i64 0]) := HX.out.grown hg1 (by have := HZ.out; omega)
      clear hl1 hg1 HF HX HW0
      go_wp2_with fail
      refine (qI_ok R g N p1 L _ HL.out hN hN0 HY.out HF1.out HQ2.out HV.out.2.1 HV.out.2.2).mono ?_
      rintro e w2 ⟨rfl, hl2, hg2⟩
      have HF2 : Hid (Lf ((w2.alloc (.cells #[.int .i64 v0, .int .i64 v1] 49)).alloc (.cells #[.int .i64 v2, .int .i64 v3] 49)).drew R g N p2 L) := ((hl2.alloc _).alloc _).drew
      have HW2 : Hid (w.grownBy ((w2.alloc (.cells #[.int .i64 v0, .int .i64 v1] 49)).alloc (.cells #[.int .i64 v2, .int .i64 v3] 49)).drew (some R)) := grown_drew (grown_alloc (grown_alloc (grown_trans HW1.out hg2 (fun b e => Or.inl e.symm)) _) _)
      have hX2 : At w2 w.heap.size #[.int .i64 0, .int .i64 0, .int .i64 0, .int .i64 0, .int .i64 0, .int .i64 0] := HX1.out.grown hg2 (by have := HZ.out; omega)
      have HX2 : Hid (At ((w2.alloc (.cells #[.int .i64 v0, .int .i64 v1] 49)).alloc (.cells #[.int .i64 v2, .int .i64 v3] 49)).drew w.heap.size #[.int .i64 0, .int .i64 0, .int .i64 0, .int .i64 0, .int .i64 0, .int .i64 0]) := ((hX2.alloc _).alloc _).drew
      have HN : Hid (w.heap.size < w2.heap.size) := hX2.sz
      have hB : w2.heap.size ≠ R := by have := HZ.out; have := HN.out; omega
      have hC : w2.heap.size + 1 ≠ R := by have := HZ.out; have := HN.out; omega
      have hB2 : w2.heap.size ≠ w.heap.size := by have := HN.out; omega
      have hC2 : w2.heap.size + 1 ≠ w.heap.size := by have := HN.out; omega
      clear hl2 hg2 HF1 HX1 HW1 hX2
      by_cases hc3 : c3 = 0
      · subst hc3
        go_wp2_with fail
        go_region_held3 (fun w' => Tw w2.heap.size (w2.heap.size + 1) v0 v1 v2 v3 w') (first | with_reducible exact Tw.start | with_reducible exact Tw.call (by assumption) (by assumption) (by assumption) (by assumption) | with_reducible exact Tw.set6 (by assumption) (by assumption) (by assumption))
          (first
            | (go_at_call 70; refine (qI_ok R g N p2 L _ HL.out hN hN0 HY.out HF2.out HQ3.out HV2.out.1 HV2.out.2).mono ?_; rintro e w3 ⟨rfl, hl3, hg3⟩; have hx3 : At w3 w.heap.size #[.int .i64 0, .int .i64 0, .int .i64 0, .int .i64 0, .int .i64 0, .int .i64 0] := HX2.out.grown hg3 (by have := HZ.out; omega); have k0 := hx3.c 0; have k1 := hx3.c 1; have k2 := hx3.c 2; have k3 := hx3.c 3; have k4 := hx3.c 4; have k5 := hx3.c 5; have z0 := hx3.fz 0; have z1 := hx3.fz 1; have z2 := hx3.fz 2; have z3 := hx3.fz 3; have z4 := hx3.fz 4; have z5 := hx3.fz 5))
        have HF3 : Hid (Lf w3 R g N p3 L) := hl3
        have HW3 : Hid (w.grownBy w3 (some R)) := grown_trans HW2.out hg3 (fun b e => Or.inl e.symm)
        clear hl3 hg3 hx3
        go_wp2
        refine bodyPost_ret (v := .agg #[.int .i64 v0, .int .i64 v1, .int .i64 v2, .int .i64 v3, .int .i64 v4, .int .i64 v5]) (by simp [results, Try.results62, go_sem, k0, k1, k2, k3, k4, k5]) rfl ⟨⟨0, p3, HE.out, Or.inl ⟨rfl, rfl, ?_⟩⟩, ?_⟩
        · exact HF3.out.keep (set6_other (by have := HZ.out; omega) _ _ _ _ _ _) (fun _ _ => set6_other (by have := HZ.out; omega) _ _ _ _ _ _) (by simp)
        · exact grown_set (grown_set (grown_set (grown_set (grown_set (grown_set HW3.out (Or.inr (Nat.le_refl _))) (Or.inr (Nat.le_refl _))) (Or.inr (Nat.le_refl _))) (Or.inr (Nat.le_refl _))) (Or.inr (Nat.le_refl _))) (Or.inr (Nat.le_refl _))
      · have HC : Hid (c3 ≠ 0) := hc3
        clear hc3
        go_wp2_with fail
        go_region_dies
        all_goals
          refine (qI_bad R g N p2 L _ HL.out hN hN0 HY.out HF2.out HQ3.out HC.out).mono ?_
          rintro e w3 ⟨rfl, hf3, hg3⟩
          exact ⟨rfl, ⟨c3, p3, HE.out, Or.inr ⟨HC.out, rfl, hf3⟩⟩, grown_trans HW2.out hg3 (fun b e => Or.inl e.symm)⟩
    · have HC : Hid (c2 ≠ 0) := hc2
      have HE : Hid (rdAt L p0 0 6 = (c2, p2)) := rdAt_dead h4 hc2 2
      clear hc2 h4
      go_enter Try.func62, Try.ntmps62
      go_wp2_with fail
      refine (qI_ok R g N p0 L _ HL.out hN hN0 HY.out HF.out HQ1.out HV.out.1.1 HV.out.1.2).mono ?_
      rintro e w1 ⟨rfl, hl1, hg1⟩
      have HF1 : Hid (Lf w1 R g N p1 L) := hl1
      have HW1 : Hid (w.grownBy w1 (some R)) := grown_trans HW0.out hg1 (fun b e => Or.inl e.symm)
      clear hl1 hg1 HF HX HW0
      go_wp2_with fail
      refine (qI_bad R g N p1 L _ HL.out hN hN0 HY.out HF1.out HQ2.out HC.out).mono ?_
      rintro e w2 ⟨rfl, hf2, hg2⟩
      go_wp2
      exact ⟨rfl, ⟨c2, p2, HE.out, Or.inr ⟨HC.out, rfl, hf2⟩⟩, grown_trans HW1.out hg2 (fun b e => Or.inl e.symm)⟩
  · have HC : Hid (c1 ≠ 0) := hc1
    have HE : Hid (rdAt L p0 0 6 = (c1, p1)) := rdAt_dead hq1 hc1 4
    clear hc1 hq1
    go_enter Try.func62, Try.ntmps62
    go_wp2_with fail
    refine (qI_bad R g N p0 L _ HL.out hN hN0 HY.out HF.out HQ1.out HC.out).mono ?_
    rintro e w1 ⟨rfl, hf1, hg1⟩
    go_wp2
    exact ⟨rfl, ⟨c1, p1, HE.out, Or.inr ⟨HC.out, rfl, hf1⟩⟩, grown_trans HW0.out hg1 (fun b e => Or.inl e.symm)⟩

set_option maxHeartbeats 2000000 in
theorem triI_any (R g N p0 : Nat) (L : List Int) (w : World) (hlen : L.length = N) (hN : N ≤ 1048576) (hN0 : 0 < N) (hby : ∀ b ∈ L, 0 ≤ b ∧ b < 256) (hl : Lf w R g N p0 L) :
    Calls Try.prog 63 #[.pointer (some ⟨R, 0, none⟩)] w fun e w' => Came L p0 3 R g N (.agg #[.int .i64 (rdVal L p0 0 0), .int .i64 (rdVal L p0 0 1), .int .i64 (rdVal L p0 0 2)]) e w' ∧ w.grownBy w' (some R) := by
  have HL : Hid (L.length = N) := hlen
  have HY : Hid (∀ b ∈ L, 0 ≤ b ∧ b < 256) := hby
  have HF : Hid (Lf (w.alloc (.cells #[.int .i64 0, .int .i64 0, .int .i64 0] 53)) R g N p0 L) := hl.alloc _
  have HZ : Hid (R < w.heap.size ∧ g < w.heap.size) := ⟨hl.sz, hl.gsz hN0⟩
  have HX : Hid (At (w.alloc (.cells #[.int .i64 0, .int .i64 0, .int .i64 0] 53)) w.heap.size #[.int .i64 0, .int .i64 0, .int .i64 0]) := ⟨fun j => by go_simp, fun j => by go_simp, by simp⟩
  have HW0 : Hid (w.grownBy (w.alloc (.cells #[.int .i64 0, .int .i64 0, .int .i64 0] 53)) (some R)) := grown_alloc (grownBy_refl _ _) _
  obtain ⟨c1, v0, p1, hq1⟩ : ∃ c v p', rdNum L p0 0 = (c, v, p') := ⟨_, _, _, rfl⟩
  have HQ1 : Hid (rdNum L p0 0 = (c1, v0, p1)) := hq1
  have e1 := rdAt_one hq1
  rw [e1.2]
  clear hlen hby hl hq1
  by_cases hc1 : c1 = 0
  · subst hc1
    obtain ⟨c2, v1, p2, hq2⟩ : ∃ c v p', rdNum L p1 0 = (c, v, p') := ⟨_, _, _, rfl⟩
    have HQ2 : Hid (rdNum L p1 0 = (c2, v1, p2)) := hq2
    have e2 := rdAt_step e1.1 hq2
    rw [e2.2]
    clear e1 hq2
    by_cases hc2 : c2 = 0
    · subst hc2
      obtain ⟨c3, v2, p3, hq3⟩ : ∃ c v p', rdNum L p2 0 = (c, v, p') := ⟨_, _, _, rfl⟩
      have HQ3 : Hid (rdNum L p2 0 = (c3, v2, p3)) := hq3
      have e3 := rdAt_step e2.1 hq3
      have HE : Hid (rdAt L p0 0 3 = (c3, p3)) := e3.1
      rw [show rdVal L p0 0 2 = v2 from e3.2]
      clear e2 e3 hq3
      go_enter Try.func63, Try.ntmps63
      go_wp2_with fail
      refine (numberI_ok R g N p0 L _ HL.out hN HY.out HF.out HQ1.out).mono ?_
      rintro e w1 ⟨rfl, hl1, hg1⟩
      have HF1 : Hid (Lf w1 R g N p1 L) := hl1
      have HW1 : Hid (w.grownBy w1 (some R)) := grown_trans HW0.out hg1 (fun b e => Or.inl e.symm)
      have HX1 : Hid (At w1 w.heap.size #[.int .i64 0, .int .i64 0, .int .i64 0]) := HX.out.grown hg1 (by have := HZ.out; omega)
      clear hl1 hg1 HF HX HW0
      go_wp2_with fail
      refine (numberI_ok R g N p1 L _ HL.out hN HY.out HF1.out HQ2.out).mono ?_
      rintro e w2 ⟨rfl, hl2, hg2⟩
      have HF2 : Hid (Lf w2 R g N p2 L) := hl2
      have HW2 : Hid (w.grownBy w2 (some R)) := grown_trans HW1.out hg2 (fun b e => Or.inl e.symm)
      have HX2 : Hid (At w2 w.heap.size #[.int .i64 0, .int .i64 0, .int .i64 0]) := HX1.out.grown hg2 (by have := HZ.out; omega)
      clear hl2 hg2 HF1 HX1 HW1
      by_cases hc3 : c3 = 0
      · subst hc3
        go_wp2_with fail
        refine (numberI_ok R g N p2 L _ HL.out hN HY.out HF2.out HQ3.out).mono ?_
        rintro e w3 ⟨rfl, hl3, hg3⟩
        have HF3 : Hid (Lf w3 R g N p3 L) := hl3
        have HW3 : Hid (w.grownBy w3 (some R)) := grown_trans HW2.out hg3 (fun b e => Or.inl e.symm)
        have HX3 : Hid (At w3 w.heap.size #[.int .i64 0, .int .i64 0, .int .i64 0]) := HX2.out.grown hg3 (by have := HZ.out; omega)
        clear hl3 hg3 HF2 HX2 HW2
        obtain ⟨q, qz, qs⟩ := HX3.out
        go_wp2
        refine bodyPost_ret (v := .agg #[.int .i64 v0, .int .i64 v1, .int .i64 v2]) (by simp [results, Try.results63, go_sem, q]) rfl ⟨⟨0, p3, HE.out, Or.inl ⟨rfl, rfl, ?_⟩⟩, ?_⟩
        · have hR : R ≠ w.heap.size := by have := HZ.out; omega
          have hg : g ≠ w.heap.size := by have := HZ.out; omega
          exact HF3.out.keep (by rw [Deep.blk_setCell_other _ _ _ _ hR, Deep.blk_setCell_other _ _ _ _ hR, Deep.blk_setCell_other _ _ _ _ hR]) (fun _ _ => by rw [Deep.blk_setCell_other _ _ _ _ hg, Deep.blk_setCell_other _ _ _ _ hg, Deep.blk_setCell_other _ _ _ _ hg]) (by simp)
        · exact grown_set (grown_set (grown_set HW3.out (Or.inr (Nat.le_refl _))) (Or.inr (Nat.le_refl _))) (Or.inr (Nat.le_refl _))
      · have HC : Hid (c3 ≠ 0) := hc3
        clear hc3
        go_wp2_with fail
        refine (numberI_bad R g N p2 L _ HL.out hN HY.out HF2.out HQ3.out HC.out).mono ?_
        rintro e w3 ⟨rfl, hf3, hg3⟩
        go_wp2
        exact ⟨rfl, ⟨c3, p3, HE.out, Or.inr ⟨HC.out, rfl, hf3⟩⟩, grown_trans HW2.out hg3 (fun b e => Or.inl e.symm)⟩
    · have HC : Hid (c2 ≠ 0) := hc2
      have HE : Hid (rdAt L p0 0 3 = (c2, p2)) := rdAt_dead e2.1 hc2 1
      clear hc2 e2
      go_enter Try.func63, Try.ntmps63
      go_wp2_with fail
      refine (numberI_ok R g N p0 L _ HL.out hN HY.out HF.out HQ1.out).mono ?_
      rintro e w1 ⟨rfl, hl1, hg1⟩
      have HF1 : Hid (Lf w1 R g N p1 L) := hl1
      have HW1 : Hid (w.grownBy w1 (some R)) := grown_trans HW0.out hg1 (fun b e => Or.inl e.symm)
      clear hl1 hg1 HF HX HW0
      go_wp2_with fail
      refine (numberI_bad R g N p1 L _ HL.out hN HY.out HF1.out HQ2.out HC.out).mono ?_
      rintro e w2 ⟨rfl, hf2, hg2⟩
      go_wp2
      exact ⟨rfl, ⟨c2, p2, HE.out, Or.inr ⟨HC.out, rfl, hf2⟩⟩, grown_trans HW1.out hg2 (fun b e => Or.inl e.symm)⟩
  · have HC : Hid (c1 ≠ 0) := hc1
    have HE : Hid (rdAt L p0 0 3 = (c1, p1)) := rdAt_dead e1.1 hc1 2
    clear hc1 e1
    go_enter Try.func63, Try.ntmps63
    go_wp2_with fail
    refine (numberI_bad R g N p0 L _ HL.out hN HY.out HF.out HQ1.out HC.out).mono ?_
    rintro e w1 ⟨rfl, hf1, hg1⟩
    go_wp2
    exact ⟨rfl, ⟨c1, p1, HE.out, Or.inr ⟨HC.out, rfl, hf1⟩⟩, grown_trans HW0.out hg1 (fun b e => Or.inl e.symm)⟩
end Go.Proofs.Ytobhljmpdolomaa
