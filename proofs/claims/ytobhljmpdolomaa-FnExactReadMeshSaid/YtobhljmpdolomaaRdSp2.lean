import Derived.Test.YtobhljmpdolomaaRdSp
import Derived.Deep.RegionHeldLaw
namespace Go.Proofs.Ytobhljmpdolomaa
open Go.RowKit

abbrev Sr (R g p : Nat) (b c : Int) (w' : World) : Prop := w'.cell? ⟨R, 1, none⟩ = some (.int .i64 (p : Int)) ∧ w'.cell? ⟨g, p, none⟩ = some (.int .u8 b) ∧ w'.cell? ⟨g, p + 1, none⟩ = some (.int .u8 c)
theorem Sr.drew {R g p : Nat} {b c : Int} {w' : World} (h : Sr R g p b c w') : Sr R g p b c w'.drew := h
theorem set_two {w8 : World} {M q : Nat} {x y : Value} (h : q ≠ M) : ((w8.setCell ⟨M, 0, none⟩ x).setCell ⟨M, 1, none⟩ y).drew.heap[q]? = w8.heap[q]? := by
  show ((w8.setCell ⟨M, 0, none⟩ x).setCell ⟨M, 1, none⟩ y).heap[q]? = w8.heap[q]?
  rw [Deep.blk_setCell_other _ _ _ _ h, Deep.blk_setCell_other _ _ _ _ h]
theorem bel_two {w w5 : World} {x y : Value} (h : Below w.heap.size w w5) : Below w.heap.size w ((w5.setCell ⟨w.heap.size, 0, none⟩ x).setCell ⟨w.heap.size, 1, none⟩ y) :=
  (h.setCell (p := ⟨w.heap.size, 0, none⟩) (Nat.le_refl _) _).setCell (p := ⟨w.heap.size, 1, none⟩) (Nat.le_refl _) _

set_option maxRecDepth 8000 in
set_option maxHeartbeats 16000000 in
theorem specRead_more (N : Nat) (ao : Option Addr) (L : List Int) (w : World) (hlen : L.length = N) (hN : N ≤ 1048576) (hby : ∀ b ∈ L, 0 ≤ b ∧ b < 256) (hrd : RdB w ao N L) (hm : magic L = true) : Calls Try.prog 17 #[.slice ao N N] w (Out L w) := by
  have hmg := of_decide_eq_true hm
  have h3 : 3 ≤ N := by omega
  obtain ⟨g, rfl, hg, d0⟩ := hrd.cell (i := 0) (by omega)
  obtain ⟨g1, e1, _, d1⟩ := hrd.cell (i := 1) (by omega)
  obtain ⟨g2, e2, _, d2⟩ := hrd.cell (i := 2) (by omega)
  simp only [Option.some.injEq, Addr.mk.injEq] at e1 e2
  obtain ⟨rfl, _⟩ := e1
  obtain ⟨rfl, _⟩ := e2
  rw [hmg.2.1] at d0
  rw [hmg.2.2.1] at d1
  rw [hmg.2.2.2] at d2
  have c0 : ∀ o, (w.alloc o).cell? ⟨g, 0, none⟩ = some (.int .u8 83) := fun o => (World.cell?_of_block (a := ⟨g, 0, none⟩) (w := w) (Deep.blk_alloc_lt _ _ _ hg)).trans d0
  have c1 : ∀ o, (w.alloc o).cell? ⟨g, 1, none⟩ = some (.int .u8 77) := fun o => (World.cell?_of_block (a := ⟨g, 1, none⟩) (w := w) (Deep.blk_alloc_lt _ _ _ hg)).trans d1
  have c2 : ∀ o, (w.alloc o).cell? ⟨g, 2, none⟩ = some (.int .u8 1) := fun o => (World.cell?_of_block (a := ⟨g, 2, none⟩) (w := w) (Deep.blk_alloc_lt _ _ _ hg)).trans d2
  have n0 : 0 < N := by omega
  have n1 : 1 < N := by omega
  have n2 : 2 < N := by omega
  have HY : Hid (∀ b ∈ L, 0 ≤ b ∧ b < 256) := hby
  have HL : Hid (L.length = N) := hlen
  have HRL : Hid (readL L = _) := readL_more hm
  have HB0 : Hid (Below w.heap.size w (((w.alloc (.cells #[.slice none 0 0, .slice none 0 0] 31)).alloc (.cells #[.slice (some ⟨g, 0, none⟩) N N, .int .i64 3, .int .i64 0] 73)).alloc (.cells #[.slice none 0 0, .slice none 0 0] 31))) := (Joins.below_alloc2 _ _ _).alloc (by simp; omega) _
  have HR0 : Hid (Rdr (((w.alloc (.cells #[.slice none 0 0, .slice none 0 0] 31)).alloc (.cells #[.slice (some ⟨g, 0, none⟩) N N, .int .i64 3, .int .i64 0] 73)).alloc (.cells #[.slice none 0 0, .slice none 0 0] 31)) (w.heap.size + 1) N N 3 0 (some ⟨g, 0, none⟩) L) := ⟨At.alloc two_at _, hrd.below HB0.out (Nat.le_refl _), fun q e _ => by simp only [Option.some.injEq, Addr.mk.injEq] at e; omega, by omega⟩
  have HM0 : Hid (At (((w.alloc (.cells #[.slice none 0 0, .slice none 0 0] 31)).alloc (.cells #[.slice (some ⟨g, 0, none⟩) N N, .int .i64 3, .int .i64 0] 73)).alloc (.cells #[.slice none 0 0, .slice none 0 0] 31)) (w.heap.size + 1 + 1) #[.slice none 0 0, .slice none 0 0]) := ⟨fun j => by go_simp, fun j => by go_simp, by simp⟩
  have HZ0 : Hid (At (((w.alloc (.cells #[.slice none 0 0, .slice none 0 0] 31)).alloc (.cells #[.slice (some ⟨g, 0, none⟩) N N, .int .i64 3, .int .i64 0] 73)).alloc (.cells #[.slice none 0 0, .slice none 0 0] 31)) w.heap.size #[.slice none 0 0, .slice none 0 0]) := At.alloc (At.alloc ⟨fun j => by go_simp, fun j => by go_simp, by simp⟩ _) _
  obtain ⟨ca, v0, pa, ha⟩ : ∃ c v p, mA L 3 = (c, v, p) := ⟨_, _, _, rfl⟩
  have HA : Hid (mA L 3 = (ca, v0, pa)) := ha
  have hle := rdCount_le L 3 0 200 (by decide)
  have hv0 : 0 ≤ v0 ∧ v0 ≤ 200 := by have h : (mA L 3).2.1 = v0 := (by rw [ha]); unfold mA at h; rw [h] at hle; exact hle
  obtain ⟨nv, rfl⟩ := Int.eq_ofNat_of_zero_le hv0.1
  have hnv : nv ≤ 200 := by omega
  obtain ⟨F0, hF0⟩ : ∃ F, rdVal L pa ca = F := ⟨_, rfl⟩
  have HF0 : Hid (rdVal L pa ca = F0) := hF0
  clear hle hv0 ha hF0 d0 d1 d2 hrd hby hlen hm hmg
  go_enter Try.func17, Try.ntmps17
  go_wp2_with fail
  refine (count_at (w.heap.size + 1) N N 3 0 200 (some ⟨g, 0, none⟩) L _ HL.out hN HY.out HR0.out HA.out).mono ?_
  rintro e w0 ⟨rfl, hr0, hg0⟩
  have HR1 : Hid (Rdr w0 (w.heap.size + 1) N N pa ca (some ⟨g, 0, none⟩) L) := hr0
  have HM1 : Hid (At w0 (w.heap.size + 1 + 1) #[.slice none 0 0, .slice none 0 0]) := HM0.out.grown hg0 (by omega)
  have HZ1 : Hid (At w0 w.heap.size #[.slice none 0 0, .slice none 0 0]) := HZ0.out.grown hg0 (by omega)
  have HB1 : Hid (Below w.heap.size w w0) := HB0.out.trans (grown_below hg0 HB0.out.size (by omega))
  clear hr0 hg0 HR0 HM0 HZ0 HB0 c0 c1 c2
  go_wp2
  go_loopw [7] (fun i wr => ∃ (k : Nat) (v : Value) (pk : Nat) (ck : Int), k ≤ nv ∧ i = .int .i64 k ∧ Hid (rdAt L pa ca (k * 6) = (ck, pk)) ∧ Hid (Rdr wr (w.heap.size + 1) N N pk ck (some ⟨g, 0, none⟩) L) ∧ Hid (At wr (w.heap.size + 1 + 1) #[v, .slice none 0 0]) ∧ Hid (OwnI wr (w.heap.size + 3) 51 6 v k F0) ∧ Hid (At wr w.heap.size #[.slice none 0 0, .slice none 0 0]) ∧ Hid (Below w.heap.size w wr)) (fun i _ => nv - (intOf i).toNat)
  case atStart => exact ⟨0, .slice none 0 0, pa, ca, Nat.zero_le _, rfl, by rw [Nat.zero_mul]; exact rfl, HR1.out, HM1.out, own_nil _ _ _ _ _, HZ1.out, HB1.out⟩
  case round =>
    clear HR1 HM1 HZ1 HB1
    obtain ⟨k, v, pk, ck, hk, rfl, HQ, HR, HM, HO, HZ, HB⟩ := hrel
    by_cases hlt : k < nv
    · go_wp2_with fail
      refine (q_at (w.heap.size + 1) N N pk (k * 6) ck pa ca (some ⟨g, 0, none⟩) L _ HL.out hN HY.out HR.out HQ.out (congrFun HF0.out _) (congrFun HF0.out _)).mono ?_
      rintro e w1 ⟨rfl, ⟨c2, p2, hq2, hr2⟩, hg1⟩
      have HQ2 : Hid (rdAt L pa ca (k * 6 + 2) = (c2, p2)) := hq2
      have HR2 : Hid (Rdr (w1.alloc (.cells #[.int .i64 (F0 (k * 6)), .int .i64 (F0 (k * 6 + 1))] 49)) (w.heap.size + 1) N N p2 c2 (some ⟨g, 0, none⟩) L) := hr2.alloc _
      have HM2 : Hid (At (w1.alloc (.cells #[.int .i64 (F0 (k * 6)), .int .i64 (F0 (k * 6 + 1))] 49)) (w.heap.size + 1 + 1) #[v, .slice none 0 0]) := (HM.out.grown hg1 (by omega)).alloc _
      have HO2 : Hid (OwnI (w1.alloc (.cells #[.int .i64 (F0 (k * 6)), .int .i64 (F0 (k * 6 + 1))] 49)) (w.heap.size + 3) 51 6 v k F0) := World.ownsRow.alloc (HO.out.keep fun b e => hg1.block b (HO.out.lt b e).2 (by have := (HO.out.lt b e).1; simp; omega)) _
      have HZ2 : Hid (At (w1.alloc (.cells #[.int .i64 (F0 (k * 6)), .int .i64 (F0 (k * 6 + 1))] 49)) w.heap.size #[.slice none 0 0, .slice none 0 0]) := (HZ.out.grown hg1 (by omega)).alloc _
      have hb1 : Below w.heap.size w w1 := HB.out.trans (grown_below hg1 HB.out.size (by omega))
      have HB2 : Hid (Below w.heap.size w (w1.alloc (.cells #[.int .i64 (F0 (k * 6)), .int .i64 (F0 (k * 6 + 1))] 49))) := hb1.alloc hb1.size _
      have HX2 : Hid (At (w1.alloc (.cells #[.int .i64 (F0 (k * 6)), .int .i64 (F0 (k * 6 + 1))] 49)) w1.heap.size #[.int .i64 (F0 (k * 6)), .int .i64 (F0 (k * 6 + 1))]) := ⟨fun j => by go_simp, fun j => by go_simp, by simp⟩
      have hxo : some w1.heap.size ≠ v.ownBlock := fun e => by have := (HO.out.lt _ e.symm).2; have := hg1.size; omega
      have hx1 : w.heap.size + 3 ≤ w1.heap.size := by have := HM.out.sz; have := hg1.size; omega
      clear hq2 hr2 hg1 hb1 HQ HR HM HZ HB
      go_wp2_with fail
      refine (q_at (w.heap.size + 1) N N p2 (k * 6 + 2) c2 pa ca (some ⟨g, 0, none⟩) L _ HL.out hN HY.out HR2.out HQ2.out (congrFun HF0.out _) (congrFun HF0.out _)).mono ?_
      rintro e w2 ⟨rfl, ⟨c4, p4, hq4, hr4⟩, hg2⟩
      have hs2 : w1.heap.size + 1 ≤ w2.heap.size := by have := hg2.size; simp at this; omega
      have HQd : Hid (rdAt L pa ca (k * 6 + 4) = (c4, p4)) := hq4
      have HRd : Hid (Rdr (w2.alloc (.cells #[.int .i64 (F0 (k * 6 + 2)), .int .i64 (F0 (k * 6 + 2 + 1))] 49)).drew (w.heap.size + 1) N N p4 c4 (some ⟨g, 0, none⟩) L) := (hr4.alloc _).drew
      have HM3 : Hid (At (w2.alloc (.cells #[.int .i64 (F0 (k * 6 + 2)), .int .i64 (F0 (k * 6 + 2 + 1))] 49)).drew (w.heap.size + 1 + 1) #[v, .slice none 0 0]) := ((HM2.out.grown hg2 (by omega)).alloc _).drew
      have HO3 : Hid (OwnI (w2.alloc (.cells #[.int .i64 (F0 (k * 6 + 2)), .int .i64 (F0 (k * 6 + 2 + 1))] 49)).drew (w.heap.size + 3) 51 6 v k F0) := World.ownsRow.alloc (HO2.out.keep fun b e => hg2.block b (HO2.out.lt b e).2 (by have := (HO2.out.lt b e).1; simp; omega)) _
      have HZ3 : Hid (At (w2.alloc (.cells #[.int .i64 (F0 (k * 6 + 2)), .int .i64 (F0 (k * 6 + 2 + 1))] 49)).drew w.heap.size #[.slice none 0 0, .slice none 0 0]) := ((HZ2.out.grown hg2 (by omega)).alloc _).drew
      have hb2 : Below w.heap.size w w2 := HB2.out.trans (grown_below hg2 HB2.out.size (by omega))
      have HB3 : Hid (Below w.heap.size w (w2.alloc (.cells #[.int .i64 (F0 (k * 6 + 2)), .int .i64 (F0 (k * 6 + 2 + 1))] 49)).drew) := (hb2.alloc hb2.size _).drew
      have HS : Hid (Tw w1.heap.size w2.heap.size (F0 (k * 6)) (F0 (k * 6 + 1)) (F0 (k * 6 + 2)) (F0 (k * 6 + 2 + 1)) (w2.alloc (.cells #[.int .i64 (F0 (k * 6 + 2)), .int .i64 (F0 (k * 6 + 2 + 1))] 49))) := Tw.at_ ((HX2.out.grown hg2 (by omega)).alloc _) ⟨fun j => by go_simp, fun j => by go_simp, by simp⟩
      have hyo : some w2.heap.size ≠ v.ownBlock := fun e => by have := (HO.out.lt _ e.symm).2; have := (HO2.out.lt _ e.symm).2; simp at this; omega
      have hxR : w1.heap.size ≠ w.heap.size + 1 := by omega
      have hyR : w2.heap.size ≠ w.heap.size + 1 := by omega
      have hxM : w1.heap.size ≠ w.heap.size + 1 + 1 := by omega
      have hyM : w2.heap.size ≠ w.heap.size + 1 + 1 := by omega
      have m0 := HM3.out.c 0
      clear hq4 hr4 hg2 hb2 HQ2 HR2 HM2 HO2 HZ2 HB2 HX2 HO
      go_wp2_with fail
      obtain ⟨⟨t0, t1, t2, t3⟩, _, _⟩ := Tw.drew HS.out
      go_region_law (first
          | (refine step_append_nums 28 51 6 48 _ Try.underlying28 infoV3 rfl (by decide) (by decide) w4 rfl (.tmp 52) (.tmp 58) rfl (w.heap.size + 3) v k F0 _ rfl (by simp [Act.eval]) (by simp [Act.eval]) ho4 hs4 (by omega) ?_; intro g2 cap2 w5 ho5 hg5 hl5 hlt5; have hm5 : At w5 (w.heap.size + 1 + 1) #[v, .slice none 0 0] := hm4.same (hg5.block _ hm4.sz (fun e => by have := (ho4.lt _ e.symm).1; omega)) hg5.size; have r0 := hm5.c 0; have rz := hm5.fz 0)
          | (go_simp; go_at_call 42; refine (q_at (w.heap.size + 1) N N _ (k * 6 + 4) _ _ _ (some ⟨g, 0, none⟩) L _ HL.out hN HY.out HRd.out HQd.out (congrFun HF0.out _) (congrFun HF0.out _)).mono ?_; rintro e w4 ⟨rfl, hr4, hg4⟩; have hsT4 : Tw w1.heap.size w2.heap.size (F0 (k * 6)) (F0 (k * 6 + 1)) (F0 (k * 6 + 2)) (F0 (k * 6 + 2 + 1)) w4 := Tw.call (Tw.drew HS.out) hg4 hxR hyR; obtain ⟨⟨s0, s1, s2, s3⟩, _, _⟩ := id hsT4; have hm4 : At w4 (w.heap.size + 1 + 1) #[v, .slice none 0 0] := HM3.out.grown hg4 (by omega); have q0 := hm4.c 0; have q0a : ∀ o, (w4.alloc o).cell? ⟨(w.heap.size + 1 + 1), 0, none⟩ = some v := (fun o => (hm4.alloc o).c 0); have ho4 : OwnI w4 (w.heap.size + 3) 51 6 v k F0 := HO3.out.keep fun b e => hg4.block b (HO3.out.lt b e).2 (by have := (HO3.out.lt b e).1; simp; omega); have hs4 : w.heap.size + 3 ≤ w4.heap.size := hm4.sz))
      all_goals
        obtain ⟨c6, p6, hq6, hr6⟩ := hr4
        have hne : ∀ b, b < w.heap.size + 3 → some b ≠ v.ownBlock := fun b hb e => by have := (ho4.lt b e.symm).1; omega
        have HQ6 : Hid (rdAt L pa ca ((k + 1) * 6) = (c6, p6)) := by rw [Nat.add_mul, Nat.one_mul]; exact hq6
        have HR6 : Hid (Rdr (w5.setCell ⟨(w.heap.size + 1 + 1), 0, none⟩ (.slice (some ⟨g2, 0, none⟩) (k + 1) cap2)) (w.heap.size + 1) N N p6 c6 (some ⟨g, 0, none⟩) L) := (hr6.of (hg5.block _ hr6.at_.sz (hne _ (by omega))) (hg5.block g (hr6.rd.blk g rfl (by omega)) (hne g (by omega))) hg5.size).of (Deep.blk_setCell_other _ _ _ _ (by show w.heap.size + 1 ≠ w.heap.size + 1 + 1; omega)) (Deep.blk_setCell_other _ _ _ _ (by show g ≠ w.heap.size + 1 + 1; omega)) (by simp)
        have HM6 : Hid (At (w5.setCell ⟨(w.heap.size + 1 + 1), 0, none⟩ (.slice (some ⟨g2, 0, none⟩) (k + 1) cap2)) (w.heap.size + 1 + 1) #[.slice (some ⟨g2, 0, none⟩) (k + 1) cap2, .slice none 0 0]) := hm5.put2_0 _
        have HO6 : Hid (OwnI (w5.setCell ⟨(w.heap.size + 1 + 1), 0, none⟩ (.slice (some ⟨g2, 0, none⟩) (k + 1) cap2)) (w.heap.size + 3) 51 6 (.slice (some ⟨g2, 0, none⟩) (k + 1) cap2) (k + 1) F0) := ho5.keep fun b e => Deep.blk_setCell_other _ _ _ _ (by have := (ho5.lt b e).1; show b ≠ w.heap.size + 1 + 1; omega)
        have hb4 : Below w.heap.size w w4 := HB3.out.trans (grown_below hg4 HB3.out.size (by omega))
        have HB6 : Hid (Below w.heap.size w (w5.setCell ⟨(w.heap.size + 1 + 1), 0, none⟩ (.slice (some ⟨g2, 0, none⟩) (k + 1) cap2))) := (hb4.trans ⟨hg5.os, hg5.tape, hg5.output, hg5.size, fun b hb => hg5.block b (Nat.lt_of_lt_of_le hb hb4.size) (hne b (by omega))⟩).setCell (p := ⟨(w.heap.size + 1 + 1), 0, none⟩) (by show w.heap.size ≤ w.heap.size + 1 + 1; omega) _
        have hz4 : At w4 w.heap.size #[.slice none 0 0, .slice none 0 0] := HZ3.out.grown hg4 (by omega)
        have HZ6 : Hid (At (w5.setCell ⟨(w.heap.size + 1 + 1), 0, none⟩ (.slice (some ⟨g2, 0, none⟩) (k + 1) cap2)) w.heap.size #[.slice none 0 0, .slice none 0 0]) := (hz4.same (hg5.block _ hz4.sz (hne _ (by omega))) hg5.size).other (by omega) _ _
        clear hq6 hr6 hg4 hm4 ho4 hs4 ho5 hg5 hl5 hlt5 hm5 hb4 hz4 hne q0 q0a r0 rz
        go_wp2
        go_roundw
        case rel => exact ⟨k + 1, _, p6, c6, by omega, by simp, HQ6.out, HR6.out, HM6.out, HO6.out, HZ6.out, HB6.out⟩
        case measure => simp [intOf]; omega
    · have hkn : k = nv := by omega
      subst hkn
      have HBm : Hid (mB L 3 = (ck, pk)) := by unfold mB; rw [HA.out]; show rdAt L pa ca ((k : Int).toNat * 6) = (ck, pk); rw [Int.toNat_natCast]; exact HQ.out
      obtain ⟨cd, v1, pd, hd⟩ : ∃ c v p, mD L 3 = (c, v, p) := ⟨_, _, _, rfl⟩
      have HD : Hid (mD L 3 = (cd, v1, pd)) := hd
      have HD' : Hid (rdCount L pk ck 300 = (cd, v1, pd)) := by have h := hd; unfold mD at h; rw [HBm.out] at h; exact h
      have hle := rdCount_le L pk ck 300 (by decide)
      rw [HD'.out] at hle
      have hv1 : 0 ≤ v1 ∧ v1 ≤ 300 := hle
      obtain ⟨nt, rfl⟩ := Int.eq_ofNat_of_zero_le hv1.1
      have hnt : nt ≤ 300 := by omega
      obtain ⟨F1, hF1⟩ : ∃ F, rdVal L pd cd = F := ⟨_, rfl⟩
      have HF1 : Hid (rdVal L pd cd = F1) := hF1
      clear hle hv1 hd hF1
      go_wp2_with fail
      refine (count_at (w.heap.size + 1) N N pk ck 300 (some ⟨g, 0, none⟩) L _ HL.out hN HY.out HR.out HD'.out).mono ?_
      rintro e w1 ⟨rfl, hr1, hg1⟩
      have HR1 : Hid (Rdr w1 (w.heap.size + 1) N N pd cd (some ⟨g, 0, none⟩) L) := hr1
      have HM1 : Hid (At w1 (w.heap.size + 1 + 1) #[v, .slice none 0 0]) := HM.out.grown hg1 (by omega)
      have HZ1 : Hid (At w1 w.heap.size #[.slice none 0 0, .slice none 0 0]) := HZ.out.grown hg1 (by omega)
      have HB1 : Hid (Below w.heap.size w w1) := HB.out.trans (grown_below hg1 HB.out.size (by omega))
      have HO1 : Hid (OwnI w1 (w.heap.size + 3) 51 6 v k F0) := HO.out.keep fun b e => hg1.block b (HO.out.lt b e).2 (by have := (HO.out.lt b e).1; simp; omega)
      clear hr1 hg1 HR HM HZ HB HO HQ hlt hk
      revert HO1 HM1
      generalize v = vv
      generalize k = nv at *
      intro HM1 HO1
      go_wp2
      go_loopw [11] (fun i wr => ∃ (k : Nat) (v : Value) (pk : Nat) (ck : Int), k ≤ nt ∧ i = .int .i64 k ∧ Hid (rdAt L pd cd (k * 3) = (ck, pk)) ∧ Hid (Rdr wr (w.heap.size + 1) N N pk ck (some ⟨g, 0, none⟩) L) ∧ Hid (At wr (w.heap.size + 1 + 1) #[vv, v]) ∧ Hid (OwnI wr (w.heap.size + 3) 53 3 v k F1) ∧ Hid (At wr w.heap.size #[.slice none 0 0, .slice none 0 0]) ∧ Hid (Below w.heap.size w wr) ∧ Hid (OwnI wr (w.heap.size + 3) 51 6 vv nv F0)) (fun i _ => nt - (intOf i).toNat)
      case atStart => exact ⟨0, .slice none 0 0, pd, cd, Nat.zero_le _, rfl, by rw [Nat.zero_mul]; exact rfl, HR1.out, HM1.out, own_nil _ _ _ _ _, HZ1.out, HB1.out, HO1.out⟩
      case round =>
        clear HR1 HM1 HZ1 HB1 HO1
        rename World => wr
        obtain ⟨k, v, pk, ck, hk, rfl, HQ, HR, HM, HO, HZ, HB, HOV⟩ := hrel
        by_cases hlt : k < nt
        · go_wp2_with fail
          refine (number_at (w.heap.size + 1) N N pk (k * 3) ck pd cd (some ⟨g, 0, none⟩) L _ HL.out hN HY.out HR.out HQ.out (congrFun HF1.out _)).mono ?_
          rintro e w1 ⟨rfl, ⟨c2, p2, hq2, hr2⟩, hg1⟩
          have HQ2 : Hid (rdAt L pd cd (k * 3 + 1) = (c2, p2)) := hq2
          have HR2 : Hid (Rdr w1 (w.heap.size + 1) N N p2 c2 (some ⟨g, 0, none⟩) L) := hr2
          have HM2 : Hid (At w1 (w.heap.size + 1 + 1) #[vv, v]) := HM.out.grown hg1 (by omega)
          have HO2 : Hid (OwnI w1 (w.heap.size + 3) 53 3 v k F1) := HO.out.keep fun b e => hg1.block b (HO.out.lt b e).2 (by have := (HO.out.lt b e).1; simp; omega)
          have HOV2 : Hid (OwnI w1 (w.heap.size + 3) 51 6 vv nv F0) := HOV.out.keep fun b e => hg1.block b (HOV.out.lt b e).2 (by have := (HOV.out.lt b e).1; simp; omega)
          have HZ2 : Hid (At w1 w.heap.size #[.slice none 0 0, .slice none 0 0]) := HZ.out.grown hg1 (by omega)
          have HB2 : Hid (Below w.heap.size w w1) := HB.out.trans (grown_below hg1 HB.out.size (by omega))
          clear hq2 hr2 hg1 HQ HR HM HZ HB HO HOV
          go_wp2_with fail
          refine (number_at (w.heap.size + 1) N N p2 (k * 3 + 1) c2 pd cd (some ⟨g, 0, none⟩) L _ HL.out hN HY.out HR2.out HQ2.out (congrFun HF1.out _)).mono ?_
          rintro e w2 ⟨rfl, ⟨c4, p4, hq4, hr4⟩, hg2⟩
          have HQd : Hid (rdAt L pd cd (k * 3 + 2) = (c4, p4)) := hq4
          have HRd : Hid (Rdr w2.drew (w.heap.size + 1) N N p4 c4 (some ⟨g, 0, none⟩) L) := hr4.drew
          have HM3 : Hid (At w2.drew (w.heap.size + 1 + 1) #[vv, v]) := (HM2.out.grown hg2 (by omega)).drew
          have HO3 : Hid (OwnI w2.drew (w.heap.size + 3) 53 3 v k F1) := HO2.out.keep fun b e => hg2.block b (HO2.out.lt b e).2 (by have := (HO2.out.lt b e).1; simp; omega)
          have HOV3 : Hid (OwnI w2.drew (w.heap.size + 3) 51 6 vv nv F0) := HOV2.out.keep fun b e => hg2.block b (HOV2.out.lt b e).2 (by have := (HOV2.out.lt b e).1; simp; omega)
          have HZ3 : Hid (At w2.drew w.heap.size #[.slice none 0 0, .slice none 0 0]) := (HZ2.out.grown hg2 (by omega)).drew
          have HB3 : Hid (Below w.heap.size w w2.drew) := (HB2.out.trans (grown_below hg2 HB2.out.size (by omega))).drew
          have m0 := HM3.out.c 1
          clear hq4 hr4 hg2 HQ2 HR2 HM2 HO2 HOV2 HZ2 HB2
          go_wp2_with fail
          go_region_law (first
            | (refine step_append_nums 29 53 3 24 _ Try.underlying29 infoTri rfl (by decide) (by decide) w4 rfl (.tmp 73) (.tmp 79) rfl (w.heap.size + 3) v k F1 _ rfl (by simp [Act.eval]) (by simp [Act.eval]) ho4 hs4 (by omega) ?_; intro g2 cap2 w5 ho5 hg5 hl5 hlt5; have hm5 : At w5 (w.heap.size + 1 + 1) #[vv, v] := hm4.same (hg5.block _ hm4.sz (fun e => by have := (ho4.lt _ e.symm).1; omega)) hg5.size; have r0 := hm5.c 1; have rz := hm5.fz 1)
            | (go_simp; go_at_call 43; refine (number_at (w.heap.size + 1) N N _ (k * 3 + 2) _ _ _ (some ⟨g, 0, none⟩) L _ HL.out hN HY.out HRd.out HQd.out (congrFun HF1.out _)).mono ?_; rintro e w4 ⟨rfl, hr4, hg4⟩; have hm4 : At w4 (w.heap.size + 1 + 1) #[vv, v] := HM3.out.grown hg4 (by omega); have q0 := hm4.c 1; have q0a : ∀ o, (w4.alloc o).cell? ⟨(w.heap.size + 1 + 1), 1, none⟩ = some v := (fun o => (hm4.alloc o).c 1); have ho4 : OwnI w4 (w.heap.size + 3) 53 3 v k F1 := HO3.out.keep fun b e => hg4.block b (HO3.out.lt b e).2 (by have := (HO3.out.lt b e).1; simp; omega); have hs4 : w.heap.size + 3 ≤ w4.heap.size := hm4.sz))
          all_goals
            obtain ⟨c6, p6, hq6, hr6⟩ := hr4
            have hne : ∀ b, b < w.heap.size + 3 → some b ≠ v.ownBlock := fun b hb e => by have := (ho4.lt b e.symm).1; omega
            have HQ6 : Hid (rdAt L pd cd ((k + 1) * 3) = (c6, p6)) := by rw [Nat.add_mul, Nat.one_mul]; exact hq6
            have HR6 : Hid (Rdr (w5.setCell ⟨(w.heap.size + 1 + 1), 1, none⟩ (.slice (some ⟨g2, 0, none⟩) (k + 1) cap2)) (w.heap.size + 1) N N p6 c6 (some ⟨g, 0, none⟩) L) := (hr6.of (hg5.block _ hr6.at_.sz (hne _ (by omega))) (hg5.block g (hr6.rd.blk g rfl (by omega)) (hne g (by omega))) hg5.size).of (Deep.blk_setCell_other _ _ _ _ (by show w.heap.size + 1 ≠ w.heap.size + 1 + 1; omega)) (Deep.blk_setCell_other _ _ _ _ (by show g ≠ w.heap.size + 1 + 1; omega)) (by simp)
            have HM6 : Hid (At (w5.setCell ⟨(w.heap.size + 1 + 1), 1, none⟩ (.slice (some ⟨g2, 0, none⟩) (k + 1) cap2)) (w.heap.size + 1 + 1) #[vv, .slice (some ⟨g2, 0, none⟩) (k + 1) cap2]) := hm5.put2_1 _
            have HO6 : Hid (OwnI (w5.setCell ⟨(w.heap.size + 1 + 1), 1, none⟩ (.slice (some ⟨g2, 0, none⟩) (k + 1) cap2)) (w.heap.size + 3) 53 3 (.slice (some ⟨g2, 0, none⟩) (k + 1) cap2) (k + 1) F1) := ho5.keep fun b e => Deep.blk_setCell_other _ _ _ _ (by have := (ho5.lt b e).1; show b ≠ w.heap.size + 1 + 1; omega)
            have hb4 : Below w.heap.size w w4 := HB3.out.trans (grown_below hg4 HB3.out.size (by omega))
            have HB6 : Hid (Below w.heap.size w (w5.setCell ⟨(w.heap.size + 1 + 1), 1, none⟩ (.slice (some ⟨g2, 0, none⟩) (k + 1) cap2))) := (hb4.trans ⟨hg5.os, hg5.tape, hg5.output, hg5.size, fun b hb => hg5.block b (Nat.lt_of_lt_of_le hb hb4.size) (hne b (by omega))⟩).setCell (p := ⟨(w.heap.size + 1 + 1), 1, none⟩) (by show w.heap.size ≤ w.heap.size + 1 + 1; omega) _
            have hz4 : At w4 w.heap.size #[.slice none 0 0, .slice none 0 0] := HZ3.out.grown hg4 (by omega)
            have HZ6 : Hid (At (w5.setCell ⟨(w.heap.size + 1 + 1), 1, none⟩ (.slice (some ⟨g2, 0, none⟩) (k + 1) cap2)) w.heap.size #[.slice none 0 0, .slice none 0 0]) := (hz4.same (hg5.block _ hz4.sz (hne _ (by omega))) hg5.size).other (by omega) _ _
            have hov4 : OwnI w4 (w.heap.size + 3) 51 6 vv nv F0 := HOV3.out.keep fun b e => hg4.block b (HOV3.out.lt b e).2 (by have := (HOV3.out.lt b e).1; simp; omega)
            have HOV6 : Hid (OwnI (w5.setCell ⟨(w.heap.size + 1 + 1), 1, none⟩ (.slice (some ⟨g2, 0, none⟩) (k + 1) cap2)) (w.heap.size + 3) 51 6 vv nv F0) := (hov4.keep fun b e => hg5.block b (hov4.lt b e).2 (fun e2 => own_ne hov4 ho4 (by decide) b e e2.symm)).keep fun b e => Deep.blk_setCell_other _ _ _ _ (by have := (hov4.lt b e).1; show b ≠ w.heap.size + 1 + 1; omega)
            clear hov4
            clear hq6 hr6 hg4 hm4 ho4 hs4 ho5 hg5 hl5 hlt5 hm5 hb4 hz4 hne q0 q0a r0 rz
            go_wp2
            go_roundw
            case rel => exact ⟨k + 1, _, p6, c6, by omega, by simp, HQ6.out, HR6.out, HM6.out, HO6.out, HZ6.out, HB6.out, HOV6.out⟩
            case measure => simp [intOf]; omega
        · have hkn : k = nt := by omega
          subst hkn
          have HEE : Hid (mE L 3 = (ck, pk)) := by unfold mE; rw [HD.out]; show rdAt L pd cd ((k : Int).toNat * 3) = (ck, pk); rw [Int.toNat_natCast]; exact HQ.out
          obtain ⟨av, cv, rfl, hv, hvn⟩ := HOV.out.told
          obtain ⟨at', ct, rfl, ht, htn⟩ := HO.out.told
          have HVN : Hid ((∀ g, av = some ⟨g, 0, none⟩ → 0 < nv → w.heap.size + 3 ≤ g) ∧ ∀ g, at' = some ⟨g, 0, none⟩ → 0 < k → w.heap.size + 3 ≤ g) := ⟨hvn, htn⟩
          have HV : Hid (RdS wr 51 6 av nv F0) := hv
          have HT : Hid (RdS wr 53 3 at' k F1) := ht
          have HRL2 := HRL.out
          rw [HEE.out, HA.out, HD.out] at HRL2
          simp only [Int.toNat_natCast, HF0.out, HF1.out] at HRL2
          have HRL3 : Hid _ := HRL2
          obtain ⟨q, qz, qs⟩ := HM.out
          obtain ⟨z, zz, zs⟩ := HZ.out
          obtain ⟨r, rz, rs⟩ := HR.out.at_
          have q0 := q 0
          have q1 := q 1
          have z0 := z 0
          have z1 := z 1
          have zz0 := zz 0
          have zz1 := zz 1
          have r1 := r 1
          have r2 := r 2
          have hpk : pk ≤ N := HR.out.le
          clear hv ht hvn htn HO HOV q qz z zz r rz HRL2
          by_cases hc : ck = 0
          · subst hc
            have hw1 : IntKind.i64.wrap ((N : Int) - (pk : Int)) = (N : Int) - (pk : Int) := by rw [IntKind.wrap_i64]; omega
            by_cases hsh : N < pk + 2
            · have HE : Hid (readL L = ⟨2, 0, 0, fun _ => 0, fun _ => 0⟩) := by rw [HRL3.out, if_neg (by decide), if_pos (by rw [HL.out]; exact hsh)]; exact rfl
              have hs : (N : Int) - (pk : Int) < 2 := by omega
              go_wp2
              refine bodyPost_ret (v := .tuple #[.agg #[.slice none 0 0, .slice none 0 0], .int .i64 2]) (by simp [results, Try.results17, go_sem, z0, z1]) rfl (ans_none HE.out (bel_two HB.out))
            · have hs : ¬ ((N : Int) - (pk : Int) < 2) := by omega
              by_cases hlg : pk + 2 < N
              · have HE : Hid (readL L = ⟨3, 0, 0, fun _ => 0, fun _ => 0⟩) := by rw [HRL3.out, if_neg (by decide), if_neg (by rw [HL.out]; exact hsh), if_pos (Or.inl (by rw [HL.out]; exact hlg))]; exact rfl
                have hl : (2 : Int) < (N : Int) - (pk : Int) := by omega
                go_wp2
                refine bodyPost_ret (v := .tuple #[.agg #[.slice none 0 0, .slice none 0 0], .int .i64 3]) (by simp [results, Try.results17, go_sem, z0, z1]) rfl (ans_none HE.out (bel_two HB.out))
              · have hl : ¬ ((2 : Int) < (N : Int) - (pk : Int)) := by omega
                go_wp2_with fail
                refine (specMeshOk_any nv k cv ct av at' F0 F1 _ (by omega) (by omega) HV.out.rd HT.out.rd).mono ?_
                rintro e w8 ⟨rfl, hb8⟩
                have HM8 : Hid (At w8 (w.heap.size + 1 + 1) #[.slice av nv cv, .slice at' k ct]) := HM.out.below hb8 HM.out.sz
                have HZ8 : Hid (At w8 w.heap.size #[.slice none 0 0, .slice none 0 0]) := HZ.out.below hb8 HZ.out.sz
                have HR8 : Hid (Rdr w8 (w.heap.size + 1) N N pk 0 (some ⟨g, 0, none⟩) L) := HR.out.of (hb8.block _ HR.out.at_.sz) (hb8.block _ (HR.out.rd.blk g rfl (by omega))) hb8.size
                have HV8 : Hid (RdS w8 51 6 av nv F0) := HV.out.below hb8 (Nat.le_refl _)
                have HT8 : Hid (RdS w8 53 3 at' k F1) := HT.out.below hb8 (Nat.le_refl _)
                have HB8 : Hid (Below w.heap.size w w8) := HB.out.trans (hb8.mono HB.out.size)
                clear hb8 HM HZ HR HV HT HB q0 q1 z0 z1 zz0 zz1 r1 r2
                obtain ⟨z, zz, zs8⟩ := HZ8.out
                have z0 := z 0
                have z1 := z 1
                have zz0 := zz 0
                have zz1 := zz 1
                clear z zz
                rcases Bool.eq_false_or_eq_true (meshok nv k F0 F1) with hok | hok
                · rw [hok]
                  obtain ⟨b, hb⟩ : ∃ b, b = L.getD pk 0 := ⟨_, rfl⟩
                  obtain ⟨c, hc⟩ : ∃ c, c = L.getD (pk + 1) 0 := ⟨_, rfl⟩
                  obtain ⟨t, ht⟩ : ∃ t, sumTo (L.take pk) 0 = t := ⟨_, rfl⟩
                  have hb2 : 0 ≤ b ∧ b < 256 := by rw [hb]; exact HY.out _ (getD_mem (by have := HL.out; omega))
                  have hc2 : 0 ≤ c ∧ c < 256 := by rw [hc]; exact HY.out _ (getD_mem (by have := HL.out; omega))
                  have HTT : Hid (sumTo (L.take pk) 0 = t) := ht
                  have HBC : Hid (b = L.getD pk 0 ∧ c = L.getD (pk + 1) 0) := ⟨hb, hc⟩
                  have HRL4 : Hid (readL L = if t ≠ b + 256 * c then ⟨4, 0, 0, fun _ => 0, fun _ => 0⟩ else ⟨0, nv, k, F0, F1⟩) := by
                    rw [HRL3.out, if_neg (by decide), if_neg (by rw [HL.out]; exact hsh), if_neg (by rw [HL.out, hok]; rintro (h | h); exact hlg h; cases h), ht, ← hb, ← hc]
                    exact rfl
                  have HS : Hid (Sr (w.heap.size + 1) g pk b c w8) := by
                    obtain ⟨q1', e1', _, k1⟩ := HR8.out.rd.cell (i := pk) (by omega)
                    obtain ⟨q2', e2', _, k2⟩ := HR8.out.rd.cell (i := pk + 1) (by omega)
                    simp only [Option.some.injEq, Addr.mk.injEq] at e1' e2'
                    obtain ⟨rfl, _⟩ := e1'
                    obtain ⟨rfl, _⟩ := e2'
                    exact ⟨HR8.out.at_.c 1, by rw [hb]; exact k1, by rw [hc]; exact k2⟩
                  have HDd : Hid (RdB w8.drew (some ⟨g, 0, none⟩) N L) := HR8.out.rd.below (Below.refl _ _).drew (Nat.le_refl _)
                  have HLT : Hid ((L.take pk).length = pk) := (show (L.take pk).length = pk by have := HL.out; simp; omega)
                  have HYT : Hid (∀ b ∈ L.take pk, 0 ≤ b ∧ b < 256) := fun b hb => HY.out b (List.mem_of_mem_take hb)
                  have i0 : (0 : Int) ≤ (pk : Int) ∧ (pk : Int) < (N : Int) := by omega
                  have i1 : (0 : Int) ≤ (pk : Int) + 1 ∧ (pk : Int) + 1 < (N : Int) := by omega
                  have i2 : (0 : Int) ≤ (pk : Int) ∧ (pk : Int) ≤ (N : Int) := by omega
                  have i3 : IntKind.i64.wrap ((pk : Int) + 1) = (pk : Int) + 1 := by rw [IntKind.wrap_i64]; omega
                  have i4 : IntKind.i64.wrap (256 * c) = 256 * c := by rw [IntKind.wrap_i64]; omega
                  have i5 : IntKind.i64.wrap (b + 256 * c) = b + 256 * c := by rw [IntKind.wrap_i64]; omega
                  have i6 : IntKind.i64.wrap b = b := by rw [IntKind.wrap_i64]; omega
                  have i7 : IntKind.i64.wrap c = c := by rw [IntKind.wrap_i64]; omega
                  have i8 : IntKind.i64.wrap (IntKind.i64.wrap b + IntKind.i64.wrap (256 * IntKind.i64.wrap c)) = b + 256 * c := by rw [i6, i7, i4, i5]
                  clear hok hb hc ht
                  by_cases hsum : t = b + 256 * c
                  · have hn : (t != b + 256 * c) = false := by rw [hsum]; simp
                    have hn2 : (t != IntKind.i64.wrap (IntKind.i64.wrap b + IntKind.i64.wrap (256 * IntKind.i64.wrap c))) = false := by rw [i8]; exact hn
                    have HE : Hid (readL L = ⟨0, nv, k, F0, F1⟩) := by rw [HRL4.out, if_neg (fun h => h hsum)]; exact rfl
                    clear hsum
                    go_wp2_with fail
                    go_region_held3 (fun w' => Sr (w.heap.size + 1) g pk b c w') (first | with_reducible exact Sr.drew HS.out | with_reducible assumption)
                      (first | (go_at_call 35; refine (l16SumR_any g N pk (L.take pk) t _ (by omega) HLT.out HYT.out (HDd.out.take (by omega)) HTT.out).mono ?_; rintro e w9 ⟨rfl, rfl⟩))
                    obtain ⟨z, zz, _⟩ := HZ8.out.drew
                    have y0 := z 0
                    have y1 := z 1
                    have yz0 := zz 0
                    have yz1 := zz 1
                    clear z zz
                    obtain ⟨q, qz, _⟩ := HM8.out.drew
                    have q0 := q 0
                    have q1 := q 1
                    clear q qz
                    go_wp2
                    refine bodyPost_ret (v := .tuple #[.agg #[.slice av nv cv, .slice at' k ct], .int .i64 0]) (by simp [results, Try.results17, go_sem, z0, z1]) rfl ?_
                    exact ans_some HE.out (HV8.out.keep fun h0 q e hl => set_two (by have := HVN.out.1 q e h0; omega)) (HT8.out.keep fun h0 q e hl => set_two (by have := HVN.out.2 q e h0; omega)) (fun q e h0 => by have := HVN.out.1 q e h0; omega) (fun q e h0 => by have := HVN.out.2 q e h0; omega) (bel_two HB8.out).drew
                  · have hn : (t != b + 256 * c) = true := by rw [bne_iff_ne]; exact hsum
                    have hn2 : (t != IntKind.i64.wrap (IntKind.i64.wrap b + IntKind.i64.wrap (256 * IntKind.i64.wrap c))) = true := by rw [i8]; exact hn
                    have HE : Hid (readL L = ⟨4, 0, 0, fun _ => 0, fun _ => 0⟩) := by rw [HRL4.out, if_pos hsum]; exact rfl
                    clear hsum
                    go_wp2_with fail
                    go_region_held3 (fun w' => Sr (w.heap.size + 1) g pk b c w') (first | with_reducible exact Sr.drew HS.out | with_reducible assumption)
                      (first | (go_at_call 35; refine (l16SumR_any g N pk (L.take pk) t _ (by omega) HLT.out HYT.out (HDd.out.take (by omega)) HTT.out).mono ?_; rintro e w9 ⟨rfl, rfl⟩))
                    obtain ⟨z, zz, _⟩ := HZ8.out.drew
                    have y0 := z 0
                    have y1 := z 1
                    have yz0 := zz 0
                    have yz1 := zz 1
                    clear z zz
                    go_wp2
                    refine bodyPost_ret (v := .tuple #[.agg #[.slice none 0 0, .slice none 0 0], .int .i64 4]) (by simp [results, Try.results17, go_sem, z0, z1]) rfl (ans_none HE.out ((bel_two HB8.out).drew))
                · rw [hok]
                  have HE : Hid (readL L = ⟨3, 0, 0, fun _ => 0, fun _ => 0⟩) := by rw [HRL3.out, if_neg (by decide), if_neg (by rw [HL.out]; exact hsh), if_pos (Or.inr hok)]; exact rfl
                  clear hok
                  go_wp2
                  refine bodyPost_ret (v := .tuple #[.agg #[.slice none 0 0, .slice none 0 0], .int .i64 3]) (by simp [results, Try.results17, go_sem, z0, z1]) rfl (ans_none HE.out (bel_two HB8.out))
          · have HE : Hid (readL L = ⟨ck, 0, 0, fun _ => 0, fun _ => 0⟩) := by rw [HRL3.out, if_pos hc]; exact rfl
            have hcb : (ck != 0) = true := by rw [bne_iff_ne]; exact hc
            have r2d : wr.drew.cell? ⟨w.heap.size + 1, 2, none⟩ = some (.int .i64 ck) := r2
            have z0d : wr.drew.cell? ⟨w.heap.size, 0, none⟩ = some (.slice none 0 0) := z0
            have z1d : wr.drew.cell? ⟨w.heap.size, 1, none⟩ = some (.slice none 0 0) := z1
            have zz0d : wr.drew.frozen? ⟨w.heap.size, 0, none⟩ = false := zz0
            have zz1d : wr.drew.frozen? ⟨w.heap.size, 1, none⟩ = false := zz1
            clear hc
            go_wp2_with fail
            go_region
            go_wp2
            refine bodyPost_ret (v := .tuple #[.agg #[.slice none 0 0, .slice none 0 0], .int .i64 ck]) (by simp [results, Try.results17, go_sem, z0, z1]) rfl (ans_none HE.out ((bel_two HB.out).drew))

theorem specRead : ReadAns 17 := by
  intro N ao L w hlen hN hby hrd
  rcases Bool.eq_false_or_eq_true (magic L) with hm | hm
  · exact specRead_more N ao L w hlen hN hby hrd hm
  · have h := of_decide_eq_false hm
    refine (specReadMesh_magic N N ao L w hlen hN hrd ?_).mono ?_
    · by_cases h1 : L.length < 3
      · exact Or.inl h1
      · by_cases h2 : L.getD 0 0 = 83
        · by_cases h3 : L.getD 1 0 = 77
          · exact Or.inr (Or.inr (Or.inr fun h4 => h ⟨by omega, h2, h3, h4⟩))
          · exact Or.inr (Or.inr (Or.inl h3))
        · exact Or.inr (Or.inl h2)
    · rintro e w' ⟨rfl, hb⟩
      exact ans_none (readL_magic hm) hb
end Go.Proofs.Ytobhljmpdolomaa
