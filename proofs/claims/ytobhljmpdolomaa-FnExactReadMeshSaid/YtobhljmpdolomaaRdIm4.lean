import Derived.Test.YtobhljmpdolomaaRdIm3
import Derived.Test.YtobhljmpdolomaaRdRow
import Derived.Test.YtobhljmpdolomaaPkLaw
namespace Go.Proofs.Ytobhljmpdolomaa
open Go.RowKit

theorem placeI_ok (R g N p0 : Nat) (L : List Int) (w : World) (hlen : L.length = N) (hN : N ≤ 1048576) (hN0 : 0 < N) (hby : ∀ b ∈ L, 0 ≤ b ∧ b < 256) (hl : Lf w R g N p0 L) {p' : Nat} (F : Nat → Int) (k : Nat) (h : rdAt L p0 0 6 = (0, p')) (hv : ∀ q, rdVal L p0 0 q = F (k * 6 + q)) :
    Calls Try.prog 62 #[.pointer (some ⟨R, 0, none⟩)] w fun e w' => e = .returned (.agg #[.int .i64 (F (k * 6)), .int .i64 (F (k * 6 + 1)), .int .i64 (F (k * 6 + 2)), .int .i64 (F (k * 6 + 3)), .int .i64 (F (k * 6 + 4)), .int .i64 (F (k * 6 + 5))]) ∧ Lf w' R g N p' L ∧ w.grownBy w' (some R) := by
  refine (placeI_any R g N p0 L w hlen hN hN0 hby hl).mono ?_
  rintro e w' ⟨⟨c, q, h1', h2⟩, hg⟩
  rw [h] at h1'
  simp only [Prod.mk.injEq] at h1'
  obtain ⟨rfl, rfl⟩ := h1'
  simp only [hv, Nat.add_zero] at h2
  rcases h2 with ⟨_, he, hl'⟩ | ⟨h0, _⟩
  · exact ⟨he, hl', hg⟩
  · exact absurd rfl h0
theorem placeI_bad (R g N p0 : Nat) (L : List Int) (w : World) (hlen : L.length = N) (hN : N ≤ 1048576) (hN0 : 0 < N) (hby : ∀ b ∈ L, 0 ≤ b ∧ b < 256) (hl : Lf w R g N p0 L) {p' : Nat} {c : Int} (h : rdAt L p0 0 6 = (c, p')) (hc : c ≠ 0) :
    Calls Try.prog 62 #[.pointer (some ⟨R, 0, none⟩)] w fun e w' => e = .panicked (chain c) ∧ Fl w' R c ∧ w.grownBy w' (some R) := by
  refine (placeI_any R g N p0 L w hlen hN hN0 hby hl).mono ?_
  rintro e w' ⟨⟨c', q, h1', h2⟩, hg⟩
  rw [h] at h1'
  simp only [Prod.mk.injEq] at h1'
  obtain ⟨rfl, rfl⟩ := h1'
  rcases h2 with ⟨h0, _⟩ | ⟨_, he, hf⟩
  · exact absurd h0 hc
  · exact ⟨he, hf, hg⟩

theorem triI_ok (R g N p0 : Nat) (L : List Int) (w : World) (hlen : L.length = N) (hN : N ≤ 1048576) (hN0 : 0 < N) (hby : ∀ b ∈ L, 0 ≤ b ∧ b < 256) (hl : Lf w R g N p0 L) {p' : Nat} (F : Nat → Int) (k : Nat) (h : rdAt L p0 0 3 = (0, p')) (hv : ∀ q, rdVal L p0 0 q = F (k * 3 + q)) :
    Calls Try.prog 63 #[.pointer (some ⟨R, 0, none⟩)] w fun e w' => e = .returned (.agg #[.int .i64 (F (k * 3)), .int .i64 (F (k * 3 + 1)), .int .i64 (F (k * 3 + 2))]) ∧ Lf w' R g N p' L ∧ w.grownBy w' (some R) := by
  refine (triI_any R g N p0 L w hlen hN hN0 hby hl).mono ?_
  rintro e w' ⟨⟨c, q, h1', h2⟩, hg⟩
  rw [h] at h1'
  simp only [Prod.mk.injEq] at h1'
  obtain ⟨rfl, rfl⟩ := h1'
  simp only [hv, Nat.add_zero] at h2
  rcases h2 with ⟨_, he, hl'⟩ | ⟨h0, _⟩
  · exact ⟨he, hl', hg⟩
  · exact absurd rfl h0
theorem triI_bad (R g N p0 : Nat) (L : List Int) (w : World) (hlen : L.length = N) (hN : N ≤ 1048576) (hN0 : 0 < N) (hby : ∀ b ∈ L, 0 ≤ b ∧ b < 256) (hl : Lf w R g N p0 L) {p' : Nat} {c : Int} (h : rdAt L p0 0 3 = (c, p')) (hc : c ≠ 0) :
    Calls Try.prog 63 #[.pointer (some ⟨R, 0, none⟩)] w fun e w' => e = .panicked (chain c) ∧ Fl w' R c ∧ w.grownBy w' (some R) := by
  refine (triI_any R g N p0 L w hlen hN hN0 hby hl).mono ?_
  rintro e w' ⟨⟨c', q, h1', h2⟩, hg⟩
  rw [h] at h1'
  simp only [Prod.mk.injEq] at h1'
  obtain ⟨rfl, rfl⟩ := h1'
  rcases h2 with ⟨h0, _⟩ | ⟨_, he, hf⟩
  · exact absurd h0 hc
  · exact ⟨he, hf, hg⟩

theorem countI_ok (R g N p0 : Nat) (most : Int) (L : List Int) (w : World) (hlen : L.length = N) (hN : N ≤ 1048576) (hby : ∀ b ∈ L, 0 ≤ b ∧ b < 256) (hl : Lf w R g N p0 L) {v : Int} {p' : Nat} (h : rdCount L p0 0 most = (0, v, p')) :
    Calls Try.prog 61 #[.pointer (some ⟨R, 0, none⟩), .int .i64 most] w fun e w' => e = .returned (.int .i64 v) ∧ Lf w' R g N p' L ∧ w.grownBy w' (some R) := by
  refine (countI_any R g N p0 most L w hlen hN hby hl).mono ?_
  rintro e w' ⟨⟨c, v', q, h1, h2⟩, hg⟩
  rw [h] at h1
  simp only [Prod.mk.injEq] at h1
  obtain ⟨rfl, rfl, rfl⟩ := h1
  rcases h2 with ⟨_, he, hl'⟩ | ⟨h0, _⟩
  · exact ⟨he, hl', hg⟩
  · exact absurd rfl h0
theorem countI_bad (R g N p0 : Nat) (most : Int) (L : List Int) (w : World) (hlen : L.length = N) (hN : N ≤ 1048576) (hby : ∀ b ∈ L, 0 ≤ b ∧ b < 256) (hl : Lf w R g N p0 L) {c v : Int} {p' : Nat} (h : rdCount L p0 0 most = (c, v, p')) (hc : c ≠ 0) :
    Calls Try.prog 61 #[.pointer (some ⟨R, 0, none⟩), .int .i64 most] w fun e w' => e = .panicked (chain c) ∧ Fl w' R c ∧ w.grownBy w' (some R) := by
  refine (countI_any R g N p0 most L w hlen hN hby hl).mono ?_
  rintro e w' ⟨⟨c', v', q, h1, h2⟩, hg⟩
  rw [h] at h1
  simp only [Prod.mk.injEq] at h1
  obtain ⟨rfl, rfl, rfl⟩ := h1
  rcases h2 with ⟨h0, _⟩ | ⟨_, he, hf⟩
  · exact absurd h0 hc
  · exact ⟨he, hf, hg⟩

/-- The reading of a mesh, part by part. -/
def mA (L : List Int) (p0 : Nat) : Int × Int × Nat := rdCount L p0 0 200
def mB (L : List Int) (p0 : Nat) : Int × Nat := rdAt L (mA L p0).2.2 (mA L p0).1 ((mA L p0).2.1.toNat * 6)
def mD (L : List Int) (p0 : Nat) : Int × Int × Nat := rdCount L (mB L p0).2 (mB L p0).1 300
def mE (L : List Int) (p0 : Nat) : Int × Nat := rdAt L (mD L p0).2.2 (mD L p0).1 ((mD L p0).2.1.toNat * 3)
theorem rdCount_stuck (L : List Int) (p : Nat) {c : Int} (most : Int) (h : c ≠ 0) : rdCount L p c most = (c, 0, p) := by
  unfold rdCount
  rw [rdNum_stuck L p h, if_neg h]
theorem mE_of_D {L : List Int} {p0 p : Nat} {c v : Int} (h : mD L p0 = (c, v, p)) (hc : c ≠ 0) : mE L p0 = (c, p) := by unfold mE; rw [h]; exact rdAt_stuck L p hc _
theorem mE_of_B {L : List Int} {p0 p : Nat} {c : Int} (h : mB L p0 = (c, p)) (hc : c ≠ 0) : mE L p0 = (c, p) := mE_of_D (v := 0) (by unfold mD; rw [h]; exact rdCount_stuck L p _ hc) hc
theorem mE_of_A {L : List Int} {p0 p : Nat} {c v : Int} (h : mA L p0 = (c, v, p)) (hc : c ≠ 0) : mE L p0 = (c, p) := mE_of_B (by unfold mB; rw [h]; exact rdAt_stuck L p hc _) hc
theorem own_ne {w : World} {base t S n base' t' S' n' : Nat} {v v' : Value} {F F' : Nat → Int} (h : OwnI w base t S v n F) (h' : OwnI w base' t' S' v' n' F') (ht : t ≠ t') (b : Nat) (e : v.ownBlock = some b) (e' : v'.ownBlock = some b) : False := by
  rcases h.2 with ⟨rfl, _⟩ | ⟨g, cap, cur, rfl, _, h3, _⟩
  · cases e
  · rcases h'.2 with ⟨rfl, _⟩ | ⟨g', cap', cur', rfl, _, h3', _⟩
    · cases e'
    · simp only [Value.ownBlock, Option.some.injEq] at e e'
      subst e e'
      rw [h3] at h3'
      simp at h3'
      exact ht h3'.2
theorem At.put2_1 {w : World} {b : Nat} {x0 x1 : Value} (h : At w b #[x0, x1]) (y : Value) : At (w.setCell ⟨b, 1, none⟩ y) b #[x0, y] := by
  obtain ⟨c, fz, sz⟩ := h
  have c0 := c 0
  have c1 := c 1
  refine ⟨fun j => ?_, fun j => by have := fz j; go_simp, by simpa using sz⟩
  match j with
  | 0 => go_simp
  | 1 => go_simp
  | j + 2 => have := c (j + 2); go_simp

set_option maxRecDepth 8000 in
set_option maxHeartbeats 8000000 in
theorem meshI_any (R g N p0 : Nat) (L : List Int) (w : World) (hlen : L.length = N) (hN : N ≤ 1048576) (hN0 : 0 < N) (hby : ∀ b ∈ L, 0 ≤ b ∧ b < 256) (hl : Lf w R g N p0 L) :
    Calls Try.prog 46 #[.pointer (some ⟨R, 0, none⟩)] w fun e w' => (((mE L p0).1 = 0 ∧ ∃ vv vt, e = .returned (.agg #[vv, vt]) ∧ OwnI w' (w.heap.size + 2) 51 6 vv (mA L p0).2.1.toNat (rdVal L (mA L p0).2.2 (mA L p0).1) ∧ OwnI w' (w.heap.size + 2) 53 3 vt (mD L p0).2.1.toNat (rdVal L (mD L p0).2.2 (mD L p0).1) ∧ Lf w' R g N (mE L p0).2 L) ∨ ((mE L p0).1 ≠ 0 ∧ e = .panicked (chain (mE L p0).1) ∧ Fl w' R (mE L p0).1)) ∧ w.grownBy w' (some R) := by
  have HL : Hid (L.length = N) := hlen
  have HY : Hid (∀ b ∈ L, 0 ≤ b ∧ b < 256) := hby
  have HF : Hid (Lf ((w.alloc (.cells #[.slice none 0 0, .slice none 0 0] 31)).alloc (.cells #[.slice none 0 0, .slice none 0 0] 31)) R g N p0 L) := (hl.alloc _).alloc _
  have HZ : Hid (R < w.heap.size ∧ g < w.heap.size) := ⟨hl.sz, hl.gsz hN0⟩
  have HM : Hid (At ((w.alloc (.cells #[.slice none 0 0, .slice none 0 0] 31)).alloc (.cells #[.slice none 0 0, .slice none 0 0] 31)) (w.heap.size + 1) #[.slice none 0 0, .slice none 0 0]) := two_at
  have HB : Hid (At ((w.alloc (.cells #[.slice none 0 0, .slice none 0 0] 31)).alloc (.cells #[.slice none 0 0, .slice none 0 0] 31)) w.heap.size #[.slice none 0 0, .slice none 0 0]) := At.alloc ⟨fun j => by go_simp, fun j => by go_simp, by simp⟩ _
  have HW0 : Hid (w.grownBy ((w.alloc (.cells #[.slice none 0 0, .slice none 0 0] 31)).alloc (.cells #[.slice none 0 0, .slice none 0 0] 31)) (some R)) := grown_alloc (grown_alloc (grownBy_refl _ _) _) _
  obtain ⟨c0, v0, pa, ha⟩ : ∃ c v p', mA L p0 = (c, v, p') := ⟨_, _, _, rfl⟩
  have HA : Hid (mA L p0 = (c0, v0, pa)) := ha
  clear hlen hby hl
  by_cases hc0 : c0 = 0
  · subst hc0
    obtain ⟨nv, rfl⟩ : ∃ n : Nat, v0 = (n : Int) := ⟨v0.toNat, by have := rdCount_le L p0 0 200 (by decide); have h2 : (mA L p0).2.1 = v0 := (by rw [ha]); unfold mA at h2; rw [h2] at this; omega⟩
    have hnv : nv ≤ 200 := by have := rdCount_le L p0 0 200 (by decide); have h2 : (mA L p0).2.1 = (nv : Int) := (by rw [ha]); unfold mA at h2; rw [h2] at this; omega
    clear ha
    go_enter Try.func46, Try.ntmps46
    go_wp2_with fail
    refine (countI_ok R g N p0 200 L _ HL.out hN HY.out HF.out HA.out).mono ?_
    rintro e w1 ⟨rfl, hl1, hg1⟩
    have HF1 : Hid (Lf w1 R g N pa L) := hl1
    have HW1 : Hid (w.grownBy w1 (some R)) := grown_trans HW0.out hg1 (fun b e => Or.inl e.symm)
    have HM1 : Hid (At w1 (w.heap.size + 1) #[.slice none 0 0, .slice none 0 0]) := HM.out.grown hg1 (by have := HZ.out; omega)
    have HB1 : Hid (At w1 w.heap.size #[.slice none 0 0, .slice none 0 0]) := HB.out.grown hg1 (by have := HZ.out; omega)
    clear hl1 hg1 HF HM HB HW0
    go_wp2
    go_loopw [6] (fun i wr => ∃ (k : Nat) (v : Value) (pk : Nat), k ≤ nv ∧ i = .int .i64 k ∧ Hid (rdAt L pa 0 (k * 6) = (0, pk)) ∧ Hid (Lf wr R g N pk L) ∧ Hid (At wr (w.heap.size + 1) #[v, .slice none 0 0]) ∧ Hid (OwnI wr (w.heap.size + 2) 51 6 v k (rdVal L pa 0)) ∧ Hid (At wr w.heap.size #[.slice none 0 0, .slice none 0 0]) ∧ Hid (w.grownBy wr (some R))) (fun i _ => nv - (intOf i).toNat)
    case atStart => exact ⟨0, .slice none 0 0, pa, Nat.zero_le _, rfl, by rw [Nat.zero_mul]; exact rfl, HF1.out, HM1.out, own_nil _ _ _ _ _, HB1.out, HW1.out⟩
    case round =>
      clear HF1 HM1 HB1 HW1
      obtain ⟨k, v, pk, hk, rfl, HR, HF, HM, HO, HB, HW⟩ := hrel
      by_cases hlt : k < nv
      · skip
        obtain ⟨c, p6, hq⟩ : ∃ c p', rdAt L pk 0 6 = (c, p') := ⟨_, _, rfl⟩
        have HQ : Hid (rdAt L pk 0 6 = (c, p6)) := hq
        have h6 : rdAt L pa 0 (k * 6 + 6) = (c, p6) := (rdAt_then HR.out 6).1.trans hq
        have HVV : Hid (∀ q, rdVal L pk 0 q = rdVal L pa 0 (k * 6 + q)) := fun q => ((rdAt_then HR.out q).2).symm
        have HFd : Hid (Lf wr.drew R g N pk L) := HF.out.drew
        have HMd : Hid (At wr.drew (w.heap.size + 1) #[v, .slice none 0 0]) := HM.out.drew
        have m0 := HMd.out.c 0
        have HWd : Hid (w.grownBy wr.drew (some R)) := grown_drew HW.out
        clear hq
        by_cases hc : c = 0
        · subst hc
          have HR6 : Hid (rdAt L pa 0 ((k + 1) * 6) = (0, p6)) := by rw [Nat.add_mul, Nat.one_mul]; exact h6
          clear h6
          go_wp2_with fail
          go_region_law (first
            | (go_simp; go_at_call 62; refine (placeI_ok R g N pk L _ HL.out hN hN0 HY.out HFd.out (rdVal L pa 0) k HQ.out HVV.out).mono ?_; rintro e w1 ⟨rfl, hl1, hg1⟩; have hm1 : At w1 (w.heap.size + 1) #[v, .slice none 0 0] := HMd.out.grown hg1 (by have := HZ.out; omega); have q0 := hm1.c 0; have q0a : ∀ o, (w1.alloc o).cell? ⟨w.heap.size + 1, 0, none⟩ = some v := (fun o => (hm1.alloc o).c 0); have ho1 : OwnI w1 (w.heap.size + 2) 51 6 v k (rdVal L pa 0) := HO.out.keep fun b e => hg1.block b (HO.out.lt b e).2 (by have := (HO.out.lt b e).1; have := HZ.out; simp; omega); have hs1 : w.heap.size + 2 ≤ w1.heap.size := hm1.sz)
            | (refine step_append_nums 28 51 6 48 _ Try.underlying28 infoV3 rfl (by decide) (by decide) w1 rfl (.tmp 9) (.tmp 12) rfl (w.heap.size + 2) v k (rdVal L pa 0) _ rfl (by simp [Act.eval]) (by simp [Act.eval]) ho1 hs1 (by omega) ?_; intro g2 cap2 w2 ho2 hg2 hl2 hlt2; have hm2 : At w2 (w.heap.size + 1) #[v, .slice none 0 0] := hm1.same (hg2.block _ hm1.sz (fun e => by have := (ho1.lt _ e.symm).1; omega)) hg2.size; have r0 := hm2.c 0; have rz := hm2.fz 0))
          all_goals
            have hne : ∀ b, b < w.heap.size + 2 → some b ≠ v.ownBlock := fun b hb e => by have := (ho1.lt b e.symm).1; omega
            have HF2 : Hid (Lf (w2.setCell ⟨w.heap.size + 1, 0, none⟩ (.slice (some ⟨g2, 0, none⟩) (k + 1) cap2)) R g N p6 L) := (hl1.keep (hg2.block R hl1.sz (hne R (by have := HZ.out; omega))) (fun _ hl => hg2.block g hl (hne g (by have := HZ.out; omega))) hg2.size).keep (Deep.blk_setCell_other _ _ _ _ (by have := HZ.out; show R ≠ w.heap.size + 1; omega)) (fun _ _ => Deep.blk_setCell_other _ _ _ _ (by have := HZ.out; show g ≠ w.heap.size + 1; omega)) (by simp)
            have HM2 : Hid (At (w2.setCell ⟨w.heap.size + 1, 0, none⟩ (.slice (some ⟨g2, 0, none⟩) (k + 1) cap2)) (w.heap.size + 1) #[.slice (some ⟨g2, 0, none⟩) (k + 1) cap2, .slice none 0 0]) := hm2.put2_0 _
            have HO2 : Hid (OwnI (w2.setCell ⟨w.heap.size + 1, 0, none⟩ (.slice (some ⟨g2, 0, none⟩) (k + 1) cap2)) (w.heap.size + 2) 51 6 (.slice (some ⟨g2, 0, none⟩) (k + 1) cap2) (k + 1) (rdVal L pa 0)) := ho2.keep fun b e => Deep.blk_setCell_other _ _ _ _ (by have := (ho2.lt b e).1; show b ≠ w.heap.size + 1; omega)
            have hb1 : At w1 w.heap.size #[.slice none 0 0, .slice none 0 0] := HB.out.drew.grown hg1 (by have := HZ.out; omega)
            have HB2 : Hid (At (w2.setCell ⟨w.heap.size + 1, 0, none⟩ (.slice (some ⟨g2, 0, none⟩) (k + 1) cap2)) w.heap.size #[.slice none 0 0, .slice none 0 0]) := (hb1.same (hg2.block _ hb1.sz (hne _ (by omega))) hg2.size).other (by omega) _ _
            have HW2 : Hid (w.grownBy (w2.setCell ⟨w.heap.size + 1, 0, none⟩ (.slice (some ⟨g2, 0, none⟩) (k + 1) cap2)) (some R)) := grown_set (grown_trans (grown_trans HWd.out hg1 (fun b e => Or.inl e.symm)) hg2 (fun b e => Or.inr (by have := (ho1.lt b e).1; omega))) (Or.inr (Nat.le_succ _))
            clear hl1 hg1 hm1 ho1 hs1 ho2 hg2 hl2 hlt2 hm2 hb1 hne q0 q0a r0 rz m0
            go_wp2
            go_roundw
            case rel => exact ⟨k + 1, _, p6, by omega, by simp, HR6.out, HF2.out, HM2.out, HO2.out, HB2.out, HW2.out⟩
            case measure => simp [intOf]; omega
        · have HC : Hid (c ≠ 0) := hc
          have HE : Hid (mE L p0 = (c, p6)) := mE_of_B (by unfold mB; rw [HA.out]; show rdAt L pa 0 ((nv : Int).toNat * 6) = (c, p6); rw [Int.toNat_natCast, show nv * 6 = k * 6 + 6 + (nv * 6 - (k * 6 + 6)) by omega]; exact rdAt_dead h6 hc _) hc
          clear hc h6
          go_wp2_with fail
          go_region_dies
          all_goals
            refine (placeI_bad R g N pk L _ HL.out hN hN0 HY.out HFd.out HQ.out HC.out).mono ?_
            rintro e w1 ⟨rfl, hf1, hg1⟩
            exact ⟨rfl, Or.inr (by rw [HE.out]; exact ⟨HC.out, rfl, hf1⟩), grown_trans HWd.out hg1 (fun b e => Or.inl e.symm)⟩
      · have hkn : k = nv := by omega
        subst hkn
        have HBm : Hid (mB L p0 = (0, pk)) := by unfold mB; rw [HA.out]; show rdAt L pa 0 ((k : Int).toNat * 6) = (0, pk); rw [Int.toNat_natCast]; exact HR.out
        obtain ⟨c1, v1, pd, hd⟩ : ∃ c v p', mD L p0 = (c, v, p') := ⟨_, _, _, rfl⟩
        have HD : Hid (mD L p0 = (c1, v1, pd)) := hd
        have HD' : Hid (rdCount L pk 0 300 = (c1, v1, pd)) := by have h := hd; unfold mD at h; rw [HBm.out] at h; exact h
        by_cases hc1 : c1 = 0
        · subst hc1
          obtain ⟨nt, rfl⟩ : ∃ n : Nat, v1 = (n : Int) := ⟨v1.toNat, by have := rdCount_le L pk 0 300 (by decide); rw [HD'.out] at this; have h2 : 0 ≤ v1 ∧ v1 ≤ 300 := this; omega⟩
          have hnt : nt ≤ 300 := by have := rdCount_le L pk 0 300 (by decide); rw [HD'.out] at this; have h2 : 0 ≤ (nt : Int) ∧ (nt : Int) ≤ 300 := this; omega
          clear hd
          go_wp2_with fail
          refine (countI_ok R g N pk 300 L _ HL.out hN HY.out HF.out HD'.out).mono ?_
          rintro e w1 ⟨rfl, hl1, hg1⟩
          have HF1 : Hid (Lf w1 R g N pd L) := hl1
          have HW1 : Hid (w.grownBy w1 (some R)) := grown_trans HW.out hg1 (fun b e => Or.inl e.symm)
          have HM1 : Hid (At w1 (w.heap.size + 1) #[v, .slice none 0 0]) := HM.out.grown hg1 (by have := HZ.out; omega)
          have HB1 : Hid (At w1 w.heap.size #[.slice none 0 0, .slice none 0 0]) := HB.out.grown hg1 (by have := HZ.out; omega)
          have HO1 : Hid (OwnI w1 (w.heap.size + 2) 51 6 v k (rdVal L pa 0)) := HO.out.keep fun b e => hg1.block b (HO.out.lt b e).2 (by have := (HO.out.lt b e).1; have := HZ.out; simp; omega)
          clear hl1 hg1 HF HM HB HW HO HR hlt hk
          revert HO1 HM1
          generalize v = vv
          generalize k = nv at *
          intro HM1 HO1
          go_wp2
          go_loopw [18] (fun i wr => ∃ (k : Nat) (v : Value) (pk : Nat), k ≤ nt ∧ i = .int .i64 k ∧ Hid (rdAt L pd 0 (k * 3) = (0, pk)) ∧ Hid (Lf wr R g N pk L) ∧ Hid (At wr (w.heap.size + 1) #[vv, v]) ∧ Hid (OwnI wr (w.heap.size + 2) 53 3 v k (rdVal L pd 0)) ∧ Hid (At wr w.heap.size #[.slice none 0 0, .slice none 0 0]) ∧ Hid (w.grownBy wr (some R)) ∧ Hid (OwnI wr (w.heap.size + 2) 51 6 vv nv (rdVal L pa 0))) (fun i _ => nt - (intOf i).toNat)
          case atStart => exact ⟨0, .slice none 0 0, pd, Nat.zero_le _, rfl, by rw [Nat.zero_mul]; exact rfl, HF1.out, HM1.out, own_nil _ _ _ _ _, HB1.out, HW1.out, HO1.out⟩
          case round =>
            clear HF1 HM1 HB1 HW1 HO1
            rename World => wr
            obtain ⟨k, v, pk, hk, rfl, HR, HF, HM, HO, HB, HW, HOV⟩ := hrel
            by_cases hlt : k < nt
            · skip
              obtain ⟨c, p6, hq⟩ : ∃ c p', rdAt L pk 0 3 = (c, p') := ⟨_, _, rfl⟩
              have HQ : Hid (rdAt L pk 0 3 = (c, p6)) := hq
              have h6 : rdAt L pd 0 (k * 3 + 3) = (c, p6) := (rdAt_then HR.out 3).1.trans hq
              have HVV : Hid (∀ q, rdVal L pk 0 q = rdVal L pd 0 (k * 3 + q)) := fun q => ((rdAt_then HR.out q).2).symm
              have HFd : Hid (Lf wr.drew R g N pk L) := HF.out.drew
              have HMd : Hid (At wr.drew (w.heap.size + 1) #[vv, v]) := HM.out.drew
              have m0 := HMd.out.c 1
              have HWd : Hid (w.grownBy wr.drew (some R)) := grown_drew HW.out
              clear hq
              by_cases hc : c = 0
              · subst hc
                have HR6 : Hid (rdAt L pd 0 ((k + 1) * 3) = (0, p6)) := by rw [Nat.add_mul, Nat.one_mul]; exact h6
                clear h6
                go_wp2_with fail
                go_region_law (first
                  | (go_simp; go_at_call 63; refine (triI_ok R g N pk L _ HL.out hN hN0 HY.out HFd.out (rdVal L pd 0) k HQ.out HVV.out).mono ?_; rintro e w1 ⟨rfl, hl1, hg1⟩; have hm1 : At w1 (w.heap.size + 1) #[vv, v] := HMd.out.grown hg1 (by have := HZ.out; omega); have q0 := hm1.c 1; have q0a : ∀ o, (w1.alloc o).cell? ⟨w.heap.size + 1, 1, none⟩ = some v := (fun o => (hm1.alloc o).c 1); have ho1 : OwnI w1 (w.heap.size + 2) 53 3 v k (rdVal L pd 0) := HO.out.keep fun b e => hg1.block b (HO.out.lt b e).2 (by have := (HO.out.lt b e).1; have := HZ.out; simp; omega); have hs1 : w.heap.size + 2 ≤ w1.heap.size := hm1.sz)
                  | (refine step_append_nums 29 53 3 24 _ Try.underlying29 infoTri rfl (by decide) (by decide) w1 rfl (.tmp 21) (.tmp 24) rfl (w.heap.size + 2) v k (rdVal L pd 0) _ rfl (by simp [Act.eval]) (by simp [Act.eval]) ho1 hs1 (by omega) ?_; intro g2 cap2 w2 ho2 hg2 hl2 hlt2; have hm2 : At w2 (w.heap.size + 1) #[vv, v] := hm1.same (hg2.block _ hm1.sz (fun e => by have := (ho1.lt _ e.symm).1; omega)) hg2.size; have r0 := hm2.c 1; have rz := hm2.fz 1))
                all_goals
                  have hne : ∀ b, b < w.heap.size + 2 → some b ≠ v.ownBlock := fun b hb e => by have := (ho1.lt b e.symm).1; omega
                  have HF2 : Hid (Lf (w2.setCell ⟨w.heap.size + 1, 1, none⟩ (.slice (some ⟨g2, 0, none⟩) (k + 1) cap2)) R g N p6 L) := (hl1.keep (hg2.block R hl1.sz (hne R (by have := HZ.out; omega))) (fun _ hl => hg2.block g hl (hne g (by have := HZ.out; omega))) hg2.size).keep (Deep.blk_setCell_other _ _ _ _ (by have := HZ.out; show R ≠ w.heap.size + 1; omega)) (fun _ _ => Deep.blk_setCell_other _ _ _ _ (by have := HZ.out; show g ≠ w.heap.size + 1; omega)) (by simp)
                  have HM2 : Hid (At (w2.setCell ⟨w.heap.size + 1, 1, none⟩ (.slice (some ⟨g2, 0, none⟩) (k + 1) cap2)) (w.heap.size + 1) #[vv, .slice (some ⟨g2, 0, none⟩) (k + 1) cap2]) := hm2.put2_1 _
                  have HO2 : Hid (OwnI (w2.setCell ⟨w.heap.size + 1, 1, none⟩ (.slice (some ⟨g2, 0, none⟩) (k + 1) cap2)) (w.heap.size + 2) 53 3 (.slice (some ⟨g2, 0, none⟩) (k + 1) cap2) (k + 1) (rdVal L pd 0)) := ho2.keep fun b e => Deep.blk_setCell_other _ _ _ _ (by have := (ho2.lt b e).1; show b ≠ w.heap.size + 1; omega)
                  have hb1 : At w1 w.heap.size #[.slice none 0 0, .slice none 0 0] := HB.out.drew.grown hg1 (by have := HZ.out; omega)
                  have HB2 : Hid (At (w2.setCell ⟨w.heap.size + 1, 1, none⟩ (.slice (some ⟨g2, 0, none⟩) (k + 1) cap2)) w.heap.size #[.slice none 0 0, .slice none 0 0]) := (hb1.same (hg2.block _ hb1.sz (hne _ (by omega))) hg2.size).other (by omega) _ _
                  have HW2 : Hid (w.grownBy (w2.setCell ⟨w.heap.size + 1, 1, none⟩ (.slice (some ⟨g2, 0, none⟩) (k + 1) cap2)) (some R)) := grown_set (grown_trans (grown_trans HWd.out hg1 (fun b e => Or.inl e.symm)) hg2 (fun b e => Or.inr (by have := (ho1.lt b e).1; omega))) (Or.inr (Nat.le_succ _))
                  have hov1 : OwnI w1 (w.heap.size + 2) 51 6 vv nv (rdVal L pa 0) := HOV.out.keep fun b e => hg1.block b (HOV.out.lt b e).2 (by have := (HOV.out.lt b e).1; have := HZ.out; simp; omega)
                  have HOV2 : Hid (OwnI (w2.setCell ⟨w.heap.size + 1, 1, none⟩ (.slice (some ⟨g2, 0, none⟩) (k + 1) cap2)) (w.heap.size + 2) 51 6 vv nv (rdVal L pa 0)) := (hov1.keep fun b e => hg2.block b (hov1.lt b e).2 (fun e2 => own_ne hov1 ho1 (by decide) b e e2.symm)).keep fun b e => Deep.blk_setCell_other _ _ _ _ (by have := (HOV.out.lt b e).1; show b ≠ w.heap.size + 1; omega)
                  clear hl1 hg1 hm1 ho1 hs1 ho2 hg2 hl2 hlt2 hm2 hb1 hne q0 q0a r0 rz m0
                  go_wp2
                  go_roundw
                  case rel => exact ⟨k + 1, _, p6, by omega, by simp, HR6.out, HF2.out, HM2.out, HO2.out, HB2.out, HW2.out, HOV2.out⟩
                  case measure => simp [intOf]; omega
              · have HC : Hid (c ≠ 0) := hc
                have HE : Hid (mE L p0 = (c, p6)) := by unfold mE; rw [HD.out]; show rdAt L pd 0 ((nt : Int).toNat * 3) = (c, p6); rw [Int.toNat_natCast, show nt * 3 = k * 3 + 3 + (nt * 3 - (k * 3 + 3)) by omega]; exact rdAt_dead h6 hc _
                clear hc h6
                go_wp2_with fail
                go_region_dies
                all_goals
                  refine (triI_bad R g N pk L _ HL.out hN hN0 HY.out HFd.out HQ.out HC.out).mono ?_
                  rintro e w1 ⟨rfl, hf1, hg1⟩
                  exact ⟨rfl, Or.inr (by rw [HE.out]; exact ⟨HC.out, rfl, hf1⟩), grown_trans HWd.out hg1 (fun b e => Or.inl e.symm)⟩
            · have hkn : k = nt := by omega
              subst hkn
              have HE : Hid (mE L p0 = (0, pk)) := by unfold mE; rw [HD.out]; show rdAt L pd 0 ((k : Int).toNat * 3) = (0, pk); rw [Int.toNat_natCast]; exact HR.out
              obtain ⟨av, cv, rfl, _, _⟩ := HOV.out.told
              obtain ⟨at', ct, rfl, _, _⟩ := HO.out.told
              obtain ⟨q, qz, qs⟩ := HM.out
              obtain ⟨b, bz, bs⟩ := HB.out
              go_wp2
              refine bodyPost_ret (v := .agg #[.slice av nv cv, .slice at' k ct]) (by simp [results, Try.results46, go_sem, b]) rfl ⟨Or.inl ?_, ?_⟩
              · rw [HE.out, HA.out, HD.out]
                refine ⟨rfl, _, _, rfl, ?_, ?_, ?_⟩
                · show OwnI _ _ _ _ _ (nv : Int).toNat _
                  rw [Int.toNat_natCast]
                  exact HOV.out.keep fun b e => by rw [Deep.blk_setCell_other _ _ _ _ (by have := (HOV.out.lt b e).1; show b ≠ w.heap.size; omega), Deep.blk_setCell_other _ _ _ _ (by have := (HOV.out.lt b e).1; show b ≠ w.heap.size; omega)]
                · show OwnI _ _ _ _ _ (k : Int).toNat _
                  rw [Int.toNat_natCast]
                  exact HO.out.keep fun b e => by rw [Deep.blk_setCell_other _ _ _ _ (by have := (HO.out.lt b e).1; show b ≠ w.heap.size; omega), Deep.blk_setCell_other _ _ _ _ (by have := (HO.out.lt b e).1; show b ≠ w.heap.size; omega)]
                · exact HF.out.keep (by rw [Deep.blk_setCell_other _ _ _ _ (by have := HZ.out; show R ≠ w.heap.size; omega), Deep.blk_setCell_other _ _ _ _ (by have := HZ.out; show R ≠ w.heap.size; omega)]) (fun _ _ => by rw [Deep.blk_setCell_other _ _ _ _ (by have := HZ.out; show g ≠ w.heap.size; omega), Deep.blk_setCell_other _ _ _ _ (by have := HZ.out; show g ≠ w.heap.size; omega)]) (by simp)
              · exact grown_set (grown_set HW.out (Or.inr (Nat.le_refl _))) (Or.inr (Nat.le_refl _))
        · have HC : Hid (c1 ≠ 0) := hc1
          have HE : Hid (mE L p0 = (c1, pd)) := mE_of_D hd hc1
          clear hc1 hd
          go_wp2_with fail
          refine (countI_bad R g N pk 300 L _ HL.out hN HY.out HF.out HD'.out HC.out).mono ?_
          rintro e w1 ⟨rfl, hf1, hg1⟩
          go_wp2
          exact ⟨rfl, Or.inr (by rw [HE.out]; exact ⟨HC.out, rfl, hf1⟩), grown_trans HW.out hg1 (fun b e => Or.inl e.symm)⟩
  · have HC : Hid (c0 ≠ 0) := hc0
    have HE : Hid (mE L p0 = (c0, pa)) := mE_of_A ha hc0
    clear hc0 ha
    go_enter Try.func46, Try.ntmps46
    go_wp2_with fail
    refine (countI_bad R g N p0 200 L _ HL.out hN HY.out HF.out HA.out HC.out).mono ?_
    rintro e w1 ⟨rfl, hf1, hg1⟩
    go_wp2
    exact ⟨rfl, Or.inr (by rw [HE.out]; exact ⟨HC.out, rfl, hf1⟩), grown_trans HW0.out hg1 (fun b e => Or.inl e.symm)⟩
end Go.Proofs.Ytobhljmpdolomaa
