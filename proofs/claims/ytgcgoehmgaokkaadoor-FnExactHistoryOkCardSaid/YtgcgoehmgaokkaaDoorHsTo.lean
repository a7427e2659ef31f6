import Derived.Test.YtgcgoehmgaokkaaDoorHsSz
namespace Go.Proofs.YtgcgoehmgaokkaaDoor
open Go.RowKit

/-- What toHistory lays. -/
def HLaid (w w' : World) (v : Value) (np nf : Nat) (P : Nat → Int) (G : Nat → Ft) : Prop :=
  ∃ g h hh, v = .agg #[.slice (some ⟨g, 0, none⟩) np np, .slice (some ⟨h, 0, none⟩) nf nf] ∧ w.heap.size ≤ g ∧ w.heap.size ≤ h ∧
    w'.rowIs g 54 (np * 2) (fun j => .int .i64 (P j)) ∧ w'.rowIs h 78 (nf * 6) (rowF G hh nf) ∧ TermsAt w' w.heap.size G hh nf

theorem At.set2_0 {w : World} {b : Nat} {x0 x1 : Value} (h : At w b #[x0, x1]) (y : Value) : At (w.setCell ⟨b, 0, none⟩ y) b #[y, x1] := by
  obtain ⟨c, fz, sz⟩ := h
  have c0 := c 0
  have c1 := c 1
  refine ⟨fun j => ?_, fun j => by have := fz j; go_simp, by simpa using sz⟩
  match j with
  | 0 => go_simp
  | 1 => go_simp
  | j + 2 => have := c (j + 2); go_simp
theorem At.set2_1 {w : World} {b : Nat} {x0 x1 : Value} (h : At w b #[x0, x1]) (y : Value) : At (w.setCell ⟨b, 1, none⟩ y) b #[x0, y] := by
  obtain ⟨c, fz, sz⟩ := h
  have c0 := c 0
  have c1 := c 1
  refine ⟨fun j => ?_, fun j => by have := fz j; go_simp, by simpa using sz⟩
  match j with
  | 0 => go_simp
  | 1 => go_simp
  | j + 2 => have := c (j + 2); go_simp

set_option maxHeartbeats 1000000 in
theorem toHistory_any (np nf cp cf : Nat) (po fo : Option Addr) (P : Nat → Int) (G : Nat → Ft) (w : World) (hp : np ≤ 1048576) (hf : nf ≤ 1048576) (hG : ∀ i, i < nf → (G i).n ≤ 1048576) (rp : Rd w 2 po np P) (rf : Fs w fo nf G) :
    Calls Tryd.prog 19 #[.agg #[.slice po np cp, .slice fo nf cf]] w fun e w' => ∃ v, e = .returned v ∧ HLaid w w' v np nf P G ∧ Below w.heap.size w w' := by
  have HV : Hid (Rd (((w.alloc (.cells #[.slice po np cp, .slice fo nf cf] 42)).alloc (.cells #[.slice none 0 0, .slice none 0 0] 48)).alloc (.cells #[.slice none 0 0, .slice none 0 0] 48)) 2 po np P) := Rd.below rp (Joins.below_alloc3 _ _ _ _) (Nat.le_refl _)
  have HT : Hid (Fs w fo nf G) := rf
  have HN : Hid _ := hG
  have HA : Hid (At (((w.alloc (.cells #[.slice po np cp, .slice fo nf cf] 42)).alloc (.cells #[.slice none 0 0, .slice none 0 0] 48)).alloc (.cells #[.slice none 0 0, .slice none 0 0] 48)) (w.heap.size + 1) #[.slice none 0 0, .slice none 0 0] ∧ At (((w.alloc (.cells #[.slice po np cp, .slice fo nf cf] 42)).alloc (.cells #[.slice none 0 0, .slice none 0 0] 48)).alloc (.cells #[.slice none 0 0, .slice none 0 0] 48)) (w.heap.size + 1 + 1) #[.slice none 0 0, .slice none 0 0] ∧ At (((w.alloc (.cells #[.slice po np cp, .slice fo nf cf] 42)).alloc (.cells #[.slice none 0 0, .slice none 0 0] 48)).alloc (.cells #[.slice none 0 0, .slice none 0 0] 48)) w.heap.size #[.slice po np cp, .slice fo nf cf]) := ⟨⟨fun j => by go_simp, fun j => by go_simp, by simp⟩, ⟨fun j => by go_simp, fun j => by go_simp, by simp⟩, ⟨fun j => by go_simp, fun j => by go_simp, by simp; omega⟩⟩
  clear rp rf hG
  go_enter Tryd.func19, Tryd.ntmps19
  go_wp2_with fail
  refine (toQS_any np cp po P _ hp HV.out).mono ?_
  rintro e w1 ⟨g, rfl, hg, hrow, hb1⟩
  have HG : Hid (w.heap.size + 1 + 1 + 1 ≤ g) := by simp at hg; exact hg
  have HR : Hid (w1.rowIs g 54 (np * 2) (fun j => .int .i64 (P j))) := hrow
  have HB1 : Hid (Below w.heap.size w w1) := (Joins.below_alloc3 _ _ _ _).trans (hb1.mono (by simp; omega))
  have HA1 : Hid (At w1 (w.heap.size + 1) #[.slice none 0 0, .slice none 0 0] ∧ At w1 (w.heap.size + 1 + 1) #[.slice none 0 0, .slice none 0 0] ∧ At w1 w.heap.size #[.slice po np cp, .slice fo nf cf]) := ⟨HA.out.1.below hb1 HA.out.1.sz, HA.out.2.1.below hb1 HA.out.2.1.sz, HA.out.2.2.below hb1 HA.out.2.2.sz⟩
  clear hg hrow hb1 HV HA
  have HT1 : Hid (Fs (w1.setCell ⟨w.heap.size + 1 + 1, 0, none⟩ (.slice (some ⟨g, 0, none⟩) np np)) fo nf G) := Fs.below HT.out (HB1.out.setCell (p := ⟨w.heap.size + 1 + 1, 0, none⟩) (by simp; omega) _) (Nat.le_refl _)
  obtain ⟨p, _, _⟩ := HA1.out.2.2
  obtain ⟨q, qf, qs⟩ := HA1.out.2.1
  go_wp2_with fail
  refine (toFeatS_any nf cf fo G _ hf HN.out HT1.out).mono ?_
  rintro e w2 ⟨h, hh, rfl, hle, hrow, hts, hb2⟩
  have HH : Hid (w1.heap.size ≤ h) := by simp at hle; exact hle
  have HR2 : Hid (w2.rowIs h 78 (nf * 6) (rowF G hh nf)) := hrow
  have HTs : Hid (TermsAt w2 w1.heap.size G hh nf) := by simpa [Hid] using hts
  have HB2 : Hid (Below w.heap.size w w2) := (HB1.out.setCell (p := ⟨w.heap.size + 1 + 1, 0, none⟩) (by simp; omega) _).trans (hb2.mono (by have := HB1.out.size; simpa using this))
  have HRg : Hid (w2.rowIs g 54 (np * 2) (fun j => .int .i64 (P j))) := rowIs_below (HR.out.setOther (a := ⟨w.heap.size + 1 + 1, 0, none⟩) (by have := HG.out; simp; omega) _) hb2 (by simpa using HR.out.lt)
  have HA2 : Hid (At w2 (w.heap.size + 1) #[.slice none 0 0, .slice none 0 0] ∧ At w2 (w.heap.size + 1 + 1) #[.slice (some ⟨g, 0, none⟩) np np, .slice none 0 0]) := by
    have k0 := HA1.out.1.sz
    have k1 := HA1.out.2.1.sz
    exact ⟨(HA1.out.1.other (g := w.heap.size + 1 + 1) (by omega) 0 _).below hb2 (by simpa using k0), (HA1.out.2.1.set2_0 _).below hb2 (by simpa using k1)⟩
  have HS : Hid (w.heap.size + 1 + 1 < w1.heap.size) := HA1.out.2.1.sz
  clear hle hrow hts hb2 p q qf qs HA1 HT1 HR HB1 HT HN
  obtain ⟨q, qf, qs⟩ := HA2.out.2
  obtain ⟨r, rf, rs⟩ := HA2.out.1
  go_wp2
  refine bodyPost_ret (v := .agg #[.slice (some ⟨g, 0, none⟩) np np, .slice (some ⟨h, 0, none⟩) nf nf]) (by simp [results, Tryd.results19, go_sem, r]) rfl ⟨_, rfl, ⟨g, h, hh, rfl, ?_, ?_, ?_, ?_, ?_⟩, ?_⟩
  · have := HG.out; omega
  · have := HH.out; have := HS.out; omega
  · exact ((HRg.out.setOther (a := ⟨w.heap.size + 1 + 1, 1, none⟩) (by have := HG.out; simp; omega) _).setOther (a := ⟨w.heap.size + 1, 0, none⟩) (by have := HG.out; simp; omega) _).setOther (a := ⟨w.heap.size + 1, 1, none⟩) (by have := HG.out; simp; omega) _
  · exact ((HR2.out.setOther (a := ⟨w.heap.size + 1 + 1, 1, none⟩) (by have := HH.out; have := HS.out; simp; omega) _).setOther (a := ⟨w.heap.size + 1, 0, none⟩) (by have := HH.out; have := HS.out; simp; omega) _).setOther (a := ⟨w.heap.size + 1, 1, none⟩) (by have := HH.out; have := HS.out; simp; omega) _
  · intro i hi
    have h1 := (HTs.out i hi).1
    have hs := HS.out
    exact ⟨by omega, (((HTs.out i hi).2.setOther (a := ⟨w.heap.size + 1 + 1, 1, none⟩) (by simp; omega) _).setOther (a := ⟨w.heap.size + 1, 0, none⟩) (by simp; omega) _).setOther (a := ⟨w.heap.size + 1, 1, none⟩) (by simp; omega) _⟩
  · exact ((HB2.out.setCell (p := ⟨w.heap.size + 1 + 1, 1, none⟩) (by simp; omega) _).setCell (p := ⟨w.heap.size + 1, 0, none⟩) (by simp) _).setCell (p := ⟨w.heap.size + 1, 1, none⟩) (by simp) _

theorem eqHistory_same (np nf cp cf dp df : Nat) (po fo qo go : Option Addr) (P : Nat → Int) (G : Nat → Ft) (w : World) (hp : np ≤ 1048576) (hf : nf ≤ 1048576) (hG : ∀ i, i < nf → (G i).n ≤ 1048576) (a0 : Rd w 2 po np P) (a1 : Fs w fo nf G) (b0 : Rd w 2 qo np P) (b1 : Fs w go nf G) :
    Calls Tryd.prog 21 #[.agg #[.slice po np cp, .slice fo nf cf], .agg #[.slice qo np dp, .slice go nf df]] w fun e w' => e = .returned (.bool true) ∧ Below w.heap.size w w' := by
  have H0 : Hid (Rd ((w.alloc (.cells #[.slice po np cp, .slice fo nf cf] 48)).alloc (.cells #[.slice qo np dp, .slice go nf df] 48)) 2 po np P) := Rd.below a0 (Joins.below_alloc2 _ _ _) (Nat.le_refl _)
  have H1 : Hid (Rd ((w.alloc (.cells #[.slice po np cp, .slice fo nf cf] 48)).alloc (.cells #[.slice qo np dp, .slice go nf df] 48)) 2 qo np P) := Rd.below b0 (Joins.below_alloc2 _ _ _) (Nat.le_refl _)
  have H2 : Hid (Fs ((w.alloc (.cells #[.slice po np cp, .slice fo nf cf] 48)).alloc (.cells #[.slice qo np dp, .slice go nf df] 48)) fo nf G) := Fs.below a1 (Joins.below_alloc2 _ _ _) (Nat.le_refl _)
  have H3 : Hid (Fs ((w.alloc (.cells #[.slice po np cp, .slice fo nf cf] 48)).alloc (.cells #[.slice qo np dp, .slice go nf df] 48)) go nf G) := Fs.below b1 (Joins.below_alloc2 _ _ _) (Nat.le_refl _)
  have HN : Hid _ := hG
  clear a0 a1 b0 b1 hG
  go_enter Tryd.func21, Tryd.ntmps21
  go_wp2_with fail
  refine (eqQS_same np cp dp po qo P _ hp H0.out H1.out).mono ?_
  rintro e w1 ⟨rfl, hb1⟩
  obtain ⟨hc1, hf1⟩ := bcell hb1
  have HB1 : Hid (Below _ _ w1) := hb1
  have G2 : Hid (Fs w1 fo nf G) := Fs.below H2.out hb1 (Nat.le_refl _)
  have G3 : Hid (Fs w1 go nf G) := Fs.below H3.out hb1 (Nat.le_refl _)
  clear hb1 H0 H1 H2 H3
  go_wp2_with fail
  refine (eqFeatS_same nf cf df fo go G _ hf HN.out G2.out G3.out).mono ?_
  rintro e w2 ⟨rfl, hb2⟩
  have HB2 : Hid (Below _ _ w2) := HB1.out.trans (hb2.mono HB1.out.size)
  clear hb2 HB1 hc1 hf1
  go_wp2
  go_ret
  exact ⟨rfl, (Joins.below_alloc2 _ _ _).trans (HB2.out.mono (by simp; omega))⟩
end Go.Proofs.YtgcgoehmgaokkaaDoor
