import Derived.Test.YtgcgoehmgaokkaaDoorHsIm4
import Derived.Test.YtgcgoehmgaokkaaDoorHsSp1
import Derived.Deep.RegionWith
import Derived.Deep.RegionHeld3
namespace Go.Proofs.YtgcgoehmgaokkaaDoor
open Go.RowKit

theorem Fs.drew1 {w : World} {n : Nat} {ao : Option Addr} {G : Nat → Ft} (h : Fs w ao n G) : Fs w.drew ao n G := Fs.below h (B := w.heap.size) (Below.refl w.heap.size w).drew (Nat.le_refl _)
theorem FTab.drew1 {w : World} (h : FTab w) : FTab w.drew := h.below (Below.refl w.heap.size w).drew
theorem Fs.less {w : World} {n m : Nat} {ao : Option Addr} {G : Nat → Ft} (h : Fs w ao n G) (hm : m ≤ n) : Fs w ao m G := fun h0 => by
  obtain ⟨b, off, e, hlt, hc⟩ := h (by omega)
  exact ⟨b, off, e, hlt, fun i hi => hc i (by omega)⟩

theorem isBehind_is (G : Nat → Ft) (k : Nat) (no fo : Option Addr) (cn ca : Nat) (w : World) (hk : k ≤ 1048576) (hf : Fs w fo k G) (ht : FTab w) (hp : k = 0 ∨ 1 ≤ (G (k - 1)).id) (x : Bool) (hx : fhead G k = x) :
    Calls Tryd.prog 48 #[.agg #[.int .i64 (G k).id, .int .i64 (G k).kind, .bool (G k).off, .int .i64 (G k).on, .int .i64 (G k).wth, .slice no (G k).n cn], .slice fo k ca] w fun e w' => e = .returned (.bool x) ∧ Below w.heap.size w w' := by
  by_cases hbad : (G k).id ≤ (if k = 0 then 0 else (G (k - 1)).id) ∨ (G k).id > 1000 ∨ (G k).kind < 1 ∨ (G k).kind > 7
  · refine isBehind_bad G k (G k).id (G k).kind (G k).off (G k).on (G k).wth (G k).n cn ca no fo _ rfl w hk hf ht x ?_ hbad
    rw [← hx]
    unfold fhead
    by_cases k0 : k = 0
    · rw [if_pos k0] at hbad
      rcases hbad with h | h | h | h
      · rw [decide_eq_false (show ¬ (1 ≤ (G k).id ∧ (G k).id ≤ 1000) by omega)]
        rfl
      · rw [decide_eq_false (show ¬ (1 ≤ (G k).id ∧ (G k).id ≤ 1000) by omega)]
        rfl
      · rw [decide_eq_false (show ¬ (1 ≤ (G k).kind ∧ (G k).kind ≤ 7) by omega)]
        simp
      · rw [decide_eq_false (show ¬ (1 ≤ (G k).kind ∧ (G k).kind ≤ 7) by omega)]
        simp
    · rw [if_neg k0] at hbad
      rcases hbad with h | h | h | h
      · rw [decide_eq_false k0, decide_eq_false (show ¬ (G (k - 1)).id < (G k).id by omega)]
        simp
      · rw [decide_eq_false (show ¬ (1 ≤ (G k).id ∧ (G k).id ≤ 1000) by omega)]
        rfl
      · rw [decide_eq_false (show ¬ (1 ≤ (G k).kind ∧ (G k).kind ≤ 7) by omega)]
        simp
      · rw [decide_eq_false (show ¬ (1 ≤ (G k).kind ∧ (G k).kind ≤ 7) by omega)]
        simp
  · obtain ⟨kn, hkn⟩ := Int.eq_ofNat_of_zero_le (show 0 ≤ (G k).kind by omega)
    have hkn' : (G k).kind = (kn : Int) := hkn
    have h2 : ¬ (G k).id ≤ (if k = 0 then 0 else (G (k - 1)).id) := fun h => hbad (Or.inl h)
    have h := isBehind_good G k (G k).id kn (G k).off (G k).on (G k).wth (G k).n cn ca no fo _ rfl w hk hf ht x ?_ (by omega) (by omega) h2 (by omega)
    · rw [← hkn'] at h
      exact h
    · rw [← hkn', ← hx]
      unfold fhead
      rw [decide_eq_true (show 1 ≤ (G k).kind ∧ (G k).kind ≤ 7 by omega)]
      by_cases k0 : k = 0
      · rw [if_pos k0] at h2
        rw [decide_eq_true (show 1 ≤ (G k).id ∧ (G k).id ≤ 1000 by omega), decide_eq_true k0]
        rfl
      · rw [if_neg k0] at h2
        have hp' : 1 ≤ (G (k - 1)).id := hp.resolve_left k0
        rw [decide_eq_true (show 1 ≤ (G k).id ∧ (G k).id ≤ 1000 by omega), decide_eq_true (show (G (k - 1)).id < (G k).id by omega), Bool.or_true]
        rfl

theorem areTerms_is (np : Nat) (G : Nat → Ft) (k : Nat) (no : Option Addr) (cn : Nat) (w : World) (hk : 1 ≤ (G k).kind ∧ (G k).kind ≤ 7) (hn : (G k).n ≤ 1048576) (hr : Rd w 5 no (G k).n (G k).T) (ht : FTab w) (x : Bool) (hx : fterms np G k = x) :
    Calls Tryd.prog 49 #[.agg #[.int .i64 (G k).id, .int .i64 (G k).kind, .bool (G k).off, .int .i64 (G k).on, .int .i64 (G k).wth, .slice no (G k).n cn], .int .i64 (np : Int)] w fun e w' => e = .returned (.bool x) ∧ Below w.heap.size w w' := by
  obtain ⟨kn, hkn⟩ := Int.eq_ofNat_of_zero_le (show 0 ≤ (G k).kind by omega)
  have hkn' : (G k).kind = (kn : Int) := hkn
  have h := areTerms_any np (G k).id kn (G k).off (G k).on (G k).wth (G k).n cn no (G k).T w (by omega) (by omega) hn hr ht x (by rw [← hkn']; exact hx)
  rw [← hkn'] at h
  exact h

abbrev HMid (B X : Nat) (po fo no : Option Addr) (np cp nf cf cn : Nat) (f : Ft) (w' : World) : Prop :=
  (w'.cell? ⟨B, 0, none⟩ = some (.slice po np cp) ∧ w'.cell? ⟨B, 1, none⟩ = some (.slice fo nf cf) ∧ w'.cell? ⟨X, 0, none⟩ = some (.int .i64 f.id) ∧ w'.cell? ⟨X, 1, none⟩ = some (.int .i64 f.kind) ∧ w'.cell? ⟨X, 2, none⟩ = some (.bool f.off) ∧ w'.cell? ⟨X, 3, none⟩ = some (.int .i64 f.on) ∧ w'.cell? ⟨X, 4, none⟩ = some (.int .i64 f.wth) ∧ w'.cell? ⟨X, 5, none⟩ = some (.slice no f.n cn)) ∧ B < w'.heap.size ∧ X < w'.heap.size
theorem HMid.drew {B X : Nat} {po fo no : Option Addr} {np cp nf cf cn : Nat} {f : Ft} {w' : World} (h : HMid B X po fo no np cp nf cf cn f w') : HMid B X po fo no np cp nf cf cn f w'.drew := h
theorem HMid.call {B X : Nat} {po fo no : Option Addr} {np cp nf cf cn : Nat} {f : Ft} {w' w1 : World} (h : HMid B X po fo no np cp nf cf cn f w') (hb : Below w'.heap.size w' w1) : HMid B X po fo no np cp nf cf cn f w1 :=
  ⟨⟨(hb.cell h.2.1).trans h.1.1, (hb.cell h.2.1).trans h.1.2.1, (hb.cell h.2.2).trans h.1.2.2.1, (hb.cell h.2.2).trans h.1.2.2.2.1, (hb.cell h.2.2).trans h.1.2.2.2.2.1, (hb.cell h.2.2).trans h.1.2.2.2.2.2.1, (hb.cell h.2.2).trans h.1.2.2.2.2.2.2.1, (hb.cell h.2.2).trans h.1.2.2.2.2.2.2.2⟩, Nat.lt_of_lt_of_le h.2.1 hb.size, Nat.lt_of_lt_of_le h.2.2 hb.size⟩

set_option maxRecDepth 20000 in
set_option maxHeartbeats 8000000 in
theorem implHistoryOk : OkAtI 20 := by
  intro np nf cp cf po fo P G w hp hf hcf hG rp rf ht
  have HP : Hid (Rd (w.alloc (.cells #[.slice po np cp, .slice fo nf cf] 48)) 2 po np P) := Rd.below rp (Joins.below_alloc1 _ _) (Nat.le_refl _)
  have HF : Hid (Fs (w.alloc (.cells #[.slice po np cp, .slice fo nf cf] 48)) fo nf G) := Fs.below rf (Joins.below_alloc1 _ _) (Nat.le_refl _)
  have HT : Hid (FTab (w.alloc (.cells #[.slice po np cp, .slice fo nf cf] 48))) := ht.below (Joins.below_alloc1 _ _)
  have HN : Hid (∀ i, i < nf → (G i).n ≤ 1048576) := hG
  clear rp rf hG ht
  by_cases h1 : np > 6
  · go_enter Tryd.func20, Tryd.ntmps20
    go_wp2
    go_ret
    exact ⟨by rw [show hok np nf P G = false by simp [hok]; omega]; rfl, Joins.below_alloc1 _ _⟩
  go_enter Tryd.func20, Tryd.ntmps20
  go_wp2_with fail
  refine (containsQ_any np cp po P _ hp HP.out).mono ?_
  rintro e w1 ⟨he, hb1⟩
  have HB1 : Hid (Below (w.alloc (.cells #[.slice po np cp, .slice fo nf cf] 48)).heap.size (w.alloc (.cells #[.slice po np cp, .slice fo nf cf] 48)) w1) := hb1
  clear hb1
  rcases he with ⟨rfl, hA⟩ | ⟨rfl, hA⟩
  · have HQS : Hid (∀ j, j < np → qk P j = true) := hA
    clear hA HP
    obtain ⟨m0, m1⟩ := hist_cells HB1.out
    by_cases h2 : nf > 8
    · go_wp2
      go_ret
      exact ⟨by rw [show hok np nf P G = false by simp [hok]; omega]; rfl, (Joins.below_alloc1 _ _).trans (HB1.out.mono (by simp))⟩
    go_wp2
    clear m0 m1
    go_loopg [23] nf (fun gn i wr => ∃ k : Nat, k ≤ nf ∧ gn = nf - k ∧ i = .int .i64 k ∧ Hid (∀ j, j < k → fok np G j = true) ∧ Hid (Below (w.alloc (.cells #[.slice po np cp, .slice fo nf cf] 48)).heap.size (w.alloc (.cells #[.slice po np cp, .slice fo nf cf] 48)) wr))
    case atStart => exact ⟨0, Nat.zero_le _, rfl, rfl, fun j hj => absurd hj (Nat.not_lt_zero _), HB1.out⟩
    case round =>
      clear HB1
      obtain ⟨k, hk, hgk, rfl, HK, HB⟩ := hrel
      by_cases hlt : k < nf
      · obtain ⟨b, off, rfl, hbw, hcell⟩ := (Fs.below HF.out HB.out (Nat.le_refl _)) (by omega)
        obtain ⟨no, cn, ck, hrd⟩ := hcell k hlt
        have c0 : wr.cell? ⟨b, off + k * 6, none⟩ = some (.int .i64 (G k).id) := ck 0 (by omega)
        have c1 : wr.cell? ⟨b, off + k * 6 + 1, none⟩ = some (.int .i64 (G k).kind) := ck 1 (by omega)
        have c2 : wr.cell? ⟨b, off + k * 6 + 2, none⟩ = some (.bool (G k).off) := ck 2 (by omega)
        have c3 : wr.cell? ⟨b, off + k * 6 + 3, none⟩ = some (.int .i64 (G k).on) := ck 3 (by omega)
        have c4 : wr.cell? ⟨b, off + k * 6 + 4, none⟩ = some (.int .i64 (G k).wth) := ck 4 (by omega)
        have c5 : wr.cell? ⟨b, off + k * 6 + 5, none⟩ = some (.slice no (G k).n cn) := ck 5 (by omega)
        have HTr : Hid (Rd (wr.alloc (.cells #[.int .i64 (G k).id, .int .i64 (G k).kind, .bool (G k).off, .int .i64 (G k).on, .int .i64 (G k).wth, .slice no (G k).n cn] 78)) 5 no (G k).n (G k).T) := Rd.below hrd (Joins.below_alloc1 _ _) (Nat.le_refl _)
        have HNk : Hid ((G k).n ≤ 1048576) := HN.out k hlt
        have HFa : Hid (Fs (wr.alloc (.cells #[.int .i64 (G k).id, .int .i64 (G k).kind, .bool (G k).off, .int .i64 (G k).on, .int .i64 (G k).wth, .slice no (G k).n cn] 78)) (some ⟨b, off, none⟩) k G) := (Fs.below HF.out (HB.out.alloc HB.out.size _) (Nat.le_refl _)).less hk
        have HBa : Hid (Below (w.alloc (.cells #[.slice po np cp, .slice (some ⟨b, off, none⟩) nf cf] 48)).heap.size (w.alloc (.cells #[.slice po np cp, .slice (some ⟨b, off, none⟩) nf cf] 48)) (wr.alloc (.cells #[.int .i64 (G k).id, .int .i64 (G k).kind, .bool (G k).off, .int .i64 (G k).on, .int .i64 (G k).wth, .slice no (G k).n cn] 78))) := HB.out.alloc HB.out.size _
        have HAa : Hid (At (wr.alloc (.cells #[.int .i64 (G k).id, .int .i64 (G k).kind, .bool (G k).off, .int .i64 (G k).on, .int .i64 (G k).wth, .slice no (G k).n cn] 78)) wr.heap.size #[.int .i64 (G k).id, .int .i64 (G k).kind, .bool (G k).off, .int .i64 (G k).on, .int .i64 (G k).wth, .slice no (G k).n cn]) := ⟨fun j => by go_simp, fun j => by go_simp, by simp⟩
        have HTa : Hid (FTab (wr.alloc (.cells #[.int .i64 (G k).id, .int .i64 (G k).kind, .bool (G k).off, .int .i64 (G k).on, .int .i64 (G k).wth, .slice no (G k).n cn] 78))) := HT.out.below (HB.out.alloc HB.out.size _)
        have HPr : Hid (k = 0 ∨ 1 ≤ (G (k - 1)).id) := by
          by_cases k0 : k = 0
          · exact Or.inl k0
          · have h := HK.out (k - 1) (by omega)
            unfold fok at h
            simp only [Bool.and_eq_true, decide_eq_true_eq] at h
            exact Or.inr h.1.1.1.1.1.1
        clear hcell ck hrd
        go_upto_region 6 with (fail)
        generalize hwa : wr.alloc (.cells #[.int .i64 (G k).id, .int .i64 (G k).kind, .bool (G k).off, .int .i64 (G k).on, .int .i64 (G k).wth, .slice no (G k).n cn] 78) = wa at HTr HFa HBa HAa HTa ⊢
        generalize hge : wr.heap.size = ge at HAa ⊢
        clear hwa hge c0 c1 c2 c3 c4 c5 hbw HB
        obtain ⟨m0, m1⟩ := hist_cells HBa.out
        obtain ⟨q, _, qs⟩ := HAa.out
        have HS : Hid (HMid w.heap.size ge po (some ⟨b, off, none⟩) no np cp nf cf cn (G k) wa) := ⟨⟨m0, m1, q 0, q 1, q 2, q 3, q 4, q 5⟩, by have := HBa.out.size; simp at this; omega, qs⟩
        have hkc : (k : Int) ≤ cf := by omega
        have hk0 : (0 : Int) ≤ k := by omega
        clear q qs
        obtain ⟨B, hB⟩ : ∃ B, B = fok np G k := ⟨_, rfl⟩
        have HBk : Hid (fok np G k = B) := hB.symm
        clear hB
        go_cut [23, 42] from 23 to 43 (fun i s w' => i = .int .i64 (k : Int) ∧ s = .bool (!B) ∧ Hid (Below (w.alloc (.cells #[.slice po np cp, .slice (some ⟨b, off, none⟩) nf cf] 48)).heap.size (w.alloc (.cells #[.slice po np cp, .slice (some ⟨b, off, none⟩) nf cf] 48)) w'))
        case first =>
          rcases Bool.eq_false_or_eq_true (fhead G k) with hh | hh
          · have HH : Hid (fhead G k = true) := hh
            have HTm : Hid (fterms np G k = B) := by
              unfold Hid
              rw [← HBk.out, fok_eq, hh, Bool.true_and]
            have HKi : Hid (1 ≤ (G k).kind ∧ (G k).kind ≤ 7) := by
              unfold fhead at hh
              simp only [Bool.and_eq_true, decide_eq_true_eq] at hh
              exact hh.1.1.2
            have HSd : Hid (Below wa.heap.size wa wa.drew) := (Below.refl _ _).drew
            clear hh m0 m1
            go_region_held3 (fun w' => HMid w.heap.size ge po (some ⟨b, off, none⟩) no np cp nf cf cn (G k) w') (first | with_reducible exact HMid.drew HS.out | with_reducible exact HMid.call (by assumption) (by assumption))
              (first
                | (go_at_call 48; refine (isBehind_is G k no _ cn cf _ (by omega) (Fs.drew1 HFa.out) (FTab.drew1 HTa.out) HPr.out true HH.out).mono ?_; rintro e w2 ⟨rfl, hb2⟩)
                | (go_at_call 49; refine (areTerms_is np G k no cn _ HKi.out HNk.out (Rd.below (Rd.drew1 HTr.out) hb2 (Nat.le_refl _)) ((FTab.drew1 HTa.out).below hb2) B HTm.out).mono ?_; rintro e w3 ⟨rfl, hb3⟩))
            go_wp2_with fail
            go_meet
            case rel => exact ⟨rfl, rfl, (HBa.out.drew.trans (hb2.mono (by have := HBa.out.size; simp at this ⊢; omega))).trans (hb3.mono (by have := HBa.out.size; have := hb2.size; simp at *; omega))⟩
          · obtain rfl : B = false := by
              rw [← HBk.out, fok_eq, hh]
              rfl
            have HH : Hid (fhead G k = false) := hh
            obtain ⟨⟨e0, e1, e2, e3, e4, e5, e6, e7⟩, _, _⟩ := HS.out
            clear hh m0 m1
            first
              | (go_region_with (go_at_call 48; refine (isBehind_is G k no _ cn cf _ (by omega) (Fs.drew1 HFa.out) (FTab.drew1 HTa.out) HPr.out false HH.out).mono ?_; rintro e w2 ⟨rfl, hb2⟩))
              | fail
            all_goals (try go_wp2_with fail)
            all_goals go_meet
            all_goals exact ⟨rfl, rfl, HBa.out.drew.trans (hb2.mono (by have := HBa.out.size; simp at this ⊢; omega))⟩
        case rest =>
          clear HBa HAa HFa HTr HTa HS m0 m1
          obtain ⟨rfl, rfl, HBa⟩ := hcut
          cases B with
          | false =>
            go_wp2
            go_ret
            exact ⟨by rw [hok_f hlt HBk.out]; rfl, (Joins.below_alloc1 _ _).trans (HBa.out.mono (by simp))⟩
          | true =>
            go_wp2
            go_roundg (nf - (k + 1))
            case measure => omega
            case rel => exact ⟨k + 1, by omega, rfl, by simp, all_succ HK.out HBk.out, HBa.out⟩
      · go_wp2
        go_ret
        exact ⟨by rw [hok_yes (by omega) (by omega) HQS.out (fun j hj => HK.out j (by omega))]; rfl, (Joins.below_alloc1 _ _).trans (HB.out.mono (by simp))⟩
  · have HE : Hid (hok np nf P G = false) := by
      obtain ⟨j, hj, hjf⟩ := hA
      exact hok_q hj hjf
    clear hA
    go_wp2
    go_ret
    exact ⟨by rw [HE.out]; rfl, (Joins.below_alloc1 _ _).trans (HB1.out.mono (by simp))⟩
end Go.Proofs.YtgcgoehmgaokkaaDoor
