import Derived.Test.YtgcgoehmgaokkaaDoorHsSp1
import Derived.Test.YtgcgoehmgaokkaaDoorHsTab
import Derived.Deep.CutRange
import Derived.Deep.LoopGhost
import Derived.Deep.RegionWith
import Derived.BigQuiet
import Derived.Deep.RegionHeld3
namespace Go.Proofs.YtgcgoehmgaokkaaDoor
open Go.RowKit

theorem Below.drewN {B : Nat} {w w' : World} (h : Below B w w') (n : Nat) : Below B w (w'.drewN n) := by
  induction n with
  | zero => exact h
  | succ n ih => exact ih.drew
theorem At.drewN {w : World} {b : Nat} {A : Array Value} (h : At w b A) (n : Nat) : At (w.drewN n) b A := h.below (Below.drewN (Below.refl w.heap.size w) n) h.sz
theorem Fs.drewN {w : World} {n : Nat} {ao : Option Addr} {G : Nat → Ft} (h : Fs w ao n G) (k : Nat) : Fs (w.drewN k) ao n G := Fs.below h (Below.drewN (Below.refl w.heap.size w) k) (Nat.le_refl _)
theorem Rd.drewN {w : World} {S n : Nat} {ao : Option Addr} {F : Nat → Int} (h : Rd w S ao n F) (k : Nat) : Rd (w.drewN k) S ao n F := Rd.below h (Below.drewN (Below.refl w.heap.size w) k) (Nat.le_refl _)
theorem l19Count_is (k : Int) (n : Nat) (w : World) (x : Bool) (hn : n ≤ 1048576) (hx : cnt k n = x) : Calls Tryd.prog 41 #[.int .i64 k, .int .i64 n] w fun e w' => e = .returned (.bool x) ∧ w' = w := by
  subst hx
  exact l19Count_any k n w hn
theorem l19Uses_is (k : Int) (u1 u2 : Bool) (w : World) (h1 : usesOn k = u1) (h2 : usesWith k = u2) : Calls Tryd.prog 42 #[.int .i64 k] w fun e w' => e = .returned (.tuple #[.bool u1, .bool u2]) ∧ w' = w := by
  subst h1 h2
  exact l19Uses_any k w
theorem specQOk_is (n d : Int) (x : Bool) (hx : qok n d = x) (w : World) : Calls Tryd.prog 25 #[.agg #[.int .i64 n, .int .i64 d]] w fun e w' => e = .returned (.bool x) ∧ Below w.heap.size w w' := by
  subst hx
  exact specQOk_any n d w

set_option maxRecDepth 20000 in
set_option maxHeartbeats 40000000 in
theorem specHistoryOk_any : OkAt 18 := by
  intro np nf cp cf po fo P G w hp hf hG rp rf
  have HP : Hid (Rd (w.alloc (.cells #[.slice po np cp, .slice fo nf cf] 48)) 2 po np P) := Rd.below rp (Joins.below_alloc1 _ _) (Nat.le_refl _)
  have HF : Hid (Fs (w.alloc (.cells #[.slice po np cp, .slice fo nf cf] 48)) fo nf G) := Fs.below rf (Joins.below_alloc1 _ _) (Nat.le_refl _)
  have HN : Hid (∀ i, i < nf → (G i).n ≤ 1048576) := hG
  clear rp rf hG
  by_cases h1 : np > 6
  · go_enter Tryd.func18, Tryd.ntmps18
    go_wp2
    go_ret
    exact ⟨by rw [show hok np nf P G = false by simp [hok]; omega]; rfl, Joins.below_alloc1 _ _⟩
  by_cases h2 : nf > 8
  · go_enter Tryd.func18, Tryd.ntmps18
    go_wp2
    go_ret
    exact ⟨by rw [show hok np nf P G = false by simp [hok]; omega]; rfl, Joins.below_alloc1 _ _⟩
  go_enter Tryd.func18, Tryd.ntmps18
  go_wp2
  go_loopw [3] (fun i wr => ∃ k : Nat, k ≤ np ∧ i = .int .i64 k ∧ Hid (∀ j, j < k → qk P j = true) ∧ Hid (Below (w.alloc (.cells #[.slice po np cp, .slice fo nf cf] 48)).heap.size (w.alloc (.cells #[.slice po np cp, .slice fo nf cf] 48)) wr)) (fun i _ => np - (intOf i).toNat)
  case atStart => exact ⟨0, Nat.zero_le _, rfl, fun j hj => absurd hj (Nat.not_lt_zero _), Below.refl _ _⟩
  case round =>
    obtain ⟨k, hk, rfl, HK, HB⟩ := hrel
    obtain ⟨m0, m1⟩ := hist_cells HB.out
    by_cases hlt : k < np
    · obtain ⟨b, off, rfl, hbw, hcell⟩ := (Rd.below HP.out HB.out (Nat.le_refl _)) (by omega)
      have c0 : wr.cell? ⟨b, off + k * 2, none⟩ = some (.int .i64 (P (k * 2))) := hcell (k * 2) (by omega)
      have c1 : wr.cell? ⟨b, off + k * 2 + 1, none⟩ = some (.int .i64 (P (k * 2 + 1))) := hcell (k * 2 + 1) (by omega)
      clear hcell
      rcases Bool.eq_false_or_eq_true (qk P k) with hq | hq
      · have HQ : Hid (qk P k = true) := hq
        clear hq
        go_wp2_with fail
        refine (specQOk_is _ _ _ HQ.out _).mono ?_
        rintro e w1 ⟨rfl, hb1⟩
        have HB1 : Hid (Below _ _ w1) := HB.out.trans (hb1.mono HB.out.size)
        clear hb1 HB c0 c1 m0 m1
        go_wp2
        go_roundw
        case rel => exact ⟨k + 1, by omega, by simp, all_succ HK.out HQ.out, HB1.out⟩
        case measure => simp [intOf]; omega
      · have HQ : Hid (qk P k = false) := hq
        clear hq
        go_wp2_with fail
        refine (specQOk_is _ _ _ HQ.out _).mono ?_
        rintro e w1 ⟨rfl, hb1⟩
        have HB1 : Hid (Below _ _ w1) := HB.out.trans (hb1.mono HB.out.size)
        clear hb1 HB c0 c1 m0 m1
        go_wp2
        go_ret
        exact ⟨by rw [hok_q hlt HQ.out]; rfl, (Joins.below_alloc1 _ _).trans (HB1.out.mono (by simp))⟩
    · have HQS : Hid (∀ j, j < np → qk P j = true) := fun j hj => HK.out j (by omega)
      clear HK HP
      go_wp2
      clear m0 m1
      go_loopg [4] nf (fun gn i wr => ∃ k : Nat, k ≤ nf ∧ gn = nf - k ∧ i = .int .i64 k ∧ Hid (∀ j, j < k → fok np G j = true) ∧ Hid (Below (w.alloc (.cells #[.slice po np cp, .slice fo nf cf] 48)).heap.size (w.alloc (.cells #[.slice po np cp, .slice fo nf cf] 48)) wr))
      case atStart => exact ⟨0, Nat.zero_le _, rfl, rfl, fun j hj => absurd hj (Nat.not_lt_zero _), HB.out⟩
      case round =>
        clear HB
        obtain ⟨k, hk, hgk, rfl, HK, HB⟩ := hrel
        obtain ⟨m0, m1⟩ := hist_cells HB.out
        by_cases hlt : k < nf
        · obtain ⟨b, off, rfl, hbw, hcell⟩ := (Fs.below HF.out HB.out (Nat.le_refl _)) (by omega)
          obtain ⟨no, cn, ck, hrd⟩ := hcell k hlt
          have c0 : wr.cell? ⟨b, off + k * 6, none⟩ = some (.int .i64 (G k).id) := ck 0 (by omega)
          have c1 : wr.cell? ⟨b, off + k * 6 + 1, none⟩ = some (.int .i64 (G k).kind) := ck 1 (by omega)
          have c2 : wr.cell? ⟨b, off + k * 6 + 2, none⟩ = some (.bool (G k).off) := ck 2 (by omega)
          have c3 : wr.cell? ⟨b, off + k * 6 + 3, none⟩ = some (.int .i64 (G k).on) := ck 3 (by omega)
          have c4 : wr.cell? ⟨b, off + k * 6 + 4, none⟩ = some (.int .i64 (G k).wth) := ck 4 (by omega)
          have c5 : wr.cell? ⟨b, off + k * 6 + 5, none⟩ = some (.slice no (G k).n cn) := ck 5 (by omega)
          have HTr : Hid (Rd (wr.alloc (.cells #[.int .i64 (G k).id, .int .i64 (G k).kind, .bool (G k).off, .int .i64 (G k).on, .int .i64 (G k).wth, .slice no (G k).n cn] 78)) 5 no (G k).n (G k).T) := Rd.below hrd (Joins.below_alloc1 _ _) (Nat.le_refl _)
          have hNk : (G k).n ≤ 1048576 := HN.out k hlt
          have HFa : Hid (Fs (wr.alloc (.cells #[.int .i64 (G k).id, .int .i64 (G k).kind, .bool (G k).off, .int .i64 (G k).on, .int .i64 (G k).wth, .slice no (G k).n cn] 78)) (some ⟨b, off, none⟩) nf G) := Fs.below HF.out (HB.out.alloc HB.out.size _) (Nat.le_refl _)
          have HBa : Hid (Below (w.alloc (.cells #[.slice po np cp, .slice (some ⟨b, off, none⟩) nf cf] 48)).heap.size (w.alloc (.cells #[.slice po np cp, .slice (some ⟨b, off, none⟩) nf cf] 48)) (wr.alloc (.cells #[.int .i64 (G k).id, .int .i64 (G k).kind, .bool (G k).off, .int .i64 (G k).on, .int .i64 (G k).wth, .slice no (G k).n cn] 78))) := HB.out.alloc HB.out.size _
          have HAa : Hid (At (wr.alloc (.cells #[.int .i64 (G k).id, .int .i64 (G k).kind, .bool (G k).off, .int .i64 (G k).on, .int .i64 (G k).wth, .slice no (G k).n cn] 78)) wr.heap.size #[.int .i64 (G k).id, .int .i64 (G k).kind, .bool (G k).off, .int .i64 (G k).on, .int .i64 (G k).wth, .slice no (G k).n cn]) := ⟨fun j => by go_simp, fun j => by go_simp, by simp⟩
          have HPv : Hid (0 < k → (wr.alloc (.cells #[.int .i64 (G k).id, .int .i64 (G k).kind, .bool (G k).off, .int .i64 (G k).on, .int .i64 (G k).wth, .slice no (G k).n cn] 78)).cell? ⟨b, off + (k - 1) * 6, none⟩ = some (.int .i64 (G (k - 1)).id)) := fun h0 => by
            obtain ⟨_, _, dk, _⟩ := hcell (k - 1) (by omega)
            exact ((Joins.below_alloc1 wr _).cell (p := ⟨b, off + (k - 1) * 6, none⟩) hbw).trans (dk 0 (by omega))
          clear hcell ck hrd
          go_wp2_with fail
          generalize hwa : wr.alloc (.cells #[.int .i64 (G k).id, .int .i64 (G k).kind, .bool (G k).off, .int .i64 (G k).on, .int .i64 (G k).wth, .slice no (G k).n cn] 78) = wa at HTr HFa HBa HAa HPv ⊢
          generalize hge : wr.heap.size = ge at HAa ⊢
          clear hwa hge c0 c1 c2 c3 c4 c5 m0 m1 hbw HB
          obtain ⟨B1, hB1⟩ : ∃ B : Bool, B = (decide (1 ≤ (G k).id ∧ (G k).id ≤ 1000) && (decide (k = 0) || decide ((G (k - 1)).id < (G k).id)) && cnt (G k).kind (G k).n) := ⟨_, rfl⟩
          obtain ⟨B2, hB2⟩ : ∃ B : Bool, B = (refok G (usesOn (G k).kind) (G k).on k && refok G (usesWith (G k).kind) (G k).wth k) := ⟨_, rfl⟩
          have HFok : Hid (fok np G k = (B1 && B2 && (List.range (G k).n).all (tk np (G k).T))) := by
            unfold Hid
            rw [hB1, hB2]
            unfold fok
            cases refok G (usesOn (G k).kind) (G k).on k <;> cases refok G (usesWith (G k).kind) (G k).wth k <;> simp
          have HB1 : Hid (B1 = (decide (1 ≤ (G k).id ∧ (G k).id ≤ 1000) && (decide (k = 0) || decide ((G (k - 1)).id < (G k).id)) && cnt (G k).kind (G k).n)) := hB1
          have HB2 : Hid (B2 = (refok G (usesOn (G k).kind) (G k).on k && refok G (usesWith (G k).kind) (G k).wth k)) := hB2
          clear hB1 hB2
          go_cut [78] from 34 to 168 (fun s w' => s = .bool (!B1) ∧ Hid (Below (w.alloc (.cells #[.slice po np cp, .slice (some ⟨b, off, none⟩) nf cf] 48)).heap.size (w.alloc (.cells #[.slice po np cp, .slice (some ⟨b, off, none⟩) nf cf] 48)) w') ∧ Hid (At w' ge #[.int .i64 (G k).id, .int .i64 (G k).kind, .bool (G k).off, .int .i64 (G k).on, .int .i64 (G k).wth, .slice no (G k).n cn]) ∧ Hid (Fs w' (some ⟨b, off, none⟩) nf G) ∧ Hid (Rd w' 5 no (G k).n (G k).T))
          case first =>
            obtain ⟨m0, m1⟩ := hist_cells HBa.out
            obtain ⟨q, _, _⟩ := HAa.out
            have c0 := q 0
            have c1 := q 1
            have c5 := q 5
            clear q
            by_cases a1 : (G k).id < 1
            · obtain rfl : B1 = false := by
                rw [HB1.out, decide_eq_false (by omega)]
                rfl
              have d1 : decide ((G k).id < 1) = true := decide_eq_true a1
              go_quiet (fail)
              go_wp2_with fail
              go_meet
              case rel => exact ⟨rfl, Below.drewN HBa.out _, At.drewN HAa.out _, Fs.drewN HFa.out _, Rd.drewN HTr.out _⟩
            have d1 : decide ((G k).id < 1) = false := decide_eq_false a1
            by_cases a2 : (G k).id > 1000
            · obtain rfl : B1 = false := by
                rw [HB1.out, decide_eq_false (by omega)]
                rfl
              have d2 : decide (1000 < (G k).id) = true := decide_eq_true a2
              go_quiet (fail)
              go_wp2_with fail
              go_meet
              case rel => exact ⟨rfl, Below.drewN HBa.out _, At.drewN HAa.out _, Fs.drewN HFa.out _, Rd.drewN HTr.out _⟩
            have d2 : decide (1000 < (G k).id) = false := decide_eq_false a2
            have HB1' : Hid (B1 = ((decide (k = 0) || decide ((G (k - 1)).id < (G k).id)) && cnt (G k).kind (G k).n)) := by
              unfold Hid
              rw [HB1.out, decide_eq_true (show 1 ≤ (G k).id ∧ (G k).id ≤ 1000 by omega), Bool.true_and]
            by_cases k0 : k = 0
            · have d3 : decide (0 < k) = false := decide_eq_false (by omega)
              have HC : Hid (cnt (G k).kind (G k).n = B1) := by
                unfold Hid
                rw [HB1'.out, decide_eq_true k0, Bool.true_or, Bool.true_and]
              clear k0
              go_quiet (first | (go_at_call 41; exact Calls.quiet_of_same (l19Count_is _ _ _ _ hNk HC.out)))
              go_wp2_with fail
              go_meet
              case rel => exact ⟨rfl, Below.drewN HBa.out _, At.drewN HAa.out _, Fs.drewN HFa.out _, Rd.drewN HTr.out _⟩
            · have cpv := HPv.out (by omega)
              have d3 : decide (0 < k) = true := decide_eq_true (by omega)
              have hwrap : IntKind.i64.wrap ((k : Int) - 1) = ((k - 1 : Nat) : Int) := by
                rw [IntKind.wrap_i64]
                omega
              have hm1 : ((k - 1 : Nat) : Int) < nf := by omega
              by_cases a3 : (G k).id ≤ (G (k - 1)).id
              · obtain rfl : B1 = false := by
                  rw [HB1'.out, decide_eq_false k0, decide_eq_false (by omega)]
                  rfl
                have d4 : decide ((G k).id ≤ (G (k - 1)).id) = true := decide_eq_true a3
                clear k0
                generalize hm : k - 1 = m at *
                go_quiet (fail)
                go_wp2_with fail
                go_meet
                case rel => exact ⟨rfl, Below.drewN HBa.out _, At.drewN HAa.out _, Fs.drewN HFa.out _, Rd.drewN HTr.out _⟩
              · have HC : Hid (cnt (G k).kind (G k).n = B1) := by
                  unfold Hid
                  rw [HB1'.out, decide_eq_true (show (G (k - 1)).id < (G k).id by omega), Bool.or_true, Bool.true_and]
                have d4 : decide ((G k).id ≤ (G (k - 1)).id) = false := decide_eq_false a3
                clear k0
                generalize hm : k - 1 = m at *
                go_quiet (first | (go_at_call 41; exact Calls.quiet_of_same (l19Count_is _ _ _ _ hNk HC.out)))
                go_wp2_with fail
                go_meet
                case rel => exact ⟨rfl, Below.drewN HBa.out _, At.drewN HAa.out _, Fs.drewN HFa.out _, Rd.drewN HTr.out _⟩
          case rest =>
            clear HBa HAa HFa HTr HPv HB1
            obtain ⟨rfl, HBa, HAa, HFa, HTr⟩ := hcut
            cases B1 with
            | false =>
              have HFk : Hid (fok np G k = false) := HFok.out
              go_wp2
              go_ret
              exact ⟨by rw [hok_f hlt HFk.out]; rfl, (Joins.below_alloc1 _ _).trans (HBa.out.mono (by simp))⟩
            | true =>
              obtain ⟨m0, m1⟩ := hist_cells HBa.out
              obtain ⟨q, _, _⟩ := HAa.out
              have c1 := q 1
              have c3 := q 3
              have c4 := q 4
              clear q
              obtain ⟨u1, hu1⟩ : ∃ u, u = usesOn (G k).kind := ⟨_, rfl⟩
              obtain ⟨u2, hu2⟩ : ∃ u, u = usesWith (G k).kind := ⟨_, rfl⟩
              have HU : Hid (usesOn (G k).kind = u1 ∧ usesWith (G k).kind = u2) := ⟨hu1.symm, hu2.symm⟩
              have HB3 : Hid (B2 = (refok G u1 (G k).on k && refok G u2 (G k).wth k)) := by
                unfold Hid
                rw [HB2.out, hu1, hu2]
              clear hu1 hu2 HB2
              go_wp2_with fail
              refine (l19Uses_is _ _ _ _ HU.out.1 HU.out.2).mono ?_
              rintro e _ ⟨rfl, rfl⟩
              go_upto_region 15 with (fail)
              go_cut [122] from 34 to 168 (fun s w' => s = .bool (!B2) ∧ Hid (Below (w.alloc (.cells #[.slice po np cp, .slice (some ⟨b, off, none⟩) nf cf] 48)).heap.size (w.alloc (.cells #[.slice po np cp, .slice (some ⟨b, off, none⟩) nf cf] 48)) w') ∧ Hid (At w' ge #[.int .i64 (G k).id, .int .i64 (G k).kind, .bool (G k).off, .int .i64 (G k).on, .int .i64 (G k).wth, .slice no (G k).n cn]) ∧ Hid (Fs w' (some ⟨b, off, none⟩) nf G) ∧ Hid (Rd w' 5 no (G k).n (G k).T))
              case first =>
                have HBx : Hid (Below (w.alloc (.cells #[.slice po np cp, .slice (some ⟨b, off, none⟩) nf cf] 48)).heap.size (w.alloc (.cells #[.slice po np cp, .slice (some ⟨b, off, none⟩) nf cf] 48)) _) := HBa.out
                have HAx : Hid (At _ ge #[.int .i64 (G k).id, .int .i64 (G k).kind, .bool (G k).off, .int .i64 (G k).on, .int .i64 (G k).wth, .slice no (G k).n cn]) := HAa.out
                have HFx : Hid (Fs _ (some ⟨b, off, none⟩) nf G) := HFa.out
                have HTx : Hid (Rd _ 5 no (G k).n (G k).T) := HTr.out
                clear HBa HAa HFa HTr
                cases u1 with
                | true =>
                  go_wp2_with fail
                  refine (l19Find_any np nf cp cf po _ G (G k).on k _ hf hlt HFx.out).mono ?_
                  rintro e w1 ⟨r, rfl, hr, hb1⟩
                  have HB' : Hid (Below (w.alloc (.cells #[.slice po np cp, .slice (some ⟨b, off, none⟩) nf cf] 48)).heap.size (w.alloc (.cells #[.slice po np cp, .slice (some ⟨b, off, none⟩) nf cf] 48)) w1) := HBx.out.trans (hb1.mono HBx.out.size)
                  have HA' : Hid (At w1 ge #[.int .i64 (G k).id, .int .i64 (G k).kind, .bool (G k).off, .int .i64 (G k).on, .int .i64 (G k).wth, .slice no (G k).n cn]) := HAx.out.below hb1 HAx.out.sz
                  have HF' : Hid (Fs w1 (some ⟨b, off, none⟩) nf G) := Fs.below HFx.out hb1 (Nat.le_refl _)
                  have HT' : Hid (Rd w1 5 no (G k).n (G k).T) := Rd.below HTx.out hb1 (Nat.le_refl _)
                  clear hb1 HBx HAx HFx HTx m0 m1 c3 c4
                  have HBx : Hid (Below (w.alloc (.cells #[.slice po np cp, .slice (some ⟨b, off, none⟩) nf cf] 48)).heap.size (w.alloc (.cells #[.slice po np cp, .slice (some ⟨b, off, none⟩) nf cf] 48)) w1) := HB'
                  have HAx : Hid (At w1 ge #[.int .i64 (G k).id, .int .i64 (G k).kind, .bool (G k).off, .int .i64 (G k).on, .int .i64 (G k).wth, .slice no (G k).n cn]) := HA'
                  have HFx : Hid (Fs w1 (some ⟨b, off, none⟩) nf G) := HF'
                  have HTx : Hid (Rd w1 5 no (G k).n (G k).T) := HT'
                  clear HB' HA' HF' HT'
                  obtain ⟨m0, m1⟩ := hist_cells HBx.out
                  obtain ⟨q, _, _⟩ := HAx.out
                  have c3 := q 3
                  have c4 := q 4
                  clear q
                  rcases hr with ⟨hfo, hr⟩ | ⟨hfo, rfl⟩
                  · have hr0 : decide (r < 0) = false := decide_eq_false (by omega)
                    have hr1 : ¬ r < 0 := by omega
                    have HR1 : Hid (refok G true (G k).on k = true) := hfo
                    clear hfo
                    cases u2 with
                    | true =>
                      go_wp2_with fail
                      refine (l19Find_any np nf cp cf po _ G (G k).wth k _ hf hlt HFx.out).mono ?_
                      rintro e w1 ⟨r, rfl, hr, hb1⟩
                      have HB' : Hid (Below (w.alloc (.cells #[.slice po np cp, .slice (some ⟨b, off, none⟩) nf cf] 48)).heap.size (w.alloc (.cells #[.slice po np cp, .slice (some ⟨b, off, none⟩) nf cf] 48)) w1) := HBx.out.trans (hb1.mono HBx.out.size)
                      have HA' : Hid (At w1 ge #[.int .i64 (G k).id, .int .i64 (G k).kind, .bool (G k).off, .int .i64 (G k).on, .int .i64 (G k).wth, .slice no (G k).n cn]) := HAx.out.below hb1 HAx.out.sz
                      have HF' : Hid (Fs w1 (some ⟨b, off, none⟩) nf G) := Fs.below HFx.out hb1 (Nat.le_refl _)
                      have HT' : Hid (Rd w1 5 no (G k).n (G k).T) := Rd.below HTx.out hb1 (Nat.le_refl _)
                      clear hb1 HBx HAx HFx HTx m0 m1 c3 c4
                      have HBx : Hid (Below (w.alloc (.cells #[.slice po np cp, .slice (some ⟨b, off, none⟩) nf cf] 48)).heap.size (w.alloc (.cells #[.slice po np cp, .slice (some ⟨b, off, none⟩) nf cf] 48)) w1) := HB'
                      have HAx : Hid (At w1 ge #[.int .i64 (G k).id, .int .i64 (G k).kind, .bool (G k).off, .int .i64 (G k).on, .int .i64 (G k).wth, .slice no (G k).n cn]) := HA'
                      have HFx : Hid (Fs w1 (some ⟨b, off, none⟩) nf G) := HF'
                      have HTx : Hid (Rd w1 5 no (G k).n (G k).T) := HT'
                      clear HB' HA' HF' HT'
                      obtain ⟨m0, m1⟩ := hist_cells HBx.out
                      obtain ⟨q, _, _⟩ := HAx.out
                      have c3 := q 3
                      have c4 := q 4
                      clear q
                      rcases hr with ⟨hfo, hr⟩ | ⟨hfo, rfl⟩
                      · have hr0 : decide (r < 0) = false := decide_eq_false (by omega)
                        have hr1 : ¬ r < 0 := by omega
                        obtain rfl : B2 = true := by
                          rw [HB3.out, HR1.out]
                          exact hfo
                        clear hfo
                        go_wp2_with fail
                        go_meet
                        case rel => exact ⟨rfl, HBx.out, HAx.out, HFx.out, HTx.out⟩
                      · obtain rfl : B2 = false := by
                          rw [HB3.out, HR1.out]
                          exact hfo
                        clear hfo
                        go_wp2_with fail
                        go_meet
                        case rel => exact ⟨rfl, HBx.out, HAx.out, HFx.out, HTx.out⟩
                    | false =>
                      by_cases hz : (G k).wth = 0
                      · have hz' : ((G k).wth != 0) = false := by simp [hz]
                        obtain rfl : B2 = true := by
                          rw [HB3.out, HR1.out]
                          simp [refok, hz]
                        clear hz
                        go_wp2_with fail
                        go_meet
                        case rel => exact ⟨rfl, HBx.out, HAx.out, HFx.out, HTx.out⟩
                      · have hz' : ((G k).wth != 0) = true := by simp [hz]
                        obtain rfl : B2 = false := by
                          rw [HB3.out, HR1.out]
                          simp [refok, hz]
                        clear hz
                        go_wp2_with fail
                        go_meet
                        case rel => exact ⟨rfl, HBx.out, HAx.out, HFx.out, HTx.out⟩
                  · obtain rfl : B2 = false := by
                      rw [HB3.out, show refok G true (G k).on k = false from hfo]
                      rfl
                    clear hfo
                    go_wp2_with fail
                    go_meet
                    case rel => exact ⟨rfl, HBx.out, HAx.out, HFx.out, HTx.out⟩
                | false =>
                  by_cases hy : (G k).on = 0
                  · have hy' : ((G k).on != 0) = false := by simp [hy]
                    have HR1 : Hid (refok G false (G k).on k = true) := by simp [Hid, refok, hy]
                    clear hy
                    cases u2 with
                    | true =>
                      go_wp2_with fail
                      refine (l19Find_any np nf cp cf po _ G (G k).wth k _ hf hlt HFx.out).mono ?_
                      rintro e w1 ⟨r, rfl, hr, hb1⟩
                      have HB' : Hid (Below (w.alloc (.cells #[.slice po np cp, .slice (some ⟨b, off, none⟩) nf cf] 48)).heap.size (w.alloc (.cells #[.slice po np cp, .slice (some ⟨b, off, none⟩) nf cf] 48)) w1) := HBx.out.trans (hb1.mono HBx.out.size)
                      have HA' : Hid (At w1 ge #[.int .i64 (G k).id, .int .i64 (G k).kind, .bool (G k).off, .int .i64 (G k).on, .int .i64 (G k).wth, .slice no (G k).n cn]) := HAx.out.below hb1 HAx.out.sz
                      have HF' : Hid (Fs w1 (some ⟨b, off, none⟩) nf G) := Fs.below HFx.out hb1 (Nat.le_refl _)
                      have HT' : Hid (Rd w1 5 no (G k).n (G k).T) := Rd.below HTx.out hb1 (Nat.le_refl _)
                      clear hb1 HBx HAx HFx HTx m0 m1 c3 c4
                      have HBx : Hid (Below (w.alloc (.cells #[.slice po np cp, .slice (some ⟨b, off, none⟩) nf cf] 48)).heap.size (w.alloc (.cells #[.slice po np cp, .slice (some ⟨b, off, none⟩) nf cf] 48)) w1) := HB'
                      have HAx : Hid (At w1 ge #[.int .i64 (G k).id, .int .i64 (G k).kind, .bool (G k).off, .int .i64 (G k).on, .int .i64 (G k).wth, .slice no (G k).n cn]) := HA'
                      have HFx : Hid (Fs w1 (some ⟨b, off, none⟩) nf G) := HF'
                      have HTx : Hid (Rd w1 5 no (G k).n (G k).T) := HT'
                      clear HB' HA' HF' HT'
                      obtain ⟨m0, m1⟩ := hist_cells HBx.out
                      obtain ⟨q, _, _⟩ := HAx.out
                      have c3 := q 3
                      have c4 := q 4
                      clear q
                      rcases hr with ⟨hfo, hr⟩ | ⟨hfo, rfl⟩
                      · have hr0 : decide (r < 0) = false := decide_eq_false (by omega)
                        have hr1 : ¬ r < 0 := by omega
                        obtain rfl : B2 = true := by
                          rw [HB3.out, HR1.out]
                          exact hfo
                        clear hfo
                        go_wp2_with fail
                        go_meet
                        case rel => exact ⟨rfl, HBx.out, HAx.out, HFx.out, HTx.out⟩
                      · obtain rfl : B2 = false := by
                          rw [HB3.out, HR1.out]
                          exact hfo
                        clear hfo
                        go_wp2_with fail
                        go_meet
                        case rel => exact ⟨rfl, HBx.out, HAx.out, HFx.out, HTx.out⟩
                    | false =>
                      by_cases hz : (G k).wth = 0
                      · have hz' : ((G k).wth != 0) = false := by simp [hz]
                        obtain rfl : B2 = true := by
                          rw [HB3.out, HR1.out]
                          simp [refok, hz]
                        clear hz
                        go_wp2_with fail
                        go_meet
                        case rel => exact ⟨rfl, HBx.out, HAx.out, HFx.out, HTx.out⟩
                      · have hz' : ((G k).wth != 0) = true := by simp [hz]
                        obtain rfl : B2 = false := by
                          rw [HB3.out, HR1.out]
                          simp [refok, hz]
                        clear hz
                        go_wp2_with fail
                        go_meet
                        case rel => exact ⟨rfl, HBx.out, HAx.out, HFx.out, HTx.out⟩
                  · have hy' : ((G k).on != 0) = true := by simp [hy]
                    obtain rfl : B2 = false := by
                      rw [HB3.out, show refok G false (G k).on k = false by simp [refok, hy]]
                      rfl
                    clear hy
                    go_wp2_with fail
                    go_meet
                    case rel => exact ⟨rfl, HBx.out, HAx.out, HFx.out, HTx.out⟩
              case rest =>
                clear HBa HAa HFa HTr HB3 m0 m1 c1 c3 c4 HU
                obtain ⟨rfl, HBa, HAa, HFa, HTr⟩ := hcut
                cases B2 with
                | false =>
                  have HFk : Hid (fok np G k = false) := HFok.out
                  go_wp2
                  go_ret
                  exact ⟨by rw [hok_f hlt HFk.out]; rfl, (Joins.below_alloc1 _ _).trans (HBa.out.mono (by simp))⟩
                | true =>
                  have HFk : Hid (fok np G k = (List.range (G k).n).all (tk np (G k).T)) := by
                    unfold Hid
                    rw [HFok.out, Bool.true_and, Bool.true_and]
                  clear HFok
                  obtain ⟨q, _, _⟩ := HAa.out
                  have c5 := q 5
                  clear q
                  go_wp2
                  clear c5
                  go_loopg [8] (G k).n (fun gq i wj => ∃ q : Nat, q ≤ (G k).n ∧ gq = (G k).n - q ∧ i = .int .i64 q ∧ Hid (∀ j, j < q → tk np (G k).T j = true) ∧ Hid (Below (w.alloc (.cells #[.slice po np cp, .slice (some ⟨b, off, none⟩) nf cf] 48)).heap.size (w.alloc (.cells #[.slice po np cp, .slice (some ⟨b, off, none⟩) nf cf] 48)) wj) ∧ Hid (At wj ge #[.int .i64 (G k).id, .int .i64 (G k).kind, .bool (G k).off, .int .i64 (G k).on, .int .i64 (G k).wth, .slice no (G k).n cn]) ∧ Hid (Fs wj (some ⟨b, off, none⟩) nf G) ∧ Hid (Rd wj 5 no (G k).n (G k).T))
                  case atStart => exact ⟨0, Nat.zero_le _, rfl, rfl, fun j hj => absurd hj (Nat.not_lt_zero _), HBa.out, HAa.out, HFa.out, HTr.out⟩
                  case round =>
                    clear HBa HAa HFa HTr
                    obtain ⟨q, hq, hgq, rfl, HQ, HBa, HAa, HFa, HTr⟩ := hrel
                    by_cases hqn : q < (G k).n
                    · obtain ⟨tb, tof, rfl, htw, tc⟩ := HTr.out (by omega)
                      obtain ⟨m0, m1⟩ := hist_cells HBa.out
                      obtain ⟨c, _, _⟩ := HAa.out
                      have c5 := c 5
                      clear c
                      have t0 : wr.cell? ⟨tb, tof + q * 5, none⟩ = some (.int .i64 ((G k).T (q * 5))) := tc (q * 5) (by omega)
                      have t1 : wr.cell? ⟨tb, tof + q * 5 + 1, none⟩ = some (.int .i64 ((G k).T (q * 5 + 1))) := tc (q * 5 + 1) (by omega)
                      have t2 : wr.cell? ⟨tb, tof + q * 5 + 2, none⟩ = some (.int .i64 ((G k).T (q * 5 + 2))) := tc (q * 5 + 2) (by omega)
                      have t3 : wr.cell? ⟨tb, tof + q * 5 + 3, none⟩ = some (.int .i64 ((G k).T (q * 5 + 3))) := tc (q * 5 + 3) (by omega)
                      have t4 : wr.cell? ⟨tb, tof + q * 5 + 4, none⟩ = some (.int .i64 ((G k).T (q * 5 + 4))) := tc (q * 5 + 4) (by omega)
                      clear tc
                      obtain ⟨n0, _⟩ := hist_cells (HBa.out.alloc HBa.out.size (.cells #[.int .i64 ((G k).T (q * 5)), .int .i64 ((G k).T (q * 5 + 1)), .int .i64 ((G k).T (q * 5 + 2)), .int .i64 ((G k).T (q * 5 + 3)), .int .i64 ((G k).T (q * 5 + 4))] 84))
                      by_cases b1 : ((G k).T (q * 5)) < -1
                      · have htk : tk np (G k).T q = false := by
                          unfold tk
                          rw [decide_eq_false (by omega)]
                          rfl
                        have HFn : Hid (fok np G k = false) := HFk.out.trans (List.all_eq_false.2 ⟨q, List.mem_range.2 hqn, by simp [htk]⟩)
                        clear htk
                        go_wp2
                        go_ret
                        exact ⟨by rw [hok_f hlt HFn.out]; rfl, (Joins.below_alloc1 _ _).trans ((HBa.out.alloc HBa.out.size _).mono (by simp))⟩
                      by_cases b2 : ((G k).T (q * 5)) ≥ np
                      · have htk : tk np (G k).T q = false := by
                          unfold tk
                          rw [decide_eq_false (by omega)]
                          rfl
                        have HFn : Hid (fok np G k = false) := HFk.out.trans (List.all_eq_false.2 ⟨q, List.mem_range.2 hqn, by simp [htk]⟩)
                        clear htk
                        go_wp2
                        go_ret
                        exact ⟨by rw [hok_f hlt HFn.out]; rfl, (Joins.below_alloc1 _ _).trans ((HBa.out.alloc HBa.out.size _).mono (by simp))⟩
                      have HRg : Hid (decide (-1 ≤ ((G k).T (q * 5)) ∧ ((G k).T (q * 5)) < np) = true) := decide_eq_true (by omega)
                      rcases Bool.eq_false_or_eq_true (qok ((G k).T (q * 5 + 1)) ((G k).T (q * 5 + 2))) with g1 | g1
                      · have HQ1 : Hid (qok ((G k).T (q * 5 + 1)) ((G k).T (q * 5 + 2)) = true) := g1
                        rcases Bool.eq_false_or_eq_true (qok ((G k).T (q * 5 + 3)) ((G k).T (q * 5 + 4))) with g2 | g2
                        · have HQ2 : Hid (qok ((G k).T (q * 5 + 3)) ((G k).T (q * 5 + 4)) = true) := g2
                          by_cases b3 : ((G k).T (q * 5)) = -1
                          · have e3 : (((G k).T (q * 5)) == -1) = true := by simp [b3]
                            by_cases b4 : ((G k).T (q * 5 + 1)) = 0
                            · have e4 : (((G k).T (q * 5 + 1)) != 0) = false := by simp [b4]
                              have HTk : Hid (tk np (G k).T q = true) := by
                                unfold Hid tk
                                rw [HRg.out, g1, g2, decide_eq_false (fun h => h.2 b4)]
                                rfl
                              clear b3 b4 g1 g2
                              go_wp2_with fail
                              refine (specQOk_is _ _ _ HQ1.out _).mono ?_
                              rintro e w1 ⟨rfl, hb1⟩
                              have HB1 : Hid (Below (w.alloc (.cells #[.slice po np cp, .slice (some ⟨b, off, none⟩) nf cf] 48)).heap.size (w.alloc (.cells #[.slice po np cp, .slice (some ⟨b, off, none⟩) nf cf] 48)) w1) := (HBa.out.alloc HBa.out.size _).trans (hb1.mono (by have := HBa.out.size; simp at this ⊢; omega))
                              have HA1 : Hid (At w1 ge #[.int .i64 (G k).id, .int .i64 (G k).kind, .bool (G k).off, .int .i64 (G k).on, .int .i64 (G k).wth, .slice (some ⟨tb, tof, none⟩) (G k).n cn]) := HAa.out.below ((Joins.below_alloc1 _ _).trans (hb1.mono (by simp))) HAa.out.sz
                              have HF1 : Hid (Fs w1 (some ⟨b, off, none⟩) nf G) := Fs.below HFa.out ((Joins.below_alloc1 _ _).trans (hb1.mono (by simp))) (Nat.le_refl _)
                              have HT1 : Hid (Rd w1 5 (some ⟨tb, tof, none⟩) (G k).n (G k).T) := Rd.below HTr.out ((Joins.below_alloc1 _ _).trans (hb1.mono (by simp))) (Nat.le_refl _)
                              have HX1 : Hid (At w1 wr.heap.size #[.int .i64 ((G k).T (q * 5)), .int .i64 ((G k).T (q * 5 + 1)), .int .i64 ((G k).T (q * 5 + 2)), .int .i64 ((G k).T (q * 5 + 3)), .int .i64 ((G k).T (q * 5 + 4))]) := At.below (w := wr.alloc (.cells #[.int .i64 ((G k).T (q * 5)), .int .i64 ((G k).T (q * 5 + 1)), .int .i64 ((G k).T (q * 5 + 2)), .int .i64 ((G k).T (q * 5 + 3)), .int .i64 ((G k).T (q * 5 + 4))] 84)) ⟨fun j => by go_simp, fun j => by go_simp, by simp⟩ hb1 (by simp)
                              clear hb1
                              obtain ⟨x, _, _⟩ := HX1.out
                              have x3 := x 3
                              have x4 := x 4
                              clear x
                              go_wp2_with fail
                              refine (specQOk_is _ _ _ HQ2.out _).mono ?_
                              rintro e w2 ⟨rfl, hb2⟩
                              have HB2 : Hid (Below (w.alloc (.cells #[.slice po np cp, .slice (some ⟨b, off, none⟩) nf cf] 48)).heap.size (w.alloc (.cells #[.slice po np cp, .slice (some ⟨b, off, none⟩) nf cf] 48)) w2) := HB1.out.trans (hb2.mono HB1.out.size)
                              have HA2 : Hid (At w2 ge #[.int .i64 (G k).id, .int .i64 (G k).kind, .bool (G k).off, .int .i64 (G k).on, .int .i64 (G k).wth, .slice (some ⟨tb, tof, none⟩) (G k).n cn]) := HA1.out.below (hb2) HA1.out.sz
                              have HF2 : Hid (Fs w2 (some ⟨b, off, none⟩) nf G) := Fs.below HF1.out (hb2) (Nat.le_refl _)
                              have HT2 : Hid (Rd w2 5 (some ⟨tb, tof, none⟩) (G k).n (G k).T) := Rd.below HT1.out (hb2) (Nat.le_refl _)
                              have HX2 : Hid (At w2 wr.heap.size #[.int .i64 ((G k).T (q * 5)), .int .i64 ((G k).T (q * 5 + 1)), .int .i64 ((G k).T (q * 5 + 2)), .int .i64 ((G k).T (q * 5 + 3)), .int .i64 ((G k).T (q * 5 + 4))]) := HX1.out.below hb2 HX1.out.sz
                              clear hb2
                              obtain ⟨x, _, _⟩ := HX2.out
                              have y0 := x 0
                              have y1 := x 1
                              clear x
                              go_wp2
                              go_roundg ((G k).n - (q + 1))
                              case measure => omega
                              case rel => exact ⟨q + 1, by omega, rfl, by simp, all_succ HQ.out HTk.out, HB2.out, HA2.out, HF2.out, HT2.out⟩
                            · have e4 : (((G k).T (q * 5 + 1)) != 0) = true := by simp [b4]
                              have htk : tk np (G k).T q = false := by
                                unfold tk
                                rw [decide_eq_true (show ((G k).T (q * 5)) = -1 ∧ ((G k).T (q * 5 + 1)) ≠ 0 from ⟨b3, b4⟩)]
                                simp
                              have HFn : Hid (fok np G k = false) := HFk.out.trans (List.all_eq_false.2 ⟨q, List.mem_range.2 hqn, by simp [htk]⟩)
                              clear b3 b4 g1 g2 htk
                              go_wp2_with fail
                              refine (specQOk_is _ _ _ HQ1.out _).mono ?_
                              rintro e w1 ⟨rfl, hb1⟩
                              have HB1 : Hid (Below (w.alloc (.cells #[.slice po np cp, .slice (some ⟨b, off, none⟩) nf cf] 48)).heap.size (w.alloc (.cells #[.slice po np cp, .slice (some ⟨b, off, none⟩) nf cf] 48)) w1) := (HBa.out.alloc HBa.out.size _).trans (hb1.mono (by have := HBa.out.size; simp at this ⊢; omega))
                              have HA1 : Hid (At w1 ge #[.int .i64 (G k).id, .int .i64 (G k).kind, .bool (G k).off, .int .i64 (G k).on, .int .i64 (G k).wth, .slice (some ⟨tb, tof, none⟩) (G k).n cn]) := HAa.out.below ((Joins.below_alloc1 _ _).trans (hb1.mono (by simp))) HAa.out.sz
                              have HF1 : Hid (Fs w1 (some ⟨b, off, none⟩) nf G) := Fs.below HFa.out ((Joins.below_alloc1 _ _).trans (hb1.mono (by simp))) (Nat.le_refl _)
                              have HT1 : Hid (Rd w1 5 (some ⟨tb, tof, none⟩) (G k).n (G k).T) := Rd.below HTr.out ((Joins.below_alloc1 _ _).trans (hb1.mono (by simp))) (Nat.le_refl _)
                              have HX1 : Hid (At w1 wr.heap.size #[.int .i64 ((G k).T (q * 5)), .int .i64 ((G k).T (q * 5 + 1)), .int .i64 ((G k).T (q * 5 + 2)), .int .i64 ((G k).T (q * 5 + 3)), .int .i64 ((G k).T (q * 5 + 4))]) := At.below (w := wr.alloc (.cells #[.int .i64 ((G k).T (q * 5)), .int .i64 ((G k).T (q * 5 + 1)), .int .i64 ((G k).T (q * 5 + 2)), .int .i64 ((G k).T (q * 5 + 3)), .int .i64 ((G k).T (q * 5 + 4))] 84)) ⟨fun j => by go_simp, fun j => by go_simp, by simp⟩ hb1 (by simp)
                              clear hb1
                              obtain ⟨x, _, _⟩ := HX1.out
                              have x3 := x 3
                              have x4 := x 4
                              clear x
                              go_wp2_with fail
                              refine (specQOk_is _ _ _ HQ2.out _).mono ?_
                              rintro e w2 ⟨rfl, hb2⟩
                              have HB2 : Hid (Below (w.alloc (.cells #[.slice po np cp, .slice (some ⟨b, off, none⟩) nf cf] 48)).heap.size (w.alloc (.cells #[.slice po np cp, .slice (some ⟨b, off, none⟩) nf cf] 48)) w2) := HB1.out.trans (hb2.mono HB1.out.size)
                              have HA2 : Hid (At w2 ge #[.int .i64 (G k).id, .int .i64 (G k).kind, .bool (G k).off, .int .i64 (G k).on, .int .i64 (G k).wth, .slice (some ⟨tb, tof, none⟩) (G k).n cn]) := HA1.out.below (hb2) HA1.out.sz
                              have HF2 : Hid (Fs w2 (some ⟨b, off, none⟩) nf G) := Fs.below HF1.out (hb2) (Nat.le_refl _)
                              have HT2 : Hid (Rd w2 5 (some ⟨tb, tof, none⟩) (G k).n (G k).T) := Rd.below HT1.out (hb2) (Nat.le_refl _)
                              have HX2 : Hid (At w2 wr.heap.size #[.int .i64 ((G k).T (q * 5)), .int .i64 ((G k).T (q * 5 + 1)), .int .i64 ((G k).T (q * 5 + 2)), .int .i64 ((G k).T (q * 5 + 3)), .int .i64 ((G k).T (q * 5 + 4))]) := HX1.out.below hb2 HX1.out.sz
                              clear hb2
                              obtain ⟨x, _, _⟩ := HX2.out
                              have y0 := x 0
                              have y1 := x 1
                              clear x
                              go_wp2
                              go_ret
                              exact ⟨by rw [hok_f hlt HFn.out]; rfl, (Joins.below_alloc1 _ _).trans (HB2.out.mono (by simp))⟩
                          · have e3 : (((G k).T (q * 5)) == -1) = false := by simp [b3]
                            have HTk : Hid (tk np (G k).T q = true) := by
                              unfold Hid tk
                              rw [HRg.out, g1, g2, decide_eq_false (fun h => b3 h.1)]
                              rfl
                            clear b3 g1 g2
                            go_wp2_with fail
                            refine (specQOk_is _ _ _ HQ1.out _).mono ?_
                            rintro e w1 ⟨rfl, hb1⟩
                            have HB1 : Hid (Below (w.alloc (.cells #[.slice po np cp, .slice (some ⟨b, off, none⟩) nf cf] 48)).heap.size (w.alloc (.cells #[.slice po np cp, .slice (some ⟨b, off, none⟩) nf cf] 48)) w1) := (HBa.out.alloc HBa.out.size _).trans (hb1.mono (by have := HBa.out.size; simp at this ⊢; omega))
                            have HA1 : Hid (At w1 ge #[.int .i64 (G k).id, .int .i64 (G k).kind, .bool (G k).off, .int .i64 (G k).on, .int .i64 (G k).wth, .slice (some ⟨tb, tof, none⟩) (G k).n cn]) := HAa.out.below ((Joins.below_alloc1 _ _).trans (hb1.mono (by simp))) HAa.out.sz
                            have HF1 : Hid (Fs w1 (some ⟨b, off, none⟩) nf G) := Fs.below HFa.out ((Joins.below_alloc1 _ _).trans (hb1.mono (by simp))) (Nat.le_refl _)
                            have HT1 : Hid (Rd w1 5 (some ⟨tb, tof, none⟩) (G k).n (G k).T) := Rd.below HTr.out ((Joins.below_alloc1 _ _).trans (hb1.mono (by simp))) (Nat.le_refl _)
                            have HX1 : Hid (At w1 wr.heap.size #[.int .i64 ((G k).T (q * 5)), .int .i64 ((G k).T (q * 5 + 1)), .int .i64 ((G k).T (q * 5 + 2)), .int .i64 ((G k).T (q * 5 + 3)), .int .i64 ((G k).T (q * 5 + 4))]) := At.below (w := wr.alloc (.cells #[.int .i64 ((G k).T (q * 5)), .int .i64 ((G k).T (q * 5 + 1)), .int .i64 ((G k).T (q * 5 + 2)), .int .i64 ((G k).T (q * 5 + 3)), .int .i64 ((G k).T (q * 5 + 4))] 84)) ⟨fun j => by go_simp, fun j => by go_simp, by simp⟩ hb1 (by simp)
                            clear hb1
                            obtain ⟨x, _, _⟩ := HX1.out
                            have x3 := x 3
                            have x4 := x 4
                            clear x
                            go_wp2_with fail
                            refine (specQOk_is _ _ _ HQ2.out _).mono ?_
                            rintro e w2 ⟨rfl, hb2⟩
                            have HB2 : Hid (Below (w.alloc (.cells #[.slice po np cp, .slice (some ⟨b, off, none⟩) nf cf] 48)).heap.size (w.alloc (.cells #[.slice po np cp, .slice (some ⟨b, off, none⟩) nf cf] 48)) w2) := HB1.out.trans (hb2.mono HB1.out.size)
                            have HA2 : Hid (At w2 ge #[.int .i64 (G k).id, .int .i64 (G k).kind, .bool (G k).off, .int .i64 (G k).on, .int .i64 (G k).wth, .slice (some ⟨tb, tof, none⟩) (G k).n cn]) := HA1.out.below (hb2) HA1.out.sz
                            have HF2 : Hid (Fs w2 (some ⟨b, off, none⟩) nf G) := Fs.below HF1.out (hb2) (Nat.le_refl _)
                            have HT2 : Hid (Rd w2 5 (some ⟨tb, tof, none⟩) (G k).n (G k).T) := Rd.below HT1.out (hb2) (Nat.le_refl _)
                            have HX2 : Hid (At w2 wr.heap.size #[.int .i64 ((G k).T (q * 5)), .int .i64 ((G k).T (q * 5 + 1)), .int .i64 ((G k).T (q * 5 + 2)), .int .i64 ((G k).T (q * 5 + 3)), .int .i64 ((G k).T (q * 5 + 4))]) := HX1.out.below hb2 HX1.out.sz
                            clear hb2
                            obtain ⟨x, _, _⟩ := HX2.out
                            have y0 := x 0
                            have y1 := x 1
                            clear x
                            go_wp2
                            go_roundg ((G k).n - (q + 1))
                            case measure => omega
                            case rel => exact ⟨q + 1, by omega, rfl, by simp, all_succ HQ.out HTk.out, HB2.out, HA2.out, HF2.out, HT2.out⟩
                        · have HQ2 : Hid (qok ((G k).T (q * 5 + 3)) ((G k).T (q * 5 + 4)) = false) := g2
                          have htk : tk np (G k).T q = false := by
                            unfold tk
                            rw [g2]
                            simp
                          have HFn : Hid (fok np G k = false) := HFk.out.trans (List.all_eq_false.2 ⟨q, List.mem_range.2 hqn, by simp [htk]⟩)
                          clear g1 g2 htk
                          go_wp2_with fail
                          refine (specQOk_is _ _ _ HQ1.out _).mono ?_
                          rintro e w1 ⟨rfl, hb1⟩
                          have HB1 : Hid (Below (w.alloc (.cells #[.slice po np cp, .slice (some ⟨b, off, none⟩) nf cf] 48)).heap.size (w.alloc (.cells #[.slice po np cp, .slice (some ⟨b, off, none⟩) nf cf] 48)) w1) := (HBa.out.alloc HBa.out.size _).trans (hb1.mono (by have := HBa.out.size; simp at this ⊢; omega))
                          have HA1 : Hid (At w1 ge #[.int .i64 (G k).id, .int .i64 (G k).kind, .bool (G k).off, .int .i64 (G k).on, .int .i64 (G k).wth, .slice (some ⟨tb, tof, none⟩) (G k).n cn]) := HAa.out.below ((Joins.below_alloc1 _ _).trans (hb1.mono (by simp))) HAa.out.sz
                          have HF1 : Hid (Fs w1 (some ⟨b, off, none⟩) nf G) := Fs.below HFa.out ((Joins.below_alloc1 _ _).trans (hb1.mono (by simp))) (Nat.le_refl _)
                          have HT1 : Hid (Rd w1 5 (some ⟨tb, tof, none⟩) (G k).n (G k).T) := Rd.below HTr.out ((Joins.below_alloc1 _ _).trans (hb1.mono (by simp))) (Nat.le_refl _)
                          have HX1 : Hid (At w1 wr.heap.size #[.int .i64 ((G k).T (q * 5)), .int .i64 ((G k).T (q * 5 + 1)), .int .i64 ((G k).T (q * 5 + 2)), .int .i64 ((G k).T (q * 5 + 3)), .int .i64 ((G k).T (q * 5 + 4))]) := At.below (w := wr.alloc (.cells #[.int .i64 ((G k).T (q * 5)), .int .i64 ((G k).T (q * 5 + 1)), .int .i64 ((G k).T (q * 5 + 2)), .int .i64 ((G k).T (q * 5 + 3)), .int .i64 ((G k).T (q * 5 + 4))] 84)) ⟨fun j => by go_simp, fun j => by go_simp, by simp⟩ hb1 (by simp)
                          clear hb1
                          obtain ⟨x, _, _⟩ := HX1.out
                          have x3 := x 3
                          have x4 := x 4
                          clear x
                          go_wp2_with fail
                          refine (specQOk_is _ _ _ HQ2.out _).mono ?_
                          rintro e w2 ⟨rfl, hb2⟩
                          have HB2 : Hid (Below (w.alloc (.cells #[.slice po np cp, .slice (some ⟨b, off, none⟩) nf cf] 48)).heap.size (w.alloc (.cells #[.slice po np cp, .slice (some ⟨b, off, none⟩) nf cf] 48)) w2) := HB1.out.trans (hb2.mono HB1.out.size)
                          have HA2 : Hid (At w2 ge #[.int .i64 (G k).id, .int .i64 (G k).kind, .bool (G k).off, .int .i64 (G k).on, .int .i64 (G k).wth, .slice (some ⟨tb, tof, none⟩) (G k).n cn]) := HA1.out.below (hb2) HA1.out.sz
                          have HF2 : Hid (Fs w2 (some ⟨b, off, none⟩) nf G) := Fs.below HF1.out (hb2) (Nat.le_refl _)
                          have HT2 : Hid (Rd w2 5 (some ⟨tb, tof, none⟩) (G k).n (G k).T) := Rd.below HT1.out (hb2) (Nat.le_refl _)
                          have HX2 : Hid (At w2 wr.heap.size #[.int .i64 ((G k).T (q * 5)), .int .i64 ((G k).T (q * 5 + 1)), .int .i64 ((G k).T (q * 5 + 2)), .int .i64 ((G k).T (q * 5 + 3)), .int .i64 ((G k).T (q * 5 + 4))]) := HX1.out.below hb2 HX1.out.sz
                          clear hb2
                          go_wp2
                          go_ret
                          exact ⟨by rw [hok_f hlt HFn.out]; rfl, (Joins.below_alloc1 _ _).trans (HB2.out.mono (by simp))⟩
                      · have HQ1 : Hid (qok ((G k).T (q * 5 + 1)) ((G k).T (q * 5 + 2)) = false) := g1
                        have htk : tk np (G k).T q = false := by
                          unfold tk
                          rw [g1]
                          simp
                        have HFn : Hid (fok np G k = false) := HFk.out.trans (List.all_eq_false.2 ⟨q, List.mem_range.2 hqn, by simp [htk]⟩)
                        clear g1 htk
                        go_wp2_with fail
                        refine (specQOk_is _ _ _ HQ1.out _).mono ?_
                        rintro e w1 ⟨rfl, hb1⟩
                        have HB1 : Hid (Below (w.alloc (.cells #[.slice po np cp, .slice (some ⟨b, off, none⟩) nf cf] 48)).heap.size (w.alloc (.cells #[.slice po np cp, .slice (some ⟨b, off, none⟩) nf cf] 48)) w1) := (HBa.out.alloc HBa.out.size _).trans (hb1.mono (by have := HBa.out.size; simp at this ⊢; omega))
                        have HA1 : Hid (At w1 ge #[.int .i64 (G k).id, .int .i64 (G k).kind, .bool (G k).off, .int .i64 (G k).on, .int .i64 (G k).wth, .slice (some ⟨tb, tof, none⟩) (G k).n cn]) := HAa.out.below ((Joins.below_alloc1 _ _).trans (hb1.mono (by simp))) HAa.out.sz
                        have HF1 : Hid (Fs w1 (some ⟨b, off, none⟩) nf G) := Fs.below HFa.out ((Joins.below_alloc1 _ _).trans (hb1.mono (by simp))) (Nat.le_refl _)
                        have HT1 : Hid (Rd w1 5 (some ⟨tb, tof, none⟩) (G k).n (G k).T) := Rd.below HTr.out ((Joins.below_alloc1 _ _).trans (hb1.mono (by simp))) (Nat.le_refl _)
                        have HX1 : Hid (At w1 wr.heap.size #[.int .i64 ((G k).T (q * 5)), .int .i64 ((G k).T (q * 5 + 1)), .int .i64 ((G k).T (q * 5 + 2)), .int .i64 ((G k).T (q * 5 + 3)), .int .i64 ((G k).T (q * 5 + 4))]) := At.below (w := wr.alloc (.cells #[.int .i64 ((G k).T (q * 5)), .int .i64 ((G k).T (q * 5 + 1)), .int .i64 ((G k).T (q * 5 + 2)), .int .i64 ((G k).T (q * 5 + 3)), .int .i64 ((G k).T (q * 5 + 4))] 84)) ⟨fun j => by go_simp, fun j => by go_simp, by simp⟩ hb1 (by simp)
                        clear hb1
                        go_wp2
                        go_ret
                        exact ⟨by rw [hok_f hlt HFn.out]; rfl, (Joins.below_alloc1 _ _).trans (HB1.out.mono (by simp))⟩
                    · obtain ⟨c, _, _⟩ := HAa.out
                      have c5 := c 5
                      clear c
                      have HFy : Hid (fok np G k = true) := HFk.out.trans (List.all_eq_true.2 fun j hj => HQ.out j (by have := List.mem_range.1 hj; omega))
                      go_wp2
                      go_roundg (nf - (k + 1))
                      case measure => omega
                      case rel => exact ⟨k + 1, by omega, rfl, by simp, all_succ HK.out HFy.out, HBa.out⟩
        · go_wp2
          go_ret
          exact ⟨by rw [hok_yes (by omega) (by omega) HQS.out (fun j hj => HK.out j (by omega))]; rfl, (Joins.below_alloc1 _ _).trans (HB.out.mono (by simp))⟩
end Go.Proofs.YtgcgoehmgaokkaaDoor
