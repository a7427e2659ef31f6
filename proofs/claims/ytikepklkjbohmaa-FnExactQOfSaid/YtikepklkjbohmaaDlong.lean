import Derived.Test.YtikepklkjbohmaaDlong0
import Derived.Deep.RegionWith
namespace Go.Proofs.Ytikepklkjbohmaa
open Go.RowKit

set_option maxRecDepth 100000 in
set_option maxHeartbeats 8000000 in
theorem divC_long (x y : Nat) (h0 : 4294967296 ≤ y) (hxy : y ≤ x) (hx : x < 18446744073709551616) : DivC x y := by
  intro a b n m c d f g w ha hb
  obtain rfl := ha.two (by omega) hx
  obtain rfl := hb.two h0 (by omega)
  obtain ⟨ga, rfl, ca⟩ := ha.sl.at_ (by omega)
  obtain ⟨gb, rfl, cb⟩ := hb.sl.at_ (by omega)
  have HA : Hid (Mag w (some ⟨ga, 0, none⟩) 2 c f x) := ha
  have HB : Hid (Mag w (some ⟨gb, 0, none⟩) 2 d g y) := hb
  have HC : Hid (cmpN x y = 0 ∨ cmpN x y = 1) := by unfold Hid cmpN; rw [if_neg (by omega)]; split <;> simp
  have hgb : gb < w.heap.size := World.block_lt_of_cell? w ⟨gb, 0, none⟩ (cb 0 (by omega))
  have hg1 : 0 < g 1 := by have := hb.top; have := hb.is; rw [val_two] at this; have := hb.sl.lt 0 (by omega); omega
  have hg1l : g 1 < 4294967296 := hb.sl.lt 1 (by omega)
  have cb1 := cb 1 (by omega)
  clear ha hb ca cb
  go_enter Try.func69, Try.ntmps69
  go_wp2_with fail
  refine (l1MagCmp_any _ _ _ _ _ _ f g x y _ HA.out HB.out).mono ?_
  rintro e w1 ⟨rfl, q1, rfl⟩
  have hc0 : (0 : Int) ≤ cmpN x y := by rcases HC.out with h | h <;> rw [h] <;> omega
  go_wp2
  go_loopw [6] (fun sv wr => ∃ (s : Nat), s ≤ 31 ∧ sv = .int .u64 s ∧ g 1 * 2 ^ s < 4294967296 ∧ Below w.heap.size w wr) (fun sv _ => 32 - (intOf sv).toNat)
  case atStart => exact ⟨0, by omega, rfl, by omega, Joins.below_draws _ _ _⟩
  case round =>
    obtain ⟨s, hs, rfl, hgs, hbel⟩ := hrel
    have cb' : wr.cell? ⟨gb, 1, none⟩ = some (.int .u32 (g 1)) := by rw [hbel.cell (p := ⟨gb, 1, none⟩) hgb]; exact cb1
    have HBel : Hid (Below w.heap.size w wr) := hbel
    have HG : Hid (g 1 * 2 ^ s < 4294967296) := hgs
    clear hbel cb1
    by_cases hlt : g 1 * 2 ^ s < 2147483648
    · have e1 : ((g 1 : Int) * 2 ^ s) = ((g 1 * 2 ^ s : Nat) : Int) := by simp
      have hw1 : ((g 1 : Int) * 2 ^ s) % 4294967296 < 2147483648 := by rw [e1]; omega
      have hw2 : IntKind.u32.wrap ((g 1 : Int) * 2 ^ s) < 2147483648 := by rw [e1]; simp only [IntKind.wrap, IntKind.bits, IntKind.signed]; simp; omega
      have hs31 : s < 31 := by
        rcases Nat.lt_or_ge s 31 with h | h
        · exact h
        · have := Nat.pow_le_pow_right (n := 2) (by omega) h
          have := Nat.mul_le_mul (show 1 ≤ g 1 by omega) this
          omega
      have HL : Hid (g 1 * 2 ^ (s + 1) < 4294967296) := by unfold Hid; rw [Nat.pow_succ, ← Nat.mul_assoc]; omega
      clear hlt e1 hgs
      go_wp2
      exact ⟨⟨s + 1, by omega, by go_num, HL.out, HBel.out⟩, by simp [intOf]; omega⟩
    · have e1 : ((g 1 : Int) * 2 ^ s) = ((g 1 * 2 ^ s : Nat) : Int) := by simp
      have hw1 : 2147483648 ≤ ((g 1 : Int) * 2 ^ s) % 4294967296 := by rw [e1]; omega
      have hw2 : 2147483648 ≤ IntKind.u32.wrap ((g 1 : Int) * 2 ^ s) := by rw [e1]; simp only [IntKind.wrap, IntKind.bits, IntKind.signed]; simp; omega
      have hw3 : decide (((g 1 : Int) * 2 ^ s) % 4294967296 < 2147483648) = false := by simp; omega
      have hw4 : decide (IntKind.u32.wrap ((g 1 : Int) * 2 ^ s) < 2147483648) = false := by simp; omega
      have HL : Hid (2147483648 ≤ g 1 * 2 ^ s) := by unfold Hid; omega
      clear hlt e1 hgs
      go_wp2_with fail
      refine (l1Shl_zero gb d s g _ (HB.out.sl.below HBel.out) hs).mono ?_
      rintro e w2 ⟨ov, rfl, hrv, hlv, ⟨cy, hcy⟩, hb2⟩
      clear hw1 hw2 hw3 hw4 cb'
      have HV : Hid (val 2 ov = y * 2 ^ s ∧ 2147483648 ≤ ov 1) := normV ov g y s cy HB.out.is (HB.out.sl.lt 0 (by omega)) HG.out HL.out hs hcy (hlv 0 (by omega))
      have hs2 : wr.heap.size < w2.heap.size := hrv.lt
      have HB2 : Hid (Below w.heap.size w w2) := HBel.out.trans (hb2.mono HBel.out.size)
      have HR2 : Hid (w2.rowIs wr.heap.size 114 2 (fun j => .int .u32 (ov j)) ∧ ∀ j, j < 2 → ov j < 4294967296) := ⟨hrv, hlv⟩
      clear hrv hlv hcy hb2
      go_wp2_with fail
      refine (l1Shl_one ga c s f _ (HA.out.sl.below HB2.out) hs).mono ?_
      rintro e w3 ⟨ou, rfl, hru, hlu, huv, hb3⟩
      have HU : Hid (val 3 ou = x * 2 ^ s ∧ ∀ j, j < 3 → ou j < 4294967296) := ⟨by rw [huv, HA.out.is], hlu⟩
      have hs3 : w2.heap.size < w3.heap.size := hru.lt
      have HB3 : Hid (Below w.heap.size w w3) := HB2.out.trans (hb3.mono HB2.out.size)
      have HR3 : Hid (w3.rowIs wr.heap.size 114 2 (fun j => .int .u32 (ov j)) ∧ w3.rowIs w2.heap.size 114 3 (fun j => .int .u32 (ou j))) := ⟨row_below HR2.out.1 hs2 hb3, hru⟩
      clear hru hlu huv hb3
      have hmk : ∀ w, (Instr.makeSlice 61 (.int .i64 1) (.int .i64 1)).run Try.prog w = .ok (.slice (some ⟨w.heap.size, 0, none⟩) 1 1) (w.alloc (.cells (madeCells #[.int .u32 0] 1) 114)) := fun w => mk_u32 1 (by omega) w
      go_wp2
      have hwbv : w.heap.size ≤ wr.heap.size := HBel.out.size
      have HJ : Hid (Rows3 (w3.alloc (.cells (madeCells #[.int .u32 0] 1) 114)) wr.heap.size w2.heap.size w3.heap.size ov ou (fun _ => 0) ∧ Below w.heap.size w (w3.alloc (.cells (madeCells #[.int .u32 0] 1) 114)) ∧ (∀ j, j < 2 → ov j < 4294967296)) :=
        ⟨⟨row_below HR3.out.1 (by omega) (Joins.below_alloc1 _ _), row_below HR3.out.2 hs3 (Joins.below_alloc1 _ _), World.rowIs_made w3 _ _ _⟩, HB3.out.alloc HB3.out.size _, HR2.out.2⟩
      clear HR3 HB3 HR2 HB2 HBel HG HL
      generalize wr.heap.size = bv at HJ hs2 hwbv ⊢
      generalize w2.heap.size = bu at HJ hs2 hs3 ⊢
      generalize hbo : w3.heap.size = bo at HJ hs3 ⊢
      go_loopw [11] (fun jv wj => ∃ (t : Nat) (ou' oo : Nat → Nat), t ≤ 1 ∧ jv = .int .i64 (-(t : Int)) ∧ Rows3 wj bv bu bo ov ou' oo ∧ (∀ j, j < 3 → ou' j < 4294967296) ∧ (∀ j, j < 1 → oo j < 4294967296) ∧ Below w.heap.size w wj ∧ (t = 0 → ou' = ou) ∧ (t = 1 → oo 0 = x / y ∧ ou' 2 = 0 ∧ val 2 ou' + x / y * (y * 2 ^ s) = x * 2 ^ s)) (fun jv _ => (intOf jv + 1).toNat)
      case atStart => exact ⟨0, ou, fun _ => 0, by omega, rfl, HJ.out.1, HU.out.2, fun _ _ => (by show 0 < 4294967296; omega), HJ.out.2.1, fun _ => rfl, fun h => by omega⟩
      case round =>
        obtain ⟨t, ou', oo, ht, rfl, hR, hlu, hlo, hbel, ht0, ht1⟩ := hrel
        have HR : Hid (Rows3 wr bv bu bo ov ou' oo ∧ (∀ j, j < 3 → ou' j < 4294967296) ∧ (∀ j, j < 1 → oo j < 4294967296) ∧ Below w.heap.size w wr) := ⟨hR, hlu, hlo, hbel⟩
        rcases (show t = 0 ∨ t = 1 by omega) with rfl | rfl
        · obtain rfl := ht0 rfl
          have v0 := hR.1.cell (i := 0) (by omega)
          have v1 := hR.1.cell (i := 1) (by omega)
          have u0 := hR.2.1.cell (i := 0) (by omega)
          have u1 := hR.2.1.cell (i := 1) (by omega)
          have u2 := hR.2.1.cell (i := 2) (by omega)
          have hbv := hR.1.lt
          have hbu := hR.2.1.lt
          have hbo' := hR.2.2.lt
          have lv0 := HJ.out.2.2 0 (by omega)
          have lv1 := HJ.out.2.2 1 (by omega)
          have lu0 := hlu 0 (by omega)
          have lu1 := hlu 1 (by omega)
          have lu2 := hlu 2 (by omega)
          have hv1p : (0 : Int) < (ov 1 : Int) := by have := HV.out.2; omega
          clear hR hlu hlo hbel ht0 ht1
          go_wp2
          go_quiet (fail)
          go_wp2
          have HQ : Hid _ := guess_first ov ou' x y s h0 hx hs HV.out.1 HU.out.1 HV.out.2 HJ.out.2.2 HU.out.2
          have HD : Hid _ := digit ov ou' x y s (by omega) HV.out.1 HU.out.1
          have HVl : Hid (y * 2 ^ s < 18446744073709551616) := by
            have h1 := HV.out.1
            rw [val_two] at h1
            unfold Hid
            rw [← h1]; omega
          have HD2 : Hid (x / y * (y * 2 ^ s) ≤ x * 2 ^ s ∧ x * 2 ^ s < (x / y + 1) * (y * 2 ^ s)) := by
            refine ⟨by rw [← Nat.mul_assoc]; exact Nat.mul_le_mul_right _ (Nat.div_mul_le_self x y), ?_⟩
            rw [← Nat.mul_assoc]
            refine Nat.mul_lt_mul_of_pos_right ?_ (Nat.two_pow_pos s)
            have := Nat.lt_mul_div_succ x (show 0 < y by omega)
            rw [Nat.mul_comm]; exact this
          rw [or_hi (ou' 2) (ou' 1) lu2 lu1, tdiv_nat, tmod_nat]
          obtain ⟨N, hN⟩ : ∃ N, N = ou' 2 * 4294967296 + ou' 1 := ⟨_, rfl⟩
          have HN : Hid (N = ou' 2 * 4294967296 + ou' 1 ∧ N < 18446744073709551616) := ⟨hN, by omega⟩
          rw [← hN] at HQ HD ⊢
          clear hN
          obtain ⟨Q, hQd⟩ : ∃ Q, Q = x / y := ⟨_, rfl⟩
          rw [← hQd] at HQ HD HD2
          have HQd : Hid (Q = x / y) := hQd
          clear hQd
          obtain ⟨d0, hd0⟩ : ∃ d0, N / ov 1 = Q + d0 := ⟨N / ov 1 - Q, by have := HQ.out.1; omega⟩
          have HD0 : Hid (d0 ≤ 2 ∧ Q + d0 < 4294967296 ∧ (Q + d0) * ov 1 + N % ov 1 = N) := by
            have h1 := HQ.out.2.1
            have h2 := HQ.out.2.2.1
            rw [hd0] at h1 h2
            refine ⟨by omega, h2, ?_⟩
            rw [← hd0, Nat.mul_comm]; exact Nat.div_add_mod N (ov 1)
          rw [hd0, wrap_nat (Q + d0) (by have := HD0.out.2.1; omega)]
          clear hd0
          go_loopw [13, 14, 15] (fun qv rv kv wk => ∃ (k d r : Nat), k + d ≤ 2 ∧ kv = .int .i64 k ∧ qv = .int .u64 ((Q + d : Nat) : Int) ∧ rv = .int .u64 r ∧ (Q + d) * ov 1 + r = N ∧ Q + d < 4294967296 ∧ ∃ n', wk = wr.drewN n') (fun _ _ kv _ => 3 - (intOf kv).toNat)
          case atStart => exact ⟨0, d0, N % ov 1, by have := HD0.out.1; omega, rfl, rfl, rfl, HD0.out.2.2, HD0.out.2.1, _, rfl⟩
          case round =>
            obtain ⟨k, d', r, hkd, rfl, rfl, rfl, hqr, hqB, n', rfl⟩ := hrel
            obtain ⟨q, hq⟩ : ∃ q, q = Q + d' := ⟨_, rfl⟩
            rw [← hq] at hqr hqB ⊢
            have hk3 : decide ((k : Int) < 3) = true := by simp; omega
            have hqB' : decide ((4294967296 : Int) ≤ (q : Int)) = false := by simp; omega
            rcases Nat.eq_zero_or_pos d' with hd | hd
            · have hqQ : q = Q := by omega
              have hok := guess_ok (ou' 0) N (ov 0) (ov 1) q r (by rw [hqQ]; exact HD.out.1) hqr
              have hqv : q * ov 0 < 18446744073709551616 := by have := Nat.mul_le_mul (show q ≤ 4294967295 by omega) (show ov 0 ≤ 4294967295 by omega); omega
              have HE : Hid (q = Q ∧ q < 4294967296 ∧ q * ov 0 ≤ r * 4294967296 + ou' 0 ∧ q * ov 0 < 18446744073709551616) := ⟨hqQ, hqB, hok, hqv⟩
              have hrB : r < 4294967296 ∨ ¬ r < 4294967296 := by omega
              clear hq hkd hqr hqB hqQ hok hqv hd
              rcases hrB with hr | hr
              all_goals (first | (
                have hr' : r < 4294967296 := hr
                have hrd : decide ((r : Int) < 4294967296) = true := by simp; omega
                have htest : decide (bits BinOp.or IntKind.u64 (IntKind.u64.wrap ((r : Int) * 4294967296)) (ou' 0 : Int) < IntKind.u64.wrap ((q : Int) * (ov 0 : Int))) = false := by rw [test_form r (ou' 0) q (ov 0) hr lu0 HE.out.2.2.2]; have := HE.out.2.2.1; simp only [decide_eq_false_iff_not]; omega
                clear hr hr'
                go_wp2
                go_quiet (fail)
                go_wp2
                clear hrd htest) | (
                have hrd : decide ((r : Int) < 4294967296) = false := by simp; omega
                clear hr
                go_wp2
                go_quiet (fail)
                go_wp2
                clear hrd))
              all_goals (
                have hqQ := HE.out.1
                subst hqQ
                have hqB := HE.out.2.1
                clear hk3 hqB' v0 v1 u0 u1 u2
                go_loopw [16, 17, 18] (fun cv bv' iv wi => ∃ (i c b : Nat) (o : Nat → Nat), i ≤ 2 ∧ cv = .int .u64 c ∧ bv' = .int .u64 b ∧ iv = .int .i64 i ∧ c < 4294967296 ∧ b ≤ 1 ∧ Rows3 wi bv bu bo ov o oo ∧ (∀ j, j < 3 → o j < 4294967296) ∧ (∀ j, i ≤ j → o j = ou' j) ∧ val i o + q * val i ov = val i ou' + (c + b) * 4294967296 ^ i ∧ Below w.heap.size w wi) (fun _ _ iv _ => 2 - (intOf iv).toNat)
                case atStart =>
                  refine ⟨0, 0, 0, ou', by omega, rfl, rfl, rfl, by omega, by omega, ?_, HR.out.2.1, fun _ _ => rfl, rfl, ?_⟩
                  · exact ⟨row_below HR.out.1.1 hbv ((Joins.below_draws _ _ _).trans (Joins.below_draws _ _ _)), row_below HR.out.1.2.1 hbu ((Joins.below_draws _ _ _).trans (Joins.below_draws _ _ _)), row_below HR.out.1.2.2 hbo' ((Joins.below_draws _ _ _).trans (Joins.below_draws _ _ _))⟩
                  · exact HR.out.2.2.2.trans ((Joins.below_draws _ _ _).trans (Joins.below_draws _ _ _))
                case round =>
                  obtain ⟨i, cc, bb, o, hi, rfl, rfl, rfl, hcB, hb1, hR, hlo, hsame, hval, hbel⟩ := hrel
                  by_cases hi2 : i < 2
                  · have v0 := hR.1.cell (i := i) (by omega)
                    have u0 := hR.2.1.cell (i := i) (by omega)
                    have uf := hR.2.1.frozen i
                    have lo := hlo i (by omega)
                    have lvi := HJ.out.2.2 i hi2
                    have HI : Hid (Rows3 wr bv bu bo ov o oo ∧ (∀ j, j < 3 → o j < 4294967296) ∧ (∀ j, i ≤ j → o j = ou' j) ∧ val i o + q * val i ov = val i ou' + (cc + bb) * 4294967296 ^ i ∧ Below w.heap.size w wr) := ⟨hR, hlo, hsame, hval, hbel⟩
                    have hb1' := hR.1.lt
                    have hb2' := hR.2.1.lt
                    clear hR hlo hsame hval hbel
                    go_wp2
                    obtain ⟨hpl, ep⟩ := take_p q (ov i) cc hqB lvi hcB
                    obtain ⟨P, hP⟩ : ∃ P, P = q * ov i + cc := ⟨_, rfl⟩
                    rw [← hP] at ep hpl
                    obtain ⟨T, b', eT, hTb, hb', hTv⟩ := take_t (o i) (P % 4294967296) bb lo (Nat.mod_lt _ (by omega)) hb1
                    rw [ep, and_mask P hpl, eT, show ((P : Int) / 4294967296) = ((P / 4294967296 : Nat) : Int) from by omega, show ((T : Int) / 9223372036854775808) = ((T / 9223372036854775808 : Nat) : Int) from by omega, show ((T : Int) % 4294967296) = ((T % 4294967296 : Nat) : Int) from by omega, hTb]
                    have hri := take_round i q cc bb T b' o ou' ov (HI.out.2.2.1 i (Nat.le_refl _)) HI.out.2.2.2.1 (by rw [← hP]; exact hTv)
                    rw [← hP] at hri
                    refine ⟨⟨i + 1, P / 4294967296, b', upd o i (T % 4294967296), by omega, rfl, rfl, by go_num, by omega, hb', ⟨row_other HI.out.1.1 (by omega) _ _, row_upd HI.out.1.2.1, row_other HI.out.1.2.2 (by omega) _ _⟩, upd_lt HI.out.2.1 (Nat.mod_lt _ (by omega)), ?_, hri, HI.out.2.2.2.2.setCell (p := ⟨bu, i, none⟩) (by show w.heap.size ≤ bu; omega) _⟩, ?_⟩
                    · intro j hj
                      unfold upd
                      rw [if_neg (by omega)]
                      exact HI.out.2.2.1 j (by omega)
                    · simp [intOf]; omega
                  · have hi2' : i = 2 := by omega
                    subst hi2'
                    have hte := take_end q cc bb o ou' ov (y * 2 ^ s) (x * 2 ^ s) HV.out.1 HU.out.1 HVl.out HD2.out.1 HD2.out.2 (hsame 2 (Nat.le_refl _)) hlo hval
                    have u2 := hR.2.1.cell (i := 2) (by omega)
                    have uf := hR.2.1.frozen 2
                    have o0 := hR.2.2.cell (i := 0) (by omega)
                    have of := hR.2.2.frozen 0
                    have hb1' := hR.1.lt
                    have hb2' := hR.2.1.lt
                    have hb3' := hR.2.2.lt
                    have HI : Hid (Rows3 wr bv bu bo ov o oo ∧ (∀ j, j < 3 → o j < 4294967296) ∧ val 2 o + q * (y * 2 ^ s) = x * 2 ^ s ∧ Below w.heap.size w wr) := ⟨hR, hlo, hte.2, hbel⟩
                    rw [hte.1] at u2
                    have ewc : IntKind.u64.wrap (((cc + bb : Nat) : Int) - (cc : Int)) = (bb : Int) := by rw [wrap_u64]; omega
                    clear hte hR hlo hsame hval hbel
                    go_wp2
                    rw [show ((cc : Int) + (bb : Int) - (cc : Int) - (bb : Int)) = ((0 : Nat) : Int) from by omega]
                    refine ⟨⟨1, upd o 2 0, upd oo 0 q, by omega, rfl, ⟨row_other (row_other HI.out.1.1 (by omega) _ _) (by omega) _ _, row_other (row_upd HI.out.1.2.1) (by omega) _ _, row_upd (row_other HI.out.1.2.2 (by omega) _ _)⟩, upd_lt HI.out.2.1 (by omega), upd_lt HR.out.2.2.1 hqB, (HI.out.2.2.2.setCell (p := ⟨bu, 2, none⟩) (by show w.heap.size ≤ bu; omega) _).setCell (p := ⟨bo, 0, none⟩) (by show w.heap.size ≤ bo; omega) _, fun h => by omega, fun _ => ⟨HQd.out, rfl, ?_⟩⟩, by simp [intOf]⟩
                    rw [val_upd_ge 2 2 o _ (Nat.le_refl _), ← HQd.out]
                    exact HI.out.2.2.1)
            · have hbad := guess_bad (ou' 0) N (ov 0) (ov 1) Q q r HD.out.2 (by omega) hqr
              have hqv : q * ov 0 < 18446744073709551616 := by have := Nat.mul_le_mul (show q ≤ 4294967295 by omega) (show ov 0 ≤ 4294967295 by omega); omega
              have hr : r < 4294967296 := by omega
              have hrd : decide ((r : Int) < 4294967296) = true := by simp; omega
              have htest : decide (bits BinOp.or IntKind.u64 (IntKind.u64.wrap ((r : Int) * 4294967296)) (ou' 0 : Int) < IntKind.u64.wrap ((q : Int) * (ov 0 : Int))) = true := by rw [test_form r (ou' 0) q (ov 0) hr lu0 hqv]; simp only [decide_eq_true_eq]; omega
              have HE : Hid (q = Q + d' ∧ k + d' ≤ 2 ∧ q * ov 1 + r = N ∧ q < 4294967296 ∧ 0 < d' ∧ r < 4294967296 ∧ 1 ≤ q) := ⟨hq, hkd, hqr, hqB, hd, hr, by omega⟩
              clear hq hkd hqr hqv hbad hd hr hqB
              go_wp2
              go_quiet (fail)
              have hr := HE.out.2.2.2.2.2.1
              have hqB := HE.out.2.2.2.1
              have hq1 := HE.out.2.2.2.2.2.2
              have hk2 : k ≤ 2 := by have := HE.out.2.1; omega
              go_wp2
              exact ⟨⟨k + 1, d' - 1, r + ov 1, by have := HE.out.2.1; have := HE.out.2.2.2.2.1; omega, by go_num, vint (by have := HE.out.1; have := HE.out.2.2.2.2.1; omega), by go_num, dec_step Q d' (ov 1) r N HE.out.2.2.2.2.1 (by rw [← HE.out.1]; exact HE.out.2.2.1), by have := HE.out.1; omega, n' + nq, rfl⟩, by simp [intOf]; omega⟩
        · have HT : Hid _ := ht1 rfl
          rw [show (-((1 : Nat) : Int)) = -1 from rfl]
          have u0 := hR.2.1.cell (i := 0) (by omega)
          have hbv := hR.1.lt
          have hbu := hR.2.1.lt
          have hbo' := hR.2.2.lt
          have hmk2 : ∀ w, (Instr.makeSlice 61 (.int .i64 2) (.int .i64 2)).run Try.prog w = .ok (.slice (some ⟨w.heap.size, 0, none⟩) 2 2) (w.alloc (.cells (madeCells #[.int .u32 0] 2) 114)) := fun w => mk_u32 2 (by omega) w
          clear hR hlu hlo hbel ht0 ht1 u0
          go_wp2
          have HR2 : Hid (Rows3 (wr.alloc (.cells (madeCells #[.int .u32 0] 2) 114)) bv bu bo ov ou' oo ∧ Below w.heap.size w (wr.alloc (.cells (madeCells #[.int .u32 0] 2) 114)) ∧ (wr.alloc (.cells (madeCells #[.int .u32 0] 2) 114)).rowIs wr.heap.size 114 2 (fun _ => .int .u32 0)) :=
            ⟨⟨row_below HR.out.1.1 hbv (Joins.below_alloc1 _ _), row_below HR.out.1.2.1 hbu (Joins.below_alloc1 _ _), row_below HR.out.1.2.2 hbo' (Joins.below_alloc1 _ _)⟩, HR.out.2.2.2.alloc HR.out.2.2.2.size _, World.rowIs_made wr _ _ _⟩
          have hwr : w.heap.size ≤ wr.heap.size := HR.out.2.2.2.size
          have HLu : Hid ((∀ j, j < 3 → ou' j < 4294967296) ∧ ∀ j, j < 1 → oo j < 4294967296) := ⟨HR.out.2.1, HR.out.2.2.1⟩
          clear HR
          generalize wr.heap.size = br at HR2 hbv hbu hbo' hwr ⊢
          go_loopw [26] (fun iv wi => ∃ (i : Nat) (o : Nat → Nat), i ≤ 2 ∧ iv = .int .i64 i ∧ Rows3 wi bv bu bo ov ou' oo ∧ wi.rowIs br 114 2 (fun j => .int .u32 (o j)) ∧ (∀ j, j < 2 → o j < 4294967296) ∧ (∀ j, j < i → o j = ou' j / 2 ^ s + ou' (j + 1) % 2 ^ s * 2 ^ (32 - s)) ∧ Below w.heap.size w wi) (fun iv _ => 2 - (intOf iv).toNat)
          case atStart => exact ⟨0, fun _ => 0, by omega, rfl, HR2.out.1, HR2.out.2.2, fun _ _ => (by show 0 < 4294967296; omega), fun j hj => by omega, HR2.out.2.1⟩
          case round =>
            obtain ⟨i, o, hi, rfl, hR, hro, hlo, hdone, hbel⟩ := hrel
            have HI : Hid (Rows3 wr bv bu bo ov ou' oo ∧ wr.rowIs br 114 2 (fun j => .int .u32 (o j)) ∧ (∀ j, j < 2 → o j < 4294967296) ∧ (∀ j, j < i → o j = ou' j / 2 ^ s + ou' (j + 1) % 2 ^ s * 2 ^ (32 - s)) ∧ Below w.heap.size w wr) := ⟨hR, hro, hlo, hdone, hbel⟩
            by_cases hi2 : i < 2
            · have u0 := hR.2.1.cell (i := i) (by omega)
              have u1 := hR.2.1.cell (i := i + 1) (by omega)
              have r0 := hro.cell (i := i) (by omega)
              have rf := hro.frozen i
              have lu0 := HLu.out.1 i (by omega)
              have lu1 := HLu.out.1 (i + 1) (by omega)
              have hb1 := hR.2.1.lt
              have hb2 := hro.lt
              clear hR hro hlo hdone hbel
              rcases Nat.eq_zero_or_pos s with hs0 | hs0
              · subst hs0
                go_wp2
                refine ⟨⟨i + 1, upd o i (ou' i), by omega, by go_num, ⟨row_other HI.out.1.1 (by omega) _ _, row_other HI.out.1.2.1 (by omega) _ _, row_other HI.out.1.2.2 (by omega) _ _⟩, row_upd HI.out.2.1, upd_lt HI.out.2.2.1 lu0, fun j hj => ?_, HI.out.2.2.2.2.setCell (p := ⟨br, i, none⟩) (by show w.heap.size ≤ br; omega) _⟩, by simp [intOf]; omega⟩
                unfold upd
                split
                · next h => subst h; simp [Nat.mod_one]
                · exact HI.out.2.2.2.1 j (by omega)
              · have hs0' : decide ((0 : Int) < (s : Int)) = true := by simp; omega
                rcases (show i = 0 ∨ i = 1 by omega) with rfl | rfl
                · go_wp2
                  go_region_with (fail)
                  all_goals (
                    go_wp2
                    rw [back_or2 (ou' 0) (ou' 1) s lu0 hs]
                    have hbl := back_lt (ou' 0) (ou' 1) s lu0 hs
                    refine ⟨⟨0 + 1, upd (upd o 0 (ou' 0 / 2 ^ s)) 0 (ou' 0 / 2 ^ s + ou' 1 % 2 ^ s * 2 ^ (32 - s)), by omega, by go_num, ?_, ?_, upd_lt (upd_lt HI.out.2.2.1 (Nat.lt_of_le_of_lt (Nat.le_add_right _ _) hbl.2)) hbl.2, fun j hj => ?_, ?_⟩, by simp [intOf]⟩
                    · exact ⟨row_other (row_other HI.out.1.1 (by omega) _ _) (by omega) _ _, row_other (row_other HI.out.1.2.1 (by omega) _ _) (by omega) _ _, row_other (row_other HI.out.1.2.2 (by omega) _ _) (by omega) _ _⟩
                    · rw [show ((ou' 0 : Int) / 2 ^ s) = ((ou' 0 / 2 ^ s : Nat) : Int) from by simp]
                      exact row_upd (row_upd HI.out.2.1)
                    · unfold upd
                      split
                      · next h => subst h; rfl
                      · exact absurd hj (by omega)
                    · exact ((HI.out.2.2.2.2.setCell (p := ⟨br, 0, none⟩) (by show w.heap.size ≤ br; omega) _).setCell (p := ⟨br, 0, none⟩) (by show w.heap.size ≤ br; omega) _).drew)
                · go_wp2
                  go_region_with (fail)
                  all_goals (
                    go_wp2
                    rw [back_or2 (ou' 1) (ou' 2) s lu0 hs]
                    have hbl := back_lt (ou' 1) (ou' 2) s lu0 hs
                    refine ⟨⟨1 + 1, upd (upd o 1 (ou' 1 / 2 ^ s)) 1 (ou' 1 / 2 ^ s + ou' 2 % 2 ^ s * 2 ^ (32 - s)), by omega, by go_num, ?_, ?_, upd_lt (upd_lt HI.out.2.2.1 (Nat.lt_of_le_of_lt (Nat.le_add_right _ _) hbl.2)) hbl.2, fun j hj => ?_, ?_⟩, by simp [intOf]⟩
                    · exact ⟨row_other (row_other HI.out.1.1 (by omega) _ _) (by omega) _ _, row_other (row_other HI.out.1.2.1 (by omega) _ _) (by omega) _ _, row_other (row_other HI.out.1.2.2 (by omega) _ _) (by omega) _ _⟩
                    · rw [show ((ou' 1 : Int) / 2 ^ s) = ((ou' 1 / 2 ^ s : Nat) : Int) from by simp]
                      exact row_upd (row_upd HI.out.2.1)
                    · unfold upd
                      split
                      · next h => subst h; rfl
                      · next h => first | exact HI.out.2.2.2.1 j (by omega) | (rw [if_neg h]; exact HI.out.2.2.2.1 j (by omega))
                    · exact ((HI.out.2.2.2.2.setCell (p := ⟨br, 1, none⟩) (by show w.heap.size ≤ br; omega) _).setCell (p := ⟨br, 1, none⟩) (by show w.heap.size ≤ br; omega) _).drew)
            · have hi2' : i = 2 := by omega
              subst hi2'
              have HSo : Hid (Sl wr (some ⟨bo, 0, none⟩) 1 1 oo) := Sl.ofRow hR.2.2 (by omega) HLu.out.2
              have HSr : Hid (Sl wr (some ⟨br, 0, none⟩) 2 2 o) := Sl.ofRow hro (by omega) hlo
              clear hR hro hlo hdone hbel
              go_wp2_with fail
              refine (l1Trim_any _ _ _ oo _ HSo.out).mono ?_
              rintro e w' ⟨rfl, rfl⟩
              go_wp2_with fail
              refine (l1Trim_any _ _ _ o _ HSr.out).mono ?_
              rintro e w' ⟨rfl, rfl⟩
              go_wp2
              go_ret2
              have hmo := Mag.trim HSo.out
              have hmr := Mag.trim HSr.out
              rw [show val 1 oo = x / y from by rw [← HT.out.1]; simp [val]] at hmo
              rw [back_end o ou' x y s hs HT.out.2.1 HT.out.2.2 HI.out.2.2.2.1] at hmr
              exact ⟨_, _, _, oo, _, _, _, o, rfl, hmo, hmr, HI.out.2.2.2.2⟩
end Go.Proofs.Ytikepklkjbohmaa
