import Derived.Test.YtgcgoehmgaokkaaDoorHsFeats
import Derived.Test.YtgcgoehmgaokkaaDoorHsEqT
namespace Go.Proofs.YtgcgoehmgaokkaaDoor
open Go.RowKit

set_option maxHeartbeats 1000000 in
theorem eqFeat_same (f : Ft) (no mo : Option Addr) (cn cm : Nat) (w : World) (hn : f.n ≤ 1048576) (ha : Rd w 5 no f.n f.T) (hb : Rd w 5 mo f.n f.T) :
    Calls Tryd.prog 70 #[f.agg (.slice no f.n cn), f.agg (.slice mo f.n cm)] w fun e w' => e = .returned (.bool true) ∧ Below w.heap.size w w' := by
  obtain ⟨id, kind, off, on, wth, n, T⟩ := f
  have hn' : n ≤ 1048576 := hn
  have H0 : Hid (Rd ((w.alloc (.cells #[.int .i64 id, .int .i64 kind, .bool off, .int .i64 on, .int .i64 wth, .slice no n cn] 78)).alloc (.cells #[.int .i64 id, .int .i64 kind, .bool off, .int .i64 on, .int .i64 wth, .slice mo n cm] 78)) 5 no n T) := Rd.below ha (Joins.below_alloc2 _ _ _) (Nat.le_refl _)
  have H1 : Hid (Rd ((w.alloc (.cells #[.int .i64 id, .int .i64 kind, .bool off, .int .i64 on, .int .i64 wth, .slice no n cn] 78)).alloc (.cells #[.int .i64 id, .int .i64 kind, .bool off, .int .i64 on, .int .i64 wth, .slice mo n cm] 78)) 5 mo n T) := Rd.below hb (Joins.below_alloc2 _ _ _) (Nat.le_refl _)
  clear ha hb hn
  go_enter Tryd.func70, Tryd.ntmps70
  go_wp2_with fail
  refine (eqTermS_same n cn cm no mo T _ hn' H0.out H1.out).mono ?_
  rintro e w1 ⟨rfl, hb1⟩
  have HB1 : Hid (Below _ _ w1) := hb1
  clear hb1 H0 H1
  go_wp2
  go_ret
  exact ⟨rfl, (Joins.below_alloc2 _ _ _).trans (HB1.out.mono (by simp; omega))⟩

abbrev TwoFeat (b o c p : Nat) (f : Ft) (no mo : Option Addr) (cn cm : Nat) (w' : World) : Prop := (w'.cell? ⟨b, o, none⟩ = some (.int .i64 f.id) ∧ w'.cell? ⟨b, o + 1, none⟩ = some (.int .i64 f.kind) ∧ w'.cell? ⟨b, o + 2, none⟩ = some (.bool f.off) ∧ w'.cell? ⟨b, o + 3, none⟩ = some (.int .i64 f.on) ∧ w'.cell? ⟨b, o + 4, none⟩ = some (.int .i64 f.wth) ∧ w'.cell? ⟨b, o + 5, none⟩ = some (.slice no f.n cn) ∧ w'.cell? ⟨c, p, none⟩ = some (.int .i64 f.id) ∧ w'.cell? ⟨c, p + 1, none⟩ = some (.int .i64 f.kind) ∧ w'.cell? ⟨c, p + 2, none⟩ = some (.bool f.off) ∧ w'.cell? ⟨c, p + 3, none⟩ = some (.int .i64 f.on) ∧ w'.cell? ⟨c, p + 4, none⟩ = some (.int .i64 f.wth) ∧ w'.cell? ⟨c, p + 5, none⟩ = some (.slice mo f.n cm)) ∧ b < w'.heap.size ∧ c < w'.heap.size
theorem TwoFeat.drew {b o c p : Nat} {f : Ft} {no mo : Option Addr} {cn cm : Nat} {w' : World} (h : TwoFeat b o c p f no mo cn cm w') : TwoFeat b o c p f no mo cn cm w'.drew := h
theorem TwoFeat.call {b o c p : Nat} {f : Ft} {no mo : Option Addr} {cn cm : Nat} {w' w1 : World} (h : TwoFeat b o c p f no mo cn cm w') (hb : Below w'.heap.size w' w1) : TwoFeat b o c p f no mo cn cm w1 :=
  ⟨⟨(hb.cell h.2.1).trans (h.1.1), (hb.cell h.2.1).trans (h.1.2.1), (hb.cell h.2.1).trans (h.1.2.2.1), (hb.cell h.2.1).trans (h.1.2.2.2.1), (hb.cell h.2.1).trans (h.1.2.2.2.2.1), (hb.cell h.2.1).trans (h.1.2.2.2.2.2.1), (hb.cell h.2.2).trans (h.1.2.2.2.2.2.2.1), (hb.cell h.2.2).trans (h.1.2.2.2.2.2.2.2.1), (hb.cell h.2.2).trans (h.1.2.2.2.2.2.2.2.2.1), (hb.cell h.2.2).trans (h.1.2.2.2.2.2.2.2.2.2.1), (hb.cell h.2.2).trans (h.1.2.2.2.2.2.2.2.2.2.2.1), (hb.cell h.2.2).trans (h.1.2.2.2.2.2.2.2.2.2.2.2)⟩, Nat.lt_of_lt_of_le h.2.1 hb.size, Nat.lt_of_lt_of_le h.2.2 hb.size⟩

set_option maxHeartbeats 1000000 in
theorem eqFeatS_same (n cap cap' : Nat) (ao bo : Option Addr) (G : Nat → Ft) (w : World) (hn : n ≤ 1048576) (hG : ∀ i, i < n → (G i).n ≤ 1048576) (ha : Fs w ao n G) (hb : Fs w bo n G) :
    Calls Tryd.prog 51 #[.slice ao n cap, .slice bo n cap'] w fun e w' => e = .returned (.bool true) ∧ Below w.heap.size w w' := by
  have HA : Hid (Fs w ao n G) := ha
  have HC : Hid (Fs w bo n G) := hb
  have HN : Hid _ := hG
  clear ha hb hG
  go_enter Tryd.func51, Tryd.ntmps51
  go_wp2
  go_loopw [5] (fun i wr => ∃ k : Nat, k ≤ n ∧ i = .int .i64 k ∧ Hid (Below w.heap.size w wr)) (fun i _ => n - (intOf i).toNat)
  case atStart => exact ⟨0, Nat.zero_le _, rfl, Below.refl _ _⟩
  case round =>
    obtain ⟨k, hk, rfl, HB⟩ := hrel
    by_cases hlt : k < n
    · obtain ⟨b, off, rfl, hbw, hcell⟩ := (Fs.below HA.out HB.out (Nat.le_refl _)) (by omega)
      obtain ⟨c, p, rfl, hcw, dcell⟩ := (Fs.below HC.out HB.out (Nat.le_refl _)) (by omega)
      obtain ⟨no, cn, ck, rk⟩ := hcell k hlt
      obtain ⟨mo, cm, dk, sk⟩ := dcell k hlt
      have HNk : Hid ((G k).n ≤ 1048576) := HN.out k hlt
      have HRk : Hid (Rd wr.drew 5 no (G k).n (G k).T) := Rd.below rk (Below.refl _ _).drew (Nat.le_refl _)
      have HSk : Hid (Rd wr.drew 5 mo (G k).n (G k).T) := Rd.below sk (Below.refl _ _).drew (Nat.le_refl _)
      have HS : Hid (TwoFeat b (off + k * 6) c (p + k * 6) (G k) no mo cn cm wr) := ⟨⟨ck 0 (by omega), ck 1 (by omega), ck 2 (by omega), ck 3 (by omega), ck 4 (by omega), ck 5 (by omega), dk 0 (by omega), dk 1 (by omega), dk 2 (by omega), dk 3 (by omega), dk 4 (by omega), dk 5 (by omega)⟩, hbw, hcw⟩
      clear hcell dcell ck dk rk sk HA HC HN hbw hcw
      go_wp2_with fail
      go_region_held3 (fun w' => TwoFeat b (off + k * 6) c (p + k * 6) (G k) no mo cn cm w') (first | with_reducible exact TwoFeat.drew HS.out | with_reducible exact TwoFeat.call (by assumption) (by assumption))
        (first
          | (go_at_call 70; refine (eqFeat_same (G k) no mo cn cm _ HNk.out HRk.out HSk.out).mono ?_; rintro e w1 ⟨rfl, hb1⟩))
      have HB1 : Hid (Below w.heap.size w w1) := HB.out.trans ((Below.refl _ _).drew.trans (hb1.mono HB.out.size))
      clear hb1 HS HB HRk HSk HNk
      go_wp2
      go_roundw
      case rel => exact ⟨k + 1, by omega, by simp, HB1.out⟩
      case measure => simp [intOf]; omega
    · go_wp2
      go_ret
      exact ⟨rfl, HB.out⟩
end Go.Proofs.YtgcgoehmgaokkaaDoor
