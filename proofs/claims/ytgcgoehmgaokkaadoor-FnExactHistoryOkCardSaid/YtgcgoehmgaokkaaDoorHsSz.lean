import Derived.Test.YtgcgoehmgaokkaaDoorHsEqF
namespace Go.Proofs.YtgcgoehmgaokkaaDoor
open Go.RowKit

theorem szQS_any (n cap : Nat) (ao : Option Addr) (l : Int) (w : World) (hl : 0 ≤ l ∧ l ≤ 1048576) (hn : n ≤ 9223372036854775807) :
    Calls Tryd.prog 39 #[.slice ao n cap, .int .i64 l] w fun e w' => e = .returned (.int .i64 (if l - n < 0 then -1 else l - n)) ∧ w' = w := by
  by_cases h : l - n < 0
  · rw [if_pos h]
    go_enter Tryd.func39, Tryd.ntmps39
    go_wp2
    go_ret
    exact ⟨rfl, rfl⟩
  · rw [if_neg h]
    go_enter Tryd.func39, Tryd.ntmps39
    go_wp2
    go_ret
    exact ⟨rfl, rfl⟩
theorem szTermS_any (n cap : Nat) (ao : Option Addr) (l : Int) (w : World) (hl : 0 ≤ l ∧ l ≤ 1048576) (hn : n ≤ 9223372036854775807) :
    Calls Tryd.prog 73 #[.slice ao n cap, .int .i64 l] w fun e w' => e = .returned (.int .i64 (if l - n < 0 then -1 else l - n)) ∧ w' = w := by
  by_cases h : l - n < 0
  · rw [if_pos h]
    go_enter Tryd.func73, Tryd.ntmps73
    go_wp2
    go_ret
    exact ⟨rfl, rfl⟩
  · rw [if_neg h]
    go_enter Tryd.func73, Tryd.ntmps73
    go_wp2
    go_ret
    exact ⟨rfl, rfl⟩

theorem szFeat_any (f : Ft) (no : Option Addr) (c : Nat) (l : Int) (w : World) (hl : 0 ≤ l ∧ l ≤ 1048576) (hn : f.n ≤ 9223372036854775807) :
    Calls Tryd.prog 60 #[f.agg (.slice no f.n c), .int .i64 l] w fun e w' => ∃ r : Int, e = .returned (.int .i64 r) ∧ (r = -1 ∨ f.n ≤ 1048576 ∧ 0 ≤ r ∧ r ≤ l) ∧ Below w.heap.size w w' := by
  obtain ⟨id, kind, off, on, wth, n, T⟩ := f
  have hn' : n ≤ 9223372036854775807 := hn
  clear hn
  by_cases h1 : l - n < 0
  · go_enter Tryd.func60, Tryd.ntmps60
    go_wp2_with fail
    refine (szTermS_any _ _ _ _ _ hl hn').mono ?_
    rintro e w1 ⟨rfl, rfl⟩
    rw [if_pos h1]
    go_wp2
    go_ret
    exact ⟨-1, rfl, Or.inl rfl, Joins.below_alloc1 _ _⟩
  · go_enter Tryd.func60, Tryd.ntmps60
    go_wp2_with fail
    refine (szTermS_any _ _ _ _ _ hl hn').mono ?_
    rintro e w1 ⟨rfl, rfl⟩
    rw [if_neg (show ¬ (l - n < 0) by omega)]
    go_wp2
    go_ret
    exact ⟨_, rfl, Or.inr ⟨by show n ≤ 1048576; omega, by omega, by omega⟩, Joins.below_alloc1 _ _⟩

set_option maxHeartbeats 1000000 in
theorem szFeatS_any (n cap : Nat) (ao : Option Addr) (G : Nat → Ft) (l : Int) (w : World) (hl : 0 ≤ l ∧ l ≤ 1048576) (hn : n ≤ 9223372036854775807) (hG : ∀ i, i < n → (G i).n ≤ 9223372036854775807) (hc : Fs w ao n G) :
    Calls Tryd.prog 40 #[.slice ao n cap, .int .i64 l] w fun e w' => ∃ r : Int, e = .returned (.int .i64 r) ∧ (r = -1 ∨ n ≤ 1048576 ∧ (∀ i, i < n → (G i).n ≤ 1048576) ∧ 0 ≤ r ∧ r ≤ l) ∧ Below w.heap.size w w' := by
  have HC : Hid _ := hc
  have HN : Hid _ := hG
  clear hc hG
  by_cases h1 : l - n < 0
  · go_enter Tryd.func40, Tryd.ntmps40
    go_wp2
    go_ret
    exact ⟨-1, rfl, Or.inl rfl, Below.refl _ _⟩
  go_enter Tryd.func40, Tryd.ntmps40
  go_wp2
  go_loopw [1, 5] (fun lv i wr => ∃ (k : Nat) (m : Int), k ≤ n ∧ i = .int .i64 k ∧ lv = .int .i64 m ∧ 0 ≤ m ∧ m ≤ l ∧ Hid (∀ i, i < k → (G i).n ≤ 1048576) ∧ Hid (Below w.heap.size w wr)) (fun _ i _ => n - (intOf i).toNat)
  case atStart => exact ⟨0, _, Nat.zero_le _, rfl, rfl, by omega, by omega, fun i hi => absurd hi (Nat.not_lt_zero _), Below.refl _ _⟩
  case round =>
    obtain ⟨k, m, hk, rfl, rfl, hm0, hml, HK, HB⟩ := hrel
    by_cases hlt : k < n
    · obtain ⟨b, off, rfl, hbw, hcell⟩ := HC.out (by omega)
      obtain ⟨no, cp, hk6, hrd⟩ := hcell k hlt
      have HNk : Hid ((G k).n ≤ 9223372036854775807) := HN.out k hlt
      have c0 : wr.cell? ⟨b, off + k * 6, none⟩ = some (.int .i64 (G k).id) := (HB.out.cell (by exact hbw)).trans (hk6 0 (by omega))
      have c1 : wr.cell? ⟨b, off + k * 6 + 1, none⟩ = some (.int .i64 (G k).kind) := (HB.out.cell (by exact hbw)).trans (hk6 1 (by omega))
      have c2 : wr.cell? ⟨b, off + k * 6 + 2, none⟩ = some (.bool (G k).off) := (HB.out.cell (by exact hbw)).trans (hk6 2 (by omega))
      have c3 : wr.cell? ⟨b, off + k * 6 + 3, none⟩ = some (.int .i64 (G k).on) := (HB.out.cell (by exact hbw)).trans (hk6 3 (by omega))
      have c4 : wr.cell? ⟨b, off + k * 6 + 4, none⟩ = some (.int .i64 (G k).wth) := (HB.out.cell (by exact hbw)).trans (hk6 4 (by omega))
      have c5 : wr.cell? ⟨b, off + k * 6 + 5, none⟩ = some (.slice no (G k).n cp) := (HB.out.cell (by exact hbw)).trans (hk6 5 (by omega))
      clear hcell HC hk6 hrd HN
      go_wp2_with fail
      refine (szFeat_any (G k) no cp m _ (by omega) HNk.out).mono ?_
      rintro e w1 ⟨r, rfl, hr, hb1⟩
      have HB1 : Hid (Below w.heap.size w w1) := HB.out.trans (hb1.mono HB.out.size)
      clear hb1 HB c0 c1 c2 c3 c4 c5 HNk
      rcases hr with rfl | ⟨h2, h3, h4⟩
      · go_wp2
        go_ret
        exact ⟨-1, rfl, Or.inl rfl, HB1.out⟩
      · have HK1 : Hid (∀ i, i < k + 1 → (G i).n ≤ 1048576) := fun i hi => by
          by_cases e : i = k
          · subst e; exact h2
          · exact HK.out i (by omega)
        go_wp2
        go_roundw
        case rel => exact ⟨k + 1, r, by omega, by simp, rfl, h3, by omega, HK1.out, HB1.out⟩
        case measure => simp [intOf]; omega
    · go_wp2
      go_ret
      exact ⟨m, rfl, Or.inr ⟨by omega, fun i hi => HK.out i (by omega), hm0, hml⟩, HB.out⟩

theorem szHistory_any (np nf cp cf : Nat) (po fo : Option Addr) (G : Nat → Ft) (w : World) (hp : np ≤ 9223372036854775807) (hf : nf ≤ 9223372036854775807) (hG : ∀ i, i < nf → (G i).n ≤ 9223372036854775807) (hc : Fs w fo nf G) :
    Calls Tryd.prog 17 #[.agg #[.slice po np cp, .slice fo nf cf], .int .i64 1048576] w fun e w' => ∃ l : Int, e = .returned (.int .i64 l) ∧ (l < 0 ∨ np ≤ 1048576 ∧ nf ≤ 1048576 ∧ (∀ i, i < nf → (G i).n ≤ 1048576) ∧ 0 ≤ l) ∧ Below w.heap.size w w' := by
  have HC : Hid (Fs (w.alloc (.cells #[.slice po np cp, .slice fo nf cf] 42)) fo nf G) := Fs.below hc (Joins.below_alloc1 _ _) (Nat.le_refl _)
  clear hc
  by_cases h1 : (1048576 : Int) - np < 0
  · go_enter Tryd.func17, Tryd.ntmps17
    go_wp2_with fail
    refine (szQS_any _ _ _ _ _ (by omega) hp).mono ?_
    rintro e w1 ⟨rfl, rfl⟩
    rw [if_pos h1]
    go_wp2
    go_ret
    exact ⟨-1, rfl, Or.inl (by omega), Joins.below_alloc1 _ _⟩
  · go_enter Tryd.func17, Tryd.ntmps17
    go_wp2_with fail
    refine (szQS_any _ _ _ _ _ (by omega) hp).mono ?_
    rintro e w1 ⟨rfl, rfl⟩
    rw [if_neg (show ¬ ((1048576 : Int) - np < 0) by omega)]
    go_wp2_with fail
    refine (szFeatS_any nf cf fo G _ _ (by omega) hf hG HC.out).mono ?_
    rintro e w1 ⟨r, rfl, hr, hb1⟩
    have HB1 : Hid (Below w.heap.size w w1) := (Joins.below_alloc1 _ _).trans (hb1.mono (by simp))
    clear hb1 HC
    rcases hr with rfl | ⟨h2, h3, h4, h5⟩
    · go_wp2
      go_ret
      exact ⟨-1, rfl, Or.inl (by omega), HB1.out⟩
    · have H3 : Hid _ := h3
      clear h3
      go_wp2
      go_ret
      exact ⟨r, rfl, Or.inr ⟨by omega, h2, H3.out, h4⟩, HB1.out⟩
end Go.Proofs.YtgcgoehmgaokkaaDoor
