import Derived.Test.YtgcgoehmgaokkaaDoorHsDef
namespace Go.Proofs.YtgcgoehmgaokkaaDoor
open Go.RowKit

theorem nat_eq (n c : Nat) : ((n : Int) == (c : Int)) = decide (n = c) := by rw [Bool.eq_iff_iff]; simp; omega
theorem nat_eq0 (n : Nat) : ((n : Int) == 0) = decide (n = 0) := nat_eq n 0

set_option maxHeartbeats 1000000 in
theorem l19Count_any (k : Int) (n : Nat) (w : World) (hn : n ≤ 1048576) : Calls Tryd.prog 41 #[.int .i64 k, .int .i64 n] w fun e w' => e = .returned (.bool (cnt k n)) ∧ w' = w := by
  by_cases h : 1 ≤ k ∧ k ≤ 7
  · have hk : k = 1 ∨ k = 2 ∨ k = 3 ∨ k = 4 ∨ k = 5 ∨ k = 6 ∨ k = 7 := by omega
    rcases hk with rfl | rfl | rfl | rfl | rfl | rfl | rfl
    · go_enter Tryd.func41, Tryd.ntmps41
      go_wp2
      go_ret
      exact ⟨ret_bool (nat_eq n 6), rfl⟩
    · by_cases e8 : n = 8
      · subst e8
        go_enter Tryd.func41, Tryd.ntmps41
        go_wp2
        go_ret
        exact ⟨rfl, rfl⟩
      by_cases e10 : n = 10
      · subst e10
        go_enter Tryd.func41, Tryd.ntmps41
        go_wp2
        go_ret
        exact ⟨rfl, rfl⟩
      by_cases e12 : n = 12
      · subst e12
        go_enter Tryd.func41, Tryd.ntmps41
        go_wp2
        go_ret
        exact ⟨rfl, rfl⟩
      by_cases e14 : n = 14
      · subst e14
        go_enter Tryd.func41, Tryd.ntmps41
        go_wp2
        go_ret
        exact ⟨rfl, rfl⟩
      have f8 : ((n : Int) == 8) = false := beq_eq_false_iff_ne.2 (by omega)
      have f10 : ((n : Int) == 10) = false := beq_eq_false_iff_ne.2 (by omega)
      have f12 : ((n : Int) == 12) = false := beq_eq_false_iff_ne.2 (by omega)
      have f14 : ((n : Int) == 14) = false := beq_eq_false_iff_ne.2 (by omega)
      have HF : Hid (cnt 2 n = false) := by simp [Hid, cnt, e8, e10, e12, e14]
      clear e8 e10 e12 e14
      go_enter Tryd.func41, Tryd.ntmps41
      go_wp2
      go_ret
      exact ⟨by rw [HF.out]; rfl, rfl⟩
    · go_enter Tryd.func41, Tryd.ntmps41
      go_wp2
      go_ret
      exact ⟨ret_bool (nat_eq n 0), rfl⟩
    · go_enter Tryd.func41, Tryd.ntmps41
      go_wp2
      go_ret
      exact ⟨ret_bool (nat_eq n 0), rfl⟩
    · go_enter Tryd.func41, Tryd.ntmps41
      go_wp2
      go_ret
      exact ⟨ret_bool (nat_eq n 0), rfl⟩
    · go_enter Tryd.func41, Tryd.ntmps41
      go_wp2
      go_ret
      exact ⟨ret_bool (nat_eq n 3), rfl⟩
    · go_enter Tryd.func41, Tryd.ntmps41
      go_wp2
      go_ret
      exact ⟨ret_bool (nat_eq n 4), rfl⟩
  · have HF : Hid (cnt k n = false) := by
      unfold cnt
      rw [if_neg (by omega), if_neg (by omega), if_neg (by omega), if_neg (by omega), if_neg (by omega)]
      exact rfl
    have e1 : (k == 1) = false := beq_eq_false_iff_ne.2 (by omega)
    have e2 : (k == 2) = false := beq_eq_false_iff_ne.2 (by omega)
    have e3 : (k == 3) = false := beq_eq_false_iff_ne.2 (by omega)
    have e4 : (k == 4) = false := beq_eq_false_iff_ne.2 (by omega)
    have e5 : (k == 5) = false := beq_eq_false_iff_ne.2 (by omega)
    have e6 : (k == 6) = false := beq_eq_false_iff_ne.2 (by omega)
    have e7 : (k == 7) = false := beq_eq_false_iff_ne.2 (by omega)
    go_enter Tryd.func41, Tryd.ntmps41
    go_wp2
    go_ret
    exact ⟨by rw [HF.out]; rfl, rfl⟩
theorem l19Uses_any (k : Int) (w : World) : Calls Tryd.prog 42 #[.int .i64 k] w fun e w' => e = .returned (.tuple #[.bool (usesOn k), .bool (usesWith k)]) ∧ w' = w := by
  by_cases h : 1 ≤ k ∧ k ≤ 7
  · have hk : k = 1 ∨ k = 2 ∨ k = 3 ∨ k = 4 ∨ k = 5 ∨ k = 6 ∨ k = 7 := by omega
    rcases hk with rfl | rfl | rfl | rfl | rfl | rfl | rfl
    all_goals
      go_enter Tryd.func42, Tryd.ntmps42
      go_wp2
      go_ret2
      exact ⟨rfl, rfl⟩
  · have e3 : (k == 3) = false := beq_eq_false_iff_ne.2 (by omega)
    have e4 : (k == 4) = false := beq_eq_false_iff_ne.2 (by omega)
    have e5 : (k == 5) = false := beq_eq_false_iff_ne.2 (by omega)
    have e6 : (k == 6) = false := beq_eq_false_iff_ne.2 (by omega)
    have e7 : (k == 7) = false := beq_eq_false_iff_ne.2 (by omega)
    have u1 : usesOn k = false := by unfold usesOn; rw [decide_eq_false]; omega
    have u2 : usesWith k = false := by unfold usesWith; rw [decide_eq_false]; omega
    go_enter Tryd.func42, Tryd.ntmps42
    go_wp2
    go_ret2
    exact ⟨by rw [u1, u2]; rfl, rfl⟩

theorem found_no {G : Nat → Ft} {id : Int} {i : Nat} (h : ∀ j, j < i → (G j).id ≠ id) : found G id i = false := by
  unfold found
  rw [List.any_eq_false]
  intro j hj
  simpa using h j (List.mem_range.1 hj)
theorem found_yes {G : Nat → Ft} {id : Int} {i j : Nat} (hj : j < i) (h : (G j).id = id) : found G id i = true := by
  unfold found
  rw [List.any_eq_true]
  exact ⟨j, List.mem_range.2 hj, by simpa using h⟩
theorem hist_cells {w wr : World} {x y : Value} {t : Nat} (hb : Below (w.alloc (.cells #[x, y] t)).heap.size (w.alloc (.cells #[x, y] t)) wr) :
    wr.cell? ⟨w.heap.size, 0, none⟩ = some x ∧ wr.cell? ⟨w.heap.size, 1, none⟩ = some y :=
  ⟨by rw [hb.cell (p := ⟨w.heap.size, 0, none⟩) (by simp)]; go_simp, by rw [hb.cell (p := ⟨w.heap.size, 1, none⟩) (by simp)]; go_simp⟩

set_option maxHeartbeats 1000000 in
theorem l19Find_any (np nf cp cf : Nat) (po fo : Option Addr) (G : Nat → Ft) (id : Int) (i : Nat) (w : World) (hf : nf ≤ 1048576) (hi : i < nf) (rf : Fs w fo nf G) :
    Calls Tryd.prog 43 #[.agg #[.slice po np cp, .slice fo nf cf], .int .i64 id, .int .i64 i] w fun e w' => ∃ r : Int, e = .returned (.int .i64 r) ∧ (found G id i = true ∧ 0 ≤ r ∨ found G id i = false ∧ r = -1) ∧ Below w.heap.size w w' := by
  have HF : Hid (Fs (w.alloc (.cells #[.slice po np cp, .slice fo nf cf] 48)) fo nf G) := Fs.below rf (Joins.below_alloc1 _ _) (Nat.le_refl _)
  clear rf
  go_enter Tryd.func43, Tryd.ntmps43
  go_wp2
  go_loopw [7] (fun iv wr => ∃ k : Nat, k ≤ i ∧ iv = .int .i64 k ∧ Hid (∀ j, j < k → (G j).id ≠ id) ∧ Hid (Below (w.alloc (.cells #[.slice po np cp, .slice fo nf cf] 48)).heap.size (w.alloc (.cells #[.slice po np cp, .slice fo nf cf] 48)) wr)) (fun iv _ => i - (intOf iv).toNat)
  case atStart => exact ⟨0, Nat.zero_le _, rfl, fun j hj => absurd hj (Nat.not_lt_zero _), Below.refl _ _⟩
  case round =>
    obtain ⟨k, hk, rfl, HK, HB⟩ := hrel
    obtain ⟨m0, m1⟩ := hist_cells HB.out
    by_cases hlt : k < i
    · obtain ⟨b, off, rfl, hbw, hcell⟩ := (Fs.below HF.out HB.out (Nat.le_refl _)) (by omega)
      obtain ⟨no, cn, ck, _⟩ := hcell k (by omega)
      have c0 : wr.cell? ⟨b, off + k * 6, none⟩ = some (.int .i64 (G k).id) := ck 0 (by omega)
      clear hcell ck
      by_cases hid : (G k).id = id
      · have HY : Hid (found G id i = true) := found_yes hlt hid
        rw [hid] at c0
        go_wp2
        go_ret
        exact ⟨k, rfl, Or.inl ⟨HY.out, by omega⟩, (Joins.below_alloc1 _ _).trans (HB.out.mono (by simp))⟩
      · have hne : ((G k).id == id) = false := beq_eq_false_iff_ne.2 hid
        have HK1 : Hid (∀ j, j < k + 1 → (G j).id ≠ id) := fun j hj => by
          by_cases e : j = k
          · subst e; exact hid
          · exact HK.out j (by omega)
        clear hid
        go_wp2
        go_roundw
        case rel => exact ⟨k + 1, by omega, by simp, HK1.out, HB.out⟩
        case measure => simp [intOf]; omega
    · have HN : Hid (found G id i = false) := found_no fun j hj => HK.out j (by omega)
      go_wp2
      go_ret
      exact ⟨-1, rfl, Or.inr ⟨HN.out, rfl⟩, (Joins.below_alloc1 _ _).trans (HB.out.mono (by simp))⟩
end Go.Proofs.YtgcgoehmgaokkaaDoor
