import Derived.Test.YtgcgoehmgaokkaaDoorHsTab
namespace Go.Proofs.YtgcgoehmgaokkaaDoor
open Go.RowKit

theorem ok_is (n d : Int) (x : Bool) (hx : qok n d = x) (w : World) : Calls Tryd.prog 57 #[.agg #[.int .i64 n, .int .i64 d]] w fun e w' => e = .returned (.bool x) ∧ Below w.heap.size w w' := by
  subst hx
  exact ok_any n d w
theorem isPosition_any (i n : Int) (w : World) : Calls Tryd.prog 56 #[.int .i64 i, .int .i64 n] w fun e w' => e = .returned (.bool (decide (0 ≤ i ∧ i < n))) ∧ w' = w := by
  by_cases h : 0 ≤ i
  · go_enter Tryd.func56, Tryd.ntmps56
    go_wp2
    go_ret
    simp [h]
  · have h' : ¬ (0 ≤ i ∧ i < n) := fun x => h x.1
    go_enter Tryd.func56, Tryd.ntmps56
    go_wp2
    go_ret
    exact ⟨rfl, rfl⟩
theorem isPosition_is (i n : Int) (x : Bool) (hx : decide (0 ≤ i ∧ i < n) = x) (w : World) : Calls Tryd.prog 56 #[.int .i64 i, .int .i64 n] w fun e w' => e = .returned (.bool x) ∧ w' = w := by
  subst hx
  exact isPosition_any i n w

theorem noQ_any (P : Nat → Int) (k : Nat) (x : Bool) (hx : qk P k = x) (w : World) :
    Calls Tryd.prog 47 #[.agg #[.int .i64 (P (k * 2)), .int .i64 (P (k * 2 + 1))]] w fun e w' => e = .returned (.bool (!x)) ∧ Below w.heap.size w w' := by
  have HX : Hid (qok (P (k * 2)) (P (k * 2 + 1)) = x) := hx
  clear hx
  go_enter Tryd.func47, Tryd.ntmps47
  go_wp2_with fail
  refine (ok_is _ _ _ HX.out _).mono ?_
  rintro e w1 ⟨rfl, hb1⟩
  go_wp2
  go_ret
  exact ⟨rfl, (Joins.below_alloc1 _ _).trans (hb1.mono (by simp))⟩

set_option maxHeartbeats 1000000 in
theorem indexQ_any  (n cap : Nat) (ao : Option Addr) (T : Nat → Int) (w : World) (hn : n ≤ 1048576) (hr : Rd w 2 ao n T)  :
    Calls Tryd.prog 63 #[.slice ao n cap, .func (Fn.func 47) #[] #[]] w fun e w' => (∃ r : Int, e = .returned (.int .i64 r) ∧ ((r = -1 ∧ ∀ j, j < n → qk T j = true) ∨ (0 ≤ r ∧ ∃ j, j < n ∧ qk T j = false))) ∧ Below w.heap.size w w' := by
  have HV : Hid (Rd w 2 ao n T) := hr
  clear hr
  go_enter Tryd.func63, Tryd.ntmps63
  go_wp2
  go_loopw [8] (fun i wr => ∃ k : Nat, k ≤ n ∧ i = .int .i64 k ∧ Hid (∀ j, j < k → qk T j = true) ∧ Hid (Below w.heap.size w wr)) (fun i _ => n - (intOf i).toNat)
  case atStart => exact ⟨0, Nat.zero_le _, rfl, fun j hj => absurd hj (Nat.not_lt_zero _), Below.refl _ _⟩
  case round =>
    obtain ⟨k, hk, rfl, HK, HB⟩ := hrel
    by_cases hlt : k < n
    · have HV1 : Hid (Rd wr 2 ao n T) := Rd.below HV.out HB.out (Nat.le_refl _)
      obtain ⟨b, off, rfl, hbw, hcell⟩ := HV1.out (by omega)
      have c0 : wr.cell? ⟨b, off + k * 2, none⟩ = some (.int .i64 (T (k * 2))) := hcell (k * 2) (by omega)
      have c1 : wr.cell? ⟨b, off + k * 2 + 1, none⟩ = some (.int .i64 (T (k * 2 + 1))) := hcell (k * 2 + 1) (by omega)
      clear hcell HV1
      rcases Bool.eq_false_or_eq_true (qk T k) with hvk | hvk
      · have HVK : Hid (qk T k = true) := hvk
        clear hvk
        go_wp2_with fail
        refine (noQ_any T k _ HVK.out _).mono ?_
        rintro e w1 ⟨rfl, hb1⟩
        have HB1 : Hid (Below w.heap.size w w1) := HB.out.trans (hb1.mono HB.out.size)
        clear hb1 HB c0 c1
        go_wp2
        go_roundw
        case rel => exact ⟨k + 1, by omega, by simp, all_succ (f := fun j => qk T j) HK.out HVK.out, HB1.out⟩
        case measure => simp [intOf]; omega
      · have HVK : Hid (qk T k = false) := hvk
        clear hvk
        go_wp2_with fail
        refine (noQ_any T k _ HVK.out _).mono ?_
        rintro e w1 ⟨rfl, hb1⟩
        have HB1 : Hid (Below w.heap.size w w1) := HB.out.trans (hb1.mono HB.out.size)
        clear hb1 HB c0 c1
        go_wp2
        go_ret
        exact ⟨⟨_, rfl, Or.inr ⟨by omega, k, hlt, HVK.out⟩⟩, HB1.out⟩
    · go_wp2
      go_ret
      exact ⟨⟨_, rfl, Or.inl ⟨rfl, fun j hj => HK.out j (by omega)⟩⟩, HB.out⟩

theorem containsQ_any  (n cap : Nat) (ao : Option Addr) (T : Nat → Int) (w : World) (hn : n ≤ 1048576) (hr : Rd w 2 ao n T)  :
    Calls Tryd.prog 46 #[.slice ao n cap, .func (Fn.func 47) #[] #[]] w fun e w' => ((e = .returned (.bool false) ∧ ∀ j, j < n → qk T j = true) ∨ (e = .returned (.bool true) ∧ ∃ j, j < n ∧ qk T j = false)) ∧ Below w.heap.size w w' := by
  have HV : Hid (Rd w 2 ao n T) := hr
  clear hr
  go_enter Tryd.func46, Tryd.ntmps46
  go_wp2_with fail
  refine (indexQ_any  n cap ao T _ hn HV.out ).mono ?_
  rintro e w1 ⟨⟨r, rfl, hr⟩, hb1⟩
  rcases hr with ⟨rfl, hr⟩ | ⟨h0, hr⟩
  · have HR : Hid (∀ j, j < n → qk T j = true) := hr
    clear hr
    go_wp2
    go_ret
    exact ⟨Or.inl ⟨rfl, HR.out⟩, hb1⟩
  · have HR : Hid (∃ j, j < n ∧ qk T j = false) := hr
    clear hr
    go_wp2
    go_ret
    exact ⟨Or.inr ⟨rfl, HR.out⟩, hb1⟩

/-- A term by its numbers. -/
def tkv (np : Nat) (x0 x1 x2 x3 x4 : Int) : Bool :=
  decide (-1 ≤ x0 ∧ x0 < np) && qok x1 x2 && qok x3 x4 && !decide (x0 = -1 ∧ x1 ≠ 0)
theorem tkv_at (np : Nat) (x0 x1 x2 x3 x4 : Int) : tkv np x0 x1 x2 x3 x4 = ((decide (x0 = -1 ∧ x1 = 0) || decide (0 ≤ x0 ∧ x0 < np)) && qok x1 x2 && qok x3 x4) := by
  have h : (decide (-1 ≤ x0 ∧ x0 < np) && !decide (x0 = -1 ∧ x1 ≠ 0)) = (decide (x0 = -1 ∧ x1 = 0) || decide (0 ≤ x0 ∧ x0 < np)) := by
    rw [Bool.eq_iff_iff]
    simp
    omega
  rw [← h]
  unfold tkv
  cases decide (-1 ≤ x0 ∧ x0 < np) <;> cases qok x1 x2 <;> cases qok x3 x4 <;> cases decide (x0 = -1 ∧ x1 ≠ 0) <;> rfl

set_option maxHeartbeats 2000000 in
theorem notTerm_any (np B : Nat) (x0 x1 x2 x3 x4 : Int) (x : Bool) (hx : tkv np x0 x1 x2 x3 x4 = x) (w : World) (hm : w.cell? ⟨B, 0, none⟩ = some (.int .i64 np)) (hB : B < w.heap.size) :
    Calls Tryd.prog 68 #[.agg #[.int .i64 x0, .int .i64 x1, .int .i64 x2, .int .i64 x3, .int .i64 x4], .pointer (some ⟨B, 0, none⟩)] w fun e w' => e = .returned (.bool (!x)) ∧ Below w.heap.size w w' := by
  rw [tkv_at] at hx
  have hne : B ≠ w.heap.size := Nat.ne_of_lt hB
  have HA0 : Hid (At (w.alloc (.cells #[.int .i64 x0, .int .i64 x1, .int .i64 x2, .int .i64 x3, .int .i64 x4] 84)) w.heap.size #[.int .i64 x0, .int .i64 x1, .int .i64 x2, .int .i64 x3, .int .i64 x4]) := ⟨fun j => by go_simp, fun j => by go_simp, by simp⟩
  by_cases h0 : x0 = -1
  · have e0 : (x0 == -1) = true := by simp [h0]
    by_cases h1 : x1 = 0
    · have e1 : (x1 == 0) = true := by simp [h1]
      have HX : Hid ((qok x1 x2 && qok x3 x4) = x) := by
        unfold Hid
        rw [← hx]
        simp [h0, h1]
      clear hx h0 h1
      rcases Bool.eq_false_or_eq_true (qok x1 x2) with hq | hq
      · have HQ : Hid (qok x1 x2 = true) := hq
        have HX2 : Hid (qok x3 x4 = x) := by
          unfold Hid
          have := HX.out
          rw [hq] at this
          simpa using this
        clear hq
        go_enter Tryd.func68, Tryd.ntmps68
        go_wp2_with fail
        refine (ok_is _ _ _ HQ.out _).mono ?_
        rintro e w1 ⟨rfl, hb1⟩
        have HB1 : Hid (Below w.heap.size w w1) := (Joins.below_alloc1 _ _).trans (hb1.mono (by simp))
        obtain ⟨a, _, _⟩ := HA0.out.below hb1 (by simp)
        have a3 := a 3
        have a4 := a 4
        clear a hb1
        go_wp2_with fail
        refine (ok_is _ _ _ HX2.out _).mono ?_
        rintro e w2 ⟨rfl, hb2⟩
        have HB2 : Hid (Below w.heap.size w w2) := HB1.out.trans (hb2.mono HB1.out.size)
        clear hb2
        go_wp2
        go_ret
        exact ⟨rfl, HB2.out⟩
      · have HQ : Hid (qok x1 x2 = false) := hq
        obtain rfl : x = false := by
          rw [← HX.out, hq]
          rfl
        clear hq
        go_enter Tryd.func68, Tryd.ntmps68
        go_wp2_with fail
        refine (ok_is _ _ _ HQ.out _).mono ?_
        rintro e w1 ⟨rfl, hb1⟩
        have HB1 : Hid (Below w.heap.size w w1) := (Joins.below_alloc1 _ _).trans (hb1.mono (by simp))
        clear hb1
        go_wp2
        go_ret
        exact ⟨rfl, HB1.out⟩
    · have e1 : (x1 == 0) = false := by simp [h1]
      obtain rfl : x = false := by
        rw [← hx]
        simp [h1]
        omega
      have HP : Hid (decide (0 ≤ x0 ∧ x0 < (np : Int)) = false) := decide_eq_false (by omega)
      clear hx h0 h1
      go_enter Tryd.func68, Tryd.ntmps68
      go_wp2_with fail
      refine (isPosition_is _ _ _ HP.out _).mono ?_
      rintro e _ ⟨rfl, rfl⟩
      go_wp2
      go_ret
      exact ⟨rfl, Joins.below_alloc1 _ _⟩
  · have e0 : (x0 == -1) = false := by simp [h0]
    by_cases hp : 0 ≤ x0 ∧ x0 < (np : Int)
    · have HP : Hid (decide (0 ≤ x0 ∧ x0 < (np : Int)) = true) := decide_eq_true hp
      have HX : Hid ((qok x1 x2 && qok x3 x4) = x) := by
        unfold Hid
        rw [← hx, HP.out]
        simp
      clear hx h0 hp
      rcases Bool.eq_false_or_eq_true (qok x1 x2) with hq | hq
      · have HQ : Hid (qok x1 x2 = true) := hq
        have HX2 : Hid (qok x3 x4 = x) := by
          unfold Hid
          have := HX.out
          rw [hq] at this
          simpa using this
        clear hq
        go_enter Tryd.func68, Tryd.ntmps68
        go_wp2_with fail
        refine (isPosition_is _ _ _ HP.out _).mono ?_
        rintro e _ ⟨rfl, rfl⟩
        go_wp2_with fail
        refine (ok_is _ _ _ HQ.out _).mono ?_
        rintro e w1 ⟨rfl, hb1⟩
        have HB1 : Hid (Below w.heap.size w w1) := (Joins.below_alloc1 _ _).trans (hb1.mono (by simp))
        obtain ⟨a, _, _⟩ := HA0.out.below hb1 (by simp)
        have a3 := a 3
        have a4 := a 4
        clear a hb1
        go_wp2_with fail
        refine (ok_is _ _ _ HX2.out _).mono ?_
        rintro e w2 ⟨rfl, hb2⟩
        have HB2 : Hid (Below w.heap.size w w2) := HB1.out.trans (hb2.mono HB1.out.size)
        clear hb2
        go_wp2
        go_ret
        exact ⟨rfl, HB2.out⟩
      · have HQ : Hid (qok x1 x2 = false) := hq
        obtain rfl : x = false := by
          rw [← HX.out, hq]
          rfl
        clear hq
        go_enter Tryd.func68, Tryd.ntmps68
        go_wp2_with fail
        refine (isPosition_is _ _ _ HP.out _).mono ?_
        rintro e _ ⟨rfl, rfl⟩
        go_wp2_with fail
        refine (ok_is _ _ _ HQ.out _).mono ?_
        rintro e w1 ⟨rfl, hb1⟩
        have HB1 : Hid (Below w.heap.size w w1) := (Joins.below_alloc1 _ _).trans (hb1.mono (by simp))
        clear hb1
        go_wp2
        go_ret
        exact ⟨rfl, HB1.out⟩
    · have HP : Hid (decide (0 ≤ x0 ∧ x0 < (np : Int)) = false) := decide_eq_false hp
      obtain rfl : x = false := by
        rw [← hx, HP.out]
        simp [h0]
      clear hx h0 hp
      go_enter Tryd.func68, Tryd.ntmps68
      go_wp2_with fail
      refine (isPosition_is _ _ _ HP.out _).mono ?_
      rintro e _ ⟨rfl, rfl⟩
      go_wp2
      go_ret
      exact ⟨rfl, Joins.below_alloc1 _ _⟩

set_option maxHeartbeats 1000000 in
theorem indexTerm_any (np B : Nat) (n cap : Nat) (ao : Option Addr) (T : Nat → Int) (w : World) (hn : n ≤ 1048576) (hr : Rd w 5 ao n T) (hm : w.cell? ⟨B, 0, none⟩ = some (.int .i64 np)) (hB : B < w.heap.size) :
    Calls Tryd.prog 76 #[.slice ao n cap, .func (Fn.func 68) #[] #[.pointer (some ⟨B, 0, none⟩)]] w fun e w' => (∃ r : Int, e = .returned (.int .i64 r) ∧ ((r = -1 ∧ ∀ j, j < n → tk np T j = true) ∨ (0 ≤ r ∧ ∃ j, j < n ∧ tk np T j = false))) ∧ Below w.heap.size w w' := by
  have HV : Hid (Rd w 5 ao n T) := hr
  have HM : Hid (w.cell? ⟨B, 0, none⟩ = some (.int .i64 np)) := hm
  clear hr hm
  go_enter Tryd.func76, Tryd.ntmps76
  go_wp2
  go_loopw [8] (fun i wr => ∃ k : Nat, k ≤ n ∧ i = .int .i64 k ∧ Hid (∀ j, j < k → tk np T j = true) ∧ Hid (Below w.heap.size w wr)) (fun i _ => n - (intOf i).toNat)
  case atStart => exact ⟨0, Nat.zero_le _, rfl, fun j hj => absurd hj (Nat.not_lt_zero _), Below.refl _ _⟩
  case round =>
    obtain ⟨k, hk, rfl, HK, HB⟩ := hrel
    by_cases hlt : k < n
    · have HV1 : Hid (Rd wr 5 ao n T) := Rd.below HV.out HB.out (Nat.le_refl _)
      obtain ⟨b, off, rfl, hbw, hcell⟩ := HV1.out (by omega)
      have c0 : wr.cell? ⟨b, off + k * 5, none⟩ = some (.int .i64 (T (k * 5))) := hcell (k * 5) (by omega)
      have c1 : wr.cell? ⟨b, off + k * 5 + 1, none⟩ = some (.int .i64 (T (k * 5 + 1))) := hcell (k * 5 + 1) (by omega)
      have c2 : wr.cell? ⟨b, off + k * 5 + 2, none⟩ = some (.int .i64 (T (k * 5 + 2))) := hcell (k * 5 + 2) (by omega)
      have c3 : wr.cell? ⟨b, off + k * 5 + 3, none⟩ = some (.int .i64 (T (k * 5 + 3))) := hcell (k * 5 + 3) (by omega)
      have c4 : wr.cell? ⟨b, off + k * 5 + 4, none⟩ = some (.int .i64 (T (k * 5 + 4))) := hcell (k * 5 + 4) (by omega)
      have HM0 : Hid (wr.cell? ⟨B, 0, none⟩ = some (.int .i64 np)) := (HB.out.cell (p := ⟨B, 0, none⟩) hB).trans HM.out
      have HBs : Hid (B < wr.heap.size) := Nat.lt_of_lt_of_le hB HB.out.size
      clear hcell HV1
      rcases Bool.eq_false_or_eq_true (tk np T k) with hvk | hvk
      · have HVK : Hid (tk np T k = true) := hvk
        clear hvk
        go_wp2_with fail
        refine (notTerm_any np B _ _ _ _ _ _ HVK.out _ HM0.out HBs.out).mono ?_
        rintro e w1 ⟨rfl, hb1⟩
        have HB1 : Hid (Below w.heap.size w w1) := HB.out.trans (hb1.mono HB.out.size)
        clear hb1 HB c0 c1 c2 c3 c4
        go_wp2
        go_roundw
        case rel => exact ⟨k + 1, by omega, by simp, all_succ (f := fun j => tk np T j) HK.out HVK.out, HB1.out⟩
        case measure => simp [intOf]; omega
      · have HVK : Hid (tk np T k = false) := hvk
        clear hvk
        go_wp2_with fail
        refine (notTerm_any np B _ _ _ _ _ _ HVK.out _ HM0.out HBs.out).mono ?_
        rintro e w1 ⟨rfl, hb1⟩
        have HB1 : Hid (Below w.heap.size w w1) := HB.out.trans (hb1.mono HB.out.size)
        clear hb1 HB c0 c1 c2 c3 c4
        go_wp2
        go_ret
        exact ⟨⟨_, rfl, Or.inr ⟨by omega, k, hlt, HVK.out⟩⟩, HB1.out⟩
    · go_wp2
      go_ret
      exact ⟨⟨_, rfl, Or.inl ⟨rfl, fun j hj => HK.out j (by omega)⟩⟩, HB.out⟩

theorem containsTerm_any (np B : Nat) (n cap : Nat) (ao : Option Addr) (T : Nat → Int) (w : World) (hn : n ≤ 1048576) (hr : Rd w 5 ao n T) (hm : w.cell? ⟨B, 0, none⟩ = some (.int .i64 np)) (hB : B < w.heap.size) :
    Calls Tryd.prog 67 #[.slice ao n cap, .func (Fn.func 68) #[] #[.pointer (some ⟨B, 0, none⟩)]] w fun e w' => ((e = .returned (.bool false) ∧ ∀ j, j < n → tk np T j = true) ∨ (e = .returned (.bool true) ∧ ∃ j, j < n ∧ tk np T j = false)) ∧ Below w.heap.size w w' := by
  have HV : Hid (Rd w 5 ao n T) := hr
  have HM : Hid (w.cell? ⟨B, 0, none⟩ = some (.int .i64 np)) := hm
  clear hr hm
  go_enter Tryd.func67, Tryd.ntmps67
  go_wp2_with fail
  refine (indexTerm_any np B n cap ao T _ hn HV.out HM.out hB).mono ?_
  rintro e w1 ⟨⟨r, rfl, hr⟩, hb1⟩
  rcases hr with ⟨rfl, hr⟩ | ⟨h0, hr⟩
  · have HR : Hid (∀ j, j < n → tk np T j = true) := hr
    clear hr
    go_wp2
    go_ret
    exact ⟨Or.inl ⟨rfl, HR.out⟩, hb1⟩
  · have HR : Hid (∃ j, j < n ∧ tk np T j = false) := hr
    clear hr
    go_wp2
    go_ret
    exact ⟨Or.inr ⟨rfl, HR.out⟩, hb1⟩
end Go.Proofs.YtgcgoehmgaokkaaDoor
