import Derived.Test.YtobhljmpdolomaaMsSpec
namespace Go.Proofs.Ytobhljmpdolomaa
open Go.RowKit

theorem noPlace_any (V : Nat → Int) (k : Nat) (x : Bool) (hx : vok V k = x) (w : World) :
    Calls Try.prog 28 #[.agg #[.int .i64 (V (k * 6)), .int .i64 (V (k * 6 + 1)), .int .i64 (V (k * 6 + 2)), .int .i64 (V (k * 6 + 3)), .int .i64 (V (k * 6 + 4)), .int .i64 (V (k * 6 + 5))]] w fun e w' => e = .returned (.bool (!x)) ∧ Below w.heap.size w w' := by
  have HX : Hid (vok V k = x) := hx
  clear hx
  go_enter Try.func28, Try.ntmps28
  go_wp2_with fail
  refine (implV3Ok_any _ _ _ _ _ _ _).mono ?_
  rintro e w1 ⟨rfl, hb1⟩
  have he : (qok (V (k * 6)) (V (k * 6 + 1)) && qok (V (k * 6 + 2)) (V (k * 6 + 3)) && qok (V (k * 6 + 4)) (V (k * 6 + 5))) = x := HX.out
  rw [he]
  clear he
  go_wp2
  go_ret
  exact ⟨rfl, (Joins.below_alloc1 _ _).trans (hb1.mono (by simp))⟩

set_option maxHeartbeats 1000000 in
theorem indexV3_any (n cap : Nat) (ao : Option Addr) (V : Nat → Int) (w : World) (hn : n ≤ 1048576) (hv : Rd w 6 ao n V) :
    Calls Try.prog 54 #[.slice ao n cap, .func (Fn.func 28) #[] #[]] w fun e w' => (∃ r : Int, e = .returned (.int .i64 r) ∧ ((r = -1 ∧ ∀ j, j < n → vok V j = true) ∨ (0 ≤ r ∧ ∃ j, j < n ∧ vok V j = false))) ∧ Below w.heap.size w w' := by
  have HV : Hid (Rd w 6 ao n V) := hv
  clear hv
  go_enter Try.func54, Try.ntmps54
  go_wp2
  go_loopw [8] (fun i wr => ∃ k : Nat, k ≤ n ∧ i = .int .i64 k ∧ Hid (∀ j, j < k → vok V j = true) ∧ Hid (Below w.heap.size w wr)) (fun i _ => n - (intOf i).toNat)
  case atStart => exact ⟨0, Nat.zero_le _, rfl, fun j hj => absurd hj (Nat.not_lt_zero _), Below.refl _ _⟩
  case round =>
    obtain ⟨k, hk, rfl, HK, HB⟩ := hrel
    by_cases hlt : k < n
    · have HV1 : Hid (Rd wr 6 ao n V) := Rd.below HV.out HB.out (Nat.le_refl _)
      obtain ⟨b, off, rfl, hbw, hcell⟩ := HV1.out (by omega)
      have c0 : wr.cell? ⟨b, off + k * 6, none⟩ = some (.int .i64 (V (k * 6))) := hcell (k * 6) (by omega)
      have c1 : wr.cell? ⟨b, off + k * 6 + 1, none⟩ = some (.int .i64 (V (k * 6 + 1))) := hcell (k * 6 + 1) (by omega)
      have c2 : wr.cell? ⟨b, off + k * 6 + 2, none⟩ = some (.int .i64 (V (k * 6 + 2))) := hcell (k * 6 + 2) (by omega)
      have c3 : wr.cell? ⟨b, off + k * 6 + 3, none⟩ = some (.int .i64 (V (k * 6 + 3))) := hcell (k * 6 + 3) (by omega)
      have c4 : wr.cell? ⟨b, off + k * 6 + 4, none⟩ = some (.int .i64 (V (k * 6 + 4))) := hcell (k * 6 + 4) (by omega)
      have c5 : wr.cell? ⟨b, off + k * 6 + 5, none⟩ = some (.int .i64 (V (k * 6 + 5))) := hcell (k * 6 + 5) (by omega)
      clear hcell HV1
      rcases Bool.eq_false_or_eq_true (vok V k) with hvk | hvk
      · have HVK : Hid (vok V k = true) := hvk
        clear hvk
        go_wp2_with fail
        refine (noPlace_any V k _ HVK.out _).mono ?_
        rintro e w1 ⟨rfl, hb1⟩
        have HB1 : Hid (Below w.heap.size w w1) := HB.out.trans (hb1.mono HB.out.size)
        clear hb1 HB c0 c1 c2 c3 c4 c5
        go_wp2
        go_roundw
        case rel => exact ⟨k + 1, by omega, by simp, all_succ HK.out HVK.out, HB1.out⟩
        case measure => simp [intOf]; omega
      · have HVK : Hid (vok V k = false) := hvk
        clear hvk
        go_wp2_with fail
        refine (noPlace_any V k _ HVK.out _).mono ?_
        rintro e w1 ⟨rfl, hb1⟩
        have HB1 : Hid (Below w.heap.size w w1) := HB.out.trans (hb1.mono HB.out.size)
        clear hb1 HB c0 c1 c2 c3 c4 c5
        go_wp2
        go_ret
        exact ⟨⟨_, rfl, Or.inr ⟨by omega, k, hlt, HVK.out⟩⟩, HB1.out⟩
    · go_wp2
      go_ret
      exact ⟨⟨_, rfl, Or.inl ⟨rfl, fun j hj => HK.out j (by omega)⟩⟩, HB.out⟩

theorem containsV3_any (n cap : Nat) (ao : Option Addr) (V : Nat → Int) (w : World) (hn : n ≤ 1048576) (hv : Rd w 6 ao n V) :
    Calls Try.prog 27 #[.slice ao n cap, .func (Fn.func 28) #[] #[]] w fun e w' => ((e = .returned (.bool false) ∧ ∀ j, j < n → vok V j = true) ∨ (e = .returned (.bool true) ∧ ∃ j, j < n ∧ vok V j = false)) ∧ Below w.heap.size w w' := by
  have HV : Hid (Rd w 6 ao n V) := hv
  clear hv
  go_enter Try.func27, Try.ntmps27
  go_wp2_with fail
  refine (indexV3_any n cap ao V _ hn HV.out).mono ?_
  rintro e w1 ⟨⟨r, rfl, hr⟩, hb1⟩
  rcases hr with ⟨rfl, hr⟩ | ⟨h0, hr⟩
  · have HR : Hid (∀ j, j < n → vok V j = true) := hr
    clear hr
    go_wp2
    go_ret
    exact ⟨Or.inl ⟨rfl, HR.out⟩, hb1⟩
  · have HR : Hid (∃ j, j < n ∧ vok V j = false) := hr
    clear hr
    go_wp2
    go_ret
    exact ⟨Or.inr ⟨rfl, HR.out⟩, hb1⟩

theorem isPosition_any (i n : Int) (w : World) : Calls Try.prog 57 #[.int .i64 i, .int .i64 n] w fun e w' => e = .returned (.bool (decide (0 ≤ i ∧ i < n))) ∧ w' = w := by
  by_cases h : 0 ≤ i
  · go_enter Try.func57, Try.ntmps57
    go_wp2
    go_ret
    simp [h]
  · have h' : ¬ (0 ≤ i ∧ i < n) := fun x => h x.1
    go_enter Try.func57, Try.ntmps57
    go_wp2
    go_ret
    exact ⟨rfl, rfl⟩
end Go.Proofs.Ytobhljmpdolomaa
