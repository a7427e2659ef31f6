import Derived.Test.YtgcgoehmgaokkaaDoorSkLaw
namespace Go.Proofs.YtgcgoehmgaokkaaDoor
open Go.RowKit

theorem isPosition_any (i n : Int) (w : World) : Calls Tryd.prog 56 #[.int .i64 i, .int .i64 n] w fun e w' => e = .returned (.bool (decide (0 ≤ i ∧ i < n))) ∧ w' = w := by
  by_cases h : 0 ≤ i
  · go_enter Tryd.func56, Tryd.ntmps56
    go_wp2
    go_ret
    simp [h]
  · have h' : ¬ (0 ≤ i ∧ i < n) := fun x => h x.1
    go_enter Tryd.func56, Tryd.ntmps56
    go_wp2
    go_ret
    exact ⟨rfl, rfl⟩
theorem isPosition_is (i n : Int) (x : Bool) (hx : decide (0 ≤ i ∧ i < n) = x) (w : World) : Calls Tryd.prog 56 #[.int .i64 i, .int .i64 n] w fun e w' => e = .returned (.bool x) ∧ w' = w := by
  subst hx
  exact isPosition_any i n w
theorem ok_is (n d : Int) (x : Bool) (hx : qok n d = x) (w : World) : Calls Tryd.prog 57 #[.agg #[.int .i64 n, .int .i64 d]] w fun e w' => e = .returned (.bool x) ∧ Below w.heap.size w w' := by
  subst hx
  exact ok_any n d w

/-- What a rule says, number by number. -/
def px (x1 x2 x3 x4 : Int) (q : Nat) : Int := [x1, x2, x3, x4].getD q 0
def rokv (p x0 x1 x2 x3 x4 x5 x6 x7 x8 : Int) : Bool :=
  decide (isKind x0) && (List.range 4).all (fun j => posok p (nm x0 j) (px x1 x2 x3 x4 j)) && (List.range 2).all (fun j => numok (nm x0 (4 + j)) (px x5 x6 x7 x8 (2 * j)) (px x5 x6 x7 x8 (2 * j + 1))) && !decide (x0 = 9 ∧ x5 = 0 ∧ x7 = 0)
theorem rokv_eq (p : Int) (R : Nat → Int) (i : Nat) : rok p R i = rokv p (R (i * 9)) (R (i * 9 + 1)) (R (i * 9 + 2)) (R (i * 9 + 3)) (R (i * 9 + 4)) (R (i * 9 + 5)) (R (i * 9 + 6)) (R (i * 9 + 7)) (R (i * 9 + 8)) := by
  simp only [rok, rokv, List.range, List.range.loop, List.all_cons, List.all_nil, pk, nk, px]
  rfl
theorem rokv_kind {p x0 x1 x2 x3 x4 x5 x6 x7 x8 : Int} (h : ¬ isKind x0) : rokv p x0 x1 x2 x3 x4 x5 x6 x7 x8 = false := by simp [rokv, h]
theorem rokv_pos {p x0 x1 x2 x3 x4 x5 x6 x7 x8 : Int} {q : Nat} (hq : q < 4) (h : posok p (nm x0 q) (px x1 x2 x3 x4 q) = false) : rokv p x0 x1 x2 x3 x4 x5 x6 x7 x8 = false := by
  have : (List.range 4).all (fun j => posok p (nm x0 j) (px x1 x2 x3 x4 j)) = false := by rw [List.all_eq_false]; exact ⟨q, List.mem_range.2 hq, by simp [h]⟩
  simp only [rokv, this, Bool.and_false, Bool.false_and]
theorem rokv_num {p x0 x1 x2 x3 x4 x5 x6 x7 x8 : Int} {q : Nat} (hq : q < 2) (h : numok (nm x0 (4 + q)) (px x5 x6 x7 x8 (2 * q)) (px x5 x6 x7 x8 (2 * q + 1)) = false) : rokv p x0 x1 x2 x3 x4 x5 x6 x7 x8 = false := by
  have : (List.range 2).all (fun j => numok (nm x0 (4 + j)) (px x5 x6 x7 x8 (2 * j)) (px x5 x6 x7 x8 (2 * j + 1))) = false := by rw [List.all_eq_false]; exact ⟨q, List.mem_range.2 hq, by simp [h]⟩
  simp only [rokv, this, Bool.and_false, Bool.false_and]
theorem rokv_last {p x0 x1 x2 x3 x4 x5 x6 x7 x8 : Int} (h1 : isKind x0) (h2 : ∀ j, j < 4 → posok p (nm x0 j) (px x1 x2 x3 x4 j) = true) (h3 : ∀ j, j < 2 → numok (nm x0 (4 + j)) (px x5 x6 x7 x8 (2 * j)) (px x5 x6 x7 x8 (2 * j + 1)) = true) : rokv p x0 x1 x2 x3 x4 x5 x6 x7 x8 = !decide (x0 = 9 ∧ x5 = 0 ∧ x7 = 0) := by
  have a : (List.range 4).all (fun j => posok p (nm x0 j) (px x1 x2 x3 x4 j)) = true := by rw [List.all_eq_true]; exact fun j hj => h2 j (List.mem_range.1 hj)
  have b : (List.range 2).all (fun j => numok (nm x0 (4 + j)) (px x5 x6 x7 x8 (2 * j)) (px x5 x6 x7 x8 (2 * j + 1))) = true := by rw [List.all_eq_true]; exact fun j hj => h3 j (List.mem_range.1 hj)
  simp only [rokv, a, b, decide_eq_true h1, Bool.true_and]

theorem index4_0 (x1 x2 x3 x4 : Int) (w : World) : (Instr.index 101 (.agg #[.int .i64 x1, .int .i64 x2, .int .i64 x3, .int .i64 x4]) (.int .i64 0)).run Tryd.prog w = .ok (.int .i64 x1) w := by kernel_rfl
theorem index4_1 (x1 x2 x3 x4 : Int) (w : World) : (Instr.index 101 (.agg #[.int .i64 x1, .int .i64 x2, .int .i64 x3, .int .i64 x4]) (.int .i64 1)).run Tryd.prog w = .ok (.int .i64 x2) w := by kernel_rfl
theorem index4_2 (x1 x2 x3 x4 : Int) (w : World) : (Instr.index 101 (.agg #[.int .i64 x1, .int .i64 x2, .int .i64 x3, .int .i64 x4]) (.int .i64 2)).run Tryd.prog w = .ok (.int .i64 x3) w := by kernel_rfl
theorem index4_3 (x1 x2 x3 x4 : Int) (w : World) : (Instr.index 101 (.agg #[.int .i64 x1, .int .i64 x2, .int .i64 x3, .int .i64 x4]) (.int .i64 3)).run Tryd.prog w = .ok (.int .i64 x4) w := by kernel_rfl
theorem index2_0 (x5 x6 x7 x8 : Int) (w : World) : (Instr.index 102 (.agg #[.int .i64 x5, .int .i64 x6, .int .i64 x7, .int .i64 x8]) (.int .i64 0)).run Tryd.prog w = .ok (.agg #[.int .i64 x5, .int .i64 x6]) w := by kernel_rfl
theorem index2_1 (x5 x6 x7 x8 : Int) (w : World) : (Instr.index 102 (.agg #[.int .i64 x5, .int .i64 x6, .int .i64 x7, .int .i64 x8]) (.int .i64 1)).run Tryd.prog w = .ok (.agg #[.int .i64 x7, .int .i64 x8]) w := by kernel_rfl
theorem index4 (x1 x2 x3 x4 : Int) (q : Nat) (hq : q < 4) (w : World) : (Instr.index 101 (.agg #[.int .i64 x1, .int .i64 x2, .int .i64 x3, .int .i64 x4]) (.int .i64 (q : Int))).run Tryd.prog w = .ok (.int .i64 (px x1 x2 x3 x4 q)) w := by
  match q, hq with
  | 0, _ => exact index4_0 x1 x2 x3 x4 w
  | 1, _ => exact index4_1 x1 x2 x3 x4 w
  | 2, _ => exact index4_2 x1 x2 x3 x4 w
  | 3, _ => exact index4_3 x1 x2 x3 x4 w
theorem index2 (x5 x6 x7 x8 : Int) (q : Nat) (hq : q < 2) (w : World) : (Instr.index 102 (.agg #[.int .i64 x5, .int .i64 x6, .int .i64 x7, .int .i64 x8]) (.int .i64 (q : Int))).run Tryd.prog w = .ok (.agg #[.int .i64 (px x5 x6 x7 x8 (2 * q)), .int .i64 (px x5 x6 x7 x8 (2 * q + 1))]) w := by
  match q, hq with
  | 0, _ => exact index2_0 x5 x6 x7 x8 w
  | 1, _ => exact index2_1 x5 x6 x7 x8 w

set_option maxRecDepth 20000 in
set_option maxHeartbeats 4000000 in
theorem ruleOk_any (p x0 x1 x2 x3 x4 x5 x6 x7 x8 : Int) (w : World) (hp : 1 ≤ p) (ht : RTab w) (x : Bool) (hx : rokv p x0 x1 x2 x3 x4 x5 x6 x7 x8 = x) :
    Calls Tryd.prog 29 #[.agg #[.int .i64 x0, .int .i64 x1, .int .i64 x2, .int .i64 x3, .int .i64 x4, .int .i64 x5, .int .i64 x6, .int .i64 x7, .int .i64 x8], .int .i64 p] w fun e w' => e = .returned (.bool x) ∧ Below w.heap.size w w' := by
  by_cases h1 : x0 < 1
  · obtain rfl : x = false := hx.symm.trans (rokv_kind (by unfold isKind; omega))
    clear hx
    go_enter Tryd.func29, Tryd.ntmps29
    go_wp2
    go_ret
    exact ⟨rfl, Joins.below_alloc1 _ _⟩
  by_cases h2 : x0 > 11
  · obtain rfl : x = false := hx.symm.trans (rokv_kind (by unfold isKind; omega))
    clear hx
    go_enter Tryd.func29, Tryd.ntmps29
    go_wp2
    go_ret
    exact ⟨rfl, Joins.below_alloc1 _ _⟩
  obtain ⟨k, rfl⟩ := Int.eq_ofNat_of_zero_le (show 0 ≤ x0 by omega)
  have HK : Hid (1 ≤ k ∧ k ≤ 11) := (show 1 ≤ k ∧ k ≤ 11 by omega)
  have hk12 : (k : Int) < 12 := by omega
  have hk0 : (0 : Int) ≤ k := by omega
  have hne : w.heap.size ≠ 0 := Nat.pos_iff_ne_zero.1 ht.lt
  have hne' : 0 ≠ w.heap.size := Ne.symm hne
  have t0 := (ht.below (Joins.below_alloc1 w (.cells #[.int .i64 (k : Int), .int .i64 x1, .int .i64 x2, .int .i64 x3, .int .i64 x4, .int .i64 x5, .int .i64 x6, .int .i64 x7, .int .i64 x8] 56))).c (k * 2) (by omega)
  have t1 := (ht.below (Joins.below_alloc1 w (.cells #[.int .i64 (k : Int), .int .i64 x1, .int .i64 x2, .int .i64 x3, .int .i64 x4, .int .i64 x5, .int .i64 x6, .int .i64 x7, .int .i64 x8] 56))).c (k * 2 + 1) (by omega)
  have HX : Hid (rokv p k x1 x2 x3 x4 x5 x6 x7 x8 = x) := hx
  have HP : Hid (1 ≤ p) := hp
  have hN : ∃ np nn : Int, np = tabv (k * 2) ∧ nn = tabv (k * 2 + 1) := ⟨_, _, rfl, rfl⟩
  obtain ⟨np, nn, enp, enn⟩ := hN
  rw [← enp] at t0
  rw [← enn] at t1
  have HM4 : Hid (∀ j, j < 4 → nm (k : Int) j = decide ((j : Int) < np)) := fun j hj => by rw [enp]; exact nm_pos HK.out.1 HK.out.2 hj
  have HM2 : Hid (∀ j, j < 2 → nm (k : Int) (4 + j) = decide ((j : Int) < nn)) := fun j hj => by rw [enn]; exact nm_num HK.out.1 HK.out.2 hj
  clear hx hp ht enp enn
  have HP1 : Hid (Below w.heap.size w ((w.alloc (.cells #[.int .i64 (k : Int), .int .i64 x1, .int .i64 x2, .int .i64 x3, .int .i64 x4, .int .i64 x5, .int .i64 x6, .int .i64 x7, .int .i64 x8] 56)).alloc (.cells #[.int .i64 np, .int .i64 nn] 99))) := Joins.below_alloc2 _ _ _
  have HA1 : Hid (At ((w.alloc (.cells #[.int .i64 (k : Int), .int .i64 x1, .int .i64 x2, .int .i64 x3, .int .i64 x4, .int .i64 x5, .int .i64 x6, .int .i64 x7, .int .i64 x8] 56)).alloc (.cells #[.int .i64 np, .int .i64 nn] 99)) w.heap.size #[.int .i64 (k : Int), .int .i64 x1, .int .i64 x2, .int .i64 x3, .int .i64 x4, .int .i64 x5, .int .i64 x6, .int .i64 x7, .int .i64 x8]) := At.alloc ⟨fun j => by go_simp, fun j => by go_simp, by simp⟩ _
  have HA2 : Hid (At ((w.alloc (.cells #[.int .i64 (k : Int), .int .i64 x1, .int .i64 x2, .int .i64 x3, .int .i64 x4, .int .i64 x5, .int .i64 x6, .int .i64 x7, .int .i64 x8] 56)).alloc (.cells #[.int .i64 np, .int .i64 nn] 99)) (w.heap.size + 1) #[.int .i64 np, .int .i64 nn]) := ⟨fun j => by go_simp, fun j => by go_simp, by simp⟩
  go_enter Tryd.func29, Tryd.ntmps29
  go_wp2
  clear t0 t1
  go_loopw [31] (fun i wr => ∃ q : Nat, q ≤ 4 ∧ i = .int .i64 q ∧ Hid (∀ j, j < q → posok p (nm (k : Int) j) (px x1 x2 x3 x4 j) = true) ∧ Hid (Below w.heap.size w wr) ∧ Hid (At wr w.heap.size #[.int .i64 (k : Int), .int .i64 x1, .int .i64 x2, .int .i64 x3, .int .i64 x4, .int .i64 x5, .int .i64 x6, .int .i64 x7, .int .i64 x8]) ∧ Hid (At wr (w.heap.size + 1) #[.int .i64 np, .int .i64 nn])) (fun i _ => 4 - (intOf i).toNat)
  case atStart => exact ⟨0, Nat.zero_le _, rfl, fun j hj => absurd hj (Nat.not_lt_zero _), HP1.out, HA1.out, HA2.out⟩
  case round =>
    clear HP1 HA1 HA2
    obtain ⟨q, hq, rfl, HQ, HB, HA1, HA2⟩ := hrel
    by_cases hq4 : q < 4
    · have hi := index4 x1 x2 x3 x4 q hq4
      have hq5 : (q : Int) < 4 := by omega
      have c0 := HA2.out.c 0
      by_cases hpos : 0 ≤ px x1 x2 x3 x4 q ∧ px x1 x2 x3 x4 q < p
      · have HPos : Hid (decide (0 ≤ px x1 x2 x3 x4 q ∧ px x1 x2 x3 x4 q < p) = true) := decide_eq_true hpos
        by_cases hge : np ≤ (q : Int)
        · have hm : nm (k : Int) q = false := by rw [HM4.out q hq4]; exact decide_eq_false (by omega)
          by_cases hz : px x1 x2 x3 x4 q = 0
          · have HP : Hid (posok p (nm (k : Int) q) (px x1 x2 x3 x4 q) = true) := by simp [Hid, posok, hm, hz]
            have hz' : (px x1 x2 x3 x4 q != 0) = false := by simp [hz]
            clear hm hz hpos
            go_wp2_with fail
            refine (isPosition_is _ _ _ HPos.out _).mono ?_
            rintro e _ ⟨rfl, rfl⟩
            go_wp2
            go_roundw
            case rel => exact ⟨q + 1, by omega, by simp, all_succ HQ.out HP.out, HB, HA1, HA2⟩
            case measure => simp [intOf]; omega
          · have HP : Hid (posok p (nm (k : Int) q) (px x1 x2 x3 x4 q) = false) := by simp [Hid, posok, hm, hz]
            have hz' : (px x1 x2 x3 x4 q != 0) = true := by simp [hz]
            obtain rfl : x = false := HX.out.symm.trans (rokv_pos hq4 HP.out)
            clear hm hz hpos
            go_wp2_with fail
            refine (isPosition_is _ _ _ HPos.out _).mono ?_
            rintro e _ ⟨rfl, rfl⟩
            go_wp2
            go_ret
            exact ⟨rfl, HB.out⟩
        · have hm : nm (k : Int) q = true := by rw [HM4.out q hq4]; exact decide_eq_true (by omega)
          have HP : Hid (posok p (nm (k : Int) q) (px x1 x2 x3 x4 q) = true) := by simp [Hid, posok, hm, hpos]
          clear hm hpos
          go_wp2_with fail
          refine (isPosition_is _ _ _ HPos.out _).mono ?_
          rintro e _ ⟨rfl, rfl⟩
          go_wp2
          go_roundw
          case rel => exact ⟨q + 1, by omega, by simp, all_succ HQ.out HP.out, HB, HA1, HA2⟩
          case measure => simp [intOf]; omega
      · have HPos : Hid (decide (0 ≤ px x1 x2 x3 x4 q ∧ px x1 x2 x3 x4 q < p) = false) := decide_eq_false hpos
        have HP : Hid (posok p (nm (k : Int) q) (px x1 x2 x3 x4 q) = false) := by
          have hp1 := HP.out
          unfold Hid posok
          split
          · exact decide_eq_false hpos
          · exact decide_eq_false (fun e => hpos (by omega))
        obtain rfl : x = false := HX.out.symm.trans (rokv_pos hq4 HP.out)
        clear hpos
        go_wp2_with fail
        refine (isPosition_is _ _ _ HPos.out _).mono ?_
        rintro e _ ⟨rfl, rfl⟩
        go_wp2
        go_ret
        exact ⟨rfl, HB.out⟩
    · have HQ4 : Hid (∀ j, j < 4 → posok p (nm (k : Int) j) (px x1 x2 x3 x4 j) = true) := fun j hj => HQ.out j (by omega)
      have hq5 : ¬ (q : Int) < 4 := by omega
      have c := HA1.out.c
      go_wp2
      clear c
      go_loopw [55] (fun i wj => ∃ q : Nat, q ≤ 2 ∧ i = .int .i64 q ∧ Hid (∀ j, j < q → numok (nm (k : Int) (4 + j)) (px x5 x6 x7 x8 (2 * j)) (px x5 x6 x7 x8 (2 * j + 1)) = true) ∧ Hid (Below w.heap.size w wj) ∧ Hid (At wj w.heap.size #[.int .i64 (k : Int), .int .i64 x1, .int .i64 x2, .int .i64 x3, .int .i64 x4, .int .i64 x5, .int .i64 x6, .int .i64 x7, .int .i64 x8]) ∧ Hid (At wj (w.heap.size + 1) #[.int .i64 np, .int .i64 nn])) (fun i _ => 2 - (intOf i).toNat)
      case atStart => exact ⟨0, Nat.zero_le _, rfl, fun j hj => absurd hj (Nat.not_lt_zero _), HB, HA1, HA2⟩
      case round =>
        clear HB HA1 HA2 HQ
        obtain ⟨q, hq, rfl, HQ, HB, HA1, HA2⟩ := hrel
        by_cases hq2 : q < 2
        · have hi := index2 x5 x6 x7 x8 q hq2
          have hq3 : (q : Int) < 2 := by omega
          rcases Bool.eq_false_or_eq_true (qok (px x5 x6 x7 x8 (2 * q)) (px x5 x6 x7 x8 (2 * q + 1))) with hok | hok
          · have HOk : Hid (qok (px x5 x6 x7 x8 (2 * q)) (px x5 x6 x7 x8 (2 * q + 1)) = true) := hok
            by_cases hge : nn ≤ (q : Int)
            · have hm : nm (k : Int) (4 + q) = false := by rw [HM2.out q hq2]; exact decide_eq_false (by omega)
              by_cases hz : (px x5 x6 x7 x8 (2 * q)) = 0
              · have HN : Hid (numok (nm (k : Int) (4 + q)) (px x5 x6 x7 x8 (2 * q)) (px x5 x6 x7 x8 (2 * q + 1)) = true) := by
                  rw [hz, qok_zero] at hok
                  simp only [Hid, numok, hm, hz]
                  simpa using hok
                have hz' : ((px x5 x6 x7 x8 (2 * q)) != 0) = false := by simp [hz]
                clear hm hz hok
                go_wp2_with fail
                refine (ok_is _ _ _ HOk.out _).mono ?_
                rintro e w1 ⟨rfl, hb1⟩
                have HB1 : Hid (Below w.heap.size w w1) := (HB.out.alloc HB.out.size _).trans (hb1.mono (by have := HB.out.size; simp; omega))
                have HC1 : Hid (At w1 w.heap.size #[.int .i64 (k : Int), .int .i64 x1, .int .i64 x2, .int .i64 x3, .int .i64 x4, .int .i64 x5, .int .i64 x6, .int .i64 x7, .int .i64 x8]) := HA1.out.below ((Joins.below_alloc1 _ _).trans (hb1.mono (by simp))) HA1.out.sz
                have HC2 : Hid (At w1 (w.heap.size + 1) #[.int .i64 np, .int .i64 nn]) := HA2.out.below ((Joins.below_alloc1 _ _).trans (hb1.mono (by simp))) HA2.out.sz
                have HC3 : Hid (At w1 wr.heap.size #[.int .i64 (px x5 x6 x7 x8 (2 * q)), .int .i64 (px x5 x6 x7 x8 (2 * q + 1))]) := cells2_at hb1
                have c1 := HC2.out.c 1
                have d0 := HC3.out.c 0
                clear hb1 HB HA1 HA2
                go_wp2
                go_roundw
                case rel => exact ⟨q + 1, by omega, by simp, all_succ HQ.out HN.out, HB1, HC1, HC2⟩
                case measure => simp [intOf]; omega
              · have HN : Hid (numok (nm (k : Int) (4 + q)) (px x5 x6 x7 x8 (2 * q)) (px x5 x6 x7 x8 (2 * q + 1)) = false) := by simp [Hid, numok, hm, hz]
                have hz' : ((px x5 x6 x7 x8 (2 * q)) != 0) = true := by simp [hz]
                obtain rfl : x = false := HX.out.symm.trans (rokv_num hq2 HN.out)
                clear hm hz hok
                go_wp2_with fail
                refine (ok_is _ _ _ HOk.out _).mono ?_
                rintro e w1 ⟨rfl, hb1⟩
                have HB1 : Hid (Below w.heap.size w w1) := (HB.out.alloc HB.out.size _).trans (hb1.mono (by have := HB.out.size; simp; omega))
                have HC1 : Hid (At w1 w.heap.size #[.int .i64 (k : Int), .int .i64 x1, .int .i64 x2, .int .i64 x3, .int .i64 x4, .int .i64 x5, .int .i64 x6, .int .i64 x7, .int .i64 x8]) := HA1.out.below ((Joins.below_alloc1 _ _).trans (hb1.mono (by simp))) HA1.out.sz
                have HC2 : Hid (At w1 (w.heap.size + 1) #[.int .i64 np, .int .i64 nn]) := HA2.out.below ((Joins.below_alloc1 _ _).trans (hb1.mono (by simp))) HA2.out.sz
                have HC3 : Hid (At w1 wr.heap.size #[.int .i64 (px x5 x6 x7 x8 (2 * q)), .int .i64 (px x5 x6 x7 x8 (2 * q + 1))]) := cells2_at hb1
                have c1 := HC2.out.c 1
                have d0 := HC3.out.c 0
                clear hb1 HB HA1 HA2
                go_wp2
                go_ret
                exact ⟨rfl, HB1.out⟩
            · have hm : nm (k : Int) (4 + q) = true := by rw [HM2.out q hq2]; exact decide_eq_true (by omega)
              have HN : Hid (numok (nm (k : Int) (4 + q)) (px x5 x6 x7 x8 (2 * q)) (px x5 x6 x7 x8 (2 * q + 1)) = true) := by simp [Hid, numok, hm, hok]
              clear hm hok
              go_wp2_with fail
              refine (ok_is _ _ _ HOk.out _).mono ?_
              rintro e w1 ⟨rfl, hb1⟩
              have HB1 : Hid (Below w.heap.size w w1) := (HB.out.alloc HB.out.size _).trans (hb1.mono (by have := HB.out.size; simp; omega))
              have HC1 : Hid (At w1 w.heap.size #[.int .i64 (k : Int), .int .i64 x1, .int .i64 x2, .int .i64 x3, .int .i64 x4, .int .i64 x5, .int .i64 x6, .int .i64 x7, .int .i64 x8]) := HA1.out.below ((Joins.below_alloc1 _ _).trans (hb1.mono (by simp))) HA1.out.sz
              have HC2 : Hid (At w1 (w.heap.size + 1) #[.int .i64 np, .int .i64 nn]) := HA2.out.below ((Joins.below_alloc1 _ _).trans (hb1.mono (by simp))) HA2.out.sz
              have HC3 : Hid (At w1 wr.heap.size #[.int .i64 (px x5 x6 x7 x8 (2 * q)), .int .i64 (px x5 x6 x7 x8 (2 * q + 1))]) := cells2_at hb1
              have c1 := HC2.out.c 1
              have d0 := HC3.out.c 0
              clear hb1 HB HA1 HA2
              go_wp2
              go_roundw
              case rel => exact ⟨q + 1, by omega, by simp, all_succ HQ.out HN.out, HB1, HC1, HC2⟩
              case measure => simp [intOf]; omega
          · have HOk : Hid (qok (px x5 x6 x7 x8 (2 * q)) (px x5 x6 x7 x8 (2 * q + 1)) = false) := hok
            have HN : Hid (numok (nm (k : Int) (4 + q)) (px x5 x6 x7 x8 (2 * q)) (px x5 x6 x7 x8 (2 * q + 1)) = false) := by
              unfold Hid numok
              split
              · exact hok
              · refine decide_eq_false fun h => ?_
                rw [h.1, h.2] at hok
                revert hok
                decide
            obtain rfl : x = false := HX.out.symm.trans (rokv_num hq2 HN.out)
            clear hok
            go_wp2_with fail
            refine (ok_is _ _ _ HOk.out _).mono ?_
            rintro e w1 ⟨rfl, hb1⟩
            have HB1 : Hid (Below w.heap.size w w1) := (HB.out.alloc HB.out.size _).trans (hb1.mono (by have := HB.out.size; simp; omega))
            have HC1 : Hid (At w1 w.heap.size #[.int .i64 (k : Int), .int .i64 x1, .int .i64 x2, .int .i64 x3, .int .i64 x4, .int .i64 x5, .int .i64 x6, .int .i64 x7, .int .i64 x8]) := HA1.out.below ((Joins.below_alloc1 _ _).trans (hb1.mono (by simp))) HA1.out.sz
            have HC2 : Hid (At w1 (w.heap.size + 1) #[.int .i64 np, .int .i64 nn]) := HA2.out.below ((Joins.below_alloc1 _ _).trans (hb1.mono (by simp))) HA2.out.sz
            have HC3 : Hid (At w1 wr.heap.size #[.int .i64 (px x5 x6 x7 x8 (2 * q)), .int .i64 (px x5 x6 x7 x8 (2 * q + 1))]) := cells2_at hb1
            have c1 := HC2.out.c 1
            have d0 := HC3.out.c 0
            clear hb1 HB HA1 HA2
            go_wp2
            go_ret
            exact ⟨rfl, HB1.out⟩
        · have HE : Hid (x = !decide ((k : Int) = 9 ∧ x5 = 0 ∧ x7 = 0)) := HX.out.symm.trans (rokv_last ⟨by have := HK.out; omega, by have := HK.out; omega⟩ HQ4.out (fun j hj => HQ.out j (by omega)))
          have hq3 : ¬ (q : Int) < 2 := by omega
          obtain ⟨c, _, _⟩ := HA1.out
          by_cases h9 : (k : Int) = 9
          · have h9' : ((k : Int) != 9) = false := by simp [h9]
            by_cases h5 : x5 = 0
            · have h5' : (x5 != 0) = false := by simp [h5]
              have HE2 : Hid (x = (x7 != 0)) := by
                unfold Hid
                rw [HE.out]
                by_cases h7 : x7 = 0 <;> simp [h9, h5, h7]
              clear h9 h5 HE
              go_wp2
              go_ret
              exact ⟨by rw [HE2.out]; rfl, HB.out⟩
            · have h5' : (x5 != 0) = true := by simp [h5]
              obtain rfl : x = true := by rw [HE.out]; simp [h5]
              clear h9 h5 HE
              go_wp2
              go_ret
              exact ⟨rfl, HB.out⟩
          · have h9' : ((k : Int) != 9) = true := by simp [h9]
            obtain rfl : x = true := by rw [HE.out]; simp [h9]
            clear h9 HE
            go_wp2
            go_ret
            exact ⟨rfl, HB.out⟩

theorem notRule_any (p : Int) (B : Nat) (R : Nat → Int) (k : Nat) (x : Bool) (hx : rok p R k = x) (w : World) (hp : 1 ≤ p) (ht : RTab w) (hm : w.cell? ⟨B, 0, none⟩ = some (.int .i64 p)) (hB : B < w.heap.size) :
    Calls Tryd.prog 28 #[.agg #[.int .i64 (R (k * 9)), .int .i64 (R (k * 9 + 1)), .int .i64 (R (k * 9 + 2)), .int .i64 (R (k * 9 + 3)), .int .i64 (R (k * 9 + 4)), .int .i64 (R (k * 9 + 5)), .int .i64 (R (k * 9 + 6)), .int .i64 (R (k * 9 + 7)), .int .i64 (R (k * 9 + 8))], .pointer (some ⟨B, 0, none⟩)] w fun e w' => e = .returned (.bool (!x)) ∧ Below w.heap.size w w' := by
  have HX : Hid (rokv p (R (k * 9)) (R (k * 9 + 1)) (R (k * 9 + 2)) (R (k * 9 + 3)) (R (k * 9 + 4)) (R (k * 9 + 5)) (R (k * 9 + 6)) (R (k * 9 + 7)) (R (k * 9 + 8)) = x) := (rokv_eq p R k).symm.trans hx
  have HT : Hid (RTab w) := ht
  have HP : Hid (1 ≤ p) := hp
  have hne : B ≠ w.heap.size := Nat.ne_of_lt hB
  clear hx ht hp
  go_enter Tryd.func28, Tryd.ntmps28
  go_wp2_with fail
  refine (ruleOk_any _ _ _ _ _ _ _ _ _ _ _ HP.out (HT.out.below (Joins.below_alloc1 _ _)) x HX.out).mono ?_
  rintro e w1 ⟨rfl, hb1⟩
  go_wp2
  go_ret
  exact ⟨rfl, (Joins.below_alloc1 _ _).trans (hb1.mono (by simp))⟩

set_option maxHeartbeats 1000000 in
theorem indexRule_any (p : Int) (n cap B : Nat) (ao : Option Addr) (R : Nat → Int) (w : World) (hn : n ≤ 1048576) (hp : 1 ≤ p) (hr : Rd w 9 ao n R) (ht : RTab w) (hm : w.cell? ⟨B, 0, none⟩ = some (.int .i64 p)) (hB : B < w.heap.size) :
    Calls Tryd.prog 55 #[.slice ao n cap, .func (Fn.func 28) #[] #[.pointer (some ⟨B, 0, none⟩)]] w fun e w' => (∃ r : Int, e = .returned (.int .i64 r) ∧ ((r = -1 ∧ ∀ j, j < n → rok p R j = true) ∨ (0 ≤ r ∧ ∃ j, j < n ∧ rok p R j = false))) ∧ Below w.heap.size w w' := by
  have HV : Hid (Rd w 9 ao n R) := hr
  have HT : Hid (RTab w) := ht
  have HM : Hid (w.cell? ⟨B, 0, none⟩ = some (.int .i64 p)) := hm
  have HP : Hid (1 ≤ p) := hp
  clear hr hm ht hp
  go_enter Tryd.func55, Tryd.ntmps55
  go_wp2
  go_loopw [8] (fun i wr => ∃ k : Nat, k ≤ n ∧ i = .int .i64 k ∧ Hid (∀ j, j < k → rok p R j = true) ∧ Hid (Below w.heap.size w wr)) (fun i _ => n - (intOf i).toNat)
  case atStart => exact ⟨0, Nat.zero_le _, rfl, fun j hj => absurd hj (Nat.not_lt_zero _), Below.refl _ _⟩
  case round =>
    obtain ⟨k, hk, rfl, HK, HB⟩ := hrel
    by_cases hlt : k < n
    · have HV1 : Hid (Rd wr 9 ao n R) := Rd.below HV.out HB.out (Nat.le_refl _)
      obtain ⟨b, off, rfl, hbw, hcell⟩ := HV1.out (by omega)
      have c0 : wr.cell? ⟨b, off + k * 9, none⟩ = some (.int .i64 (R (k * 9))) := hcell (k * 9) (by omega)
      have c1 : wr.cell? ⟨b, off + k * 9 + 1, none⟩ = some (.int .i64 (R (k * 9 + 1))) := hcell (k * 9 + 1) (by omega)
      have c2 : wr.cell? ⟨b, off + k * 9 + 2, none⟩ = some (.int .i64 (R (k * 9 + 2))) := hcell (k * 9 + 2) (by omega)
      have c3 : wr.cell? ⟨b, off + k * 9 + 3, none⟩ = some (.int .i64 (R (k * 9 + 3))) := hcell (k * 9 + 3) (by omega)
      have c4 : wr.cell? ⟨b, off + k * 9 + 4, none⟩ = some (.int .i64 (R (k * 9 + 4))) := hcell (k * 9 + 4) (by omega)
      have c5 : wr.cell? ⟨b, off + k * 9 + 5, none⟩ = some (.int .i64 (R (k * 9 + 5))) := hcell (k * 9 + 5) (by omega)
      have c6 : wr.cell? ⟨b, off + k * 9 + 6, none⟩ = some (.int .i64 (R (k * 9 + 6))) := hcell (k * 9 + 6) (by omega)
      have c7 : wr.cell? ⟨b, off + k * 9 + 7, none⟩ = some (.int .i64 (R (k * 9 + 7))) := hcell (k * 9 + 7) (by omega)
      have c8 : wr.cell? ⟨b, off + k * 9 + 8, none⟩ = some (.int .i64 (R (k * 9 + 8))) := hcell (k * 9 + 8) (by omega)
      have HM0 : Hid (wr.cell? ⟨B, 0, none⟩ = some (.int .i64 p)) := (HB.out.cell (p := ⟨B, 0, none⟩) hB).trans HM.out
      have HT1 : Hid (RTab wr) := HT.out.below HB.out
      have HBs : Hid (B < wr.heap.size) := Nat.lt_of_lt_of_le hB HB.out.size
      clear hcell HV1
      rcases Bool.eq_false_or_eq_true (rok p R k) with hvk | hvk
      · have HVK : Hid (rok p R k = true) := hvk
        clear hvk
        go_wp2_with fail
        refine (notRule_any p B R k _ HVK.out _ HP.out HT1.out HM0.out HBs.out).mono ?_
        rintro e w1 ⟨rfl, hb1⟩
        have HB1 : Hid (Below w.heap.size w w1) := HB.out.trans (hb1.mono HB.out.size)
        clear hb1 HB c0 c1 c2 c3 c4 c5 c6 c7 c8
        go_wp2
        go_roundw
        case rel => exact ⟨k + 1, by omega, by simp, all_succ HK.out HVK.out, HB1.out⟩
        case measure => simp [intOf]; omega
      · have HVK : Hid (rok p R k = false) := hvk
        clear hvk
        go_wp2_with fail
        refine (notRule_any p B R k _ HVK.out _ HP.out HT1.out HM0.out HBs.out).mono ?_
        rintro e w1 ⟨rfl, hb1⟩
        have HB1 : Hid (Below w.heap.size w w1) := HB.out.trans (hb1.mono HB.out.size)
        clear hb1 HB c0 c1 c2 c3 c4 c5 c6 c7 c8
        go_wp2
        go_ret
        exact ⟨⟨_, rfl, Or.inr ⟨by omega, k, hlt, HVK.out⟩⟩, HB1.out⟩
    · go_wp2
      go_ret
      exact ⟨⟨_, rfl, Or.inl ⟨rfl, fun j hj => HK.out j (by omega)⟩⟩, HB.out⟩

theorem containsRule_any (p : Int) (n cap B : Nat) (ao : Option Addr) (R : Nat → Int) (w : World) (hn : n ≤ 1048576) (hp : 1 ≤ p) (hr : Rd w 9 ao n R) (ht : RTab w) (hm : w.cell? ⟨B, 0, none⟩ = some (.int .i64 p)) (hB : B < w.heap.size) :
    Calls Tryd.prog 27 #[.slice ao n cap, .func (Fn.func 28) #[] #[.pointer (some ⟨B, 0, none⟩)]] w fun e w' => ((e = .returned (.bool false) ∧ ∀ j, j < n → rok p R j = true) ∨ (e = .returned (.bool true) ∧ ∃ j, j < n ∧ rok p R j = false)) ∧ Below w.heap.size w w' := by
  have HV : Hid (Rd w 9 ao n R) := hr
  have HT : Hid (RTab w) := ht
  have HM : Hid (w.cell? ⟨B, 0, none⟩ = some (.int .i64 p)) := hm
  have HP : Hid (1 ≤ p) := hp
  clear hr hm ht hp
  go_enter Tryd.func27, Tryd.ntmps27
  go_wp2_with fail
  refine (indexRule_any p n cap B ao R _ hn HP.out HV.out HT.out HM.out hB).mono ?_
  rintro e w1 ⟨⟨r, rfl, hr⟩, hb1⟩
  rcases hr with ⟨rfl, hr⟩ | ⟨h0, hr⟩
  · have HR : Hid (∀ j, j < n → rok p R j = true) := hr
    clear hr
    go_wp2
    go_ret
    exact ⟨Or.inl ⟨rfl, HR.out⟩, hb1⟩
  · have HR : Hid (∃ j, j < n ∧ rok p R j = false) := hr
    clear hr
    go_wp2
    go_ret
    exact ⟨Or.inr ⟨rfl, HR.out⟩, hb1⟩

set_option maxHeartbeats 2000000 in
theorem implSketchOk : ImplSketchOk := by
  intro p n cap ao R w hn hr ht
  have hmf : ∀ (fn : Fn) (first cap : Array Value) (w : World), (Instr.makeFunc fn first cap).run Tryd.prog w = .ok (.func fn first cap) w := fun _ _ _ _ => rfl
  have HV : Hid (Rd (w.alloc (.cells #[.int .i64 p, .slice ao n cap] 29)) 9 ao n R) := Rd.below hr (Joins.below_alloc1 _ _) (Nat.le_refl _)
  have HT : Hid (RTab (w.alloc (.cells #[.int .i64 p, .slice ao n cap] 29))) := ht.below (Joins.below_alloc1 _ _)
  have HM : Hid ((w.alloc (.cells #[.int .i64 p, .slice ao n cap] 29)).cell? ⟨w.heap.size, 0, none⟩ = some (.int .i64 p)) := by unfold Hid; go_simp
  clear hr ht
  by_cases h1 : p < 1
  · go_enter Tryd.func9, Tryd.ntmps9
    go_wp2
    go_ret
    exact ⟨by rw [show skok p n R = false by simp [skok]; omega]; rfl, Joins.below_alloc1 _ _⟩
  by_cases h2 : p > 8
  · go_enter Tryd.func9, Tryd.ntmps9
    go_wp2
    go_ret
    exact ⟨by rw [show skok p n R = false by simp [skok]; omega]; rfl, Joins.below_alloc1 _ _⟩
  by_cases h3 : n > 16
  · go_enter Tryd.func9, Tryd.ntmps9
    go_wp2
    go_ret
    exact ⟨by rw [show skok p n R = false by simp [skok]; omega]; rfl, Joins.below_alloc1 _ _⟩
  go_enter Tryd.func9, Tryd.ntmps9
  go_wp2_with fail
  refine (containsRule_any p n cap w.heap.size ao R _ hn (by omega) HV.out HT.out HM.out (by simp)).mono ?_
  rintro e w1 ⟨he, hb1⟩
  have HW1 : Hid (Below w.heap.size w w1) := (Joins.below_alloc1 _ _).trans (hb1.mono (by simp))
  clear hb1
  rcases he with ⟨rfl, hA⟩ | ⟨rfl, hA⟩
  · have HE : Hid (skok p n R = true) := skok_yes (by omega) (by omega) (by omega) hA
    clear hA
    go_wp2
    go_ret
    exact ⟨by rw [HE.out]; rfl, HW1.out⟩
  · have HE : Hid (skok p n R = false) := by obtain ⟨j, hj, hf⟩ := hA; exact skok_no hj hf
    clear hA
    go_wp2
    go_ret
    exact ⟨by rw [HE.out]; rfl, HW1.out⟩
end Go.Proofs.YtgcgoehmgaokkaaDoor
