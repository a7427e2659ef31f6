import Derived.Test.YtobhljmpdolomaaMsIm
import Derived.Test.YtobhljmpdolomaaMsLaw
namespace Go.Proofs.Ytobhljmpdolomaa
open Go.RowKit

theorem isPosition_is (i n : Int) (x : Bool) (hx : decide (0 ≤ i ∧ i < n) = x) (w : World) : Calls Try.prog 57 #[.int .i64 i, .int .i64 n] w fun e w' => e = .returned (.bool x) ∧ w' = w := by
  subst hx
  exact isPosition_any i n w

set_option maxHeartbeats 2000000 in
theorem isAmong_any (n a b c : Int) (x : Bool) (w : World) (hx : decide ((0 ≤ a ∧ a < n) ∧ (0 ≤ b ∧ b < n) ∧ (0 ≤ c ∧ c < n) ∧ a < b ∧ a < c ∧ b ≠ c) = x) :
    Calls Try.prog 31 #[.agg #[.int .i64 a, .int .i64 b, .int .i64 c], .int .i64 n] w fun e w' => e = .returned (.bool x) ∧ Below w.heap.size w w' := by
  by_cases ha : 0 ≤ a ∧ a < n
  · have HA : Hid (decide (0 ≤ a ∧ a < n) = true) := decide_eq_true ha
    by_cases hb : 0 ≤ b ∧ b < n
    · have HB : Hid (decide (0 ≤ b ∧ b < n) = true) := decide_eq_true hb
      by_cases hc : 0 ≤ c ∧ c < n
      · have HC : Hid (decide (0 ≤ c ∧ c < n) = true) := decide_eq_true hc
        by_cases h1 : a < b
        · by_cases h2 : a < c
          · by_cases h3 : b = c
            · obtain rfl : x = false := hx.symm.trans (decide_eq_false fun h => h.2.2.2.2.2 h3)
              have h3b : (b != c) = false := by simp [h3]
              clear h3 hx ha hb hc
              go_enter Try.func31, Try.ntmps31
              go_wp2_with fail
              refine (isPosition_is _ _ _ HA.out _).mono ?_
              rintro e _ ⟨rfl, rfl⟩
              go_wp2_with fail
              refine (isPosition_is _ _ _ HB.out _).mono ?_
              rintro e _ ⟨rfl, rfl⟩
              go_wp2_with fail
              refine (isPosition_is _ _ _ HC.out _).mono ?_
              rintro e _ ⟨rfl, rfl⟩
              go_wp2
              go_ret
              exact ⟨rfl, Joins.below_alloc1 _ _⟩
            · obtain rfl : x = true := hx.symm.trans (decide_eq_true ⟨ha, hb, hc, h1, h2, h3⟩)
              have h3b : (b != c) = true := by simp [h3]
              clear h3 hx ha hb hc
              go_enter Try.func31, Try.ntmps31
              go_wp2_with fail
              refine (isPosition_is _ _ _ HA.out _).mono ?_
              rintro e _ ⟨rfl, rfl⟩
              go_wp2_with fail
              refine (isPosition_is _ _ _ HB.out _).mono ?_
              rintro e _ ⟨rfl, rfl⟩
              go_wp2_with fail
              refine (isPosition_is _ _ _ HC.out _).mono ?_
              rintro e _ ⟨rfl, rfl⟩
              go_wp2
              go_ret
              exact ⟨rfl, Joins.below_alloc1 _ _⟩
          · obtain rfl : x = false := hx.symm.trans (decide_eq_false fun h => h2 h.2.2.2.2.1)
            clear hx ha hb hc
            go_enter Try.func31, Try.ntmps31
            go_wp2_with fail
            refine (isPosition_is _ _ _ HA.out _).mono ?_
            rintro e _ ⟨rfl, rfl⟩
            go_wp2_with fail
            refine (isPosition_is _ _ _ HB.out _).mono ?_
            rintro e _ ⟨rfl, rfl⟩
            go_wp2_with fail
            refine (isPosition_is _ _ _ HC.out _).mono ?_
            rintro e _ ⟨rfl, rfl⟩
            go_wp2
            go_ret
            exact ⟨rfl, Joins.below_alloc1 _ _⟩
        · obtain rfl : x = false := hx.symm.trans (decide_eq_false fun h => h1 h.2.2.2.1)
          clear hx ha hb hc
          go_enter Try.func31, Try.ntmps31
          go_wp2_with fail
          refine (isPosition_is _ _ _ HA.out _).mono ?_
          rintro e _ ⟨rfl, rfl⟩
          go_wp2_with fail
          refine (isPosition_is _ _ _ HB.out _).mono ?_
          rintro e _ ⟨rfl, rfl⟩
          go_wp2_with fail
          refine (isPosition_is _ _ _ HC.out _).mono ?_
          rintro e _ ⟨rfl, rfl⟩
          go_wp2
          go_ret
          exact ⟨rfl, Joins.below_alloc1 _ _⟩
      · obtain rfl : x = false := hx.symm.trans (decide_eq_false fun h => hc h.2.2.1)
        have HC : Hid (decide (0 ≤ c ∧ c < n) = false) := decide_eq_false hc
        clear hx ha hb hc
        go_enter Try.func31, Try.ntmps31
        go_wp2_with fail
        refine (isPosition_is _ _ _ HA.out _).mono ?_
        rintro e _ ⟨rfl, rfl⟩
        go_wp2_with fail
        refine (isPosition_is _ _ _ HB.out _).mono ?_
        rintro e _ ⟨rfl, rfl⟩
        go_wp2_with fail
        refine (isPosition_is _ _ _ HC.out _).mono ?_
        rintro e _ ⟨rfl, rfl⟩
        go_wp2
        go_ret
        exact ⟨rfl, Joins.below_alloc1 _ _⟩
    · obtain rfl : x = false := hx.symm.trans (decide_eq_false fun h => hb h.2.1)
      have HB : Hid (decide (0 ≤ b ∧ b < n) = false) := decide_eq_false hb
      clear hx ha hb
      go_enter Try.func31, Try.ntmps31
      go_wp2_with fail
      refine (isPosition_is _ _ _ HA.out _).mono ?_
      rintro e _ ⟨rfl, rfl⟩
      go_wp2_with fail
      refine (isPosition_is _ _ _ HB.out _).mono ?_
      rintro e _ ⟨rfl, rfl⟩
      go_wp2
      go_ret
      exact ⟨rfl, Joins.below_alloc1 _ _⟩
  · obtain rfl : x = false := hx.symm.trans (decide_eq_false fun h => ha h.1)
    have HA : Hid (decide (0 ≤ a ∧ a < n) = false) := decide_eq_false ha
    clear hx ha
    go_enter Try.func31, Try.ntmps31
    go_wp2_with fail
    refine (isPosition_is _ _ _ HA.out _).mono ?_
    rintro e _ ⟨rfl, rfl⟩
    go_wp2
    go_ret
    exact ⟨rfl, Joins.below_alloc1 _ _⟩

set_option maxHeartbeats 1000000 in
/-- What MeshOk asks of a triangle. -/
theorem notTri_any (nv nt cv ct B : Nat) (vo to : Option Addr) (T : Nat → Int) (k : Nat) (x : Bool) (hx : tok nv T k = x) (w : World) (hm : w.cell? ⟨B, 0, none⟩ = some (.slice vo nv cv)) (_hm1 : w.cell? ⟨B, 1, none⟩ = some (.slice to nt ct)) (hB : B < w.heap.size) :
    Calls Try.prog 30 #[.agg #[.int .i64 (T (k * 3)), .int .i64 (T (k * 3 + 1)), .int .i64 (T (k * 3 + 2))], .pointer (some ⟨B, 0, none⟩)] w fun e w' => e = .returned (.bool (!x)) ∧ Below w.heap.size w w' := by
  have HX : Hid (tok nv T k = x) := hx
  have hne : B ≠ w.heap.size := Nat.ne_of_lt hB
  clear hx
  go_enter Try.func30, Try.ntmps30
  go_wp2_with fail
  refine (isAmong_any (nv : Int) (T (k * 3)) (T (k * 3 + 1)) (T (k * 3 + 2)) x _ HX.out).mono ?_
  rintro e w1 ⟨rfl, hb1⟩
  go_wp2
  go_ret
  exact ⟨rfl, (Joins.below_alloc1 _ _).trans (hb1.mono (by simp))⟩

set_option maxHeartbeats 1000000 in
theorem indexTri_any (nv n cv ct cap B : Nat) (vo ao to : Option Addr) (nt : Nat) (T : Nat → Int) (w : World) (hn : n ≤ 1048576) (ht : Rd w 3 ao n T) (hm : w.cell? ⟨B, 0, none⟩ = some (.slice vo nv cv)) (hm1 : w.cell? ⟨B, 1, none⟩ = some (.slice to nt ct)) (hB : B < w.heap.size) :
    Calls Try.prog 56 #[.slice ao n cap, .func (Fn.func 30) #[] #[.pointer (some ⟨B, 0, none⟩)]] w fun e w' => (∃ r : Int, e = .returned (.int .i64 r) ∧ ((r = -1 ∧ ∀ j, j < n → tok nv T j = true) ∨ (0 ≤ r ∧ ∃ j, j < n ∧ tok nv T j = false))) ∧ Below w.heap.size w w' := by
  have HV : Hid (Rd w 3 ao n T) := ht
  have HM : Hid (w.cell? ⟨B, 0, none⟩ = some (.slice vo nv cv) ∧ w.cell? ⟨B, 1, none⟩ = some (.slice to nt ct)) := ⟨hm, hm1⟩
  clear ht hm hm1
  go_enter Try.func56, Try.ntmps56
  go_wp2
  go_loopw [8] (fun i wr => ∃ k : Nat, k ≤ n ∧ i = .int .i64 k ∧ Hid (∀ j, j < k → tok nv T j = true) ∧ Hid (Below w.heap.size w wr)) (fun i _ => n - (intOf i).toNat)
  case atStart => exact ⟨0, Nat.zero_le _, rfl, fun j hj => absurd hj (Nat.not_lt_zero _), Below.refl _ _⟩
  case round =>
    obtain ⟨k, hk, rfl, HK, HB⟩ := hrel
    by_cases hlt : k < n
    · have HV1 : Hid (Rd wr 3 ao n T) := Rd.below HV.out HB.out (Nat.le_refl _)
      obtain ⟨b, off, rfl, hbw, hcell⟩ := HV1.out (by omega)
      have c0 : wr.cell? ⟨b, off + k * 3, none⟩ = some (.int .i64 (T (k * 3))) := hcell (k * 3) (by omega)
      have c1 : wr.cell? ⟨b, off + k * 3 + 1, none⟩ = some (.int .i64 (T (k * 3 + 1))) := hcell (k * 3 + 1) (by omega)
      have c2 : wr.cell? ⟨b, off + k * 3 + 2, none⟩ = some (.int .i64 (T (k * 3 + 2))) := hcell (k * 3 + 2) (by omega)
      have HM0 : Hid (wr.cell? ⟨B, 0, none⟩ = some (.slice vo nv cv)) := (HB.out.cell (p := ⟨B, 0, none⟩) hB).trans HM.out.1
      have HM1 : Hid (wr.cell? ⟨B, 1, none⟩ = some (.slice to nt ct)) := (HB.out.cell (p := ⟨B, 1, none⟩) hB).trans HM.out.2
      have HBs : Hid (B < wr.heap.size) := Nat.lt_of_lt_of_le hB HB.out.size
      clear hcell HV1
      rcases Bool.eq_false_or_eq_true (tok nv T k) with hvk | hvk
      · have HVK : Hid (tok nv T k = true) := hvk
        clear hvk
        go_wp2_with fail
        refine (notTri_any nv nt cv ct B vo to T k _ HVK.out _ HM0.out HM1.out HBs.out).mono ?_
        rintro e w1 ⟨rfl, hb1⟩
        have HB1 : Hid (Below w.heap.size w w1) := HB.out.trans (hb1.mono HB.out.size)
        clear hb1 HB c0 c1 c2
        go_wp2
        go_roundw
        case rel => exact ⟨k + 1, by omega, by simp, all_succ HK.out HVK.out, HB1.out⟩
        case measure => simp [intOf]; omega
      · have HVK : Hid (tok nv T k = false) := hvk
        clear hvk
        go_wp2_with fail
        refine (notTri_any nv nt cv ct B vo to T k _ HVK.out _ HM0.out HM1.out HBs.out).mono ?_
        rintro e w1 ⟨rfl, hb1⟩
        have HB1 : Hid (Below w.heap.size w w1) := HB.out.trans (hb1.mono HB.out.size)
        clear hb1 HB c0 c1 c2
        go_wp2
        go_ret
        exact ⟨⟨_, rfl, Or.inr ⟨by omega, k, hlt, HVK.out⟩⟩, HB1.out⟩
    · go_wp2
      go_ret
      exact ⟨⟨_, rfl, Or.inl ⟨rfl, fun j hj => HK.out j (by omega)⟩⟩, HB.out⟩

theorem containsTri_any (nv n cv ct cap B : Nat) (vo ao to : Option Addr) (nt : Nat) (T : Nat → Int) (w : World) (hn : n ≤ 1048576) (ht : Rd w 3 ao n T) (hm : w.cell? ⟨B, 0, none⟩ = some (.slice vo nv cv)) (hm1 : w.cell? ⟨B, 1, none⟩ = some (.slice to nt ct)) (hB : B < w.heap.size) :
    Calls Try.prog 29 #[.slice ao n cap, .func (Fn.func 30) #[] #[.pointer (some ⟨B, 0, none⟩)]] w fun e w' => ((e = .returned (.bool false) ∧ ∀ j, j < n → tok nv T j = true) ∨ (e = .returned (.bool true) ∧ ∃ j, j < n ∧ tok nv T j = false)) ∧ Below w.heap.size w w' := by
  have HV : Hid (Rd w 3 ao n T) := ht
  have HM : Hid (w.cell? ⟨B, 0, none⟩ = some (.slice vo nv cv) ∧ w.cell? ⟨B, 1, none⟩ = some (.slice to nt ct)) := ⟨hm, hm1⟩
  clear ht hm hm1
  go_enter Try.func29, Try.ntmps29
  go_wp2_with fail
  refine (indexTri_any nv n cv ct cap B vo ao to nt T _ hn HV.out HM.out.1 HM.out.2 hB).mono ?_
  rintro e w1 ⟨⟨r, rfl, hr⟩, hb1⟩
  rcases hr with ⟨rfl, hr⟩ | ⟨h0, hr⟩
  · have HR : Hid (∀ j, j < n → tok nv T j = true) := hr
    clear hr
    go_wp2
    go_ret
    exact ⟨Or.inl ⟨rfl, HR.out⟩, hb1⟩
  · have HR : Hid (∃ j, j < n ∧ tok nv T j = false) := hr
    clear hr
    go_wp2
    go_ret
    exact ⟨Or.inr ⟨rfl, HR.out⟩, hb1⟩

set_option maxHeartbeats 2000000 in
theorem implMeshOk : ImplMeshOk := by
  intro nv nt cv ct vo to V T w hnv hnt hv ht
  have hmf : ∀ (fn : Fn) (first cap : Array Value) (w : World), (Instr.makeFunc fn first cap).run Try.prog w = .ok (.func fn first cap) w := fun _ _ _ _ => rfl
  have HV : Hid (Rd (w.alloc (.cells #[.slice vo nv cv, .slice to nt ct] 31)) 6 vo nv V) := Rd.below hv (Joins.below_alloc1 _ _) (Nat.le_refl _)
  have HT : Hid (Rd (w.alloc (.cells #[.slice vo nv cv, .slice to nt ct] 31)) 3 to nt T) := Rd.below ht (Joins.below_alloc1 _ _) (Nat.le_refl _)
  clear hv ht
  by_cases h1 : nv ≤ 200
  · by_cases h2 : nt ≤ 300
    · go_enter Try.func9, Try.ntmps9
      go_wp2_with fail
      refine (containsV3_any nv cv vo V _ hnv HV.out).mono ?_
      rintro e w1 ⟨he, hb1⟩
      have HB1 : Hid (Below (w.alloc (.cells #[.slice vo nv cv, .slice to nt ct] 31)).heap.size (w.alloc (.cells #[.slice vo nv cv, .slice to nt ct] 31)) w1) := hb1
      have HW1 : Hid (Below w.heap.size w w1) := (Joins.below_alloc1 _ _).trans (hb1.mono (by simp))
      obtain ⟨m0, m1⟩ := mesh_cells hb1
      have hs1 : w.heap.size < w1.heap.size := by have := hb1.size; simp at this; omega
      clear hb1
      rcases he with ⟨rfl, hA⟩ | ⟨rfl, hA⟩
      · have HA : Hid (∀ j, j < nv → vok V j = true) := hA
        clear hA
        go_wp2_with fail
        refine (containsTri_any nv nt cv ct ct w.heap.size vo to to nt T _ hnt (Rd.below HT.out HB1.out (Nat.le_refl _)) m0 m1 hs1).mono ?_
        rintro e w2 ⟨he, hb2⟩
        have HW2 : Hid (Below w.heap.size w w2) := HW1.out.trans (hb2.mono HW1.out.size)
        clear hb2 HB1 HW1 m0 m1
        rcases he with ⟨rfl, hT⟩ | ⟨rfl, hT⟩
        · have HE : Hid (meshok nv nt V T = true) := meshok_yes h1 h2 HA.out hT
          clear hT HA
          go_wp2
          go_ret
          exact ⟨by rw [HE.out]; rfl, HW2.out⟩
        · have HE : Hid (meshok nv nt V T = false) := by obtain ⟨j, hj, hf⟩ := hT; exact meshok_tri hj hf
          clear hT HA
          go_wp2
          go_ret
          exact ⟨by rw [HE.out]; rfl, HW2.out⟩
      · have HE : Hid (meshok nv nt V T = false) := by obtain ⟨j, hj, hf⟩ := hA; exact meshok_vert hj hf
        clear hA HB1
        go_wp2
        go_ret
        exact ⟨by rw [HE.out]; rfl, HW1.out⟩
    · have HE : Hid (meshok nv nt V T = false) := (show meshok nv nt V T = false by simp [meshok, h2])
      go_enter Try.func9, Try.ntmps9
      go_wp2
      go_ret
      exact ⟨by rw [HE.out]; rfl, Joins.below_alloc1 _ _⟩
  · have HE : Hid (meshok nv nt V T = false) := (show meshok nv nt V T = false by simp [meshok, h1])
    go_enter Try.func9, Try.ntmps9
    go_wp2
    go_ret
    exact ⟨by rw [HE.out]; rfl, Joins.below_alloc1 _ _⟩
end Go.Proofs.Ytobhljmpdolomaa
