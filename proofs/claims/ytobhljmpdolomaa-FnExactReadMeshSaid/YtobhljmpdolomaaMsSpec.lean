import Derived.Test.YtobhljmpdolomaaMs0
import Derived.Deep.RegionWith
namespace Go.Proofs.Ytobhljmpdolomaa
open Go.RowKit

/-- The six numbers of place i make a place. -/
def vok (V : Nat → Int) (i : Nat) : Bool := qok (V (i * 6)) (V (i * 6 + 1)) && qok (V (i * 6 + 2)) (V (i * 6 + 3)) && qok (V (i * 6 + 4)) (V (i * 6 + 5))
/-- Triangle i is as it should be. -/
def tok (n : Nat) (T : Nat → Int) (i : Nat) : Bool :=
  decide ((0 ≤ T (i * 3) ∧ T (i * 3) < n) ∧ (0 ≤ T (i * 3 + 1) ∧ T (i * 3 + 1) < n) ∧ (0 ≤ T (i * 3 + 2) ∧ T (i * 3 + 2) < n) ∧ T (i * 3) < T (i * 3 + 1) ∧ T (i * 3) < T (i * 3 + 2) ∧ T (i * 3 + 1) ≠ T (i * 3 + 2))
def meshok (nv nt : Nat) (V T : Nat → Int) : Bool := decide (nv ≤ 200) && decide (nt ≤ 300) && (List.range nv).all (vok V) && (List.range nt).all (tok nv T)
theorem meshok_vert {nv nt : Nat} {V T : Nat → Int} {k : Nat} (hk : k < nv) (h : vok V k = false) : meshok nv nt V T = false := by
  have : (List.range nv).all (vok V) = false := by rw [List.all_eq_false]; exact ⟨k, List.mem_range.2 hk, by simp [h]⟩
  simp [meshok, this]
theorem meshok_tri {nv nt : Nat} {V T : Nat → Int} {k : Nat} (hk : k < nt) (h : tok nv T k = false) : meshok nv nt V T = false := by
  have : (List.range nt).all (tok nv T) = false := by rw [List.all_eq_false]; exact ⟨k, List.mem_range.2 hk, by simp [h]⟩
  simp [meshok, this]
theorem meshok_yes {nv nt : Nat} {V T : Nat → Int} (h1 : nv ≤ 200) (h2 : nt ≤ 300) (h3 : ∀ j, j < nv → vok V j = true) (h4 : ∀ j, j < nt → tok nv T j = true) : meshok nv nt V T = true := by
  simp only [meshok, Bool.and_eq_true, decide_eq_true_eq, List.all_eq_true, List.mem_range]
  exact ⟨⟨⟨h1, h2⟩, h3⟩, h4⟩

theorem l7At_any (k n : Int) (w : World) : Calls Try.prog 24 #[.int .i64 k, .int .i64 n] w fun e w' => e = .returned (.bool (decide (0 ≤ k ∧ k < n))) ∧ w' = w := by
  by_cases h : 0 ≤ k
  · go_enter Try.func24, Try.ntmps24
    go_wp2
    go_ret
    simp [h]
  · have h' : ¬ (0 ≤ k ∧ k < n) := fun x => h x.1
    go_enter Try.func24, Try.ntmps24
    go_wp2
    go_ret
    exact ⟨rfl, rfl⟩
theorem l7At_is (k n : Int) (x : Bool) (hx : decide (0 ≤ k ∧ k < n) = x) (w : World) : Calls Try.prog 24 #[.int .i64 k, .int .i64 n] w fun e w' => e = .returned (.bool x) ∧ w' = w := by
  subst hx
  exact l7At_any k n w
theorem all_succ {f : Nat → Bool} {k : Nat} (h : ∀ j, j < k → f j = true) (hk : f k = true) : ∀ j, j < k + 1 → f j = true := fun j hj => by
  by_cases e : j = k
  · subst e; exact hk
  · exact h j (by omega)

theorem mesh_cells {w wr : World} {x y : Value} {t : Nat} (hb : Below (w.alloc (.cells #[x, y] t)).heap.size (w.alloc (.cells #[x, y] t)) wr) :
    wr.cell? ⟨w.heap.size, 0, none⟩ = some x ∧ wr.cell? ⟨w.heap.size, 1, none⟩ = some y :=
  ⟨by rw [hb.cell (p := ⟨w.heap.size, 0, none⟩) (by simp)]; go_simp, by rw [hb.cell (p := ⟨w.heap.size, 1, none⟩) (by simp)]; go_simp⟩

theorem specV3Ok_vok (V : Nat → Int) (k : Nat) (x : Bool) (hx : vok V k = x) (w : World) :
    Calls Try.prog 23 #[.agg #[.int .i64 (V (k * 6)), .int .i64 (V (k * 6 + 1)), .int .i64 (V (k * 6 + 2)), .int .i64 (V (k * 6 + 3)), .int .i64 (V (k * 6 + 4)), .int .i64 (V (k * 6 + 5))]] w fun e w' => e = .returned (.bool x) ∧ Below w.heap.size w w' := by
  subst hx
  exact specV3Ok_any _ _ _ _ _ _ _

theorem tri_bel {B : Nat} {w wr : World} {o : Obj} (hb : Below B w wr) (hB : B ≤ w.heap.size := by exact Nat.le_refl _) : Below B w (wr.alloc o) := hb.alloc (Nat.le_trans hB hb.size) o

set_option maxHeartbeats 4000000 in
theorem specMeshOk_any (nv nt cv ct : Nat) (vo to : Option Addr) (V T : Nat → Int) (w : World) (hnv : nv ≤ 1048576) (hnt : nt ≤ 1048576) (hv : Rd w 6 vo nv V) (ht : Rd w 3 to nt T) :
    Calls Try.prog 7 #[.agg #[.slice vo nv cv, .slice to nt ct]] w fun e w' => e = .returned (.bool (meshok nv nt V T)) ∧ Below w.heap.size w w' := by
  have HV : Hid (Rd (w.alloc (.cells #[.slice vo nv cv, .slice to nt ct] 31)) 6 vo nv V) := Rd.below hv (Joins.below_alloc1 _ _) (Nat.le_refl _)
  have HT : Hid (Rd (w.alloc (.cells #[.slice vo nv cv, .slice to nt ct] 31)) 3 to nt T) := Rd.below ht (Joins.below_alloc1 _ _) (Nat.le_refl _)
  clear hv ht
  by_cases h1 : nv ≤ 200
  · by_cases h2 : nt ≤ 300
    · go_enter Try.func7, Try.ntmps7
      go_wp2
      go_loopw [3] (fun i wr => ∃ k : Nat, k ≤ nv ∧ i = .int .i64 k ∧ Hid (∀ j, j < k → vok V j = true) ∧ Hid (Below (w.alloc (.cells #[.slice vo nv cv, .slice to nt ct] 31)).heap.size (w.alloc (.cells #[.slice vo nv cv, .slice to nt ct] 31)) wr)) (fun i _ => nv - (intOf i).toNat)
      case atStart => exact ⟨0, Nat.zero_le _, rfl, fun j hj => absurd hj (Nat.not_lt_zero _), Below.refl _ _⟩
      case round =>
        obtain ⟨k, hk, rfl, HK, HB⟩ := hrel
        obtain ⟨m0, m1⟩ := mesh_cells HB.out
        by_cases hlt : k < nv
        · have HV1 : Hid (Rd wr 6 vo nv V) := Rd.below HV.out HB.out (Nat.le_refl _)
          obtain ⟨b, off, rfl, hbw, hcell⟩ := HV1.out (by omega)
          have c0 : wr.cell? ⟨b, off + k * 6, none⟩ = some (.int .i64 (V (k * 6))) := hcell (k * 6) (by omega)
          have c1 : wr.cell? ⟨b, off + k * 6 + 1, none⟩ = some (.int .i64 (V (k * 6 + 1))) := hcell (k * 6 + 1) (by omega)
          have c2 : wr.cell? ⟨b, off + k * 6 + 2, none⟩ = some (.int .i64 (V (k * 6 + 2))) := hcell (k * 6 + 2) (by omega)
          have c3 : wr.cell? ⟨b, off + k * 6 + 3, none⟩ = some (.int .i64 (V (k * 6 + 3))) := hcell (k * 6 + 3) (by omega)
          have c4 : wr.cell? ⟨b, off + k * 6 + 4, none⟩ = some (.int .i64 (V (k * 6 + 4))) := hcell (k * 6 + 4) (by omega)
          have c5 : wr.cell? ⟨b, off + k * 6 + 5, none⟩ = some (.int .i64 (V (k * 6 + 5))) := hcell (k * 6 + 5) (by omega)
          clear hcell
          rcases Bool.eq_false_or_eq_true (vok V k) with hvk | hvk
          · have HVK : Hid (vok V k = true) := hvk
            clear hvk
            go_wp2_with fail
            refine (specV3Ok_vok V k _ HVK.out _).mono ?_
            rintro e w1 ⟨rfl, hb1⟩
            have HB1 : Hid (Below _ _ w1) := HB.out.trans (hb1.mono HB.out.size)
            clear hb1 HB c0 c1 c2 c3 c4 c5 m0 m1
            go_wp2
            go_roundw
            case rel => exact ⟨k + 1, by omega, by simp, all_succ HK.out HVK.out, HB1.out⟩
            case measure => simp [intOf]; omega
          · have HVK : Hid (vok V k = false) := hvk
            clear hvk
            go_wp2_with fail
            refine (specV3Ok_vok V k _ HVK.out _).mono ?_
            rintro e w1 ⟨rfl, hb1⟩
            have HB1 : Hid (Below _ _ w1) := HB.out.trans (hb1.mono HB.out.size)
            clear hb1 HB c0 c1 c2 c3 c4 c5 m0 m1
            go_wp2
            go_ret
            exact ⟨by rw [meshok_vert hlt HVK.out]; rfl, (Joins.below_alloc1 _ _).trans (HB1.out.mono (by simp))⟩
        · have HVS : Hid (∀ j, j < nv → vok V j = true) := fun j hj => HK.out j (by omega)
          clear HK HV
          go_wp2
          go_loopw [5] (fun i wr => ∃ k : Nat, k ≤ nt ∧ i = .int .i64 k ∧ Hid (∀ j, j < k → tok nv T j = true) ∧ Hid (Below (w.alloc (.cells #[.slice vo nv cv, .slice to nt ct] 31)).heap.size (w.alloc (.cells #[.slice vo nv cv, .slice to nt ct] 31)) wr)) (fun i _ => nt - (intOf i).toNat)
          case atStart => exact ⟨0, Nat.zero_le _, rfl, fun j hj => absurd hj (Nat.not_lt_zero _), HB.out⟩
          case round =>
            clear m0 m1 HB
            obtain ⟨k, hk, rfl, HK, HB⟩ := hrel
            obtain ⟨m0, m1⟩ := mesh_cells HB.out
            by_cases hlt : k < nt
            · have HT1 : Hid (Rd wr 3 to nt T) := Rd.below HT.out HB.out (Nat.le_refl _)
              obtain ⟨b, off, rfl, hbw, hcell⟩ := HT1.out (by omega)
              have c0 : wr.cell? ⟨b, off + k * 3, none⟩ = some (.int .i64 (T (k * 3))) := hcell (k * 3) (by omega)
              have c1 : wr.cell? ⟨b, off + k * 3 + 1, none⟩ = some (.int .i64 (T (k * 3 + 1))) := hcell (k * 3 + 1) (by omega)
              have c2 : wr.cell? ⟨b, off + k * 3 + 2, none⟩ = some (.int .i64 (T (k * 3 + 2))) := hcell (k * 3 + 2) (by omega)
              clear hcell HT1 HT
              by_cases p0 : 0 ≤ T (k * 3) ∧ T (k * 3) < (nv : Int)
              · skip
                by_cases p1 : 0 ≤ T (k * 3 + 1) ∧ T (k * 3 + 1) < (nv : Int)
                · skip
                  by_cases p2 : 0 ≤ T (k * 3 + 2) ∧ T (k * 3 + 2) < (nv : Int)
                  · skip
                    by_cases p3 : T (k * 3) < T (k * 3 + 1)
                    · skip
                      by_cases p4 : T (k * 3) < T (k * 3 + 2)
                      · skip
                        by_cases p5 : T (k * 3 + 1) ≠ T (k * 3 + 2)
                        · skip
                          have H0 : Hid (decide (0 ≤ T (k * 3) ∧ T (k * 3) < (nv : Int)) = true) := decide_eq_true p0
                          have H1 : Hid (decide (0 ≤ T (k * 3 + 1) ∧ T (k * 3 + 1) < (nv : Int)) = true) := decide_eq_true p1
                          have H2 : Hid (decide (0 ≤ T (k * 3 + 2) ∧ T (k * 3 + 2) < (nv : Int)) = true) := decide_eq_true p2
                          have HTK : Hid (tok nv T k = true) := by unfold tok; exact decide_eq_true ⟨p0, p1, p2, p3, p4, p5⟩
                          have q5 : (T (k * 3 + 1) == T (k * 3 + 2)) = false := beq_eq_false_iff_ne.2 p5
                          clear p0 p1 p2 p5
                          go_wp2_with fail
                          refine (l7At_is _ _ true H0.out _).mono ?_
                          rintro e w1 ⟨rfl, rfl⟩
                          go_wp2_with fail
                          refine (l7At_is _ _ true H1.out _).mono ?_
                          rintro e w1 ⟨rfl, rfl⟩
                          go_wp2_with fail
                          refine (l7At_is _ _ true H2.out _).mono ?_
                          rintro e w1 ⟨rfl, rfl⟩
                          go_wp2
                          go_roundw
                          case rel => exact ⟨k + 1, by omega, by simp, all_succ HK.out HTK.out, tri_bel HB.out⟩
                          case measure => simp [intOf]; omega
                        · skip
                          have H0 : Hid (decide (0 ≤ T (k * 3) ∧ T (k * 3) < (nv : Int)) = true) := decide_eq_true p0
                          have H1 : Hid (decide (0 ≤ T (k * 3 + 1) ∧ T (k * 3 + 1) < (nv : Int)) = true) := decide_eq_true p1
                          have H2 : Hid (decide (0 ≤ T (k * 3 + 2) ∧ T (k * 3 + 2) < (nv : Int)) = true) := decide_eq_true p2
                          have HTK : Hid (tok nv T k = false) := by unfold tok; exact decide_eq_false fun h => p5 h.2.2.2.2.2
                          have q5 : (T (k * 3 + 1) == T (k * 3 + 2)) = true := by rw [beq_iff_eq]; exact Decidable.not_not.1 p5
                          clear p0 p1 p2 p5
                          go_wp2_with fail
                          refine (l7At_is _ _ true H0.out _).mono ?_
                          rintro e w1 ⟨rfl, rfl⟩
                          go_wp2_with fail
                          refine (l7At_is _ _ true H1.out _).mono ?_
                          rintro e w1 ⟨rfl, rfl⟩
                          go_wp2_with fail
                          refine (l7At_is _ _ true H2.out _).mono ?_
                          rintro e w1 ⟨rfl, rfl⟩
                          go_wp2
                          go_ret
                          exact ⟨by rw [meshok_tri hlt HTK.out]; rfl, (Joins.below_alloc1 _ _).trans ((tri_bel HB.out).mono (by simp))⟩
                      · skip
                        have H0 : Hid (decide (0 ≤ T (k * 3) ∧ T (k * 3) < (nv : Int)) = true) := decide_eq_true p0
                        have H1 : Hid (decide (0 ≤ T (k * 3 + 1) ∧ T (k * 3 + 1) < (nv : Int)) = true) := decide_eq_true p1
                        have H2 : Hid (decide (0 ≤ T (k * 3 + 2) ∧ T (k * 3 + 2) < (nv : Int)) = true) := decide_eq_true p2
                        have HTK : Hid (tok nv T k = false) := by unfold tok; exact decide_eq_false fun h => p4 h.2.2.2.2.1
                        clear p0 p1 p2
                        go_wp2_with fail
                        refine (l7At_is _ _ true H0.out _).mono ?_
                        rintro e w1 ⟨rfl, rfl⟩
                        go_wp2_with fail
                        refine (l7At_is _ _ true H1.out _).mono ?_
                        rintro e w1 ⟨rfl, rfl⟩
                        go_wp2_with fail
                        refine (l7At_is _ _ true H2.out _).mono ?_
                        rintro e w1 ⟨rfl, rfl⟩
                        go_wp2
                        go_ret
                        exact ⟨by rw [meshok_tri hlt HTK.out]; rfl, (Joins.below_alloc1 _ _).trans ((tri_bel HB.out).mono (by simp))⟩
                    · skip
                      have H0 : Hid (decide (0 ≤ T (k * 3) ∧ T (k * 3) < (nv : Int)) = true) := decide_eq_true p0
                      have H1 : Hid (decide (0 ≤ T (k * 3 + 1) ∧ T (k * 3 + 1) < (nv : Int)) = true) := decide_eq_true p1
                      have H2 : Hid (decide (0 ≤ T (k * 3 + 2) ∧ T (k * 3 + 2) < (nv : Int)) = true) := decide_eq_true p2
                      have HTK : Hid (tok nv T k = false) := by unfold tok; exact decide_eq_false fun h => p3 h.2.2.2.1
                      clear p0 p1 p2
                      go_wp2_with fail
                      refine (l7At_is _ _ true H0.out _).mono ?_
                      rintro e w1 ⟨rfl, rfl⟩
                      go_wp2_with fail
                      refine (l7At_is _ _ true H1.out _).mono ?_
                      rintro e w1 ⟨rfl, rfl⟩
                      go_wp2_with fail
                      refine (l7At_is _ _ true H2.out _).mono ?_
                      rintro e w1 ⟨rfl, rfl⟩
                      go_wp2
                      go_ret
                      exact ⟨by rw [meshok_tri hlt HTK.out]; rfl, (Joins.below_alloc1 _ _).trans ((tri_bel HB.out).mono (by simp))⟩
                  · skip
                    have H0 : Hid (decide (0 ≤ T (k * 3) ∧ T (k * 3) < (nv : Int)) = true) := decide_eq_true p0
                    have H1 : Hid (decide (0 ≤ T (k * 3 + 1) ∧ T (k * 3 + 1) < (nv : Int)) = true) := decide_eq_true p1
                    have H2 : Hid (decide (0 ≤ T (k * 3 + 2) ∧ T (k * 3 + 2) < (nv : Int)) = false) := decide_eq_false p2
                    have HTK : Hid (tok nv T k = false) := by unfold tok; exact decide_eq_false fun h => p2 h.2.2.1
                    clear p0 p1 p2
                    go_wp2_with fail
                    refine (l7At_is _ _ true H0.out _).mono ?_
                    rintro e w1 ⟨rfl, rfl⟩
                    go_wp2_with fail
                    refine (l7At_is _ _ true H1.out _).mono ?_
                    rintro e w1 ⟨rfl, rfl⟩
                    go_wp2_with fail
                    refine (l7At_is _ _ false H2.out _).mono ?_
                    rintro e w1 ⟨rfl, rfl⟩
                    go_wp2
                    go_ret
                    exact ⟨by rw [meshok_tri hlt HTK.out]; rfl, (Joins.below_alloc1 _ _).trans ((tri_bel HB.out).mono (by simp))⟩
                · skip
                  have H0 : Hid (decide (0 ≤ T (k * 3) ∧ T (k * 3) < (nv : Int)) = true) := decide_eq_true p0
                  have H1 : Hid (decide (0 ≤ T (k * 3 + 1) ∧ T (k * 3 + 1) < (nv : Int)) = false) := decide_eq_false p1
                  have HTK : Hid (tok nv T k = false) := by unfold tok; exact decide_eq_false fun h => p1 h.2.1
                  clear p0 p1
                  go_wp2_with fail
                  refine (l7At_is _ _ true H0.out _).mono ?_
                  rintro e w1 ⟨rfl, rfl⟩
                  go_wp2_with fail
                  refine (l7At_is _ _ false H1.out _).mono ?_
                  rintro e w1 ⟨rfl, rfl⟩
                  go_wp2
                  go_ret
                  exact ⟨by rw [meshok_tri hlt HTK.out]; rfl, (Joins.below_alloc1 _ _).trans ((tri_bel HB.out).mono (by simp))⟩
              · skip
                have H0 : Hid (decide (0 ≤ T (k * 3) ∧ T (k * 3) < (nv : Int)) = false) := decide_eq_false p0
                have HTK : Hid (tok nv T k = false) := by unfold tok; exact decide_eq_false fun h => p0 h.1
                clear p0
                go_wp2_with fail
                refine (l7At_is _ _ false H0.out _).mono ?_
                rintro e w1 ⟨rfl, rfl⟩
                go_wp2
                go_ret
                exact ⟨by rw [meshok_tri hlt HTK.out]; rfl, (Joins.below_alloc1 _ _).trans ((tri_bel HB.out).mono (by simp))⟩
            · go_wp2
              go_ret
              exact ⟨by rw [meshok_yes h1 h2 HVS.out (fun j hj => HK.out j (by omega))]; rfl, (Joins.below_alloc1 _ _).trans (HB.out.mono (by simp))⟩
    · go_enter Try.func7, Try.ntmps7
      go_wp2
      go_ret
      exact ⟨by simp [meshok, h2], Joins.below_alloc1 _ _⟩
  · go_enter Try.func7, Try.ntmps7
    go_wp2
    go_ret
    exact ⟨by simp [meshok, h1], Joins.below_alloc1 _ _⟩
end Go.Proofs.Ytobhljmpdolomaa
