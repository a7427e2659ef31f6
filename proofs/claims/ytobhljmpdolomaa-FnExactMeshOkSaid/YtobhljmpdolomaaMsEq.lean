import Derived.Test.YtobhljmpdolomaaMsEqT
import Derived.Test.YtobhljmpdolomaaMsEqV
import Derived.Test.YtobhljmpdolomaaAt
namespace Go.Proofs.Ytobhljmpdolomaa
open Go.RowKit

theorem szV3S_any (n cap : Nat) (ao : Option Addr) (l : Int) (w : World) (hl : 0 ≤ l ∧ l ≤ 1048576) (hn : n ≤ 9223372036854775807) :
    Calls Try.prog 21 #[.slice ao n cap, .int .i64 l] w fun e w' => e = .returned (.int .i64 (if l - n < 0 then -1 else l - n)) ∧ w' = w := by
  by_cases h : l - n < 0
  · rw [if_pos h]
    go_enter Try.func21, Try.ntmps21
    go_wp2
    go_ret
    exact ⟨rfl, rfl⟩
  · rw [if_neg h]
    go_enter Try.func21, Try.ntmps21
    go_wp2
    go_ret
    exact ⟨rfl, rfl⟩
theorem szTriS_any (n cap : Nat) (ao : Option Addr) (l : Int) (w : World) (hl : 0 ≤ l ∧ l ≤ 1048576) (hn : n ≤ 9223372036854775807) :
    Calls Try.prog 22 #[.slice ao n cap, .int .i64 l] w fun e w' => e = .returned (.int .i64 (if l - n < 0 then -1 else l - n)) ∧ w' = w := by
  by_cases h : l - n < 0
  · rw [if_pos h]
    go_enter Try.func22, Try.ntmps22
    go_wp2
    go_ret
    exact ⟨rfl, rfl⟩
  · rw [if_neg h]
    go_enter Try.func22, Try.ntmps22
    go_wp2
    go_ret
    exact ⟨rfl, rfl⟩
/-- szMesh: -1, or what is left: then both are short. -/
theorem szMesh_any (nv nt cv ct : Nat) (vo to : Option Addr) (w : World) (hv : nv ≤ 9223372036854775807) (ht : nt ≤ 9223372036854775807) :
    Calls Try.prog 6 #[.agg #[.slice vo nv cv, .slice to nt ct], .int .i64 1048576] w fun e w' => ∃ l : Int, e = .returned (.int .i64 l) ∧ (l < 0 ∨ nv ≤ 1048576 ∧ nt ≤ 1048576 ∧ 0 ≤ l) ∧ Below w.heap.size w w' := by
  by_cases h1 : (1048576 : Int) - nv < 0
  · go_enter Try.func6, Try.ntmps6
    go_wp2_with fail
    refine (szV3S_any _ _ _ _ _ (by omega) hv).mono ?_
    rintro e w1 ⟨rfl, rfl⟩
    rw [if_pos h1]
    go_wp2
    go_ret
    exact ⟨-1, rfl, Or.inl (by omega), Joins.below_alloc1 _ _⟩
  · by_cases h2 : (1048576 : Int) - nv - nt < 0
    · go_enter Try.func6, Try.ntmps6
      go_wp2_with fail
      refine (szV3S_any _ _ _ _ _ (by omega) hv).mono ?_
      rintro e w1 ⟨rfl, rfl⟩
      rw [if_neg (show ¬ ((1048576 : Int) - nv < 0) by omega)]
      go_wp2_with fail
      refine (szTriS_any _ _ _ _ _ (by omega) ht).mono ?_
      rintro e w1 ⟨rfl, rfl⟩
      rw [if_pos h2]
      go_wp2
      go_ret
      exact ⟨-1, rfl, Or.inl (by omega), Joins.below_alloc1 _ _⟩
    · go_enter Try.func6, Try.ntmps6
      go_wp2_with fail
      refine (szV3S_any _ _ _ _ _ (by omega) hv).mono ?_
      rintro e w1 ⟨rfl, rfl⟩
      rw [if_neg (show ¬ ((1048576 : Int) - nv < 0) by omega)]
      go_wp2_with fail
      refine (szTriS_any _ _ _ _ _ (by omega) ht).mono ?_
      rintro e w1 ⟨rfl, rfl⟩
      rw [if_neg (show ¬ ((1048576 : Int) - nv - nt < 0) by omega)]
      go_wp2
      go_ret
      exact ⟨_, rfl, Or.inr ⟨by omega, by omega, by omega⟩, Joins.below_alloc1 _ _⟩

theorem eqMesh_same (nv nt cv ct dv dt : Nat) (vo to po qo : Option Addr) (V T : Nat → Int) (w : World) (hnv : nv ≤ 1048576) (hnt : nt ≤ 1048576) (hv : Rd w 6 vo nv V) (ht : Rd w 3 to nt T) (hp : Rd w 6 po nv V) (hq : Rd w 3 qo nt T) :
    Calls Try.prog 10 #[.agg #[.slice vo nv cv, .slice to nt ct], .agg #[.slice po nv dv, .slice qo nt dt]] w fun e w' => e = .returned (.bool true) ∧ Below w.heap.size w w' := by
  have H0 : Hid (Rd ((w.alloc (.cells #[.slice vo nv cv, .slice to nt ct] 31)).alloc (.cells #[.slice po nv dv, .slice qo nt dt] 31)) 6 vo nv V) := Rd.below hv (Joins.below_alloc2 _ _ _) (Nat.le_refl _)
  have H1 : Hid (Rd ((w.alloc (.cells #[.slice vo nv cv, .slice to nt ct] 31)).alloc (.cells #[.slice po nv dv, .slice qo nt dt] 31)) 6 po nv V) := Rd.below hp (Joins.below_alloc2 _ _ _) (Nat.le_refl _)
  have H2 : Hid (Rd ((w.alloc (.cells #[.slice vo nv cv, .slice to nt ct] 31)).alloc (.cells #[.slice po nv dv, .slice qo nt dt] 31)) 3 to nt T) := Rd.below ht (Joins.below_alloc2 _ _ _) (Nat.le_refl _)
  have H3 : Hid (Rd ((w.alloc (.cells #[.slice vo nv cv, .slice to nt ct] 31)).alloc (.cells #[.slice po nv dv, .slice qo nt dt] 31)) 3 qo nt T) := Rd.below hq (Joins.below_alloc2 _ _ _) (Nat.le_refl _)
  clear hv ht hp hq
  go_enter Try.func10, Try.ntmps10
  go_wp2_with fail
  refine (eqV3S_same nv cv dv vo po V _ hnv H0.out H1.out).mono ?_
  rintro e w1 ⟨rfl, hb1⟩
  obtain ⟨hc1, hf1⟩ := bcell hb1
  have HB1 : Hid (Below _ _ w1) := hb1
  have G2 : Hid (Rd w1 3 to nt T) := Rd.below H2.out hb1 (Nat.le_refl _)
  have G3 : Hid (Rd w1 3 qo nt T) := Rd.below H3.out hb1 (Nat.le_refl _)
  clear hb1 H0 H1 H2 H3
  go_wp2_with fail
  refine (eqTriS_same nt ct dt to qo T _ hnt G2.out G3.out).mono ?_
  rintro e w2 ⟨rfl, hb2⟩
  have HB2 : Hid (Below _ _ w2) := HB1.out.trans (hb2.mono HB1.out.size)
  clear hb2 HB1 hc1 hf1
  go_wp2
  go_ret
  exact ⟨rfl, (Joins.below_alloc2 _ _ _).trans (HB2.out.mono (by simp; omega))⟩
end Go.Proofs.Ytobhljmpdolomaa
