import Derived.Test.YtobhljmpdolomaaPkSpec
import Derived.Test.YtobhljmpdolomaaPkBytes
namespace Go.Proofs.Ytobhljmpdolomaa
open Go.RowKit

/-- The bytes of a mesh; none where it is not as it should be. -/
def packZ (nv nt : Nat) (V T : Nat → Int) : List Int := if meshok nv nt V T = true then pack nv nt V T else []
theorem packZ_len (nv nt : Nat) (V T : Nat → Int) : (packZ nv nt V T).length ≤ 999000 := by
  unfold packZ
  split
  · rename_i h
    have hf := fine_of h
    have h1 := num_len (nv : Int)
    have h2 := nums_len V (nv * 6)
    have h3 := num_len (nt : Int)
    have h4 := nums_len T (nt * 3)
    have h5 := hf.nv200
    have h6 := hf.nt300
    simp only [pack, body, List.length_append, List.length_cons, List.length_nil]
    omega
  · simp
/-- What PackMesh answers, the specification's or the program's. -/
def PackAns (F : Nat) : Prop := ∀ (nv nt cv ct N : Nat) (vo to : Option Addr) (V T : Nat → Int) (w : World), nv ≤ 1048576 → nt ≤ 1048576 → Rd w 6 vo nv V → Rd w 3 to nt T → (packZ nv nt V T).length = N →
    Calls Try.prog F #[.agg #[.slice vo nv cv, .slice to nt ct]] w fun e w' => ∃ ao cap, e = .returned (.tuple #[.slice ao N cap, .bool (meshok nv nt V T)]) ∧ RdB w' ao N (packZ nv nt V T) ∧ (∀ g, ao = some ⟨g, 0, none⟩ → 0 < N → w.heap.size ≤ g) ∧ Below w.heap.size w w'

set_option maxHeartbeats 1000000 in
theorem specPackMesh_no (nv nt cv ct : Nat) (vo to : Option Addr) (V T : Nat → Int) (w : World) (hnv : nv ≤ 1048576) (hnt : nt ≤ 1048576) (hv : Rd w 6 vo nv V) (ht : Rd w 3 to nt T) (hok : meshok nv nt V T = false) :
    Calls Try.prog 11 #[.agg #[.slice vo nv cv, .slice to nt ct]] w fun e w' => ∃ ao cap, e = .returned (.tuple #[.slice ao 0 cap, .bool false]) ∧ Below w.heap.size w w' := by
  have HV : Hid (Rd (w.alloc (.cells #[.slice vo nv cv, .slice to nt ct] 31)) 6 vo nv V) := Rd.below hv (Joins.below_alloc1 _ _) (Nat.le_refl _)
  have HT : Hid (Rd (w.alloc (.cells #[.slice vo nv cv, .slice to nt ct] 31)) 3 to nt T) := Rd.below ht (Joins.below_alloc1 _ _) (Nat.le_refl _)
  have HK : Hid (meshok nv nt V T = false) := hok
  clear hv ht hok
  go_enter Try.func11, Try.ntmps11
  go_wp2_with fail
  refine (specMeshOk_any nv nt cv ct vo to V T _ hnv hnt HV.out HT.out).mono ?_
  rintro e w1 ⟨rfl, hb1⟩
  rw [HK.out]
  have HB1 : Hid (Below w.heap.size w w1) := (Joins.below_alloc1 _ _).trans (hb1.mono (by simp))
  clear hb1
  go_wp2
  go_ret2
  first
    | exact ⟨_, _, rfl, HB1.out⟩
    | exact ⟨_, _, rfl, HB1.out.alloc HB1.out.size _⟩

theorem specPack : PackAns 11 := by
  intro nv nt cv ct N vo to V T w hnv hnt hv ht hN
  rcases Bool.eq_false_or_eq_true (meshok nv nt V T) with hok | hok
  · have e : packZ nv nt V T = pack nv nt V T := by unfold packZ; rw [if_pos hok]
    rw [e] at hN ⊢
    refine (specPackMesh_any nv nt cv ct vo to V T w hnv hnt hv ht hok).mono ?_
    rintro e w' ⟨g, cap, n, rfl, _, ho, hb⟩
    have hn : n = N := by rw [← hN]; exact ho.len.symm
    subst hn
    rw [hok]
    exact ⟨_, cap, rfl, ho.rd, fun g' e' _ => by simp only [Option.some.injEq, Addr.mk.injEq] at e'; have := ho.lt.1; omega, hb⟩
  · have e : packZ nv nt V T = [] := by unfold packZ; rw [if_neg (by rw [hok]; simp)]
    rw [e] at hN ⊢
    simp at hN
    subst hN
    refine (specPackMesh_no nv nt cv ct vo to V T w hnv hnt hv ht hok).mono ?_
    rintro e w' ⟨ao, cap, rfl, hb⟩
    rw [hok]
    exact ⟨ao, cap, rfl, fun h => absurd h (Nat.lt_irrefl _), fun _ _ h => absurd h (Nat.lt_irrefl _), hb⟩
end Go.Proofs.Ytobhljmpdolomaa
