import Derived.Test.YtobhljmpdolomaaMsTo
import Derived.Test.YtobhljmpdolomaaMsEq
import Derived.Test.YtobhljmpdolomaaMsSpec
namespace Go.Proofs.Ytobhljmpdolomaa
open Go.RowKit

/-- What is asked of the program's own MeshOk. -/
def ImplMeshOk : Prop := ∀ (nv nt cv ct : Nat) (vo to : Option Addr) (V T : Nat → Int) (w : World), nv ≤ 1048576 → nt ≤ 1048576 → Rd w 6 vo nv V → Rd w 3 to nt T →
    Calls Try.prog 9 #[.agg #[.slice vo nv cv, .slice to nt ct]] w fun e w' => e = .returned (.bool (meshok nv nt V T)) ∧ Below w.heap.size w w'

abbrev Mid (B X nv nt cv ct g h : Nat) (vo to : Option Addr) (w' : World) : Prop :=
  (w'.cell? ⟨B, 0, none⟩ = some (.slice vo nv cv) ∧ w'.cell? ⟨B, 1, none⟩ = some (.slice to nt ct) ∧ w'.cell? ⟨X, 0, none⟩ = some (.slice (some ⟨g, 0, none⟩) nv nv) ∧ w'.cell? ⟨X, 1, none⟩ = some (.slice (some ⟨h, 0, none⟩) nt nt)) ∧ B < w'.heap.size ∧ X < w'.heap.size
theorem Mid.drew {B X nv nt cv ct g h : Nat} {vo to : Option Addr} {w' : World} (k : Mid B X nv nt cv ct g h vo to w') : Mid B X nv nt cv ct g h vo to w'.drew := k
theorem Mid.call {B X nv nt cv ct g h : Nat} {vo to : Option Addr} {w' w1 : World} (k : Mid B X nv nt cv ct g h vo to w') (hb : Below w'.heap.size w' w1) : Mid B X nv nt cv ct g h vo to w1 :=
  ⟨⟨(hb.cell k.2.1).trans k.1.1, (hb.cell k.2.1).trans k.1.2.1, (hb.cell k.2.2).trans k.1.2.2.1, (hb.cell k.2.2).trans k.1.2.2.2⟩, Nat.lt_of_lt_of_le k.2.1 hb.size, Nat.lt_of_lt_of_le k.2.2 hb.size⟩

theorem cells2_at {w w1 : World} {x y : Value} {t : Nat} (hb : Below (w.alloc (.cells #[x, y] t)).heap.size (w.alloc (.cells #[x, y] t)) w1) : At w1 w.heap.size #[x, y] :=
  At.below (w := w.alloc (.cells #[x, y] t)) ⟨fun j => by go_simp, fun j => by go_simp, by simp⟩ hb (by simp)

set_option maxHeartbeats 2000000 in
theorem lawMeshOk_walk (HI : ImplMeshOk) (nv nt cv ct : Nat) (vo to : Option Addr) (V T : Nat → Int) (w : World) (mv : nv ≤ 9223372036854775807) (mt : nt ≤ 9223372036854775807) (hv : Rd w 6 vo nv V) (ht : Rd w 3 to nt T) :
    Calls Try.prog 3 #[.agg #[.slice vo nv cv, .slice to nt ct]] w fun e w' => e = .returned (.bool true) ∧ Below w.heap.size w w' := by
  have HV : Hid (Rd w 6 vo nv V) := hv
  have HT : Hid (Rd w 3 to nt T) := ht
  clear hv ht
  go_enter Try.func3, Try.ntmps3
  go_wp2_with fail
  refine (szMesh_any nv nt cv ct vo to _ mv mt).mono ?_
  rintro e w1 ⟨l, rfl, hl, hb1⟩
  have HA1 : Hid (At w1 w.heap.size #[.slice vo nv cv, .slice to nt ct]) := cells2_at hb1
  have HB1 : Hid (Below w.heap.size w w1) := (Joins.below_alloc1 _ _).trans (hb1.mono (by simp))
  clear hb1
  rcases hl with hl | ⟨hnv, hnt, hl⟩
  · go_wp2
    go_ret
    exact ⟨rfl, HB1.out⟩
  · obtain ⟨p, _, _⟩ := HA1.out
    go_wp2_with fail
    refine (toMesh_any nv nt cv ct vo to V T _ hnv hnt (Rd.below HV.out HB1.out (Nat.le_refl _)) (Rd.below HT.out HB1.out (Nat.le_refl _))).mono ?_
    rintro e w2 ⟨_, rfl, ⟨g, h, rfl, hg, hh, rg, rh⟩, hb2⟩
    have HA2 : Hid (At w2 w.heap.size #[.slice vo nv cv, .slice to nt ct]) := HA1.out.below hb2 HA1.out.sz
    have HB2 : Hid (Below w.heap.size w w2) := HB1.out.trans (hb2.mono HB1.out.size)
    have HG : Hid (Rd w2 6 (some ⟨g, 0, none⟩) nv V) := Rd.of_row rg
    have HH : Hid (Rd w2 3 (some ⟨h, 0, none⟩) nt T) := Rd.of_row rh
    clear hb2 hg hh rg rh HA1 HB1 p
    go_wp2_with fail
    refine (specMeshOk_any nv nt nv nt _ _ V T _ hnv hnt HG.out HH.out).mono ?_
    rintro e w3 ⟨rfl, hb3⟩
    have HA3 : Hid (At w3 w.heap.size #[.slice vo nv cv, .slice to nt ct]) := HA2.out.below hb3 HA2.out.sz
    have HB3 : Hid (Below w.heap.size w w3) := HB2.out.trans (hb3.mono HB2.out.size)
    clear hb3 HG HH HA2 HB2
    obtain ⟨p, _, _⟩ := HA3.out
    go_wp2_with fail
    refine (toMesh_any nv nt cv ct vo to V T _ hnv hnt (Rd.below HV.out HB3.out (Nat.le_refl _)) (Rd.below HT.out HB3.out (Nat.le_refl _))).mono ?_
    rintro e w4 ⟨_, rfl, ⟨g4, h4, rfl, hg, hh, rg, rh⟩, hb4⟩
    have HA4 : Hid (At w4 w.heap.size #[.slice vo nv cv, .slice to nt ct]) := HA3.out.below hb4 HA3.out.sz
    have HB4 : Hid (Below w.heap.size w w4) := HB3.out.trans (hb4.mono HB3.out.size)
    have HG : Hid (Rd (w4.alloc (.cells #[.slice (some ⟨g4, 0, none⟩) nv nv, .slice (some ⟨h4, 0, none⟩) nt nt] 31)) 6 (some ⟨g4, 0, none⟩) nv V) := Rd.below (Rd.of_row rg) (Joins.below_alloc1 _ _) (Nat.le_refl _)
    have HH : Hid (Rd (w4.alloc (.cells #[.slice (some ⟨g4, 0, none⟩) nv nv, .slice (some ⟨h4, 0, none⟩) nt nt] 31)) 3 (some ⟨h4, 0, none⟩) nt T) := Rd.below (Rd.of_row rh) (Joins.below_alloc1 _ _) (Nat.le_refl _)
    clear hb4 hg hh rg rh HA3 HB3 p
    go_wp2_with fail
    refine (HI nv nt nv nt _ _ V T _ hnv hnt HG.out HH.out).mono ?_
    rintro e w5 ⟨rfl, hb5⟩
    have HX5 : Hid (At w5 w4.heap.size #[.slice (some ⟨g4, 0, none⟩) nv nv, .slice (some ⟨h4, 0, none⟩) nt nt]) := cells2_at hb5
    have HA5 : Hid (At w5 w.heap.size #[.slice vo nv cv, .slice to nt ct]) := HA4.out.below ((Joins.below_alloc1 _ _).trans (hb5.mono (by simp))) HA4.out.sz
    have HB5 : Hid (Below w.heap.size w w5) := HB4.out.trans (((Joins.below_alloc1 _ _).trans (hb5.mono (by simp))).mono HB4.out.size)
    have HG5 : Hid (Rd w5 6 (some ⟨g4, 0, none⟩) nv V) := Rd.below HG.out hb5 (Nat.le_refl _)
    have HH5 : Hid (Rd w5 3 (some ⟨h4, 0, none⟩) nt T) := Rd.below HH.out hb5 (Nat.le_refl _)
    clear hb5 HG HH HA4 HB4
    have HS : Hid (Mid w.heap.size w4.heap.size nv nt cv ct g4 h4 vo to w5) := ⟨⟨HA5.out.c 0, HA5.out.c 1, HX5.out.c 0, HX5.out.c 1⟩, HA5.out.sz, HX5.out.sz⟩
    have HD : Hid (Below w.heap.size w w5.drew) := HB5.out.drew
    have HGd : Hid (Rd w5.drew 6 (some ⟨g4, 0, none⟩) nv V) := Rd.below HG5.out (Below.refl _ _).drew (Nat.le_refl _)
    have HHd : Hid (Rd w5.drew 3 (some ⟨h4, 0, none⟩) nt T) := Rd.below HH5.out (Below.refl _ _).drew (Nat.le_refl _)
    clear HG5 HH5 HB5 HA5 HX5
    go_wp2_with fail
    go_region_held3 (fun w' => Mid w.heap.size w4.heap.size nv nt cv ct g4 h4 vo to w') (first | with_reducible exact Mid.drew HS.out | with_reducible exact Mid.call (by assumption) (by assumption))
      (first
        | (go_at_call 8; refine (toMesh_any nv nt cv ct vo to V T _ hnv hnt (Rd.below HV.out HD.out (Nat.le_refl _)) (Rd.below HT.out HD.out (Nat.le_refl _))).mono ?_; rintro e w6 ⟨_, rfl, ⟨g6, h6, rfl, hg, hh, rg, rh⟩, hb6⟩)
        | (go_at_call 10; refine (eqMesh_same nv nt nv nt nv nt _ _ _ _ V T _ hnv hnt (Rd.below HGd.out hb6 (Nat.le_refl _)) (Rd.below HHd.out hb6 (Nat.le_refl _)) (Rd.of_row rg) (Rd.of_row rh)).mono ?_; rintro e w7 ⟨rfl, hb7⟩))
    have HB7 : Hid (Below w.heap.size w w7) := HD.out.trans ((hb6.trans (hb7.mono hb6.size)).mono HD.out.size)
    clear hb6 hb7 rg rh hg hh HGd HHd HD HS
    go_wp2
    go_ret
    exact ⟨rfl, HB7.out⟩
end Go.Proofs.Ytobhljmpdolomaa
