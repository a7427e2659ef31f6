import Derived.Test.YtgcgoehmgaokkaaDoorSkTo
import Derived.Test.YtgcgoehmgaokkaaDoorSkSpec
import Derived.Test.YtgcgoehmgaokkaaDoorSkTab
namespace Go.Proofs.YtgcgoehmgaokkaaDoor
open Go.RowKit

/-- What is asked of the program's own SketchOk. -/
def ImplSketchOk : Prop := ∀ (p : Int) (n cap : Nat) (ao : Option Addr) (R : Nat → Int) (w : World), n ≤ 1048576 → Rd w 9 ao n R → RTab w →
    Calls Tryd.prog 9 #[.agg #[.int .i64 p, .slice ao n cap]] w fun e w' => e = .returned (.bool (skok p n R)) ∧ Below w.heap.size w w'

abbrev SkMid (B X : Nat) (p : Int) (n cap g : Nat) (ao : Option Addr) (w' : World) : Prop :=
  (w'.cell? ⟨B, 0, none⟩ = some (.int .i64 p) ∧ w'.cell? ⟨B, 1, none⟩ = some (.slice ao n cap) ∧ w'.cell? ⟨X, 0, none⟩ = some (.int .i64 p) ∧ w'.cell? ⟨X, 1, none⟩ = some (.slice (some ⟨g, 0, none⟩) n n)) ∧ B < w'.heap.size ∧ X < w'.heap.size
theorem SkMid.drew {B X : Nat} {p : Int} {n cap g : Nat} {ao : Option Addr} {w' : World} (k : SkMid B X p n cap g ao w') : SkMid B X p n cap g ao w'.drew := k
theorem SkMid.call {B X : Nat} {p : Int} {n cap g : Nat} {ao : Option Addr} {w' w1 : World} (k : SkMid B X p n cap g ao w') (hb : Below w'.heap.size w' w1) : SkMid B X p n cap g ao w1 :=
  ⟨⟨(hb.cell k.2.1).trans k.1.1, (hb.cell k.2.1).trans k.1.2.1, (hb.cell k.2.2).trans k.1.2.2.1, (hb.cell k.2.2).trans k.1.2.2.2⟩, Nat.lt_of_lt_of_le k.2.1 hb.size, Nat.lt_of_lt_of_le k.2.2 hb.size⟩

theorem cells2_at {w w1 : World} {x y : Value} {t : Nat} (hb : Below (w.alloc (.cells #[x, y] t)).heap.size (w.alloc (.cells #[x, y] t)) w1) : At w1 w.heap.size #[x, y] :=
  At.below (w := w.alloc (.cells #[x, y] t)) ⟨fun j => by go_simp, fun j => by go_simp, by simp⟩ hb (by simp)

set_option maxHeartbeats 2000000 in
theorem lawSketchOk_walk (HI : ImplSketchOk) (p : Int) (n cap : Nat) (ao : Option Addr) (R : Nat → Int) (w : World) (mn : n ≤ 9223372036854775807) (hr : Rd w 9 ao n R) (ht : RTab w) :
    Calls Tryd.prog 3 #[.agg #[.int .i64 p, .slice ao n cap]] w fun e w' => e = .returned (.bool true) ∧ Below w.heap.size w w' := by
  have HV : Hid (Rd w 9 ao n R) := hr
  have HTb : Hid (RTab w) := ht
  clear hr ht
  go_enter Tryd.func3, Tryd.ntmps3
  go_wp2_with fail
  refine (szSketch_any p n cap ao _ mn).mono ?_
  rintro e w1 ⟨l, rfl, hl, hb1⟩
  have HA1 : Hid (At w1 w.heap.size #[.int .i64 p, .slice ao n cap]) := cells2_at hb1
  have HB1 : Hid (Below w.heap.size w w1) := (Joins.below_alloc1 _ _).trans (hb1.mono (by simp))
  clear hb1
  rcases hl with hl | ⟨hn, hl⟩
  · go_wp2
    go_ret
    exact ⟨rfl, HB1.out⟩
  · obtain ⟨q, _, _⟩ := HA1.out
    go_wp2_with fail
    refine (toSketch_any p n cap ao R _ hn (Rd.below HV.out HB1.out (Nat.le_refl _))).mono ?_
    rintro e w2 ⟨_, rfl, ⟨g, rfl, hg, rg⟩, hb2⟩
    have HA2 : Hid (At w2 w.heap.size #[.int .i64 p, .slice ao n cap]) := HA1.out.below hb2 HA1.out.sz
    have HB2 : Hid (Below w.heap.size w w2) := HB1.out.trans (hb2.mono HB1.out.size)
    have HG : Hid (Rd w2 9 (some ⟨g, 0, none⟩) n R) := Rd.of_row rg
    clear hb2 hg rg HA1 HB1 q
    go_wp2_with fail
    refine (specSketchOk_any p n n _ R _ hn HG.out).mono ?_
    rintro e w3 ⟨rfl, hb3⟩
    have HA3 : Hid (At w3 w.heap.size #[.int .i64 p, .slice ao n cap]) := HA2.out.below hb3 HA2.out.sz
    have HB3 : Hid (Below w.heap.size w w3) := HB2.out.trans (hb3.mono HB2.out.size)
    clear hb3 HG HA2 HB2
    obtain ⟨q, _, _⟩ := HA3.out
    go_wp2_with fail
    refine (toSketch_any p n cap ao R _ hn (Rd.below HV.out HB3.out (Nat.le_refl _))).mono ?_
    rintro e w4 ⟨_, rfl, ⟨g4, rfl, hg, rg⟩, hb4⟩
    have HA4 : Hid (At w4 w.heap.size #[.int .i64 p, .slice ao n cap]) := HA3.out.below hb4 HA3.out.sz
    have HB4 : Hid (Below w.heap.size w w4) := HB3.out.trans (hb4.mono HB3.out.size)
    have HG : Hid (Rd (w4.alloc (.cells #[.int .i64 p, .slice (some ⟨g4, 0, none⟩) n n] 29)) 9 (some ⟨g4, 0, none⟩) n R) := Rd.below (Rd.of_row rg) (Joins.below_alloc1 _ _) (Nat.le_refl _)
    clear hb4 hg rg HA3 HB3 q
    go_wp2_with fail
    refine (HI p n n _ R _ hn HG.out (HTb.out.below (HB4.out.alloc HB4.out.size _))).mono ?_
    rintro e w5 ⟨rfl, hb5⟩
    have HX5 : Hid (At w5 w4.heap.size #[.int .i64 p, .slice (some ⟨g4, 0, none⟩) n n]) := cells2_at hb5
    have HA5 : Hid (At w5 w.heap.size #[.int .i64 p, .slice ao n cap]) := HA4.out.below ((Joins.below_alloc1 _ _).trans (hb5.mono (by simp))) HA4.out.sz
    have HB5 : Hid (Below w.heap.size w w5) := HB4.out.trans (((Joins.below_alloc1 _ _).trans (hb5.mono (by simp))).mono HB4.out.size)
    have HG5 : Hid (Rd w5 9 (some ⟨g4, 0, none⟩) n R) := Rd.below HG.out hb5 (Nat.le_refl _)
    clear hb5 HG HA4 HB4
    have HS : Hid (SkMid w.heap.size w4.heap.size p n cap g4 ao w5) := ⟨⟨HA5.out.c 0, HA5.out.c 1, HX5.out.c 0, HX5.out.c 1⟩, HA5.out.sz, HX5.out.sz⟩
    have HD : Hid (Below w.heap.size w w5.drew) := HB5.out.drew
    have HGd : Hid (Rd w5.drew 9 (some ⟨g4, 0, none⟩) n R) := Rd.below HG5.out (Below.refl _ _).drew (Nat.le_refl _)
    clear HG5 HB5 HA5 HX5
    go_wp2_with fail
    go_region_held3 (fun w' => SkMid w.heap.size w4.heap.size p n cap g4 ao w') (first | with_reducible exact SkMid.drew HS.out | with_reducible exact SkMid.call (by assumption) (by assumption))
      (first
        | (go_at_call 8; refine (toSketch_any p n cap ao R _ hn (Rd.below HV.out HD.out (Nat.le_refl _))).mono ?_; rintro e w6 ⟨_, rfl, ⟨g6, rfl, hg, rg⟩, hb6⟩)
        | (go_at_call 10; refine (eqSketch_same p n n n _ _ R _ hn (Rd.below HGd.out hb6 (Nat.le_refl _)) (Rd.of_row rg)).mono ?_; rintro e w7 ⟨rfl, hb7⟩))
    have HB7 : Hid (Below w.heap.size w w7) := HD.out.trans ((hb6.trans (hb7.mono hb6.size)).mono HD.out.size)
    clear hb6 hb7 rg hg HGd HD HS
    go_wp2
    go_ret
    exact ⟨rfl, HB7.out⟩
end Go.Proofs.YtgcgoehmgaokkaaDoor
