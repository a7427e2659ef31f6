import Derived.Test.YtobhljmpdolomaaRdTo
import Derived.Test.YtobhljmpdolomaaRdSp2
namespace Go.Proofs.Ytobhljmpdolomaa
open Go.RowKit

/-- A mesh that was told: its variable and its two rows. -/
structure Held (w : World) (X : Nat) (vo to : Option Addr) (nv nt cv ct : Nat) (V T : Nat → Int) : Prop where
  at_ : At w X #[.slice vo nv cv, .slice to nt ct]
  v : RdS w 51 6 vo nv V
  t : RdS w 53 3 to nt T
theorem Held.below {w w' : World} {X nv nt cv ct B : Nat} {vo to : Option Addr} {V T : Nat → Int} (h : Held w X vo to nv nt cv ct V T) (hb : Below B w w') (hB : w.heap.size ≤ B) : Held w' X vo to nv nt cv ct V T :=
  ⟨h.at_.below hb (Nat.lt_of_lt_of_le h.at_.sz hB), h.v.below hb hB, h.t.below hb hB⟩
theorem Held.same {w w' : World} {X nv nt cv ct : Nat} {vo to : Option Addr} {V T : Nat → Int} (h : Held w X vo to nv nt cv ct V T) (hX : w'.heap[X]? = w.heap[X]?) (hv : 0 < nv → ∀ g, vo = some ⟨g, 0, none⟩ → g < w.heap.size → w'.heap[g]? = w.heap[g]?) (ht : 0 < nt → ∀ g, to = some ⟨g, 0, none⟩ → g < w.heap.size → w'.heap[g]? = w.heap[g]?) (hs : w.heap.size ≤ w'.heap.size) : Held w' X vo to nv nt cv ct V T :=
  ⟨h.at_.same hX hs, h.v.keep hv, h.t.keep ht⟩
theorem Held.new {w : World} {nv nt cv ct : Nat} {vo to : Option Addr} {V T : Nat → Int} (hv : RdS w 51 6 vo nv V) (ht : RdS w 53 3 to nt T) {u : Nat} : Held (w.alloc (.cells #[.slice vo nv cv, .slice to nt ct] u)) w.heap.size vo to nv nt cv ct V T :=
  ⟨⟨fun j => by go_simp, fun j => by go_simp, by simp⟩, hv.below (Joins.below_alloc1 _ _) (Nat.le_refl _), ht.below (Joins.below_alloc1 _ _) (Nat.le_refl _)⟩
/-- Where the rows lie. -/
def Lies (lo hi nv nt : Nat) (vo to : Option Addr) : Prop := (∀ g, vo = some ⟨g, 0, none⟩ → 0 < nv → lo ≤ g ∧ g < hi) ∧ ∀ g, to = some ⟨g, 0, none⟩ → 0 < nt → lo ≤ g ∧ g < hi

set_option maxHeartbeats 8000000 in
theorem lawReadMesh_walk (n cap : Nat) (ao : Option Addr) (L : List Int) (w : World) (mn : n ≤ 9223372036854775807) (hlen : L.length = n) (hby : ∀ b ∈ L, 0 ≤ b ∧ b < 256) (ha : RdA w ao n L) :
    Calls Try.prog 5 #[.slice ao n cap] w fun e w' => e = .returned (.bool true) ∧ Below w.heap.size w w' := by
  have HL : Hid (L.length = n) := hlen
  have HY : Hid (∀ b ∈ L, 0 ≤ b ∧ b < 256) := hby
  have HA : Hid (RdA w ao n L) := ha
  have hle := readL_le L
  obtain ⟨told, htold⟩ : ∃ t, readL L = t := ⟨_, rfl⟩
  obtain ⟨code, nv, nt, V, T⟩ := told
  rw [htold] at hle
  have hnv : nv ≤ 200 := hle.1
  have hnt : nt ≤ 300 := hle.2
  have HRL : Hid (readL L = ⟨code, nv, nt, V, T⟩) := htold
  clear hlen hby ha hle htold
  by_cases hn : n ≤ 1048576
  · go_enter Try.func5, Try.ntmps5
    go_wp2_with fail
    refine (toByteS_any n cap ao L _ hn HA.out).mono ?_
    rintro e w1 ⟨g1, rfl, hg1, hl1, hr1, hb1⟩
    have HB1 : Hid (Below w.heap.size w w1) := hb1
    have HD1 : Hid (RdB w1 (some ⟨g1, 0, none⟩) n L) := hr1
    clear hg1 hl1 hr1 hb1
    go_wp2_with fail
    refine (specRead n _ L _ HL.out hn HY.out HD1.out).mono ?_
    rintro e w2 h
    unfold Out at h
    rw [HRL.out] at h
    obtain ⟨vo, to, cv, ct, rfl, hv, ht, fv, ft, hb2⟩ := h
    have hb02 : Below w.heap.size w w2 := HB1.out.trans (hb2.mono HB1.out.size)
    have HW2 : Hid (Held (w2.alloc (.cells #[.slice vo nv cv, .slice to nt ct] 31)) w2.heap.size vo to nv nt cv ct V T) := Held.new hv ht
    have HLw : Hid (Lies w.heap.size w2.heap.size nv nt vo to) := ⟨fun g e h0 => ⟨Nat.le_trans HB1.out.size (fv g e h0), hv.blk g e h0⟩, fun g e h0 => ⟨Nat.le_trans HB1.out.size (ft g e h0), ht.blk g e h0⟩⟩
    have HB2 : Hid (Below w.heap.size w (w2.alloc (.cells #[.slice vo nv cv, .slice to nt ct] 31))) := hb02.alloc hb02.size _
    have hs2 : w.heap.size ≤ w2.heap.size := hb02.size
    clear hv ht fv ft hb2 hb02 HB1 HD1
    go_wp2_with fail
    refine (toByteS_any n cap ao L _ hn (HA.out.below HB2.out (Nat.le_refl _))).mono ?_
    rintro e w3 ⟨gx, rfl, hgx, hlx, hr3, hb3⟩
    have hgx' : w2.heap.size + 1 ≤ gx := by simpa using hgx
    have HW3 : Hid (Held w3 w2.heap.size vo to nv nt cv ct V T) := HW2.out.below hb3 (Nat.le_refl _)
    have HB3 : Hid (Below w.heap.size w w3) := HB2.out.trans (hb3.mono HB2.out.size)
    have HX3 : Hid (RdB w3 (some ⟨gx, 0, none⟩) n L) := hr3
    clear hgx hr3 hb3 HW2 HB2
    go_wp2_with fail
    refine (implRead n _ L _ HL.out hn HY.out HX3.out).mono ?_
    rintro e w4 h
    unfold Out at h
    rw [HRL.out] at h
    obtain ⟨po, qo, dv, dt, rfl, hv, ht, fv, ft, hb4⟩ := h
    have hb04 : Below w.heap.size w w4 := HB3.out.trans (hb4.mono HB3.out.size)
    have hs4 : w3.heap.size ≤ w4.heap.size := hb4.size
    have HW4 : Hid (Held (w4.alloc (.cells #[.slice po nv dv, .slice qo nt dt] 31)) w2.heap.size vo to nv nt cv ct V T) := (HW3.out.below hb4 (Nat.le_refl _)).below (Joins.below_alloc1 _ _) (Nat.le_refl _)
    have HG4 : Hid (Held (w4.alloc (.cells #[.slice po nv dv, .slice qo nt dt] 31)) w4.heap.size po qo nv nt dv dt V T) := Held.new hv ht
    have HLg : Hid (Lies w3.heap.size w4.heap.size nv nt po qo) := ⟨fun g e h0 => ⟨fv g e h0, hv.blk g e h0⟩, fun g e h0 => ⟨ft g e h0, ht.blk g e h0⟩⟩
    have HB4 : Hid (Below w.heap.size w (w4.alloc (.cells #[.slice po nv dv, .slice qo nt dt] 31))) := hb04.alloc hb04.size _
    have HX4 : Hid (RdB (w4.alloc (.cells #[.slice po nv dv, .slice qo nt dt] 31)) (some ⟨gx, 0, none⟩) n L) := (HX3.out.below hb4 (Nat.le_refl _)).below (Joins.below_alloc1 _ _) (Nat.le_refl _)
    clear hv ht fv ft hb4 hb04 HW3 HB3 HX3
    obtain ⟨a, _, _⟩ := HW4.out.at_
    obtain ⟨b, _, _⟩ := HG4.out.at_
    have a0 := a 0
    have a1 := a 1
    clear a b
    go_wp2_with fail
    refine (eqMesh_same nv nt dv dt cv ct po qo vo to V T _ (by omega) (by omega) HG4.out.v.rd HG4.out.t.rd HW4.out.v.rd HW4.out.t.rd).mono ?_
    rintro e w5 ⟨rfl, hb5⟩
    have HW5 : Hid (Held w5 w2.heap.size vo to nv nt cv ct V T) := HW4.out.below hb5 (Nat.le_refl _)
    have HG5 : Hid (Held w5 w4.heap.size po qo nv nt dv dt V T) := HG4.out.below hb5 (Nat.le_refl _)
    have HB5 : Hid (Below w.heap.size w w5) := HB4.out.trans (hb5.mono HB4.out.size)
    have HX5 : Hid (RdB w5 (some ⟨gx, 0, none⟩) n L) := HX4.out.below hb5 (Nat.le_refl _)
    clear hb5 HW4 HG4 HB4 HX4 a0 a1
    go_wp2_with fail
    refine (toByteS_any n cap ao L _ hn (HA.out.below HB5.out (Nat.le_refl _))).mono ?_
    rintro e w6 ⟨g6, rfl, hg6, hl6, hr6, hb6⟩
    have HW6 : Hid (Held w6 w2.heap.size vo to nv nt cv ct V T) := HW5.out.below hb6 (Nat.le_refl _)
    have HG6 : Hid (Held w6 w4.heap.size po qo nv nt dv dt V T) := HG5.out.below hb6 (Nat.le_refl _)
    have HB6 : Hid (Below w.heap.size w w6) := HB5.out.trans (hb6.mono HB5.out.size)
    have HX6 : Hid (RdB w6 (some ⟨gx, 0, none⟩) n L) := HX5.out.below hb6 (Nat.le_refl _)
    have HR6 : Hid (RdB w6 (some ⟨g6, 0, none⟩) n L) := hr6
    clear hg6 hl6 hr6 hb6 HW5 HG5 HB5 HX5
    go_wp2_with fail
    refine (eqByteS_same n n n _ _ L _ hn HX6.out HR6.out).mono ?_
    rintro e w7 ⟨rfl, hb7⟩
    have HW7 : Hid (Held w7 w2.heap.size vo to nv nt cv ct V T) := HW6.out.below hb7 (Nat.le_refl _)
    have HG7 : Hid (Held w7 w4.heap.size po qo nv nt dv dt V T) := HG6.out.below hb7 (Nat.le_refl _)
    have HB7 : Hid (Below w.heap.size w w7) := HB6.out.trans (hb7.mono HB6.out.size)
    have HX7 : Hid (RdB w7 (some ⟨gx, 0, none⟩) n L) := HX6.out.below hb7 (Nat.le_refl _)
    clear hb7 HW6 HG6 HB6 HX6 HR6
    go_wp2_with fail
    refine (markByteS_any n n _ L _ hn HX7.out).mono ?_
    rintro e w8 ⟨rfl, _, hg8⟩
    have hne : ∀ b, b ≠ gx → some b ≠ (if 0 < n then rowOf (some ⟨gx, 0, none⟩) else none) := fun b hb e => by
      by_cases h0 : 0 < n
      · rw [if_pos h0] at e
        simp only [rowOf, Option.some.injEq] at e
        exact hb e
      · rw [if_neg h0] at e
        cases e
    have HW8 : Hid (Held w8 w2.heap.size vo to nv nt cv ct V T) := HW7.out.same (hg8.block _ HW7.out.at_.sz (hne _ (by omega))) (fun h0 g e hl => hg8.block g hl (hne g (by have := HLw.out.1 g e h0; omega))) (fun h0 g e hl => hg8.block g hl (hne g (by have := HLw.out.2 g e h0; omega))) hg8.size
    have HG8 : Hid (Held w8 w4.heap.size po qo nv nt dv dt V T) := HG7.out.same (hg8.block _ HG7.out.at_.sz (hne _ (by omega))) (fun h0 g e hl => hg8.block g hl (hne g (by have := HLg.out.1 g e h0; omega))) (fun h0 g e hl => hg8.block g hl (hne g (by have := HLg.out.2 g e h0; omega))) hg8.size
    have HB8 : Hid (Below w.heap.size w w8) := HB7.out.trans ⟨hg8.os, hg8.tape, hg8.output, hg8.size, fun k hk => hg8.block k (Nat.lt_of_lt_of_le hk HB7.out.size) (hne k (by omega))⟩
    have hpos : ¬ (1 + (n : Int) < 0) := by omega
    clear hne hg8 HW7 HG7 HB7 HX7
    obtain ⟨a, _, _⟩ := HW8.out.at_
    obtain ⟨b, _, _⟩ := HG8.out.at_
    have a0 := a 0
    have a1 := a 1
    have b0 := b 0
    have b1 := b 1
    clear a b
    go_wp2_with fail
    refine (eqMesh_same nv nt dv dt cv ct po qo vo to V T _ (by omega) (by omega) HG8.out.v.rd HG8.out.t.rd HW8.out.v.rd HW8.out.t.rd).mono ?_
    rintro e w9 ⟨rfl, hb9⟩
    have HW9 : Hid (Held w9 w2.heap.size vo to nv nt cv ct V T) := HW8.out.below hb9 (Nat.le_refl _)
    have HG9 : Hid (Held w9 w4.heap.size po qo nv nt dv dt V T) := HG8.out.below hb9 (Nat.le_refl _)
    have HB9 : Hid (Below w.heap.size w w9) := HB8.out.trans (hb9.mono HB8.out.size)
    clear hb9 HW8 HG8 HB8 a0 a1 b0 b1
    obtain ⟨b, _, _⟩ := HG9.out.at_
    have b0 := b 0
    have b1 := b 1
    clear b
    go_wp2_with fail
    refine (markMesh_r nv nt dv dt po qo V T _ (by omega) (by omega) HG9.out.v HG9.out.t).mono ?_
    rintro e w10 ⟨rfl, ⟨hv10, ht10⟩, hs10, ho10, hp10, hu10, hk10⟩
    have HW10 : Hid (Held w10 w2.heap.size vo to nv nt cv ct V T) := HW9.out.same (hk10 _ HW9.out.at_.sz (fun g e h0 => by have := HLg.out.1 g e h0; omega) (fun g e h0 => by have := HLg.out.2 g e h0; omega)) (fun h0 q e hl => hk10 q hl (fun g e' h0' => by have := HLw.out.1 q e h0; have := HLg.out.1 g e' h0'; omega) (fun g e' h0' => by have := HLw.out.1 q e h0; have := HLg.out.2 g e' h0'; omega)) (fun h0 q e hl => hk10 q hl (fun g e' h0' => by have := HLw.out.2 q e h0; have := HLg.out.1 g e' h0'; omega) (fun g e' h0' => by have := HLw.out.2 q e h0; have := HLg.out.2 g e' h0'; omega)) hs10
    have HG10 : Hid (Held w10 w4.heap.size po qo nv nt dv dt (fun j => 1 + (j : Int)) (fun j => (1 + 6 * (nv : Int)) + (j : Int))) := ⟨HG9.out.at_.same (hk10 _ HG9.out.at_.sz (fun g e h0 => by have := HLg.out.1 g e h0; omega) (fun g e h0 => by have := HLg.out.2 g e h0; omega)) hs10, hv10, ht10⟩
    have HB10 : Hid (Below w.heap.size w w10) := HB9.out.trans ⟨ho10, hp10, hu10, hs10, fun k hk => hk10 k (Nat.lt_of_lt_of_le hk HB9.out.size) (fun g e h0 => by have := HLg.out.1 g e h0; omega) (fun g e h0 => by have := HLg.out.2 g e h0; omega)⟩
    clear hv10 ht10 hs10 ho10 hp10 hu10 hk10 HW9 HG9 HB9 b0 b1
    obtain ⟨b, _, _⟩ := HG10.out.at_
    have b0 := b 0
    have b1 := b 1
    clear b
    have hpm : ¬ (1 + 6 * (nv : Int) + 3 * (nt : Int) < 0) := by omega
    go_wp2_with fail
    refine (heldMesh_r nv nt dv dt po qo _ (by omega) (by omega) HG10.out.v HG10.out.t).mono ?_
    rintro e w11 ⟨rfl, hb11⟩
    have HW11 : Hid (Held w11 w2.heap.size vo to nv nt cv ct V T) := HW10.out.below hb11 (Nat.le_refl _)
    have HG11 : Hid (Held w11 w4.heap.size po qo nv nt dv dt (fun j => 1 + (j : Int)) (fun j => (1 + 6 * (nv : Int)) + (j : Int))) := HG10.out.below hb11 (Nat.le_refl _)
    have HB11 : Hid (Below w.heap.size w w11) := HB10.out.trans (hb11.mono HB10.out.size)
    clear hb11 HW10 HG10 HB10 b0 b1
    go_wp2_with fail
    refine (toByteS_any n cap ao L _ hn (HA.out.below HB11.out (Nat.le_refl _))).mono ?_
    rintro e w12 ⟨g12, rfl, _, _, hr12, hb12⟩
    have HW12 : Hid (Held w12 w2.heap.size vo to nv nt cv ct V T) := HW11.out.below hb12 (Nat.le_refl _)
    have HG12 : Hid (Held w12 w4.heap.size po qo nv nt dv dt (fun j => 1 + (j : Int)) (fun j => (1 + 6 * (nv : Int)) + (j : Int))) := HG11.out.below hb12 (Nat.le_refl _)
    have HB12 : Hid (Below w.heap.size w w12) := HB11.out.trans (hb12.mono HB11.out.size)
    have HR12 : Hid (RdB w12 (some ⟨g12, 0, none⟩) n L) := hr12
    clear hr12 hb12 HW11 HG11 HB11
    go_wp2_with fail
    refine (implRead n _ L _ HL.out hn HY.out HR12.out).mono ?_
    rintro e w13 h
    unfold Out at h
    rw [HRL.out] at h
    obtain ⟨ro, so, ev, et, rfl, hv, ht, _, _, hb13⟩ := h
    have HW13 : Hid (Held (w13.alloc (.cells #[.slice ro nv ev, .slice so nt et] 31)) w2.heap.size vo to nv nt cv ct V T) := (HW12.out.below hb13 (Nat.le_refl _)).below (Joins.below_alloc1 _ _) (Nat.le_refl _)
    have HG13 : Hid (Held (w13.alloc (.cells #[.slice ro nv ev, .slice so nt et] 31)) w4.heap.size po qo nv nt dv dt (fun j => 1 + (j : Int)) (fun j => (1 + 6 * (nv : Int)) + (j : Int))) := (HG12.out.below hb13 (Nat.le_refl _)).below (Joins.below_alloc1 _ _) (Nat.le_refl _)
    have HH13 : Hid (Held (w13.alloc (.cells #[.slice ro nv ev, .slice so nt et] 31)) w13.heap.size ro so nv nt ev et V T) := Held.new hv ht
    have hb13' : Below w.heap.size w w13 := HB12.out.trans (hb13.mono HB12.out.size)
    have HB13 : Hid (Below w.heap.size w (w13.alloc (.cells #[.slice ro nv ev, .slice so nt et] 31))) := hb13'.alloc hb13'.size _
    clear hv ht hb13 hb13' HW12 HG12 HB12 HR12
    obtain ⟨a, _, _⟩ := HW13.out.at_
    have a0 := a 0
    have a1 := a 1
    clear a
    go_wp2_with fail
    refine (eqMesh_same nv nt ev et cv ct ro so vo to V T _ (by omega) (by omega) HH13.out.v.rd HH13.out.t.rd HW13.out.v.rd HW13.out.t.rd).mono ?_
    rintro e w14 ⟨rfl, hb14⟩
    have HG14 : Hid (Held w14 w4.heap.size po qo nv nt dv dt (fun j => 1 + (j : Int)) (fun j => (1 + 6 * (nv : Int)) + (j : Int))) := HG13.out.below hb14 (Nat.le_refl _)
    have HB14 : Hid (Below w.heap.size w w14) := HB13.out.trans (hb14.mono HB13.out.size)
    clear hb14 HW13 HG13 HH13 HB13 a0 a1
    obtain ⟨b, _, _⟩ := HG14.out.at_
    have b0 := b 0
    have b1 := b 1
    clear b
    go_wp2_with fail
    refine (heldMesh_r nv nt dv dt po qo _ (by omega) (by omega) HG14.out.v HG14.out.t).mono ?_
    rintro e w15 ⟨rfl, hb15⟩
    have HB15 : Hid (Below w.heap.size w w15) := HB14.out.trans (hb15.mono HB14.out.size)
    clear hb15 HG14 HB14 b0 b1
    go_wp2
    go_ret
    exact ⟨rfl, HB15.out⟩
  · go_enter Try.func5, Try.ntmps5
    go_wp2
    go_ret
    exact ⟨rfl, Below.refl _ _⟩
end Go.Proofs.Ytobhljmpdolomaa
