import Derived.Test.YtobhljmpdolomaaPkAns
import Derived.Test.YtobhljmpdolomaaPkMark
import Derived.Test.YtobhljmpdolomaaMsLaw
namespace Go.Proofs.Ytobhljmpdolomaa
open Go.RowKit

theorem At.same {w w' : World} {b : Nat} {A : Array Value} (h : At w b A) (hb : w'.heap[b]? = w.heap[b]?) (hs : w.heap.size ≤ w'.heap.size) : At w' b A :=
  ⟨fun j => by rw [World.cell?_of_block (a := ⟨b, j, none⟩) (w := w) hb]; exact h.c j, fun j => by rw [World.frozen?_of_block (a := ⟨b, j, none⟩) (w := w) hb]; exact h.fz j, Nat.lt_of_lt_of_le h.sz hs⟩

set_option maxHeartbeats 4000000 in
theorem lawPackMesh_walk (HI : PackAns 12) (nv nt cv ct : Nat) (vo to : Option Addr) (V T : Nat → Int) (w : World) (mv : nv ≤ 9223372036854775807) (mt : nt ≤ 9223372036854775807) (hv : Rd w 6 vo nv V) (ht : Rd w 3 to nt T) :
    Calls Try.prog 4 #[.agg #[.slice vo nv cv, .slice to nt ct]] w fun e w' => e = .returned (.bool true) ∧ Below w.heap.size w w' := by
  have HV : Hid (Rd w 6 vo nv V) := hv
  have HT : Hid (Rd w 3 to nt T) := ht
  obtain ⟨N, hN⟩ : ∃ N, (packZ nv nt V T).length = N := ⟨_, rfl⟩
  have hN9 : N ≤ 999000 := by rw [← hN]; exact packZ_len _ _ _ _
  have HN : Hid ((packZ nv nt V T).length = N) := hN
  obtain ⟨L, hL⟩ : ∃ L, L = packZ nv nt V T := ⟨_, rfl⟩
  clear hv ht hN
  go_enter Try.func4, Try.ntmps4
  go_wp2_with fail
  refine (szMesh_any nv nt cv ct vo to _ mv mt).mono ?_
  rintro e w1 ⟨l, rfl, hl, hb1⟩
  have HA1 : Hid (At w1 w.heap.size #[.slice vo nv cv, .slice to nt ct]) := cells2_at hb1
  have HB1 : Hid (Below w.heap.size w w1) := (Joins.below_alloc1 _ _).trans (hb1.mono (by simp))
  clear hb1
  rcases hl with hl | ⟨hnv, hnt, hl⟩
  · go_wp2
    go_ret
    exact ⟨rfl, HB1.out⟩
  · obtain ⟨p, _, _⟩ := HA1.out
    go_wp2_with fail
    refine (toMesh_any nv nt cv ct vo to V T _ hnv hnt (Rd.below HV.out HB1.out (Nat.le_refl _)) (Rd.below HT.out HB1.out (Nat.le_refl _))).mono ?_
    rintro e w2 ⟨_, rfl, ⟨g2, h2, rfl, hg, hh, rg, rh⟩, hb2⟩
    have HA2 : Hid (At w2 w.heap.size #[.slice vo nv cv, .slice to nt ct]) := HA1.out.below hb2 HA1.out.sz
    have HB2 : Hid (Below w.heap.size w w2) := HB1.out.trans (hb2.mono HB1.out.size)
    have HG : Hid (Rd w2 6 (some ⟨g2, 0, none⟩) nv V) := Rd.of_row rg
    have HH : Hid (Rd w2 3 (some ⟨h2, 0, none⟩) nt T) := Rd.of_row rh
    clear hb2 hg hh rg rh HA1 HB1 p
    go_wp2_with fail
    refine (specPack nv nt nv nt N _ _ V T _ hnv hnt HG.out HH.out HN.out).mono ?_
    rintro e w3 ⟨ao3, cap3, rfl, hr3, hf3, hb3⟩
    have HA3 : Hid (At w3 w.heap.size #[.slice vo nv cv, .slice to nt ct]) := HA2.out.below hb3 HA2.out.sz
    have HB3 : Hid (Below w.heap.size w w3) := HB2.out.trans (hb3.mono HB2.out.size)
    have HW3 : Hid (RdB w3 ao3 N L) := by rw [hL]; exact hr3
    have HK3 : Hid (∀ g, ao3 = some ⟨g, 0, none⟩ → 0 < N → g < w3.heap.size) := hr3.blk
    clear hb3 hr3 hf3 HG HH HA2 HB2
    obtain ⟨p, _, _⟩ := HA3.out
    go_wp2_with fail
    refine (toMesh_any nv nt cv ct vo to V T _ hnv hnt (Rd.below HV.out HB3.out (Nat.le_refl _)) (Rd.below HT.out HB3.out (Nat.le_refl _))).mono ?_
    rintro e w4 ⟨_, rfl, ⟨g4, h4, rfl, hg, hh, rg, rh⟩, hb4⟩
    have HA4 : Hid (At w4 w.heap.size #[.slice vo nv cv, .slice to nt ct]) := HA3.out.below hb4 HA3.out.sz
    have HB4 : Hid (Below w.heap.size w w4) := HB3.out.trans (hb4.mono HB3.out.size)
    have HW4 : Hid (RdB w4 ao3 N L) := RdB.below HW3.out hb4 (Nat.le_refl _)
    have HI4 : Hid (w3.heap.size ≤ g4 ∧ w3.heap.size ≤ h4 ∧ g4 < w4.heap.size ∧ h4 < w4.heap.size ∧ w.heap.size < w3.heap.size ∧ g4 ≠ h4) := ⟨hg, hh, rg.lt, rh.lt, HA3.out.sz, fun e => by
      obtain ⟨c1, k1, _⟩ := rg
      obtain ⟨c2, k2, _⟩ := rh
      rw [e, k2] at k1
      simp at k1⟩
    have HG : Hid ((w4.alloc (.cells #[.slice (some ⟨g4, 0, none⟩) nv nv, .slice (some ⟨h4, 0, none⟩) nt nt] 31)).rowIs g4 51 (nv * 6) (fun j => .int .i64 (V j))) := rg.alloc _
    have HH : Hid ((w4.alloc (.cells #[.slice (some ⟨g4, 0, none⟩) nv nv, .slice (some ⟨h4, 0, none⟩) nt nt] 31)).rowIs h4 53 (nt * 3) (fun j => .int .i64 (T j))) := rh.alloc _
    clear hb4 hg hh rg rh HA3 HB3 HW3 p
    go_wp2_with fail
    refine (HI nv nt nv nt N _ _ V T _ hnv hnt (Rd.of_row HG.out) (Rd.of_row HH.out) HN.out).mono ?_
    rintro e w5 ⟨ao5, cap5, rfl, hr5, hf5, hb5⟩
    have hb45 : Below w4.heap.size w4 w5 := (Joins.below_alloc1 _ _).trans (hb5.mono (by simp))
    have HX5 : Hid (At w5 w4.heap.size #[.slice (some ⟨g4, 0, none⟩) nv nv, .slice (some ⟨h4, 0, none⟩) nt nt]) := cells2_at hb5
    have HA5 : Hid (At w5 w.heap.size #[.slice vo nv cv, .slice to nt ct]) := HA4.out.below hb45 HA4.out.sz
    have HB5 : Hid (Below w.heap.size w w5) := HB4.out.trans (hb45.mono HB4.out.size)
    have HG5 : Hid (w5.rowIs g4 51 (nv * 6) (fun j => .int .i64 (V j))) := rowIs_below HG.out hb5 HG.out.lt
    have HH5 : Hid (w5.rowIs h4 53 (nt * 3) (fun j => .int .i64 (T j))) := rowIs_below HH.out hb5 HH.out.lt
    have HW5 : Hid (RdB w5 ao3 N L) := RdB.below HW4.out hb45 (Nat.le_refl _)
    have HY5 : Hid (RdB w5 ao5 N L) := by rw [hL]; exact hr5
    have HK5 : Hid (∀ g, ao5 = some ⟨g, 0, none⟩ → 0 < N → w4.heap.size < g) := fun g e h => by have := hf5 g e h; simp at this; omega
    clear hb5 hb45 hr5 hf5 HG HH HA4 HB4 HW4
    go_wp2_with fail
    refine (eqByteS_same N cap5 cap3 ao5 ao3 L _ (by omega) HY5.out HW5.out).mono ?_
    rintro e w6 ⟨rfl, hb6⟩
    have HX6 : Hid (At w6.drew w4.heap.size #[.slice (some ⟨g4, 0, none⟩) nv nv, .slice (some ⟨h4, 0, none⟩) nt nt]) := HX5.out.below hb6.drew HX5.out.sz
    have HA6 : Hid (At w6.drew w.heap.size #[.slice vo nv cv, .slice to nt ct]) := HA5.out.below hb6.drew HA5.out.sz
    have HB6 : Hid (Below w.heap.size w w6.drew) := HB5.out.trans (hb6.drew.mono HB5.out.size)
    have HG6 : Hid (w6.drew.rowIs g4 51 (nv * 6) (fun j => .int .i64 (V j))) := rowIs_below HG5.out hb6.drew HG5.out.lt
    have HH6 : Hid (w6.drew.rowIs h4 53 (nt * 3) (fun j => .int .i64 (T j))) := rowIs_below HH5.out hb6.drew HH5.out.lt
    have HW6 : Hid (RdB w6.drew ao3 N L) := RdB.below HW5.out hb6.drew (Nat.le_refl _)
    have HY6 : Hid (RdB w6.drew ao5 N L) := RdB.below HY5.out hb6.drew (Nat.le_refl _)
    have HS : Hid (Mid w.heap.size w4.heap.size nv nt cv ct g4 h4 vo to w6) := ⟨⟨HA6.out.c 0, HA6.out.c 1, HX6.out.c 0, HX6.out.c 1⟩, HA6.out.sz, HX6.out.sz⟩
    clear hb6 HX5 HA5 HB5 HG5 HH5 HW5 HY5
    go_wp2_with fail
    go_region_held3 (fun w' => Mid w.heap.size w4.heap.size nv nt cv ct g4 h4 vo to w') (first | with_reducible exact Mid.drew HS.out | with_reducible exact Mid.call (by assumption) (by assumption))
      (first
        | (go_at_call 8; refine (toMesh_any nv nt cv ct vo to V T _ hnv hnt (Rd.below HV.out HB6.out (Nat.le_refl _)) (Rd.below HT.out HB6.out (Nat.le_refl _))).mono ?_; rintro e w7 ⟨_, rfl, ⟨g7, h7, rfl, hg, hh, rg, rh⟩, hb7⟩)
        | (go_at_call 10; refine (eqMesh_same nv nt nv nt nv nt _ _ _ _ V T _ hnv hnt (Rd.below (Rd.of_row HG6.out) hb7 (Nat.le_refl _)) (Rd.below (Rd.of_row HH6.out) hb7 (Nat.le_refl _)) (Rd.of_row rg) (Rd.of_row rh)).mono ?_; rintro e w8 ⟨rfl, hb8⟩))
    have hb68 : Below w6.drew.heap.size w6.drew w8 := hb7.trans (hb8.mono hb7.size)
    have HX8 : Hid (At w8 w4.heap.size #[.slice (some ⟨g4, 0, none⟩) nv nv, .slice (some ⟨h4, 0, none⟩) nt nt]) := HX6.out.below hb68 HX6.out.sz
    have HA8 : Hid (At w8 w.heap.size #[.slice vo nv cv, .slice to nt ct]) := HA6.out.below hb68 HA6.out.sz
    have HB8 : Hid (Below w.heap.size w w8) := HB6.out.trans (hb68.mono HB6.out.size)
    have HG8 : Hid (w8.rowIs g4 51 (nv * 6) (fun j => .int .i64 (V j))) := rowIs_below HG6.out hb68 HG6.out.lt
    have HH8 : Hid (w8.rowIs h4 53 (nt * 3) (fun j => .int .i64 (T j))) := rowIs_below HH6.out hb68 HH6.out.lt
    have HW8 : Hid (RdB w8 ao3 N L) := RdB.below HW6.out hb68 (Nat.le_refl _)
    have HY8 : Hid (RdB w8 ao5 N L) := RdB.below HY6.out hb68 (Nat.le_refl _)
    clear hb68 hb7 hb8 rg rh hg hh HX6 HA6 HB6 HG6 HH6 HW6 HY6 HS
    obtain ⟨p, _, _⟩ := HX8.out
    go_wp2_with fail
    refine (markMesh_any nv nt g4 h4 _ _ _ hnv hnt HG8.out HH8.out HI4.out.2.2.2.2.2).mono ?_
    rintro e w9 ⟨rfl, hs9, ho9, ht9, hp9, hk9⟩
    have HA9 : Hid (At w9 w.heap.size #[.slice vo nv cv, .slice to nt ct]) := HA8.out.same (hk9 _ HA8.out.sz (by have := HI4.out; omega) (by have := HI4.out; omega)) hs9
    have HB9 : Hid (Below w.heap.size w w9) := HB8.out.trans ⟨ho9, ht9, hp9, hs9, fun k hk => hk9 k (Nat.lt_of_lt_of_le hk HB8.out.size) (by have := HI4.out; omega) (by have := HI4.out; omega)⟩
    have HW9 : Hid (RdB w9 ao3 N L) := RdB.keep2 HW8.out fun h0 g e hg => hk9 g hg (by have := HK3.out g e h0; have := HI4.out; omega) (by have := HK3.out g e h0; have := HI4.out; omega)
    have HY9 : Hid (RdB w9 ao5 N L) := RdB.keep2 HY8.out fun h0 g e hg => hk9 g hg (by have := HK5.out g e h0; have := HI4.out; omega) (by have := HK5.out g e h0; have := HI4.out; omega)
    clear hs9 ho9 ht9 hp9 hk9 HX8 HA8 HB8 HG8 HH8 HW8 HY8 p
    go_wp2_with fail
    refine (eqByteS_same N cap5 cap3 ao5 ao3 L _ (by omega) HY9.out HW9.out).mono ?_
    rintro e w10 ⟨rfl, hb10⟩
    have HA10 : Hid (At w10 w.heap.size #[.slice vo nv cv, .slice to nt ct]) := HA9.out.below hb10 HA9.out.sz
    have HB10 : Hid (Below w.heap.size w w10) := HB9.out.trans (hb10.mono HB9.out.size)
    have HW10 : Hid (RdB w10 ao3 N L) := RdB.below HW9.out hb10 (Nat.le_refl _)
    have HY10 : Hid (RdB w10 ao5 N L) := RdB.below HY9.out hb10 (Nat.le_refl _)
    clear hb10 HA9 HB9 HW9 HY9
    go_wp2_with fail
    refine (markByteS_any N cap5 ao5 L _ (by omega) HY10.out).mono ?_
    rintro e w11 ⟨rfl, hy11, hg11⟩
    have hne : ∀ b, b ≤ w4.heap.size → some b ≠ (if 0 < N then rowOf ao5 else none) := fun b hb e => by
      by_cases h0 : 0 < N
      · rw [if_pos h0] at e
        obtain ⟨g, c, f, ea, _, _, _⟩ := HY10.out h0
        have := HK5.out g ea h0
        rw [ea] at e
        simp only [rowOf, Option.some.injEq] at e
        omega
      · rw [if_neg h0] at e
        cases e
    have HA11 : Hid (At w11 w.heap.size #[.slice vo nv cv, .slice to nt ct]) := HA10.out.same (hg11.block _ HA10.out.sz (hne _ (by have := HI4.out; omega))) hg11.size
    have HB11 : Hid (Below w.heap.size w w11) := HB10.out.trans ⟨hg11.os, hg11.tape, hg11.output, hg11.size, fun k hk => hg11.block k (Nat.lt_of_lt_of_le hk HB10.out.size) (hne k (by have := HI4.out; omega))⟩
    have HW11 : Hid (RdB w11 ao3 N L) := RdB.keep2 HW10.out fun h0 g e hg => hg11.block g hg (hne g (by have := HK3.out g e h0; have := HI4.out; omega))
    have HY11 : Hid (RdB w11 ao5 N (marks N)) := hy11
    clear hne hy11 hg11 HA10 HB10 HW10 HY10
    go_wp2_with fail
    refine (heldByteS_any N cap5 ao5 _ (by omega) HY11.out).mono ?_
    rintro e w12 ⟨rfl, rfl⟩
    obtain ⟨p, _, _⟩ := HA11.out
    go_wp2_with fail
    refine (toMesh_any nv nt cv ct vo to V T _ hnv hnt (Rd.below HV.out HB11.out (Nat.le_refl _)) (Rd.below HT.out HB11.out (Nat.le_refl _))).mono ?_
    rintro e w13 ⟨_, rfl, ⟨g13, h13, rfl, hg, hh, rg, rh⟩, hb13⟩
    have HB13 : Hid (Below w.heap.size w w13) := HB11.out.trans (hb13.mono HB11.out.size)
    have HW13 : Hid (RdB w13 ao3 N L) := RdB.below HW11.out hb13 (Nat.le_refl _)
    have HY13 : Hid (RdB w13 ao5 N (marks N)) := RdB.below HY11.out hb13 (Nat.le_refl _)
    have HG : Hid (Rd w13 6 (some ⟨g13, 0, none⟩) nv V) := Rd.of_row rg
    have HH : Hid (Rd w13 3 (some ⟨h13, 0, none⟩) nt T) := Rd.of_row rh
    clear hb13 hg hh rg rh HA11 HB11 HW11 HY11 p
    go_wp2_with fail
    refine (HI nv nt nv nt N _ _ V T _ hnv hnt HG.out HH.out HN.out).mono ?_
    rintro e w14 ⟨ao14, cap14, rfl, hr14, hf14, hb14⟩
    have HB14 : Hid (Below w.heap.size w w14) := HB13.out.trans (hb14.mono HB13.out.size)
    have HW14 : Hid (RdB w14 ao3 N L) := RdB.below HW13.out hb14 (Nat.le_refl _)
    have HY14 : Hid (RdB w14 ao5 N (marks N)) := RdB.below HY13.out hb14 (Nat.le_refl _)
    have HZ14 : Hid (RdB w14 ao14 N L) := by rw [hL]; exact hr14
    clear hb14 hr14 hf14 HB13 HW13 HY13 HG HH
    go_wp2_with fail
    refine (eqByteS_same N cap14 cap3 ao14 ao3 L _ (by omega) HZ14.out HW14.out).mono ?_
    rintro e w15 ⟨rfl, hb15⟩
    have HB15 : Hid (Below w.heap.size w w15) := HB14.out.trans (hb15.mono HB14.out.size)
    have HY15 : Hid (RdB w15 ao5 N (marks N)) := RdB.below HY14.out hb15 (Nat.le_refl _)
    clear hb15 HB14 HW14 HY14 HZ14
    go_wp2_with fail
    refine (heldByteS_any N cap5 ao5 _ (by omega) HY15.out).mono ?_
    rintro e w16 ⟨rfl, rfl⟩
    go_wp2
    go_ret
    exact ⟨rfl, HB15.out⟩
end Go.Proofs.Ytobhljmpdolomaa
