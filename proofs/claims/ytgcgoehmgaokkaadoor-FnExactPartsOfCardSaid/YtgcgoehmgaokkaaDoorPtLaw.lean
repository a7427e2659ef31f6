import Derived.Test.YtgcgoehmgaokkaaDoorPtNo
import Derived.Test.YtgcgoehmgaokkaaDoorSkLaw
namespace Go.Proofs.YtgcgoehmgaokkaaDoor
open Go.RowKit

theorem At.same {w w' : World} {b : Nat} {A : Array Value} (h : At w b A) (hb : w'.heap[b]? = w.heap[b]?) (hs : w.heap.size ≤ w'.heap.size) : At w' b A :=
  ⟨fun j => by rw [World.cell?_of_block (a := ⟨b, j, none⟩) (w := w) hb]; exact h.c j, fun j => by rw [World.frozen?_of_block (a := ⟨b, j, none⟩) (w := w) hb]; exact h.fz j, Nat.lt_of_lt_of_le h.sz hs⟩
theorem LL.keep {w w' : World} {base n b : Nat} {ao : Option Addr} {L : Nat → List Int} {hh : Nat → Nat} (h : LL w base ao n L b hh) (hs : w.heap.size ≤ w'.heap.size) (h0 : 0 < n → w'.heap[b]? = w.heap[b]?) (hj : ∀ j, j < n → w'.heap[hh j]? = w.heap[hh j]?) : LL w' base ao n L b hh :=
  ⟨fun k => ⟨(h.ad k).1, (h.ad k).2.1, Nat.lt_of_lt_of_le (h.ad k).2.2 hs⟩,
   fun j k => by
    obtain ⟨c, hc⟩ := h.out j k
    exact ⟨c, by rw [World.cell?_of_block (a := ⟨b, j, none⟩) (w := w) (h0 (by omega))]; exact hc⟩,
   fun j k => by
    obtain ⟨h1, h2, h3, h4, h5⟩ := h.rows j k
    exact ⟨h1, Nat.lt_of_lt_of_le h2 hs, h3, fun x hx => by rw [World.cell?_of_block (a := ⟨hh j, x, none⟩) (w := w) (hj j k)]; exact h4 x hx, fun x hx => by rw [World.frozen?_of_block (a := ⟨hh j, x, none⟩) (w := w) (hj j k)]; exact h5 x hx⟩,
   h.dis⟩

/-- What is asked of a PartsOf: its answer is the list of lists L, and the flag s. -/
def PartsAns (f : Nat) (tab : Bool) (p : Int) (n : Nat) (R : Nat → Int) (N : Nat) (L : Nat → List Int) (s : Bool) : Prop := ∀ (cap : Nat) (ao : Option Addr) (w : World), n ≤ 1048576 → Rd w 9 ao n R → (tab = true → RTab w) →
    Calls Tryd.prog f #[.agg #[.int .i64 p, .slice ao n cap]] w fun e w' => ∃ ao' b c hh, e = .returned (.tuple #[.slice ao' N c, .bool s]) ∧ LL w' w.heap.size ao' N L b hh ∧ Below w.heap.size w w'

set_option maxHeartbeats 8000000 in
theorem lawPartsOf_core (p : Int) (n cap : Nat) (ao : Option Addr) (R : Nat → Int) (N : Nat) (L : Nat → List Int) (s : Bool) (hSp : PartsAns 11 false p n R N L s) (hIm : PartsAns 12 true p n R N L s) (hN8 : N ≤ 8) (hL8 : ∀ j, (L j).length ≤ 8) (w : World) (mn : n ≤ 9223372036854775807) (hr : Rd w 9 ao n R) (ht : RTab w) :
    Calls Tryd.prog 4 #[.agg #[.int .i64 p, .slice ao n cap]] w fun e w' => e = .returned (.bool true) ∧ Below w.heap.size w w' := by
  have HV : Hid (Rd w 9 ao n R) := hr
  have HTb : Hid (RTab w) := ht
  have HSp : Hid (PartsAns 11 false p n R N L s) := hSp
  have HIm : Hid (PartsAns 12 true p n R N L s) := hIm
  have HL8 : Hid (∀ j, (L j).length ≤ 8) := hL8
  have HLm : Hid (∀ j, j < N → (L j).length ≤ 1048576) := fun j _ => Nat.le_trans (hL8 j) (by omega)
  obtain ⟨M, hM⟩ : ∃ M : Nat, M = offL L N := ⟨_, rfl⟩
  have hM64 : M ≤ 64 := by rw [hM]; exact Nat.le_trans (offL_le hL8 N) (by omega)
  have HM : Hid (M = offL L N) := hM
  clear hr ht hSp hIm hL8 hM
  go_enter Tryd.func4, Tryd.ntmps4
  go_wp2_with fail
  refine (szSketch_any p n cap ao _ mn).mono ?_
  rintro e w1 ⟨l, rfl, hl, hb1⟩
  have HA1 : Hid (At w1 w.heap.size #[.int .i64 p, .slice ao n cap]) := cells2_at hb1
  have HB1 : Hid (Below w.heap.size w w1) := (Joins.below_alloc1 _ _).trans (hb1.mono (by simp))
  clear hb1
  rcases hl with hl | ⟨hn, hl⟩
  · go_wp2
    go_ret
    exact ⟨rfl, HB1.out⟩
  · obtain ⟨q, _, _⟩ := HA1.out
    go_wp2_with fail
    refine (toSketch_any p n cap ao R _ hn (Rd.below HV.out HB1.out (Nat.le_refl _))).mono ?_
    rintro e w2 ⟨_, rfl, ⟨g2, rfl, hg, rg⟩, hb2⟩
    have HA2 : Hid (At w2 w.heap.size #[.int .i64 p, .slice ao n cap]) := HA1.out.below hb2 HA1.out.sz
    have HB2 : Hid (Below w.heap.size w w2) := HB1.out.trans (hb2.mono HB1.out.size)
    have HG : Hid (Rd w2 9 (some ⟨g2, 0, none⟩) n R) := Rd.of_row rg
    clear hb2 hg rg HA1 HB1 q
    go_wp2_with fail
    refine (HSp.out n _ _ hn HG.out (fun h => by cases h)).mono ?_
    rintro e w3 ⟨ao3, b3, c3, hh3, rfl, hl3, hb3⟩
    have HA3 : Hid (At w3 w.heap.size #[.int .i64 p, .slice ao n cap]) := HA2.out.below hb3 HA2.out.sz
    have HB3 : Hid (Below w.heap.size w w3) := HB2.out.trans (hb3.mono HB2.out.size)
    have HK3 : Hid ((0 < N → b3 < w3.heap.size) ∧ ∀ j, j < N → hh3 j < w3.heap.size) := ⟨fun h => (hl3.ad h).2.2, fun j h => (hl3.rows j h).2.1⟩
    have HW3 : Hid (LL w3 w2.heap.size ao3 N L b3 hh3) := hl3
    clear hb3 hl3 HG HA2 HB2
    obtain ⟨q, _, _⟩ := HA3.out
    go_wp2_with fail
    refine (toSketch_any p n cap ao R _ hn (Rd.below HV.out HB3.out (Nat.le_refl _))).mono ?_
    rintro e w4 ⟨_, rfl, ⟨g4, rfl, hg, rg⟩, hb4⟩
    have HA4 : Hid (At w4 w.heap.size #[.int .i64 p, .slice ao n cap]) := HA3.out.below hb4 HA3.out.sz
    have HB4 : Hid (Below w.heap.size w w4) := HB3.out.trans (hb4.mono HB3.out.size)
    have HW4 : Hid (LL w4 w2.heap.size ao3 N L b3 hh3) := HW3.out.below hb4 (Nat.le_refl _)
    have HI4 : Hid (w3.heap.size ≤ g4 ∧ g4 < w4.heap.size ∧ w.heap.size < w3.heap.size) := ⟨hg, rg.lt, HA3.out.sz⟩
    have HG : Hid ((w4.alloc (.cells #[.int .i64 p, .slice (some ⟨g4, 0, none⟩) n n] 29)).rowIs g4 56 (n * 9) (fun j => .int .i64 (R j))) := rg.alloc _
    clear hb4 hg rg HA3 HB3 HW3 q
    go_wp2_with fail
    refine (HIm.out n _ _ hn (Rd.of_row HG.out) (fun _ => HTb.out.below (HB4.out.alloc HB4.out.size _))).mono ?_
    rintro e w5 ⟨ao5, b5, c5, hh5, rfl, hl5, hb5⟩
    have hb45 : Below w4.heap.size w4 w5 := (Joins.below_alloc1 _ _).trans (hb5.mono (by simp))
    have HX5 : Hid (At w5 w4.heap.size #[.int .i64 p, .slice (some ⟨g4, 0, none⟩) n n]) := cells2_at hb5
    have HA5 : Hid (At w5 w.heap.size #[.int .i64 p, .slice ao n cap]) := HA4.out.below hb45 HA4.out.sz
    have HB5 : Hid (Below w.heap.size w w5) := HB4.out.trans (hb45.mono HB4.out.size)
    have HG5 : Hid (w5.rowIs g4 56 (n * 9) (fun j => .int .i64 (R j))) := rowIs_below HG.out hb5 HG.out.lt
    have HW5 : Hid (LL w5 w2.heap.size ao3 N L b3 hh3) := HW4.out.below hb45 (Nat.le_refl _)
    have hl5' : LL w5 (w4.heap.size + 1) ao5 N L b5 hh5 := by simpa using hl5
    have HY5 : Hid (LL w5 (w4.heap.size + 1) ao5 N L b5 hh5) := hl5'
    have HK5 : Hid ((0 < N → w4.heap.size < b5) ∧ ∀ j, j < N → w4.heap.size < hh5 j) := ⟨fun h => (HY5.out.ad h).2.1, fun j h => (HY5.out.rows j h).1⟩
    clear hb5 hb45 hl5 hl5' HG HA4 HB4 HW4
    go_wp2_with fail
    refine (eqInt64SS_same N c5 c3 _ _ b5 b3 ao5 ao3 L hh5 hh3 _ (by omega) HLm.out HY5.out HW5.out).mono ?_
    rintro e w6 ⟨rfl, hb6⟩
    have HX6 : Hid (At w6.drew w4.heap.size #[.int .i64 p, .slice (some ⟨g4, 0, none⟩) n n]) := HX5.out.below hb6.drew HX5.out.sz
    have HA6 : Hid (At w6.drew w.heap.size #[.int .i64 p, .slice ao n cap]) := HA5.out.below hb6.drew HA5.out.sz
    have HB6 : Hid (Below w.heap.size w w6.drew) := HB5.out.trans (hb6.drew.mono HB5.out.size)
    have HG6 : Hid (w6.drew.rowIs g4 56 (n * 9) (fun j => .int .i64 (R j))) := rowIs_below HG5.out hb6.drew HG5.out.lt
    have HW6 : Hid (LL w6.drew w2.heap.size ao3 N L b3 hh3) := HW5.out.below hb6.drew (Nat.le_refl _)
    have HY6 : Hid (LL w6.drew (w4.heap.size + 1) ao5 N L b5 hh5) := HY5.out.below hb6.drew (Nat.le_refl _)
    have HS : Hid (SkMid w.heap.size w4.heap.size p n cap g4 ao w6) := ⟨⟨HA6.out.c 0, HA6.out.c 1, HX6.out.c 0, HX6.out.c 1⟩, HA6.out.sz, HX6.out.sz⟩
    clear hb6 HX5 HA5 HB5 HG5 HW5 HY5
    go_wp2_with fail
    go_region_held3 (fun w' => SkMid w.heap.size w4.heap.size p n cap g4 ao w') (first | with_reducible exact SkMid.drew HS.out | with_reducible exact SkMid.call (by assumption) (by assumption))
      (first
        | (go_at_call 8; refine (toSketch_any p n cap ao R _ hn (Rd.below HV.out HB6.out (Nat.le_refl _))).mono ?_; rintro e w7 ⟨_, rfl, ⟨g7, rfl, hg, rg⟩, hb7⟩)
        | (go_at_call 10; refine (eqSketch_same p n n n _ _ R _ hn (Rd.below (Rd.of_row HG6.out) hb7 (Nat.le_refl _)) (Rd.of_row rg)).mono ?_; rintro e w8 ⟨rfl, hb8⟩))
    have hb68 : Below w6.drew.heap.size w6.drew w8 := hb7.trans (hb8.mono hb7.size)
    have HX8 : Hid (At w8 w4.heap.size #[.int .i64 p, .slice (some ⟨g4, 0, none⟩) n n]) := HX6.out.below hb68 HX6.out.sz
    have HA8 : Hid (At w8 w.heap.size #[.int .i64 p, .slice ao n cap]) := HA6.out.below hb68 HA6.out.sz
    have HB8 : Hid (Below w.heap.size w w8) := HB6.out.trans (hb68.mono HB6.out.size)
    have HG8 : Hid (w8.rowIs g4 56 (n * 9) (fun j => .int .i64 (R j))) := rowIs_below HG6.out hb68 HG6.out.lt
    have HW8 : Hid (LL w8 w2.heap.size ao3 N L b3 hh3) := HW6.out.below hb68 (Nat.le_refl _)
    have HY8 : Hid (LL w8 (w4.heap.size + 1) ao5 N L b5 hh5) := HY6.out.below hb68 (Nat.le_refl _)
    clear hb68 hb7 hb8 rg hg HX6 HA6 HB6 HG6 HW6 HY6 HS
    obtain ⟨q, _, _⟩ := HX8.out
    go_wp2_with fail
    refine (markSketch_any p n g4 _ _ hn HG8.out).mono ?_
    rintro e w9 ⟨rfl, hg9⟩
    have HA9 : Hid (At w9 w.heap.size #[.int .i64 p, .slice ao n cap]) := HA8.out.same (hg9.block _ HA8.out.sz (by have := HI4.out; simp; omega)) hg9.size
    have HB9 : Hid (Below w.heap.size w w9) := HB8.out.trans ⟨hg9.os, hg9.tape, hg9.output, hg9.size, fun k hk => hg9.block k (Nat.lt_of_lt_of_le hk HB8.out.size) (by have := HI4.out; simp; omega)⟩
    have HW9 : Hid (LL w9 w2.heap.size ao3 N L b3 hh3) := HW8.out.keep hg9.size (fun h => hg9.block _ (HW8.out.ad h).2.2 (by have := HK3.out.1 h; have := HI4.out; simp; omega)) (fun j h => hg9.block _ (HW8.out.rows j h).2.1 (by have := HK3.out.2 j h; have := HI4.out; simp; omega))
    have HY9 : Hid (LL w9 (w4.heap.size + 1) ao5 N L b5 hh5) := HY8.out.keep hg9.size (fun h => hg9.block _ (HY8.out.ad h).2.2 (by have := HK5.out.1 h; have := HI4.out; simp; omega)) (fun j h => hg9.block _ (HY8.out.rows j h).2.1 (by have := HK5.out.2 j h; have := HI4.out; simp; omega))
    clear hg9 HX8 HA8 HB8 HG8 HW8 HY8 q
    go_wp2_with fail
    refine (eqInt64SS_same N c5 c3 _ _ b5 b3 ao5 ao3 L hh5 hh3 _ (by omega) HLm.out HY9.out HW9.out).mono ?_
    rintro e w10 ⟨rfl, hb10⟩
    have HA10 : Hid (At w10 w.heap.size #[.int .i64 p, .slice ao n cap]) := HA9.out.below hb10 HA9.out.sz
    have HB10 : Hid (Below w.heap.size w w10) := HB9.out.trans (hb10.mono HB9.out.size)
    have HW10 : Hid (LL w10 w2.heap.size ao3 N L b3 hh3) := HW9.out.below hb10 (Nat.le_refl _)
    have HY10 : Hid (LL w10 (w4.heap.size + 1) ao5 N L b5 hh5) := HY9.out.below hb10 (Nat.le_refl _)
    clear hb10 HA9 HB9 HW9 HY9
    go_wp2_with fail
    refine (markInt64SS_any N c5 _ b5 ao5 L hh5 _ hN8 HL8.out HY10.out).mono ?_
    rintro e w11 ⟨rfl, hy11, ho11, ht11, hp11, hs11, hk11⟩
    rw [← HM.out]
    have HA11 : Hid (At w11 w.heap.size #[.int .i64 p, .slice ao n cap]) := HA10.out.same (hk11 _ HA10.out.sz (fun j h => by have := HK5.out.2 j h; have := HI4.out; omega)) hs11
    have HB11 : Hid (Below w.heap.size w w11) := HB10.out.trans ⟨ho11, ht11, hp11, hs11, fun k hk => hk11 k (Nat.lt_of_lt_of_le hk HB10.out.size) (fun j h => by have := HK5.out.2 j h; have := HI4.out; omega)⟩
    have HW11 : Hid (LL w11 w2.heap.size ao3 N L b3 hh3) := HW10.out.keep hs11 (fun h => hk11 _ (HW10.out.ad h).2.2 (fun j h' => by have := HK5.out.2 j h'; have := HK3.out.1 h; have := HI4.out; omega)) (fun i h => hk11 _ (HW10.out.rows i h).2.1 (fun j h' => by have := HK5.out.2 j h'; have := HK3.out.2 i h; have := HI4.out; omega))
    have HY11 : Hid (LL w11 (w4.heap.size + 1) ao5 N (fun j => if j < N then mkL L 1 j else L j) b5 hh5) := hy11
    clear hy11 ho11 ht11 hp11 hs11 hk11 HA10 HB10 HW10 HY10
    go_wp2_with fail
    refine (heldInt64SS_any N c5 _ b5 ao5 L hh5 _ hN8 HL8.out HY11.out).mono ?_
    rintro e w12 ⟨rfl, rfl⟩
    rw [← HM.out]
    obtain ⟨q, _, _⟩ := HA11.out
    go_wp2_with fail
    refine (toSketch_any p n cap ao R _ hn (Rd.below HV.out HB11.out (Nat.le_refl _))).mono ?_
    rintro e w13 ⟨_, rfl, ⟨g13, rfl, hg, rg⟩, hb13⟩
    have HB13 : Hid (Below w.heap.size w w13) := HB11.out.trans (hb13.mono HB11.out.size)
    have HW13 : Hid (LL w13 w2.heap.size ao3 N L b3 hh3) := HW11.out.below hb13 (Nat.le_refl _)
    have HY13 : Hid (LL w13 (w4.heap.size + 1) ao5 N (fun j => if j < N then mkL L 1 j else L j) b5 hh5) := HY11.out.below hb13 (Nat.le_refl _)
    have HG : Hid (Rd w13 9 (some ⟨g13, 0, none⟩) n R) := Rd.of_row rg
    clear hb13 hg rg HA11 HB11 HW11 HY11 q
    go_wp2_with fail
    refine (HIm.out n _ _ hn HG.out (fun _ => HTb.out.below HB13.out)).mono ?_
    rintro e w14 ⟨ao14, b14, c14, hh14, rfl, hl14, hb14⟩
    have HB14 : Hid (Below w.heap.size w w14) := HB13.out.trans (hb14.mono HB13.out.size)
    have HW14 : Hid (LL w14 w2.heap.size ao3 N L b3 hh3) := HW13.out.below hb14 (Nat.le_refl _)
    have HY14 : Hid (LL w14 (w4.heap.size + 1) ao5 N (fun j => if j < N then mkL L 1 j else L j) b5 hh5) := HY13.out.below hb14 (Nat.le_refl _)
    have HZ14 : Hid (LL w14 w13.heap.size ao14 N L b14 hh14) := hl14
    clear hb14 hl14 HB13 HW13 HY13 HG
    go_wp2_with fail
    refine (eqInt64SS_same N c14 c3 _ _ b14 b3 ao14 ao3 L hh14 hh3 _ (by omega) HLm.out HZ14.out HW14.out).mono ?_
    rintro e w15 ⟨rfl, hb15⟩
    have HB15 : Hid (Below w.heap.size w w15) := HB14.out.trans (hb15.mono HB14.out.size)
    have HY15 : Hid (LL w15 (w4.heap.size + 1) ao5 N (fun j => if j < N then mkL L 1 j else L j) b5 hh5) := HY14.out.below hb15 (Nat.le_refl _)
    clear hb15 HB14 HW14 HY14 HZ14
    go_wp2_with fail
    refine (heldInt64SS_any N c5 _ b5 ao5 L hh5 _ hN8 HL8.out HY15.out).mono ?_
    rintro e w16 ⟨rfl, rfl⟩
    rw [← HM.out]
    go_wp2
    go_ret
    exact ⟨rfl, HB15.out⟩

theorem lawPartsOf_walk (p : Int) (n cap : Nat) (ao : Option Addr) (R : Nat → Int) (w : World) (mn : n ≤ 9223372036854775807) (hr : Rd w 9 ao n R) (ht : RTab w) :
    Calls Tryd.prog 4 #[.agg #[.int .i64 p, .slice ao n cap]] w fun e w' => e = .returned (.bool true) ∧ Below w.heap.size w w' :=
  lawPartsOf_core p n cap ao R (ansP p n R).length (fun j => (ansP p n R).getD j []) (skok p n R) (fun c a w hn hr _ => specPartsOf_any p n c a R w hn hr) (fun c a w hn hr ht => implPartsOf_any p n c a R w hn hr (ht rfl)) (ansP_len p n R) (ansP_each p n R) w mn hr ht
end Go.Proofs.YtgcgoehmgaokkaaDoor
