import Derived.Test.YtgcgoehmgaokkaaDoorPtIm
import Derived.Test.YtgcgoehmgaokkaaDoorPtOut
namespace Go.Proofs.YtgcgoehmgaokkaaDoor
open Go.RowKit

def lst (P : Nat) (M : Nat → Int) : List Int := (List.range P).map M
theorem lst_len (P : Nat) (M : Nat → Int) : (lst P M).length = P := by simp [lst]
theorem lst_at (P : Nat) (M : Nat → Int) {j : Nat} (h : j < P) : (lst P M).getD j 0 = M j := by simp [lst, List.getD_eq_getElem?_getD, h]
theorem lst_set (P : Nat) (M : Nat → Int) (j : Nat) (x : Int) : (lst P M).set j x = lst P (fun i => if i = j then x else M i) := by
  apply List.ext_getElem
  · simp [lst]
  · intro i h1 h2
    simp only [lst, List.getElem_set, List.getElem_map, List.getElem_range]
    by_cases e : j = i
    · subst e; simp
    · rw [if_neg e, if_neg (fun h => e h.symm)]
theorem lst_congr {P : Nat} {M N : Nat → Int} (h : ∀ j, j < P → M j = N j) : lst P M = lst P N := List.map_congr_left fun j hj => h j (List.mem_range.1 hj)
theorem lst_succ (P : Nat) (M : Nat → Int) : lst (P + 1) M = lst P M ++ [M P] := by simp [lst, List.range_succ]

theorem Gv.set {w : World} {base g n cap : Nat} {l : List Int} (h : Gv w base (.slice (some ⟨g, 0, none⟩) n cap) l) (j : Nat) (_hj : j < l.length) (x : Int) : Gv (w.setCell ⟨g, j, none⟩ (.int .i64 x)) base (.slice (some ⟨g, 0, none⟩) n cap) (l.set j x) := by
  unfold Gv at h ⊢
  rw [List.length_set]
  refine ⟨by simp [ints], .inr ?_⟩
  rcases h.2 with ⟨h2, _⟩ | ⟨g', cap', cur, hv, hb, hg, hnc, hml, hsz, htk⟩
  · simp at h2
  · simp only [Value.slice.injEq, Option.some.injEq, Addr.mk.injEq, and_true] at hv
    obtain ⟨rfl, rfl, rfl⟩ := hv
    refine ⟨g, cap, _, rfl, hb, heap_setCell_same w g j cur _ _ hg, hnc, hml, by simpa using hsz, ?_⟩
    have e : (cur.setIfInBounds j (.int .i64 x)).toList = cur.toList.set j (.int .i64 x) := by simp
    rw [e, List.take_set, htk]
    simp [ints, List.map_set]

/-- The state of the specification's merging. -/
structure SP (w0 : World) (g cap P : Nat) (box : Array Value) (M : Nat → Int) (w' : World) : Prop where
  bel : Below w0.heap.size w0 w'
  box : At w' w0.heap.size box
  own : Gv w' (w0.heap.size + 1) (.slice (some ⟨g, 0, none⟩) P cap) (lst P M)
theorem SP.gt {w0 w' : World} {g cap P : Nat} {box : Array Value} {M : Nat → Int} (h : SP w0 g cap P box M w') : w0.heap.size < g ∧ g < w'.heap.size := by
  have := h.own.lt g rfl
  omega
theorem SP.cell {w0 w' : World} {g cap P : Nat} {box : Array Value} {M : Nat → Int} (h : SP w0 g cap P box M w') {j : Nat} (hj : j < P) : w'.cell? ⟨g, j, none⟩ = some (.int .i64 (M j)) := by
  have := (Gv.cell h.own).2.2.2.1 j (by rw [lst_len]; exact hj)
  rwa [lst_at P M hj] at this
theorem SP.fz {w0 w' : World} {g cap P : Nat} {box : Array Value} {M : Nat → Int} (h : SP w0 g cap P box M w') {j : Nat} (hj : j < P) : w'.frozen? ⟨g, j, none⟩ = false := (Gv.cell h.own).2.2.2.2 j (by rw [lst_len]; exact hj)
theorem SP.grow {w0 w' w'' : World} {g cap P : Nat} {box : Array Value} {M : Nat → Int} (h : SP w0 g cap P box M w') (hb : Below w'.heap.size w' w'') : SP w0 g cap P box M w'' :=
  ⟨h.bel.trans (hb.mono h.bel.size), h.box.below hb h.box.sz, own_block h.own fun k hk => hb.block k (h.own.lt k hk).2⟩
theorem SP.set {w0 w' : World} {g cap P : Nat} {box : Array Value} {M : Nat → Int} (h : SP w0 g cap P box M w') (j : Nat) (hj : j < P) (x : Int) : SP w0 g cap P box (fun i => if i = j then x else M i) (w'.setCell ⟨g, j, none⟩ (.int .i64 x)) :=
  ⟨h.bel.setCell (p := ⟨g, j, none⟩) (Nat.le_of_lt h.gt.1) _, h.box.other (Nat.ne_of_lt h.gt.1) j _, by rw [← lst_set]; exact h.own.set j (by rw [lst_len]; exact hj) x⟩
theorem SP.congr {w0 w' : World} {g cap P : Nat} {box : Array Value} {M N : Nat → Int} (h : SP w0 g cap P box M w') (e : ∀ j, j < P → M j = N j) : SP w0 g cap P box N w' :=
  ⟨h.bel, h.box, by rw [← lst_congr e]; exact h.own⟩

/-- The groups gathered so far, and whether i is the first of its own. -/
def outL (P : Nat) (M : Nat → Int) (i : Nat) : List (List Int) := ((List.range i).filter (firstOf P M)).map fun i => grp P M (M i)
theorem outL_succ (P : Nat) (M : Nat → Int) (i : Nat) : outL P M (i + 1) = if firstOf P M i = true then outL P M i ++ [grp P M (M i)] else outL P M i := by
  unfold outL
  rw [List.range_succ, List.filter_append, List.map_append]
  by_cases h : firstOf P M i = true
  · rw [if_pos h]; simp [h]
  · rw [if_neg h]; simp [h]
theorem outL_len (P : Nat) (M : Nat → Int) (i : Nat) : (outL P M i).length ≤ i := by
  unfold outL
  rw [List.length_map]
  exact Nat.le_trans (List.length_filter_le _ _) (by simp)
def fstU (M : Nat → Int) (i kk : Nat) : Bool := (List.range kk).all fun k => !decide (M k = M i) || decide (i ≤ k)
theorem fstU_succ (M : Nat → Int) (i kk : Nat) : fstU M i (kk + 1) = (fstU M i kk && (!decide (M kk = M i) || decide (i ≤ kk))) := by
  unfold fstU
  rw [List.range_succ, List.all_append]
  simp
theorem plS_one (R : Nat → Int) (k : Nat) (M : Nat → Int) : plS R k 1 M = M := by
  funext j
  show mgS M (M (R (k * 9 + 1)).toNat) (M (R (k * 9 + 1 + 0)).toNat) j = M j
  unfold mgS
  rw [Nat.add_zero]
  by_cases e : M j = M (R (k * 9 + 1)).toNat
  · rw [if_pos e, e]
  · rw [if_neg e]

set_option maxRecDepth 20000 in
set_option maxHeartbeats 8000000 in
theorem specPartsOf_yes (P n cap : Nat) (ao : Option Addr) (R : Nat → Int) (w : World) (hn : n ≤ 1048576) (hr : Rd w 9 ao n R) (hok : skok (P : Int) n R = true) :
    Calls Tryd.prog 11 #[.agg #[.int .i64 (P : Int), .slice ao n cap]] w fun e w' => ∃ b cap hh, e = .returned (.tuple #[.slice (some ⟨b, 0, none⟩) (groupsS P (labS R n)).length cap, .bool true]) ∧ LL w' w.heap.size (some ⟨b, 0, none⟩) (groupsS P (labS R n)).length (fun j => (groupsS P (labS R n)).getD j []) b hh ∧ Below w.heap.size w w' := by
  have hP : 1 ≤ P ∧ P ≤ 8 ∧ n ≤ 16 := by
    unfold skok at hok
    simp only [Bool.and_eq_true, decide_eq_true_eq] at hok
    omega
  have HOk : Hid (∀ k, k < n → rok (P : Int) R k = true) := by
    unfold skok at hok
    simp only [Bool.and_eq_true, List.all_eq_true, List.mem_range] at hok
    exact hok.2
  have HSk : Hid (skok (P : Int) n R = true) := hok
  have HV : Hid (Rd w 9 ao n R) := hr
  have HV0 : Hid (Rd (w.alloc (.cells #[.int .i64 (P : Int), .slice ao n cap] 29)) 9 ao n R) := Rd.below hr (Joins.below_alloc1 _ _) (Nat.le_refl _)
  obtain ⟨hP1, hP8, hn16⟩ := hP
  clear hr hok
  go_enter Tryd.func11, Tryd.ntmps11
  go_wp2_with fail
  refine (specSketchOk_any (P : Int) n cap ao R _ hn HV0.out).mono ?_
  rintro e w1 ⟨rfl, hb1⟩
  rw [HSk.out]
  have HBx : Hid (At w1 w.heap.size #[.int .i64 (P : Int), .slice ao n cap]) := cells2_at hb1
  have HB1 : Hid (Below w.heap.size w w1) := (Joins.below_alloc1 _ _).trans (hb1.mono (by simp))
  clear hb1 HV0
  go_wp2
  go_loopg [4, 5] P (fun gi p i wr => ∃ ii : Nat, ii ≤ P ∧ gi = P - ii ∧ i = .int .i64 (ii : Int) ∧ ∃ g cap1, p = .slice (some ⟨g, 0, none⟩) ii cap1 ∧ Hid (Gv wr (w.heap.size + 1) (.slice (some ⟨g, 0, none⟩) ii cap1) (lst ii fun j => (j : Int))) ∧ Hid (Below w.heap.size w wr) ∧ Hid (At wr w.heap.size #[.int .i64 (P : Int), .slice ao n cap]))
  case atStart =>
    refine ⟨0, Nat.zero_le _, rfl, rfl, w1.heap.size, 0, rfl, World.ownsRow_made (base := w.heap.size + 1) w1 #[] 0 HBx.out.sz (Nat.zero_le _) rfl, HB1.out.alloc HB1.out.size _, HBx.out.alloc _⟩
  case round =>
    clear HB1 HBx
    obtain ⟨ii, hi, hgi, rfl, g, cap1, rfl, HG, HB, HX⟩ := hrel
    have m0 := HX.out.c 0
    by_cases hiP : ii < P
    · have hiI : (ii : Int) < P := by omega
      have HOw : Hid (Gv (wr.alloc (.cells #[.int .i64 (ii : Int)] 2)) (w.heap.size + 1) (.slice (some ⟨g, 0, none⟩) ii cap1) (lst ii fun j => (j : Int))) := own_block HG.out fun k hk => (Joins.below_alloc1 wr _).block k (HG.out.lt k hk).2
      have HBa : Hid (Below w.heap.size w (wr.alloc (.cells #[.int .i64 (ii : Int)] 2))) := HB.out.alloc HB.out.size _
      have HXa : Hid (At (wr.alloc (.cells #[.int .i64 (ii : Int)] 2)) w.heap.size #[.int .i64 (P : Int), .slice ao n cap]) := HX.out.alloc _
      go_wp2_with (refine appendI _ rfl (.tmp 30) (.tmp 32) rfl (w.heap.size + 1) (.slice (some ⟨g, 0, none⟩) ii cap1) (lst ii fun j => (j : Int)) rfl wr.heap.size 1 (ii : Int) rfl ?_ ?_ ?_ ?_ ?_)
      · exact HOw.out
      · go_simp
      · rw [lst_len]; omega
      · have := HXa.out.sz; omega
      intro g' cap' w7 hO7 hG7 hL7 hlt7
      rw [lst_len] at hO7
      rw [← lst_succ ii fun j => (j : Int)] at hO7
      have hlo : ∀ k, Value.ownBlock (.slice (some ⟨g, 0, none⟩) ii cap1) = some k → w.heap.size + 1 ≤ k := fun k hk => (HOw.out.lt k hk).1
      have HO7 : Hid (Gv w7 (w.heap.size + 1) (.slice (some ⟨g', 0, none⟩) (ii + 1) cap') (lst (ii + 1) fun j => (j : Int))) := hO7
      have HB7 : Hid (Below w.heap.size w w7) := below_grown HBa.out hG7 (fun k hk => by have := hlo k hk; omega) HBa.out.size
      have HX7 : Hid (At w7 w.heap.size #[.int .i64 (P : Int), .slice ao n cap]) := by
        have hk : w7.heap[w.heap.size]? = (wr.alloc (.cells #[.int .i64 (ii : Int)] 2)).heap[w.heap.size]? := hG7.block _ HXa.out.sz (fun e => by have := hlo _ e.symm; omega)
        exact ⟨fun j => (World.cell?_of_block (a := ⟨w.heap.size, j, none⟩) hk).trans (HXa.out.c j), fun j => (World.frozen?_of_block (a := ⟨w.heap.size, j, none⟩) hk).trans (HXa.out.fz j), Nat.lt_of_lt_of_le HXa.out.sz hG7.size⟩
      clear hO7 hG7 hL7 hlt7 HOw HBa HXa HG HB HX hlo m0
      rw [lst_len]
      go_wp2
      go_roundg (P - (ii + 1))
      case measure => omega
      case rel => exact ⟨ii + 1, by omega, rfl, by simp, g', cap', rfl, HO7, HB7, HX7⟩
    · have HS : Hid (SP w g cap1 P #[.int .i64 (P : Int), .slice ao n cap] (labS R 0) wr) := by
        have eP : ii = P := by omega
        have h := HG.out
        rw [eP] at h
        exact ⟨HB.out, HX.out, h⟩
      have eP2 : Hid (ii = P) := (show ii = P by omega)
      have hiI : ¬ (ii : Int) < P := by omega
      go_wp2
      clear m0
      rw [eP2.out]
      go_loopg [6] n (fun gk i wr => ∃ k : Nat, k ≤ n ∧ gk = n - k ∧ i = .int .i64 k ∧ Hid (SP w g cap1 P #[.int .i64 (P : Int), .slice ao n cap] (labS R k) wr))
      case atStart => exact ⟨0, Nat.zero_le _, rfl, rfl, HS⟩
      case round =>
        clear HS
        obtain ⟨k, hk, hgk, rfl, HS⟩ := hrel
        rename World => wk
        have m1 := HS.out.box.c 1
        by_cases hlt : k < n
        · obtain ⟨b, off, rfl, hbw, hcell⟩ := (Rd.below HV.out HS.out.bel (Nat.le_refl _)) (by omega)
          have c0 : wk.cell? ⟨b, off + k * 9, none⟩ = some (.int .i64 (R (k * 9))) := hcell (k * 9) (by omega)
          have c1 : wk.cell? ⟨b, off + k * 9 + 1, none⟩ = some (.int .i64 (R (k * 9 + 1))) := hcell (k * 9 + 1) (by omega)
          have c2 : wk.cell? ⟨b, off + k * 9 + 2, none⟩ = some (.int .i64 (R (k * 9 + 2))) := hcell (k * 9 + 2) (by omega)
          have c3 : wk.cell? ⟨b, off + k * 9 + 3, none⟩ = some (.int .i64 (R (k * 9 + 3))) := hcell (k * 9 + 3) (by omega)
          have c4 : wk.cell? ⟨b, off + k * 9 + 4, none⟩ = some (.int .i64 (R (k * 9 + 4))) := hcell (k * 9 + 4) (by omega)
          have c5 : wk.cell? ⟨b, off + k * 9 + 5, none⟩ = some (.int .i64 (R (k * 9 + 5))) := hcell (k * 9 + 5) (by omega)
          have c6 : wk.cell? ⟨b, off + k * 9 + 6, none⟩ = some (.int .i64 (R (k * 9 + 6))) := hcell (k * 9 + 6) (by omega)
          have c7 : wk.cell? ⟨b, off + k * 9 + 7, none⟩ = some (.int .i64 (R (k * 9 + 7))) := hcell (k * 9 + 7) (by omega)
          have c8 : wk.cell? ⟨b, off + k * 9 + 8, none⟩ = some (.int .i64 (R (k * 9 + 8))) := hcell (k * 9 + 8) (by omega)
          have HRk : Hid (rok (P : Int) R k = true) := HOk.out k hlt
          have hkk := rok_kind_of HRk.out
          obtain ⟨kn, hkn⟩ := Int.eq_ofNat_of_zero_le (show 0 ≤ R (k * 9) by omega)
          have HKn : Hid ((R (k * 9)).toNat = kn) := by unfold Hid; omega
          have hkn1 : 1 ≤ kn ∧ kn ≤ 11 := by omega
          have hnp := npl_pos hkn1.1 hkn1.2
          have hnm : Hid (∀ q, q < 4 → nm (R (k * 9)) q = decide (q < npl kn)) := fun q hq => by
            have e : R (k * 9) = (kn : Int) := hkn
            rw [e]
            exact npl_nm hkn1.1 hkn1.2 hq
          have HKd : Hid (isKind (R (k * 9))) := ⟨by omega, by omega⟩
          have HSa : Hid (SP w g cap1 P #[.int .i64 (P : Int), .slice (some ⟨b, off, none⟩) n cap] (labS R k) (wk.alloc (.cells #[.int .i64 (R (k * 9)), .int .i64 (R (k * 9 + 1)), .int .i64 (R (k * 9 + 2)), .int .i64 (R (k * 9 + 3)), .int .i64 (R (k * 9 + 4)), .int .i64 (R (k * 9 + 5)), .int .i64 (R (k * 9 + 6)), .int .i64 (R (k * 9 + 7)), .int .i64 (R (k * 9 + 8))] 56))) := HS.out.grow (Joins.below_alloc1 _ _)
          have HRu0 : Hid (At (wk.alloc (.cells #[.int .i64 (R (k * 9)), .int .i64 (R (k * 9 + 1)), .int .i64 (R (k * 9 + 2)), .int .i64 (R (k * 9 + 3)), .int .i64 (R (k * 9 + 4)), .int .i64 (R (k * 9 + 5)), .int .i64 (R (k * 9 + 6)), .int .i64 (R (k * 9 + 7)), .int .i64 (R (k * 9 + 8))] 56)) wk.heap.size #[.int .i64 (R (k * 9)), .int .i64 (R (k * 9 + 1)), .int .i64 (R (k * 9 + 2)), .int .i64 (R (k * 9 + 3)), .int .i64 (R (k * 9 + 4)), .int .i64 (R (k * 9 + 5)), .int .i64 (R (k * 9 + 6)), .int .i64 (R (k * 9 + 7)), .int .i64 (R (k * 9 + 8))]) := ⟨fun j => by go_simp, fun j => by go_simp, by simp⟩
          have hgl := HS.out.gt
          clear hcell hkk hkn
          go_wp2_with fail
          refine (l18Names_any (R (k * 9)) _).mono ?_
          rintro e w1 ⟨v, rfl, hnmv, hb1⟩
          obtain ⟨gn, rfl, hgn0, hrow⟩ : ∃ g', v = .slice (some ⟨g', 0, none⟩) 6 6 ∧ (wk.alloc (.cells #[.int .i64 (R (k * 9)), .int .i64 (R (k * 9 + 1)), .int .i64 (R (k * 9 + 2)), .int .i64 (R (k * 9 + 3)), .int .i64 (R (k * 9 + 4)), .int .i64 (R (k * 9 + 5)), .int .i64 (R (k * 9 + 6)), .int .i64 (R (k * 9 + 7)), .int .i64 (R (k * 9 + 8))] 56)).heap.size ≤ g' ∧ w1.rowIs g' 4 6 (fun j => .bool (nm (R (k * 9)) j)) := by
            rcases hnmv with ⟨_, h⟩ | ⟨h, _⟩
            · exact h
            · exact absurd HKd.out h
          have HS1 : Hid (SP w g cap1 P #[.int .i64 (P : Int), .slice (some ⟨b, off, none⟩) n cap] (labS R k) w1) := HSa.out.grow hb1
          have HRu1 : Hid (At w1 wk.heap.size #[.int .i64 (R (k * 9)), .int .i64 (R (k * 9 + 1)), .int .i64 (R (k * 9 + 2)), .int .i64 (R (k * 9 + 3)), .int .i64 (R (k * 9 + 4)), .int .i64 (R (k * 9 + 5)), .int .i64 (R (k * 9 + 6)), .int .i64 (R (k * 9 + 7)), .int .i64 (R (k * 9 + 8))]) := HRu0.out.below hb1 HRu0.out.sz
          have HNm1 : Hid (w1.rowIs gn 4 6 (fun j => .bool (nm (R (k * 9)) j))) := hrow
          have hge := HS1.out.gt
          have hw1 : wk.heap.size + 1 ≤ w1.heap.size := by have := hb1.size; simp at this; omega
          have hgn1 : wk.heap.size + 1 ≤ gn := by simp at hgn0; omega
          clear hb1 hrow HSa HRu0 HS c0 c1 c2 c3 c4 c5 c6 c7 c8 hbw m1 hgn0
          obtain ⟨q, _, _⟩ := HRu1.out
          have c1 := q 1
          have c2 := q 2
          have c3 := q 3
          have c4 := q 4
          clear q
          obtain ⟨ga, hga⟩ : ∃ x, x = w1.heap.size := ⟨_, rfl⟩
          have hne : Hid (wk.heap.size ≠ g ∧ gn ≠ g ∧ w1.heap.size ≠ g) := ⟨by omega, by omega, by omega⟩
          have HO : Hid (Below w1.heap.size w1 (w1.alloc (.cells #[.int .i64 (R (k * 9 + 1)), .int .i64 (R (k * 9 + 2)), .int .i64 (R (k * 9 + 3)), .int .i64 (R (k * 9 + 4))] 2))) := Joins.below_alloc1 _ _
          have HS : Hid (SP w g cap1 P #[.int .i64 (P : Int), .slice (some ⟨b, off, none⟩) n cap] (plS R k (min 1 (npl kn)) (labS R k)) (w1.alloc (.cells #[.int .i64 (R (k * 9 + 1)), .int .i64 (R (k * 9 + 2)), .int .i64 (R (k * 9 + 3)), .int .i64 (R (k * 9 + 4))] 2))) := by
            rw [Nat.min_eq_left hnp, plS_one]
            exact HS1.out.grow HO.out
          have HRu : Hid (At (w1.alloc (.cells #[.int .i64 (R (k * 9 + 1)), .int .i64 (R (k * 9 + 2)), .int .i64 (R (k * 9 + 3)), .int .i64 (R (k * 9 + 4))] 2)) wk.heap.size #[.int .i64 (R (k * 9)), .int .i64 (R (k * 9 + 1)), .int .i64 (R (k * 9 + 2)), .int .i64 (R (k * 9 + 3)), .int .i64 (R (k * 9 + 4)), .int .i64 (R (k * 9 + 5)), .int .i64 (R (k * 9 + 6)), .int .i64 (R (k * 9 + 7)), .int .i64 (R (k * 9 + 8))]) := HRu1.out.below HO.out HRu1.out.sz
          have HNm : Hid ((w1.alloc (.cells #[.int .i64 (R (k * 9 + 1)), .int .i64 (R (k * 9 + 2)), .int .i64 (R (k * 9 + 3)), .int .i64 (R (k * 9 + 4))] 2)).rowIs gn 4 6 (fun j => .bool (nm (R (k * 9)) j))) := rowIs_below HNm1.out HO.out HNm1.out.lt
          have HAt : Hid ((w1.alloc (.cells #[.int .i64 (R (k * 9 + 1)), .int .i64 (R (k * 9 + 2)), .int .i64 (R (k * 9 + 3)), .int .i64 (R (k * 9 + 4))] 2)).rowIs w1.heap.size 2 4 (fun i => .int .i64 (pl (R (k * 9 + 1)) (R (k * 9 + 2)) (R (k * 9 + 3)) (R (k * 9 + 4)) i))) := row4 _ _ _ _ _ _
          clear HS1 HRu1 HNm1 HO hge hw1 hgn1 hgl hga ga
          go_wp2
          clear c1 c2 c3 c4
          generalize w1.heap.size = ga at hne HAt ⊢
          go_loopg [10] 3 (fun gq i wq => ∃ q : Nat, 1 ≤ q ∧ q ≤ 4 ∧ gq = 4 - q ∧ i = .int .i64 q ∧ Hid (SP w g cap1 P #[.int .i64 (P : Int), .slice (some ⟨b, off, none⟩) n cap] (plS R k (min q (npl kn)) (labS R k)) wq) ∧ Hid (At wq wk.heap.size #[.int .i64 (R (k * 9)), .int .i64 (R (k * 9 + 1)), .int .i64 (R (k * 9 + 2)), .int .i64 (R (k * 9 + 3)), .int .i64 (R (k * 9 + 4)), .int .i64 (R (k * 9 + 5)), .int .i64 (R (k * 9 + 6)), .int .i64 (R (k * 9 + 7)), .int .i64 (R (k * 9 + 8))]) ∧ Hid (wq.rowIs gn 4 6 (fun j => .bool (nm (R (k * 9)) j))) ∧ Hid (wq.rowIs ga 2 4 (fun i => .int .i64 (pl (R (k * 9 + 1)) (R (k * 9 + 2)) (R (k * 9 + 3)) (R (k * 9 + 4)) i))))
          case atStart => exact ⟨1, Nat.le_refl _, by omega, rfl, rfl, HS, HRu, HNm, HAt⟩
          case round =>
            clear HS HRu HNm HAt
            obtain ⟨q, hq1, hq, hgq, rfl, HS, HRu, HNm, HAt⟩ := hrel
            by_cases hq4 : q < 4
            · have hq5 : (q : Int) < 4 := by omega
              have hq6 : (q : Int) < 6 := by omega
              have cn := HNm.out.cell (i := q) (by omega)
              rw [hnm.out q hq4] at cn
              by_cases hqm : q < npl kn
              · have hp0 := rok_place (q := 0) HRk.out (by rw [HKn.out]; omega)
                have hpq := rok_place (q := q) HRk.out (by rw [HKn.out]; exact hqm)
                simp only [Nat.add_zero] at hp0
                obtain ⟨i0, iP⟩ := hp0
                obtain ⟨q0, qP⟩ := hpq
                rw [decide_eq_true hqm] at cn
                have cq := HAt.out.cell (i := q) (by omega)
                rw [show pl (R (k * 9 + 1)) (R (k * 9 + 2)) (R (k * 9 + 3)) (R (k * 9 + 4)) q = R (k * 9 + 1 + q) from pl_at R k q (by omega)] at cq
                have c1 := HRu.out.c 1
                have gi := HS.out.cell (j := (R (k * 9 + 1)).toNat) (by omega)
                have gq := HS.out.cell (j := (R (k * 9 + 1 + q)).toNat) (by omega)
                obtain ⟨x, hx⟩ : ∃ x, x = R (k * 9 + 1 + q) := ⟨_, rfl⟩
                obtain ⟨y, hy⟩ : ∃ y, y = R (k * 9 + 1) := ⟨_, rfl⟩
                obtain ⟨G, hG⟩ : ∃ G, G = plS R k (min q (npl kn)) (labS R k) := ⟨_, rfl⟩
                obtain ⟨tto, h1⟩ : ∃ o, o = G y.toNat := ⟨_, rfl⟩
                obtain ⟨frm, h2⟩ : ∃ o, o = G x.toNat := ⟨_, rfl⟩
                have HG : Hid (plS R k (min (q + 1) (npl kn)) (labS R k) = mgS G tto frm) := by
                  unfold Hid
                  rw [h1, h2, hG, hx, hy, Nat.min_eq_left (by omega), Nat.min_eq_left (by omega)]
                  rfl
                have HSg : Hid (SP w g cap1 P #[.int .i64 (P : Int), .slice (some ⟨b, off, none⟩) n cap] G wr) := by rw [hG]; exact HS
                rw [← hx] at q0 qP cq gq
                rw [← hy] at i0 iP gi
                rw [← hG] at gi gq
                rw [← h1] at gi
                rw [← h2] at gq
                have c1y : wr.cell? ⟨wk.heap.size, 1, none⟩ = some (.int .i64 y) := by rw [hy]; exact c1
                clear c1 hG h1 h2 HS hx hy
                go_upto_region 18 with (fail)
                go_quiet (fail)
                generalize hwd : wr.drewN _ = wd
                have hbd : Below wr.heap.size wr wd := by rw [← hwd]; exact Below.drewsN wr _
                have HS : Hid (SP w g cap1 P #[.int .i64 (P : Int), .slice (some ⟨b, off, none⟩) n cap] (fun i => if i < 0 then mgS G tto frm i else G i) wd) := (HSg.out.grow hbd).congr fun i _ => by rw [if_neg (Nat.not_lt_zero _)]
                have HRu1 : Hid (At wd wk.heap.size #[.int .i64 (R (k * 9)), .int .i64 (R (k * 9 + 1)), .int .i64 (R (k * 9 + 2)), .int .i64 (R (k * 9 + 3)), .int .i64 (R (k * 9 + 4)), .int .i64 (R (k * 9 + 5)), .int .i64 (R (k * 9 + 6)), .int .i64 (R (k * 9 + 7)), .int .i64 (R (k * 9 + 8))]) := HRu.out.below hbd HRu.out.sz
                have HNm1 : Hid (wd.rowIs gn 4 6 (fun j => .bool (nm (R (k * 9)) j))) := rowIs_below HNm.out hbd HNm.out.lt
                have HAt1 : Hid (wd.rowIs ga 2 4 (fun i => .int .i64 (pl (R (k * 9 + 1)) (R (k * 9 + 2)) (R (k * 9 + 3)) (R (k * 9 + 4)) i))) := rowIs_below HAt.out hbd HAt.out.lt
                clear hwd hbd HSg gi gq c1y cq cn HRu HNm HAt
                have HRu : Hid (At wd wk.heap.size #[.int .i64 (R (k * 9)), .int .i64 (R (k * 9 + 1)), .int .i64 (R (k * 9 + 2)), .int .i64 (R (k * 9 + 3)), .int .i64 (R (k * 9 + 4)), .int .i64 (R (k * 9 + 5)), .int .i64 (R (k * 9 + 6)), .int .i64 (R (k * 9 + 7)), .int .i64 (R (k * 9 + 8))]) := HRu1
                have HNm : Hid (wd.rowIs gn 4 6 (fun j => .bool (nm (R (k * 9)) j))) := HNm1
                have HAt : Hid (wd.rowIs ga 2 4 (fun i => .int .i64 (pl (R (k * 9 + 1)) (R (k * 9 + 2)) (R (k * 9 + 3)) (R (k * 9 + 4)) i))) := HAt1
                clear HRu1 HNm1 HAt1
                go_wp2
                go_loopg [13] P (fun gj i wj => ∃ j : Nat, j ≤ P ∧ gj = P - j ∧ i = .int .i64 j ∧ Hid (SP w g cap1 P #[.int .i64 (P : Int), .slice (some ⟨b, off, none⟩) n cap] (fun i => if i < j then mgS G tto frm i else G i) wj) ∧ Hid (At wj wk.heap.size #[.int .i64 (R (k * 9)), .int .i64 (R (k * 9 + 1)), .int .i64 (R (k * 9 + 2)), .int .i64 (R (k * 9 + 3)), .int .i64 (R (k * 9 + 4)), .int .i64 (R (k * 9 + 5)), .int .i64 (R (k * 9 + 6)), .int .i64 (R (k * 9 + 7)), .int .i64 (R (k * 9 + 8))]) ∧ Hid (wj.rowIs gn 4 6 (fun j => .bool (nm (R (k * 9)) j))) ∧ Hid (wj.rowIs ga 2 4 (fun i => .int .i64 (pl (R (k * 9 + 1)) (R (k * 9 + 2)) (R (k * 9 + 3)) (R (k * 9 + 4)) i))))
                case atStart => exact ⟨0, Nat.zero_le _, rfl, rfl, HS, HRu, HNm, HAt⟩
                case round =>
                  clear HS HRu HNm HAt
                  obtain ⟨j, hj, hgj, rfl, HS, HRu, HNm, HAt⟩ := hrel
                  by_cases hjP : j < P
                  · have cj := HS.out.cell hjP
                    have hfz := HS.out.fz hjP
                    rw [if_neg (Nat.lt_irrefl _)] at cj
                    have hjI : (j : Int) < P := by omega
                    by_cases ein : G j = frm
                    · have HN : Hid (SP w g cap1 P #[.int .i64 (P : Int), .slice (some ⟨b, off, none⟩) n cap] (fun i => if i < j + 1 then mgS G tto frm i else G i) (wr.setCell ⟨g, j, none⟩ (.int .i64 tto))) := (HS.out.set j hjP tto).congr fun i hi => by
                        by_cases e : i = j
                        · subst e
                          rw [if_pos rfl, if_pos (by omega)]
                          unfold mgS
                          rw [if_pos ein]
                        · rw [if_neg e]
                          by_cases hl : i < j
                          · rw [if_pos hl, if_pos (by omega)]
                          · rw [if_neg hl, if_neg (by omega)]
                      have HRu' : Hid (At (wr.setCell ⟨g, j, none⟩ (.int .i64 tto)) wk.heap.size #[.int .i64 (R (k * 9)), .int .i64 (R (k * 9 + 1)), .int .i64 (R (k * 9 + 2)), .int .i64 (R (k * 9 + 3)), .int .i64 (R (k * 9 + 4)), .int .i64 (R (k * 9 + 5)), .int .i64 (R (k * 9 + 6)), .int .i64 (R (k * 9 + 7)), .int .i64 (R (k * 9 + 8))]) := HRu.out.other hne.out.1 j _
                      have HNm' : Hid ((wr.setCell ⟨g, j, none⟩ (.int .i64 tto)).rowIs gn 4 6 (fun j => .bool (nm (R (k * 9)) j))) := rowIs_other HNm.out hne.out.2.1
                      have HAt' : Hid ((wr.setCell ⟨g, j, none⟩ (.int .i64 tto)).rowIs ga 2 4 (fun i => .int .i64 (pl (R (k * 9 + 1)) (R (k * 9 + 2)) (R (k * 9 + 3)) (R (k * 9 + 4)) i))) := rowIs_other HAt.out hne.out.2.2
                      have e1 : (G j == frm) = true := by simpa using ein
                      clear ein HS HRu HNm HAt
                      go_wp2
                      go_roundg (P - (j + 1))
                      case measure => omega
                      case rel => exact ⟨j + 1, by omega, rfl, by simp, HN, HRu', HNm', HAt'⟩
                    · have e1 : (G j == frm) = false := by simpa using ein
                      have HN : Hid (SP w g cap1 P #[.int .i64 (P : Int), .slice (some ⟨b, off, none⟩) n cap] (fun i => if i < j + 1 then mgS G tto frm i else G i) wr) := HS.out.congr fun i hi => by
                        by_cases e : i = j
                        · subst e
                          rw [if_neg (Nat.lt_irrefl _), if_pos (by omega)]
                          unfold mgS
                          rw [if_neg ein]
                        · by_cases hl : i < j
                          · rw [if_pos hl, if_pos (by omega)]
                          · rw [if_neg hl, if_neg (by omega)]
                      clear ein HS
                      go_wp2
                      go_roundg (P - (j + 1))
                      case measure => omega
                      case rel => exact ⟨j + 1, by omega, rfl, by simp, HN, HRu, HNm, HAt⟩
                  · have HN : Hid (SP w g cap1 P #[.int .i64 (P : Int), .slice (some ⟨b, off, none⟩) n cap] (plS R k (min (q + 1) (npl kn)) (labS R k)) wr) := HS.out.congr fun i hi => by
                      rw [if_pos (by omega)]
                      exact congrFun HG.out.symm i
                    go_wp2
                    go_roundg (4 - (q + 1))
                    case measure => omega
                    case rel => exact ⟨q + 1, by omega, by omega, rfl, by simp, HN, HRu, HNm, HAt⟩
              · rw [decide_eq_false hqm] at cn
                have HN : Hid (SP w g cap1 P #[.int .i64 (P : Int), .slice (some ⟨b, off, none⟩) n cap] (plS R k (min (q + 1) (npl kn)) (labS R k)) wr) := by
                  rw [Nat.min_eq_right (by omega)]
                  have h := HS.out
                  rw [Nat.min_eq_right (by omega)] at h
                  exact h
                go_wp2
                go_roundg (4 - (q + 1))
                case measure => omega
                case rel => exact ⟨q + 1, by omega, by omega, rfl, by simp, HN, HRu, HNm, HAt⟩
            · have HN : Hid (SP w g cap1 P #[.int .i64 (P : Int), .slice (some ⟨b, off, none⟩) n cap] (labS R (k + 1)) wr) := HS.out.congr fun i _ => by
                show _ = plS R k (npl (R (k * 9)).toNat) (labS R k) i
                rw [HKn.out, Nat.min_eq_right (by have := npl_le kn; omega)]
              have hq5 : ¬ (q : Int) < 4 := by omega
              go_wp2
              go_roundg (n - (k + 1))
              case measure => omega
              case rel => exact ⟨k + 1, by omega, rfl, by simp, HN⟩
        · have e : labS R k = labS R n := by rw [show k = n by omega]
          have HSn : Hid (SP w g cap1 P #[.int .i64 (P : Int), .slice ao n cap] (labS R n) wk) := by rw [← e]; exact HS
          have hkI : ¬ (k : Int) < n := by omega
          clear HS e
          obtain ⟨M, hM⟩ : ∃ M, M = labS R n := ⟨_, rfl⟩
          have HMe : Hid (labS R n = M) := hM.symm
          rw [← hM] at HSn
          clear hM
          have HSo : Hid (SP w g cap1 P #[.int .i64 (P : Int), .slice ao n cap] M (wk.alloc (.cells #[] 59))) := HSn.out.grow (Joins.below_alloc1 _ _)
          have HGo : Hid (GO (w.heap.size + 1) wk.heap.size 0 (outL P M 0) (fun _ => 0) (fun _ => 0) (wk.alloc (.cells #[] 59))) := ⟨World.ownsRow_made (base := w.heap.size + 1) wk #[] 0 (by have := HSn.out.box.sz; omega) (Nat.zero_le _) rfl, fun j hj => absurd hj (Nat.not_lt_zero _), fun i j hi => absurd hi (Nat.not_lt_zero _)⟩
          have hgn0 : Hid (g ≠ wk.heap.size) := Nat.ne_of_lt HSn.out.gt.2
          clear HSn
          go_wp2
          clear m1
          go_loopg [14, 15] P (fun gn o i wr => ∃ ii : Nat, ii ≤ P ∧ gn = P - ii ∧ i = .int .i64 (ii : Int) ∧ ∃ go co hh cc, o = .slice (some ⟨go, 0, none⟩) (outL P M ii).length co ∧ Hid (GO (w.heap.size + 1) go co (outL P M ii) hh cc wr) ∧ Hid (SP w g cap1 P #[.int .i64 (P : Int), .slice ao n cap] M wr) ∧ Hid (g ≠ go))
          case atStart => exact ⟨0, Nat.zero_le _, rfl, rfl, wk.heap.size, 0, _, _, rfl, HGo, HSo, hgn0⟩
          case round =>
            clear HGo HSo
            obtain ⟨ii, hi, hgn, rfl, go, co, hh, cc, rfl, HG, HS, hgne⟩ := hrel
            rename World => wi
            have m0 := HS.out.box.c 0
            by_cases hiP : ii < P
            · have hiI : (ii : Int) < P := by omega
              have HX : Hid (Gv (wi.alloc (.cells #[] 2)) wi.heap.size (.slice (some ⟨wi.heap.size, 0, none⟩) 0 0) (grp 0 M (M ii))) := World.ownsRow_made (base := wi.heap.size) wi #[] 0 (Nat.le_refl _) (Nat.zero_le _) rfl
              have HBi : Hid (Below wi.heap.size wi (wi.alloc (.cells #[] 2))) := Joins.below_alloc1 _ _
              go_wp2
              clear m0
              go_loopg [16, 17, 18] P (fun gk v f i wr => ∃ kk : Nat, kk ≤ P ∧ gk = P - kk ∧ i = .int .i64 (kk : Int) ∧ f = .bool (fstU M ii kk) ∧ ∃ gv cv, v = .slice (some ⟨gv, 0, none⟩) (grp kk M (M ii)).length cv ∧ Hid (Gv wr wi.heap.size (.slice (some ⟨gv, 0, none⟩) (grp kk M (M ii)).length cv) (grp kk M (M ii))) ∧ Hid (Below wi.heap.size wi wr))
              case atStart => exact ⟨0, Nat.zero_le _, rfl, rfl, rfl, wi.heap.size, 0, rfl, HX, HBi⟩
              case round =>
                clear HX HBi
                obtain ⟨kk, hk, hgk, rfl, rfl, gv, cv, rfl, HX, HB⟩ := hrel
                have HSr : Hid (SP w g cap1 P #[.int .i64 (P : Int), .slice ao n cap] M wr) := HS.out.grow HB.out
                have m0 := HSr.out.box.c 0
                by_cases hkP : kk < P
                · have hkI2 : (kk : Int) < P := by omega
                  have ck := HSr.out.cell hkP
                  have ci := HSr.out.cell hiP
                  by_cases em : M kk = M ii
                  · have em' : (M kk == M ii) = true := by simpa using em
                    have HGs : Hid (grp (kk + 1) M (M ii) = grp kk M (M ii) ++ [(kk : Int)]) := by unfold Hid; rw [grp_succ, if_pos em]
                    have HFs : Hid (fstU M ii (kk + 1) = (fstU M ii kk && decide (ii ≤ kk))) := by unfold Hid; rw [fstU_succ, decide_eq_true em]; simp
                    clear em
                    go_upto_region 33 with (fail)
                    go_quiet (fail)
                    generalize hwd : wr.drewN _ = wd
                    have hbd : Below wr.heap.size wr wd := by rw [← hwd]; exact Below.drewsN wr _
                    have HXd : Hid (Gv wd wi.heap.size (.slice (some ⟨gv, 0, none⟩) (grp kk M (M ii)).length cv) (grp kk M (M ii))) := own_block HX.out fun k hk => hbd.block k (HX.out.lt k hk).2
                    have HBd : Hid (Below wi.heap.size wi wd) := HB.out.trans (hbd.mono HB.out.size)
                    clear hwd hbd HX HB HSr ck ci m0
                    have HOw : Hid (Gv (wd.alloc (.cells #[.int .i64 (kk : Int)] 2)) wi.heap.size (.slice (some ⟨gv, 0, none⟩) (grp kk M (M ii)).length cv) (grp kk M (M ii))) := own_block HXd.out fun k hk => (Joins.below_alloc1 wd _).block k (HXd.out.lt k hk).2
                    have HBa : Hid (Below wi.heap.size wi (wd.alloc (.cells #[.int .i64 (kk : Int)] 2))) := HBd.out.alloc HBd.out.size _
                    have HLe : Hid ((grp kk M (M ii)).length ≤ 16) := Nat.le_trans (grp_len _ _ _) (by omega)
                    clear HXd HBd
                    go_wp2_with (refine appendI _ rfl (.tmp 118) (.tmp 120) rfl wi.heap.size (.slice (some ⟨gv, 0, none⟩) (grp kk M (M ii)).length cv) (grp kk M (M ii)) rfl wd.heap.size 1 (kk : Int) rfl ?_ ?_ ?_ ?_ ?_)
                    · exact HOw.out
                    · go_simp
                    · exact HLe.out
                    · exact HBa.out.size
                    intro g' cap' w7 hO7 hG7 hL7 hlt7
                    have HO7 : Hid (Gv w7 wi.heap.size (.slice (some ⟨g', 0, none⟩) (grp (kk + 1) M (M ii)).length cap') (grp (kk + 1) M (M ii))) := by
                      unfold Hid
                      rw [HGs.out, List.length_append]
                      exact hO7
                    have HB7 : Hid (Below wi.heap.size wi w7) := below_grown HBa.out hG7 (fun k hk => (HOw.out.lt k hk).1) HBa.out.size
                    have hL : (grp kk M (M ii)).length + 1 = (grp (kk + 1) M (M ii)).length := by rw [HGs.out, List.length_append]; rfl
                    rw [hL]
                    clear hO7 hG7 hL7 hlt7 HOw HBa hL
                    obtain ⟨f, hf⟩ : ∃ f, f = fstU M ii kk := ⟨_, rfl⟩
                    rw [← hf]
                    have HFs2 : Hid (fstU M ii (kk + 1) = (f && decide (ii ≤ kk))) := by unfold Hid; rw [hf]; exact HFs.out
                    clear hf HFs
                    cases f with
                    | true =>
                      by_cases hge : ii ≤ kk
                      · have HF3 : Hid (fstU M ii (kk + 1) = true) := by unfold Hid; rw [HFs2.out, decide_eq_true hge]; rfl
                        have hgeI : (ii : Int) ≤ kk := by omega
                        go_wp2
                        go_roundg (P - (kk + 1))
                        case measure => omega
                        case rel => exact ⟨kk + 1, by omega, rfl, by simp, by rw [HF3.out], g', cap', rfl, HO7, HB7⟩
                      · have HF3 : Hid (fstU M ii (kk + 1) = false) := by unfold Hid; rw [HFs2.out, decide_eq_false hge]; rfl
                        have hgeI : ¬ (ii : Int) ≤ kk := by omega
                        go_wp2
                        go_roundg (P - (kk + 1))
                        case measure => omega
                        case rel => exact ⟨kk + 1, by omega, rfl, by simp, by rw [HF3.out], g', cap', rfl, HO7, HB7⟩
                    | false =>
                      have HF3 : Hid (fstU M ii (kk + 1) = false) := by unfold Hid; rw [HFs2.out]; rfl
                      go_wp2
                      go_roundg (P - (kk + 1))
                      case measure => omega
                      case rel => exact ⟨kk + 1, by omega, rfl, by simp, by rw [HF3.out], g', cap', rfl, HO7, HB7⟩
                  · have em' : (M kk == M ii) = false := by simpa using em
                    have HGs : Hid (grp (kk + 1) M (M ii) = grp kk M (M ii)) := by unfold Hid; rw [grp_succ, if_neg em]
                    have HFs : Hid (fstU M ii (kk + 1) = fstU M ii kk) := by unfold Hid; rw [fstU_succ, decide_eq_false em]; simp
                    clear em
                    go_upto_region 33 with (fail)
                    go_quiet (fail)
                    generalize hwd : wr.drewN _ = wd
                    have hbd : Below wr.heap.size wr wd := by rw [← hwd]; exact Below.drewsN wr _
                    have HXd : Hid (Gv wd wi.heap.size (.slice (some ⟨gv, 0, none⟩) (grp kk M (M ii)).length cv) (grp kk M (M ii))) := own_block HX.out fun k hk => hbd.block k (HX.out.lt k hk).2
                    have HBd : Hid (Below wi.heap.size wi wd) := HB.out.trans (hbd.mono HB.out.size)
                    clear hwd hbd HX HB HSr ck ci m0
                    go_wp2
                    go_roundg (P - (kk + 1))
                    case measure => omega
                    case rel => exact ⟨kk + 1, by omega, rfl, by simp, by rw [HFs.out], gv, cv, by rw [HGs.out], by rw [HGs.out]; exact HXd, HBd⟩
                · have hkI2 : ¬ (kk : Int) < P := by omega
                  have ek : kk = P := by omega
                  have HXp : Hid (Gv wr wi.heap.size (.slice (some ⟨gv, 0, none⟩) (grp P M (M ii)).length cv) (grp P M (M ii))) := by
                    have h := HX.out
                    rw [ek] at h
                    exact h
                  have HGr : Hid (GO (w.heap.size + 1) go co (outL P M ii) hh cc wr) := HG.out.below HB.out
                  have hfs : fstU M ii kk = firstOf P M ii := by rw [ek]; rfl
                  have hgl : (grp kk M (M ii)).length = (grp P M (M ii)).length := by rw [ek]
                  have HLo : Hid ((outL P M ii).length ≤ 16) := Nat.le_trans (outL_len _ _ _) (by omega)
                  rw [hfs, hgl]
                  clear hfs hgl ek HX
                  have hwi : Hid (w.heap.size + 1 ≤ wi.heap.size) := HS.out.box.sz
                  obtain ⟨f, hf⟩ : ∃ f, f = firstOf P M ii := ⟨_, rfl⟩
                  rw [← hf]
                  have HF : Hid (firstOf P M ii = f) := hf.symm
                  clear hf
                  cases f with
                  | true =>
                    have HLs : Hid (outL P M (ii + 1) = outL P M ii ++ [grp P M (M ii)]) := by unfold Hid; rw [outL_succ, if_pos HF.out]
                    have HGa : Hid (GO (w.heap.size + 1) go co (outL P M ii) hh cc (wr.alloc (.cells #[.slice (some ⟨gv, 0, none⟩) (grp P M (M ii)).length cv] 59))) := HGr.out.below (Joins.below_alloc1 _ _)
                    have HXa : Hid (Gv (wr.alloc (.cells #[.slice (some ⟨gv, 0, none⟩) (grp P M (M ii)).length cv] 59)) wi.heap.size (.slice (some ⟨gv, 0, none⟩) (grp P M (M ii)).length cv) (grp P M (M ii))) := own_block HXp.out fun k hk => (Joins.below_alloc1 wr _).block k (HXp.out.lt k hk).2
                    have HSa : Hid (SP w g cap1 P #[.int .i64 (P : Int), .slice ao n cap] M (wr.alloc (.cells #[.slice (some ⟨gv, 0, none⟩) (grp P M (M ii)).length cv] 59))) := HSr.out.grow (Joins.below_alloc1 _ _)
                    clear HGr HXp HB
                    go_wp2_with (refine appendL _ rfl (.tmp 129) (.tmp 131) rfl (w.heap.size + 1) go (outL P M ii).length co (outV (outL P M ii) hh cc) rfl wr.heap.size 1 (.slice (some ⟨gv, 0, none⟩) (grp P M (M ii)).length cv) rfl ?_ ?_ rfl ?_ ?_ ?_)
                    · exact HGa.out.out
                    · exact HLo.out
                    · have h1 := HSr.out.bel.size
                      first
                        | exact h1
                        | (simp; omega)
                    intro g' cap' w7 hO7 hG7 hL7 hlt7
                    have hgv := (HXa.out.lt gv rfl).1
                    have hgo := HG.out.out.lt go rfl
                    have hstep := HGa.out.step gv cv (grp P M (M ii)) (by
                      have h := HXa.out
                      unfold Gv World.ownsRow at h ⊢
                      refine ⟨h.1, ?_⟩
                      rcases h.2 with h2 | ⟨g0, c0, cur, hv, hb0, hr⟩
                      · exact .inl h2
                      · exact .inr ⟨g0, c0, cur, hv, Nat.le_trans hwi.out hb0, hr⟩) ⟨by omega, fun j hj => by have := ((HG.out.own j hj).1.lt (hh j) rfl).2; omega⟩ g' cap' hO7 hG7 (by simpa using hL7)
                    have HGn : Hid (GO (w.heap.size + 1) g' cap' (outL P M (ii + 1)) (fun j => if j = (outL P M ii).length then gv else hh j) (fun j => if j = (outL P M ii).length then cv else cc j) w7) := by
                      unfold Hid
                      rw [HLs.out]
                      exact hstep
                    have HSn : Hid (SP w g cap1 P #[.int .i64 (P : Int), .slice ao n cap] M w7) := by
                      have hbk : ∀ k, k < (wr.alloc (.cells #[.slice (some ⟨gv, 0, none⟩) (grp P M (M ii)).length cv] 59)).heap.size → k ≠ go → w7.heap[k]? = (wr.alloc (.cells #[.slice (some ⟨gv, 0, none⟩) (grp P M (M ii)).length cv] 59)).heap[k]? := fun k hk hkg => hG7.block k hk (fun e => hkg (Option.some.inj e))
                      have hx := hbk _ HSa.out.box.sz (by omega)
                      exact ⟨below_grown HSa.out.bel hG7 (fun k hk => by have : go = k := Option.some.inj hk; omega) HSa.out.bel.size,
                        ⟨fun j => (World.cell?_of_block (a := ⟨w.heap.size, j, none⟩) hx).trans (HSa.out.box.c j), fun j => (World.frozen?_of_block (a := ⟨w.heap.size, j, none⟩) hx).trans (HSa.out.box.fz j), Nat.lt_of_lt_of_le HSa.out.box.sz hG7.size⟩,
                        own_block HSa.out.own fun k hk => hbk k (HSa.out.own.lt k hk).2 (fun e => hgne.out (by
                          have : g = k := by simpa [Value.ownBlock] using hk
                          exact this.trans e))⟩
                    have hgneN : Hid (g ≠ g') := by
                      have := HSr.out.gt
                      rcases hL7 with e | e
                      · rw [e]; exact hgne.out
                      · have h2 : g' = wr.heap.size + 1 := by simpa using e
                        exact Nat.ne_of_lt (by omega)
                    have hL : (outL P M ii).length + 1 = (outL P M (ii + 1)).length := by rw [HLs.out, List.length_append]; rfl
                    rw [hL]
                    clear hO7 hG7 hL7 hlt7 hstep hL
                    go_wp2
                    go_roundg (P - (ii + 1))
                    case measure => omega
                    case rel => exact ⟨ii + 1, by omega, rfl, by simp, g', cap', _, _, rfl, HGn, HSn, hgneN⟩
                  | false =>
                    have HLs : Hid (outL P M (ii + 1) = outL P M ii) := by unfold Hid; rw [outL_succ, if_neg (by rw [HF.out]; decide)]
                    go_wp2
                    go_roundg (P - (ii + 1))
                    case measure => omega
                    case rel => exact ⟨ii + 1, by omega, rfl, by simp, go, co, hh, cc, by rw [HLs.out], by rw [HLs.out]; exact HGr, HSr, hgne⟩
            · have hiI : ¬ (ii : Int) < P := by omega
              have eP : ii = P := by omega
              have hoL : (outL P M ii).length = (groupsS P M).length := by rw [eP]; rfl
              have HA : Hid (LL wi w.heap.size (some ⟨go, 0, none⟩) (groupsS P M).length (fun j => (groupsS P M).getD j []) go hh) := by
                have h := HG.out.answer (b0 := w.heap.size) (by omega)
                rw [eP] at h
                exact h
              rw [hoL]
              clear hoL eP
              go_wp2
              go_ret2
              exact ⟨go, ⟨co, by rw [HMe.out]; rfl⟩, ⟨hh, by rw [HMe.out]; exact HA.out⟩, HS.out.bel⟩
end Go.Proofs.YtgcgoehmgaokkaaDoor
