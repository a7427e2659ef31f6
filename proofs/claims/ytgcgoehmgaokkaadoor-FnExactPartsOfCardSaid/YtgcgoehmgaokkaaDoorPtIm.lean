import Derived.Test.YtgcgoehmgaokkaaDoorPtUp
import Derived.Test.YtgcgoehmgaokkaaDoorPtAns
import Derived.Test.YtgcgoehmgaokkaaDoorSkIm
import Derived.Deep.RegionWith
import Derived.BigQuiet
import Derived.Deep.CutRange
import Derived.Deep.LoopGhost
namespace Go.Proofs.YtgcgoehmgaokkaaDoor
open Go.RowKit

theorem rowIs_other {w : World} {b t n g j : Nat} {f : Nat → Value} {v : Value} (h : w.rowIs b t n f) (hg : b ≠ g) : (w.setCell ⟨g, j, none⟩ v).rowIs b t n f := h.setOther (a := ⟨g, j, none⟩) hg _

/-- The state of the program's merging: labels F in the row gl. -/
structure SI (w0 : World) (gl P : Nat) (box : Array Value) (F : Nat → Int) (w' : World) : Prop where
  bel : Below w0.heap.size w0 w'
  box : At w' w0.heap.size box
  row : w'.rowIs gl 2 P (fun j => .int .i64 (F j))
  gt : w0.heap.size < gl
theorem SI.grow {w0 w' w'' : World} {gl P : Nat} {box : Array Value} {F : Nat → Int} (h : SI w0 gl P box F w') (hb : Below w'.heap.size w' w'') : SI w0 gl P box F w'' :=
  ⟨h.bel.trans (hb.mono h.bel.size), h.box.below hb h.box.sz, rowIs_below h.row hb h.row.lt, h.gt⟩
theorem SI.set {w0 w' : World} {gl P : Nat} {box : Array Value} {F : Nat → Int} (h : SI w0 gl P box F w') (j : Nat) (x : Int) : SI w0 gl P box (fun i => if i = j then x else F i) (w'.setCell ⟨gl, j, none⟩ (.int .i64 x)) :=
  ⟨h.bel.setCell (p := ⟨gl, j, none⟩) (Nat.le_of_lt h.gt) _, h.box.other (Nat.ne_of_lt h.gt) j _, (h.row.set j _).congr fun i _ => by by_cases e : i = j <;> simp [e], h.gt⟩
theorem SI.congr {w0 w' : World} {gl P : Nat} {box : Array Value} {F G : Nat → Int} (h : SI w0 gl P box F w') (e : ∀ j, j < P → F j = G j) : SI w0 gl P box G w' :=
  ⟨h.bel, h.box, h.row.congr fun j hj => by rw [e j hj], h.gt⟩
theorem Below.drewN' {B : Nat} {w w' : World} (h : Below B w w') (n : Nat) : Below B w (w'.drewN n) := by
  induction n with
  | zero => exact h
  | succ n ih => exact ih.drew
theorem Below.drewsN (w : World) (n : Nat) : Below w.heap.size w (w.drewN n) := Below.drewN' (Below.refl _ _) n

/-- The labels behind q places of rule k, behind k rules. -/
def plI (R : Nat → Int) (k : Nat) : Nat → (Nat → Int) → Nat → Int
  | 0, F => F
  | q + 1, F => mgI (plI R k q F) (plI R k q F (R (k * 9 + 1)).toNat) (plI R k q F (R (k * 9 + 1 + q)).toNat)
def labI (R : Nat → Int) : Nat → Nat → Int
  | 0 => fun j => (j : Int)
  | k + 1 => plI R k (npl (R (k * 9)).toNat) (labI R k)

theorem rok_kind_of {p : Int} {R : Nat → Int} {k : Nat} (h : rok p R k = true) : 1 ≤ R (k * 9) ∧ R (k * 9) ≤ 11 := by
  unfold rok at h
  simp only [Bool.and_eq_true, decide_eq_true_eq] at h
  exact h.1.1.1
theorem npl_nm {k j : Nat} (h1 : 1 ≤ k) (h2 : k ≤ 11) (hj : j < 4) : nm (k : Int) j = decide (j < npl k) := by
  rw [nm_pos h1 h2 hj, npl_tab h2, Bool.eq_iff_iff, decide_eq_true_eq, decide_eq_true_eq]
  omega
theorem rok_place {p : Int} {R : Nat → Int} {k q : Nat} (h : rok p R k = true) (hq : q < npl (R (k * 9)).toNat) : 0 ≤ R (k * 9 + 1 + q) ∧ R (k * 9 + 1 + q) < p := by
  have hk := rok_kind_of h
  have hq4 : q < 4 := Nat.lt_of_lt_of_le hq (npl_le _)
  unfold rok at h
  simp only [Bool.and_eq_true, List.all_eq_true, List.mem_range] at h
  have hp := h.1.1.2 q hq4
  unfold pk at hp
  have e : R (k * 9) = ((R (k * 9)).toNat : Int) := by omega
  rw [e, npl_nm (by omega) (by omega) hq4, decide_eq_true hq] at hp
  simpa [posok] using hp
def plS (R : Nat → Int) (k : Nat) : Nat → (Nat → Int) → Nat → Int
  | 0, F => F
  | q + 1, F => mgS (plS R k q F) (plS R k q F (R (k * 9 + 1)).toNat) (plS R k q F (R (k * 9 + 1 + q)).toNat)
def labS (R : Nat → Int) : Nat → Nat → Int
  | 0 => fun j => (j : Int)
  | k + 1 => plS R k (npl (R (k * 9)).toNat) (labS R k)
theorem npl_pos {k : Nat} (h1 : 1 ≤ k) (h2 : k ≤ 11) : 1 ≤ npl k := by
  have hk : k = 1 ∨ k = 2 ∨ k = 3 ∨ k = 4 ∨ k = 5 ∨ k = 6 ∨ k = 7 ∨ k = 8 ∨ k = 9 ∨ k = 10 ∨ k = 11 := by omega
  rcases hk with rfl | rfl | rfl | rfl | rfl | rfl | rfl | rfl | rfl | rfl | rfl <;> decide
theorem same_pl {P : Nat} {R : Nat → Int} {k : Nat} (hr : rok (P : Int) R k = true) {F M : Nat → Int} (h : Same P F M) : ∀ q, q ≤ npl (R (k * 9)).toNat → Same P (plI R k q F) (plS R k q M)
  | 0, _ => h
  | q + 1, hq => by
    have hk := rok_kind_of hr
    have hp := npl_pos (k := (R (k * 9)).toNat) (by omega) (by omega)
    have h0 := rok_place (q := 0) hr (by omega)
    have hq' := rok_place (q := q) hr (by omega)
    simp only [Nat.add_zero] at h0
    exact (same_pl hr h q (by omega)).step (by omega) (by omega)
theorem same_lab {P n : Nat} {R : Nat → Int} (hr : ∀ k, k < n → rok (P : Int) R k = true) : ∀ k, k ≤ n → Same P (labI R k) (labS R k)
  | 0, _ => Same.start P
  | k + 1, hk => same_pl (hr k (by omega)) (same_lab hr k (by omega)) _ (Nat.le_refl _)

theorem infoList : (Tryd.prog.info? 59).map (fun i => (i.zero, i.size, i.bytes)) = some (some (.slice none 0 0), 1, 24) := by kernel_rfl
/-- make of a row of lists. -/
theorem run_make_lists (n : Nat) (hn : n ≤ 1048576) (w : World) :
    (Instr.makeSlice 33 (.int .i64 (n : Int)) (.int .i64 (n : Int))).run Tryd.prog w = .ok (.slice (some ⟨w.heap.size, 0, none⟩) n n) (w.alloc (.cells (madeCells #[.slice none 0 0] n) 59)) := by
  obtain ⟨i, hi, hzz⟩ := Option.map_eq_some_iff.1 infoList
  simp only [Prod.mk.injEq] at hzz
  obtain ⟨hz, hs, hb⟩ := hzz
  have hb' : (i.bytes : Int) * (n : Int) ≤ 281474976710656 := by rw [hb]; omega
  have hr := run_make (P := Tryd.prog) w 33 59 i (.slice none 0 0) Tryd.underlying33 hi hz .i64 .i64 n n (by omega) (Int.le_refl _) hb' (by omega)
  simp only [Int.toNat_natCast, hs, Value.cells, Nat.mul_one] at hr
  exact hr
theorem pl_at (R : Nat → Int) (k q : Nat) (h : q < 4) : pl (R (k * 9 + 1)) (R (k * 9 + 2)) (R (k * 9 + 3)) (R (k * 9 + 4)) q = R (k * 9 + 1 + q) := by
  match q, h with
  | 0, _ => rfl
  | 1, _ => rfl
  | 2, _ => rfl
  | 3, _ => rfl

set_option maxRecDepth 20000 in
set_option maxHeartbeats 8000000 in
theorem implPartsOf_yes (P n cap : Nat) (ao : Option Addr) (R : Nat → Int) (w : World) (hn : n ≤ 1048576) (hr : Rd w 9 ao n R) (ht : RTab w) (hok : skok (P : Int) n R = true) :
    Calls Tryd.prog 12 #[.agg #[.int .i64 (P : Int), .slice ao n cap]] w fun e w' => ∃ b cap hh, e = .returned (.tuple #[.slice (some ⟨b, 0, none⟩) (groups P (labI R n)).length cap, .bool true]) ∧ LL w' w.heap.size (some ⟨b, 0, none⟩) (groups P (labI R n)).length (fun j => (groups P (labI R n)).getD j []) b hh ∧ Below w.heap.size w w' := by
  have hP : 1 ≤ P ∧ P ≤ 8 ∧ n ≤ 16 := by
    unfold skok at hok
    simp only [Bool.and_eq_true, decide_eq_true_eq] at hok
    omega
  have HOk : Hid (∀ k, k < n → rok (P : Int) R k = true) := by
    unfold skok at hok
    simp only [Bool.and_eq_true, List.all_eq_true, List.mem_range] at hok
    exact hok.2
  have HSk : Hid (skok (P : Int) n R = true) := hok
  have HV : Hid (Rd w 9 ao n R) := hr
  have HV0 : Hid (Rd (w.alloc (.cells #[.int .i64 (P : Int), .slice ao n cap] 29)) 9 ao n R) := Rd.below hr (Joins.below_alloc1 _ _) (Nat.le_refl _)
  have HT : Hid (RTab w) := ht
  have HT0 : Hid (RTab (w.alloc (.cells #[.int .i64 (P : Int), .slice ao n cap] 29))) := ht.below (Joins.below_alloc1 _ _)
  obtain ⟨hP1, hP8, hn16⟩ := hP
  clear hr ht hok
  go_enter Tryd.func12, Tryd.ntmps12
  go_wp2_with fail
  refine (implSketchOk (P : Int) n cap ao R _ hn HV0.out HT0.out).mono ?_
  rintro e w1 ⟨rfl, hb1⟩
  rw [HSk.out]
  have HBx : Hid (At w1 w.heap.size #[.int .i64 (P : Int), .slice ao n cap]) := cells2_at hb1
  have HB1 : Hid (Below w.heap.size w w1) := (Joins.below_alloc1 _ _).trans (hb1.mono (by simp))
  clear hb1 HV0 HT0
  have m0 := HBx.out.c 0
  have m1 := HBx.out.c 1
  go_wp2_with fail
  refine (upTo_any P (by omega) _).mono ?_
  rintro e w2 ⟨gl, rfl, hgl, hrow, hb2⟩
  have HS : Hid (SI w gl P #[.int .i64 (P : Int), .slice ao n cap] (labI R 0) w2) := ⟨HB1.out.trans (hb2.mono HB1.out.size), HBx.out.below hb2 HBx.out.sz, hrow, Nat.lt_of_lt_of_le HBx.out.sz hgl⟩
  clear hb2 hrow hgl HB1 HBx m0 m1
  have m0 := HS.out.box.c 0
  have m1 := HS.out.box.c 1
  go_wp2
  clear m0 m1
  go_loopg [25] n (fun gk i wr => ∃ k : Nat, k ≤ n ∧ gk = n - k ∧ i = .int .i64 k ∧ Hid (SI w gl P #[.int .i64 (P : Int), .slice ao n cap] (labI R k) wr))
  case atStart => exact ⟨0, Nat.zero_le _, rfl, rfl, HS⟩
  case round =>
    clear HS
    obtain ⟨k, hk, hgk, rfl, HS⟩ := hrel
    rename World => wk
    by_cases hlt : k < n
    · obtain ⟨b, off, rfl, hbw, hcell⟩ := (Rd.below HV.out HS.out.bel (Nat.le_refl _)) (by omega)
      have c0 : wk.cell? ⟨b, off + k * 9, none⟩ = some (.int .i64 (R (k * 9))) := hcell (k * 9) (by omega)
      have c1 : wk.cell? ⟨b, off + k * 9 + 1, none⟩ = some (.int .i64 (R (k * 9 + 1))) := hcell (k * 9 + 1) (by omega)
      have c2 : wk.cell? ⟨b, off + k * 9 + 2, none⟩ = some (.int .i64 (R (k * 9 + 2))) := hcell (k * 9 + 2) (by omega)
      have c3 : wk.cell? ⟨b, off + k * 9 + 3, none⟩ = some (.int .i64 (R (k * 9 + 3))) := hcell (k * 9 + 3) (by omega)
      have c4 : wk.cell? ⟨b, off + k * 9 + 4, none⟩ = some (.int .i64 (R (k * 9 + 4))) := hcell (k * 9 + 4) (by omega)
      have c5 : wk.cell? ⟨b, off + k * 9 + 5, none⟩ = some (.int .i64 (R (k * 9 + 5))) := hcell (k * 9 + 5) (by omega)
      have c6 : wk.cell? ⟨b, off + k * 9 + 6, none⟩ = some (.int .i64 (R (k * 9 + 6))) := hcell (k * 9 + 6) (by omega)
      have c7 : wk.cell? ⟨b, off + k * 9 + 7, none⟩ = some (.int .i64 (R (k * 9 + 7))) := hcell (k * 9 + 7) (by omega)
      have c8 : wk.cell? ⟨b, off + k * 9 + 8, none⟩ = some (.int .i64 (R (k * 9 + 8))) := hcell (k * 9 + 8) (by omega)
      have HRk : Hid (rok (P : Int) R k = true) := HOk.out k hlt
      have hkk := rok_kind_of HRk.out
      obtain ⟨kn, hkn⟩ := Int.eq_ofNat_of_zero_le (show 0 ≤ R (k * 9) by omega)
      have HKn : Hid ((R (k * 9)).toNat = kn) := by unfold Hid; omega
      have hkn1 : 1 ≤ kn ∧ kn ≤ 11 := by omega
      have hnp := npl_pos hkn1.1 hkn1.2
      have HSa : Hid (SI w gl P #[.int .i64 (P : Int), .slice (some ⟨b, off, none⟩) n cap] (labI R k) (wk.alloc (.cells #[.int .i64 (R (k * 9)), .int .i64 (R (k * 9 + 1)), .int .i64 (R (k * 9 + 2)), .int .i64 (R (k * 9 + 3)), .int .i64 (R (k * 9 + 4)), .int .i64 (R (k * 9 + 5)), .int .i64 (R (k * 9 + 6)), .int .i64 (R (k * 9 + 7)), .int .i64 (R (k * 9 + 8))] 56))) := HS.out.grow (Joins.below_alloc1 _ _)
      have HRu0 : Hid (At (wk.alloc (.cells #[.int .i64 (R (k * 9)), .int .i64 (R (k * 9 + 1)), .int .i64 (R (k * 9 + 2)), .int .i64 (R (k * 9 + 3)), .int .i64 (R (k * 9 + 4)), .int .i64 (R (k * 9 + 5)), .int .i64 (R (k * 9 + 6)), .int .i64 (R (k * 9 + 7)), .int .i64 (R (k * 9 + 8))] 56)) wk.heap.size #[.int .i64 (R (k * 9)), .int .i64 (R (k * 9 + 1)), .int .i64 (R (k * 9 + 2)), .int .i64 (R (k * 9 + 3)), .int .i64 (R (k * 9 + 4)), .int .i64 (R (k * 9 + 5)), .int .i64 (R (k * 9 + 6)), .int .i64 (R (k * 9 + 7)), .int .i64 (R (k * 9 + 8))]) := ⟨fun j => by go_simp, fun j => by go_simp, by simp⟩
      have hrb : Hid (wk.heap.size ≠ gl) := Nat.ne_of_gt HS.out.row.lt
      have HTa : Hid (RTab (wk.alloc (.cells #[.int .i64 (R (k * 9)), .int .i64 (R (k * 9 + 1)), .int .i64 (R (k * 9 + 2)), .int .i64 (R (k * 9 + 3)), .int .i64 (R (k * 9 + 4)), .int .i64 (R (k * 9 + 5)), .int .i64 (R (k * 9 + 6)), .int .i64 (R (k * 9 + 7)), .int .i64 (R (k * 9 + 8))] 56))) := (HT.out.below HS.out.bel).below (Joins.below_alloc1 _ _)
      have HPc : Hid (∀ (W : World), RTab W → Calls Tryd.prog 32 #[.agg #[.int .i64 (R (k * 9)), .int .i64 (R (k * 9 + 1)), .int .i64 (R (k * 9 + 2)), .int .i64 (R (k * 9 + 3)), .int .i64 (R (k * 9 + 4)), .int .i64 (R (k * 9 + 5)), .int .i64 (R (k * 9 + 6)), .int .i64 (R (k * 9 + 7)), .int .i64 (R (k * 9 + 8))]] W fun e w' => ∃ g, e = .returned (.slice (some ⟨g, 0, none⟩) (npl kn) 4) ∧ W.heap.size ≤ g ∧ w'.rowIs g 2 4 (fun j => .int .i64 (pl (R (k * 9 + 1)) (R (k * 9 + 2)) (R (k * 9 + 3)) (R (k * 9 + 4)) j)) ∧ Below W.heap.size W w') := fun W hW => by
        rw [hkn]
        exact places_any kn _ _ _ _ _ _ _ _ W hkn1.2 hW
      clear hcell hkk hkn
      go_wp2_with fail
      refine (HPc.out _ HTa.out).mono ?_
      rintro e w1 ⟨gp, rfl, hgp0, HPl, hb1⟩
      have HS1 : Hid (SI w gl P #[.int .i64 (P : Int), .slice (some ⟨b, off, none⟩) n cap] (labI R k) w1) := HSa.out.grow hb1
      have HRu : Hid (At w1 wk.heap.size #[.int .i64 (R (k * 9)), .int .i64 (R (k * 9 + 1)), .int .i64 (R (k * 9 + 2)), .int .i64 (R (k * 9 + 3)), .int .i64 (R (k * 9 + 4)), .int .i64 (R (k * 9 + 5)), .int .i64 (R (k * 9 + 6)), .int .i64 (R (k * 9 + 7)), .int .i64 (R (k * 9 + 8))]) := HRu0.out.below hb1 HRu0.out.sz
      have hgp : Hid (gp ≠ gl) := by have := HSa.out.row.lt; exact Nat.ne_of_gt (Nat.lt_of_lt_of_le this hgp0)
      have HPl : Hid (w1.rowIs gp 2 4 (fun i => .int .i64 (pl (R (k * 9 + 1)) (R (k * 9 + 2)) (R (k * 9 + 3)) (R (k * 9 + 4)) i))) := HPl
      clear hb1 hgp0 HSa HRu0 HTa HPc HS c0 c1 c2 c3 c4 c5 c6 c7 c8 hbw
      have HS : Hid (SI w gl P #[.int .i64 (P : Int), .slice (some ⟨b, off, none⟩) n cap] (plI R k 0 (labI R k)) w1) := HS1
      clear HS1
      go_wp2
      go_loopg [32] (npl kn) (fun gq i wq => ∃ q : Nat, q ≤ npl kn ∧ gq = npl kn - q ∧ i = .int .i64 q ∧ Hid (SI w gl P #[.int .i64 (P : Int), .slice (some ⟨b, off, none⟩) n cap] (plI R k q (labI R k)) wq) ∧ Hid (At wq wk.heap.size #[.int .i64 (R (k * 9)), .int .i64 (R (k * 9 + 1)), .int .i64 (R (k * 9 + 2)), .int .i64 (R (k * 9 + 3)), .int .i64 (R (k * 9 + 4)), .int .i64 (R (k * 9 + 5)), .int .i64 (R (k * 9 + 6)), .int .i64 (R (k * 9 + 7)), .int .i64 (R (k * 9 + 8))]) ∧ Hid (wq.rowIs gp 2 4 (fun i => .int .i64 (pl (R (k * 9 + 1)) (R (k * 9 + 2)) (R (k * 9 + 3)) (R (k * 9 + 4)) i))))
      case atStart => exact ⟨0, Nat.zero_le _, rfl, rfl, HS, HRu, HPl⟩
      case round =>
        clear HS HRu HPl
        obtain ⟨q, hq, hgq, rfl, HS, HRu, HPl⟩ := hrel
        by_cases hqm : q < npl kn
        · have h4 := npl_le kn
          have hp0 := rok_place (q := 0) HRk.out (by rw [HKn.out]; omega)
          have hpq := rok_place (q := q) HRk.out (by rw [HKn.out]; exact hqm)
          simp only [Nat.add_zero] at hp0
          obtain ⟨i0, iP⟩ := hp0
          obtain ⟨q0, qP⟩ := hpq
          have cq := HPl.out.cell (i := q) (by omega)
          rw [show pl (R (k * 9 + 1)) (R (k * 9 + 2)) (R (k * 9 + 3)) (R (k * 9 + 4)) q = R (k * 9 + 1 + q) from pl_at R k q (by omega)] at cq
          have c1 := HRu.out.c 1
          have gi := HS.out.row.cell (i := (R (k * 9 + 1)).toNat) (by omega)
          have gq := HS.out.row.cell (i := (R (k * 9 + 1 + q)).toNat) (by omega)
          have hq5 : (q : Int) < npl kn := by omega
          obtain ⟨x, hx⟩ : ∃ x, x = R (k * 9 + 1 + q) := ⟨_, rfl⟩
          obtain ⟨y, hy⟩ : ∃ y, y = R (k * 9 + 1) := ⟨_, rfl⟩
          obtain ⟨G, hG⟩ : ∃ G, G = plI R k q (labI R k) := ⟨_, rfl⟩
          obtain ⟨one, h1⟩ : ∃ o, o = G y.toNat := ⟨_, rfl⟩
          obtain ⟨two, h2⟩ : ∃ o, o = G x.toNat := ⟨_, rfl⟩
          have HG : Hid (plI R k (q + 1) (labI R k) = mgI G one two) := by
            unfold Hid
            rw [h1, h2, hG, hx, hy]
            rfl
          have HSg : Hid (SI w gl P #[.int .i64 (P : Int), .slice (some ⟨b, off, none⟩) n cap] G wr) := by rw [hG]; exact HS
          rw [← hx] at q0 qP cq gq
          rw [← hy] at i0 iP gi
          rw [← hG] at gi gq
          rw [← h1] at gi
          rw [← h2] at gq
          have c1y : wr.cell? ⟨wk.heap.size, 1, none⟩ = some (.int .i64 y) := by rw [hy]; exact c1
          clear c1 hG h1 h2 HS hx hy
          go_upto_region 10 with (fail)
          go_quiet (fail)
          generalize hwd : wr.drewN _ = wd
          have hbd : Below wr.heap.size wr wd := by rw [← hwd]; exact Below.drewsN wr _
          have HS : Hid (SI w gl P #[.int .i64 (P : Int), .slice (some ⟨b, off, none⟩) n cap] (fun i => if i < 0 then mgI G one two i else G i) wd) := (HSg.out.grow hbd).congr fun i _ => by rw [if_neg (Nat.not_lt_zero _)]
          have HRu1 : Hid (At wd wk.heap.size #[.int .i64 (R (k * 9)), .int .i64 (R (k * 9 + 1)), .int .i64 (R (k * 9 + 2)), .int .i64 (R (k * 9 + 3)), .int .i64 (R (k * 9 + 4)), .int .i64 (R (k * 9 + 5)), .int .i64 (R (k * 9 + 6)), .int .i64 (R (k * 9 + 7)), .int .i64 (R (k * 9 + 8))]) := HRu.out.below hbd HRu.out.sz
          have HPl1 : Hid (wd.rowIs gp 2 4 (fun i => .int .i64 (pl (R (k * 9 + 1)) (R (k * 9 + 2)) (R (k * 9 + 3)) (R (k * 9 + 4)) i))) := rowIs_below HPl.out hbd HPl.out.lt
          clear hwd hbd HSg gi gq c1y cq HRu HPl
          have HRu : Hid (At wd wk.heap.size #[.int .i64 (R (k * 9)), .int .i64 (R (k * 9 + 1)), .int .i64 (R (k * 9 + 2)), .int .i64 (R (k * 9 + 3)), .int .i64 (R (k * 9 + 4)), .int .i64 (R (k * 9 + 5)), .int .i64 (R (k * 9 + 6)), .int .i64 (R (k * 9 + 7)), .int .i64 (R (k * 9 + 8))]) := HRu1
          have HPl : Hid (wd.rowIs gp 2 4 (fun i => .int .i64 (pl (R (k * 9 + 1)) (R (k * 9 + 2)) (R (k * 9 + 3)) (R (k * 9 + 4)) i))) := HPl1
          clear HRu1 HPl1
          go_wp2
          go_loopg [47] P (fun gj i wj => ∃ j : Nat, j ≤ P ∧ gj = P - j ∧ i = .int .i64 j ∧ Hid (SI w gl P #[.int .i64 (P : Int), .slice (some ⟨b, off, none⟩) n cap] (fun i => if i < j then mgI G one two i else G i) wj) ∧ Hid (At wj wk.heap.size #[.int .i64 (R (k * 9)), .int .i64 (R (k * 9 + 1)), .int .i64 (R (k * 9 + 2)), .int .i64 (R (k * 9 + 3)), .int .i64 (R (k * 9 + 4)), .int .i64 (R (k * 9 + 5)), .int .i64 (R (k * 9 + 6)), .int .i64 (R (k * 9 + 7)), .int .i64 (R (k * 9 + 8))]) ∧ Hid (wj.rowIs gp 2 4 (fun i => .int .i64 (pl (R (k * 9 + 1)) (R (k * 9 + 2)) (R (k * 9 + 3)) (R (k * 9 + 4)) i))))
          case atStart => exact ⟨0, Nat.zero_le _, rfl, rfl, HS, HRu, HPl⟩
          case round =>
            clear HS HRu HPl
            obtain ⟨j, hj, hgj, rfl, HS, HRu, HPl⟩ := hrel
            by_cases hjP : j < P
            · have cj := HS.out.row.cell (i := j) hjP
              have hfz := HS.out.row.frozen
              rw [if_neg (Nat.lt_irrefl _)] at cj
              have hjI : (j : Int) < P := by omega
              by_cases ein : G j = one ∨ G j = two
              · have HN : Hid (SI w gl P #[.int .i64 (P : Int), .slice (some ⟨b, off, none⟩) n cap] (fun i => if i < j + 1 then mgI G one two i else G i) (wr.setCell ⟨gl, j, none⟩ (.int .i64 (min one two)))) := (HS.out.set j (min one two)).congr fun i hi => by
                  by_cases e : i = j
                  · subst e
                    rw [if_pos rfl, if_pos (by omega), mgI_in ein]
                  · rw [if_neg e]
                    by_cases hl : i < j
                    · rw [if_pos hl, if_pos (by omega)]
                    · rw [if_neg hl, if_neg (by omega)]
                have HRu' : Hid (At (wr.setCell ⟨gl, j, none⟩ (.int .i64 (min one two))) wk.heap.size #[.int .i64 (R (k * 9)), .int .i64 (R (k * 9 + 1)), .int .i64 (R (k * 9 + 2)), .int .i64 (R (k * 9 + 3)), .int .i64 (R (k * 9 + 4)), .int .i64 (R (k * 9 + 5)), .int .i64 (R (k * 9 + 6)), .int .i64 (R (k * 9 + 7)), .int .i64 (R (k * 9 + 8))]) := HRu.out.other hrb.out j _
                have HPl' : Hid ((wr.setCell ⟨gl, j, none⟩ (.int .i64 (min one two))).rowIs gp 2 4 (fun i => .int .i64 (pl (R (k * 9 + 1)) (R (k * 9 + 2)) (R (k * 9 + 3)) (R (k * 9 + 4)) i))) := rowIs_other HPl.out hgp.out
                by_cases e1 : G j = one
                · have e1' : (G j == one) = true := by simpa using e1
                  clear ein e1 HS HRu HPl
                  go_wp2
                  all_goals
                    go_roundg (P - (j + 1))
                    case measure => omega
                    case rel =>
                      first
                        | (rw [show min one two = two by omega] at HN HRu' HPl'; exact ⟨j + 1, by omega, rfl, by simp, HN, HRu', HPl'⟩)
                        | (rw [show min one two = one by omega] at HN HRu' HPl'; exact ⟨j + 1, by omega, rfl, by simp, HN, HRu', HPl'⟩)
                · have e1' : (G j == one) = false := by simpa using e1
                  have e2' : (G j == two) = true := by simpa using ein.resolve_left e1
                  clear ein e1 HS HRu HPl
                  go_wp2
                  all_goals
                    go_roundg (P - (j + 1))
                    case measure => omega
                    case rel =>
                      first
                        | (rw [show min one two = two by omega] at HN HRu' HPl'; exact ⟨j + 1, by omega, rfl, by simp, HN, HRu', HPl'⟩)
                        | (rw [show min one two = one by omega] at HN HRu' HPl'; exact ⟨j + 1, by omega, rfl, by simp, HN, HRu', HPl'⟩)
              · have e1' : (G j == one) = false := by simpa using fun h => ein (Or.inl h)
                have e2' : (G j == two) = false := by simpa using fun h => ein (Or.inr h)
                have HN : Hid (SI w gl P #[.int .i64 (P : Int), .slice (some ⟨b, off, none⟩) n cap] (fun i => if i < j + 1 then mgI G one two i else G i) wr) := HS.out.congr fun i hi => by
                  by_cases e : i = j
                  · subst e
                    rw [if_neg (Nat.lt_irrefl _), if_pos (by omega), mgI_out ein]
                  · by_cases hl : i < j
                    · rw [if_pos hl, if_pos (by omega)]
                    · rw [if_neg hl, if_neg (by omega)]
                clear ein HS
                go_wp2
                go_roundg (P - (j + 1))
                case measure => omega
                case rel => exact ⟨j + 1, by omega, rfl, by simp, HN, HRu, HPl⟩
            · have HN : Hid (SI w gl P #[.int .i64 (P : Int), .slice (some ⟨b, off, none⟩) n cap] (plI R k (q + 1) (labI R k)) wr) := HS.out.congr fun i hi => by
                rw [if_pos (by omega)]
                exact congrFun HG.out.symm i
              go_wp2
              go_roundg (npl kn - (q + 1))
              case measure => omega
              case rel => exact ⟨q + 1, by omega, rfl, by simp, HN, HRu, HPl⟩
        · have HN : Hid (SI w gl P #[.int .i64 (P : Int), .slice (some ⟨b, off, none⟩) n cap] (labI R (k + 1)) wr) := HS.out.congr fun i _ => by
            show _ = plI R k (npl (R (k * 9)).toNat) (labI R k) i
            rw [HKn.out, show q = npl kn by omega]
          go_wp2
          go_roundg (n - (k + 1))
          case measure => omega
          case rel => exact ⟨k + 1, by omega, rfl, by simp, HN⟩
    · have e : labI R k = labI R n := by rw [show k = n by omega]
      have HSn : Hid (SI w gl P #[.int .i64 (P : Int), .slice ao n cap] (labI R n) wk) := by rw [← e]; exact HS
      have HLo : Hid (∀ x, x < P → 0 ≤ labI R n x ∧ labI R n x ≤ x) := (same_lab HOk.out n (Nat.le_refl _)).lo
      clear HS e
      obtain ⟨F, hF⟩ : ∃ F, F = labI R n := ⟨_, rfl⟩
      have HFe : Hid (labI R n = F) := hF.symm
      rw [← hF] at HSn HLo
      clear hF
      have m0 := HSn.out.box.c 0
      have hmk2 := run_make_lists P (by omega)
      have HG0 : Hid (GI wk.heap.size P (fun q => grp 0 F q) (fun _ => .slice none 0 0) (wk.alloc (.cells (madeCells #[.slice none 0 0] P) 59))) := ⟨World.rowIs_made _ _ _ _, fun q _ => World.ownsRow_nil _ _ _ _, fun _ _ _ _ _ _ h => by cases h⟩
      have HR0 : Hid ((wk.alloc (.cells (madeCells #[.slice none 0 0] P) 59)).rowIs gl 2 P (fun j => .int .i64 (F j))) := rowIs_below HSn.out.row (Joins.below_alloc1 _ _) HSn.out.row.lt
      have HB0 : Hid (Below w.heap.size w (wk.alloc (.cells (madeCells #[.slice none 0 0] P) 59))) := HSn.out.bel.alloc HSn.out.bel.size _
      have hgg : Hid (gl < wk.heap.size ∧ w.heap.size < gl) := ⟨HSn.out.row.lt, HSn.out.gt⟩
      clear HSn
      go_wp2
      clear hmk2 m0
      go_loopg [74] P (fun gn i wr => ∃ ii : Nat, ii ≤ P ∧ gn = P - ii ∧ i = .int .i64 (ii : Int) ∧ ∃ V, Hid (GI wk.heap.size P (fun q => grp ii F q) V wr) ∧ Hid (wr.rowIs gl 2 P (fun j => .int .i64 (F j))) ∧ Hid (Below w.heap.size w wr))
      case atStart => exact ⟨0, Nat.zero_le _, rfl, rfl, _, HG0, HR0, HB0⟩
      case round =>
        clear HG0 HR0 HB0
        obtain ⟨ii, hi, hgn, rfl, V, HG, HR, HB⟩ := hrel
        by_cases hiP : ii < P
        · have ci := HR.out.cell (i := ii) hiP
          obtain ⟨y0, y1⟩ := HLo.out ii hiP
          obtain ⟨y, hy⟩ := Int.eq_ofNat_of_zero_le y0
          have hyP : y < P := by omega
          have hyI : (y : Int) < P := by omega
          have hyi : F ii = (y : Int) := hy
          rw [hyi] at ci
          have HY : Hid (F ii = (y : Int)) := hyi
          have hiI : (ii : Int) < P := by omega
          have cy := HG.out.row.cell (i := y) hyP
          have HOw : Hid (Gv (wr.alloc (.cells #[.int .i64 (ii : Int)] 2)) (wk.heap.size + 1) (V y) (grp ii F y)) := (HG.out.below (Joins.below_alloc1 _ _)).own y hyP
          have HLe : Hid ((grp ii F y).length ≤ 16) := Nat.le_trans (grp_len _ _ _) (by omega)
          have HBs : Hid (wk.heap.size + 1 ≤ wr.heap.size) := HG.out.row.lt
          clear y0 y1 hy hyi
          obtain ⟨v, hv⟩ : ∃ v, v = V y := ⟨_, rfl⟩
          have HVy : Hid (V y = v) := hv.symm
          rw [← hv] at cy HOw
          clear hv
          have hone : ∃ a nn c, v = .slice a nn c := by
            rcases HOw.out.nil_or with ⟨e, _⟩ | ⟨g, cap, e⟩
            · exact ⟨_, _, _, e⟩
            · exact ⟨_, _, _, e⟩
          obtain ⟨va, vn, vc, rfl⟩ := hone
          go_wp2_with (refine appendI _ rfl (.tmp 84) (.tmp 86) rfl (wk.heap.size + 1) (.slice va vn vc) (grp ii F y) rfl wr.heap.size 1 (ii : Int) rfl ?_ ?_ ?_ ?_ ?_)
          · exact HOw.out
          · go_simp
          · exact HLe.out
          · have := HBs.out; simp; omega
          intro g' cap' w7 hO7 hG7 hL7 hlt7
          have HGa : Hid (GI wk.heap.size P (fun q => grp ii F q) V (wr.alloc (.cells #[.int .i64 (ii : Int)] 2))) := HG.out.below (Joins.below_alloc1 _ _)
          have hlo : ∀ k, (V y).ownBlock = some k → wk.heap.size + 1 ≤ k := fun k hk => ((HGa.out.own y hyP).lt k hk).1
          have hGV : (wr.alloc (.cells #[.int .i64 (ii : Int)] 2)).grownBy w7 (V y).ownBlock := by rw [HVy.out]; exact hG7
          have HGn := HGa.out.step y hyP (ii : Int) g' ((grp ii F y).length + 1) cap' hO7 hGV (by rw [HVy.out]; rcases hL7 with h | h; exact Or.inl h; exact Or.inr (by simpa using h))
          have HBn : Hid (Below w.heap.size w w7) := below_grown (HB.out.alloc HB.out.size _) hGV (fun k hk => by have := hlo k hk; have := hgg.out; omega) (by have := HB.out.size; simp; omega)
          have HRn : Hid (w7.rowIs gl 2 P (fun j => .int .i64 (F j))) := (rowIs_below HR.out (Joins.below_alloc1 _ _) HR.out.lt).of_block (hGV.block gl (by have := HR.out.lt; simp; omega) (fun e => by have := hlo gl e.symm; have := hgg.out; omega))
          have hrow7 : w7.rowIs wk.heap.size 59 P V := HGa.out.row.of_block (hGV.block _ HGa.out.row.lt (fun e => by have := hlo _ e.symm; omega))
          have c7 := hrow7.cell (i := y) hyP
          have f7 := hrow7.frozen
          have HGr : Hid (GI wk.heap.size P (fun q => grp (ii + 1) F q) (fun r => if r = y then .slice (some ⟨g', 0, none⟩) ((grp ii F y).length + 1) cap' else V r) (w7.setCell ⟨wk.heap.size, y, none⟩ (.slice (some ⟨g', 0, none⟩) ((grp ii F y).length + 1) cap'))) := by
            have eL : (fun q : Nat => grp (ii + 1) F q) = fun r : Nat => if r = y then grp ii F y ++ [(ii : Int)] else grp ii F r := funext fun r => by
              rw [grp_succ, HY.out]
              by_cases e : r = y
              · subst e; simp
              · rw [if_neg (fun h => e (by omega)), if_neg e]
            unfold Hid
            rw [eL]
            exact HGn
          clear hO7 hG7 hL7 hlt7 HGn HGa hlo hGV hrow7 HG HR HB HOw
          go_wp2
          go_roundg (P - (ii + 1))
          case measure => omega
          case rel => exact ⟨ii + 1, by omega, rfl, by simp, _, HGr, HRn.out.setOther (a := ⟨wk.heap.size, y, none⟩) (Nat.ne_of_lt hgg.out.1) _, HBn.out.setCell (p := ⟨wk.heap.size, y, none⟩) (by have := hgg.out; show w.heap.size ≤ wk.heap.size; omega) _⟩
        · have HGp : Hid (GI wk.heap.size P (fun q => grp P F q) V wr) := by
            have eP : ii = P := by omega
            have h := HG.out
            rw [eP] at h
            exact h
          have HVf : Hid (∀ q, q < P → ∃ a n c, V q = .slice a n c ∧ n ≤ 1048576) := fun q hq => by
            have hl := grp_len P F q
            rcases (HGp.out.own q hq).nil_or with ⟨e, _⟩ | ⟨g, cap, e⟩
            · exact ⟨_, _, _, e, by omega⟩
            · exact ⟨_, _, _, e, by omega⟩
          have hiI : ¬ (ii : Int) < P := by omega
          go_wp2_with fail
          refine (deleteFunc_any wk.heap.size P V _ hP8 HGp.out.row HVf.out).mono ?_
          rintro e w8 ⟨rfl, hk⟩
          obtain ⟨hh, hlen, hLL⟩ := HGp.out.answer hk (base := w.heap.size) (by have := hgg.out; omega)
          rw [hlen]
          have HLL : Hid (LL w8 w.heap.size (some ⟨wk.heap.size, 0, none⟩) (groups P F).length (fun j => (groups P F).getD j []) wk.heap.size hh) := hLL
          have HB8 : Hid (Below w.heap.size w w8) := HB.out.trans (hk.2.2.mono (by have := hgg.out; omega))
          clear hk hlen hLL
          go_wp2
          go_ret2
          exact ⟨_, _, hh, by rw [HFe.out]; rfl, by rw [HFe.out]; exact HLL.out, HB8.out⟩
end Go.Proofs.YtgcgoehmgaokkaaDoor
