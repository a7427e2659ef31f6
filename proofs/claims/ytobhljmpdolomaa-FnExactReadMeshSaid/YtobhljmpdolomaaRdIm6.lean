import Derived.Test.YtobhljmpdolomaaRdIm5
import Derived.Test.YtobhljmpdolomaaRdEq
namespace Go.Proofs.Ytobhljmpdolomaa
open Go.RowKit

/-- How a reading ends: what was told, in rows of the call's own. -/
def Out (L : List Int) (w : World) (e : Ending) (w' : World) : Prop := ∃ vo to cv ct, e = .returned (.tuple #[.agg #[.slice vo (readL L).nv cv, .slice to (readL L).nt ct], .int .i64 (readL L).code]) ∧ RdS w' 51 6 vo (readL L).nv (readL L).V ∧ RdS w' 53 3 to (readL L).nt (readL L).T ∧ (∀ g, vo = some ⟨g, 0, none⟩ → 0 < (readL L).nv → w.heap.size ≤ g) ∧ (∀ g, to = some ⟨g, 0, none⟩ → 0 < (readL L).nt → w.heap.size ≤ g) ∧ Below w.heap.size w w'
/-- What ReadMesh answers, the specification's or the program's. -/
def ReadAns (F : Nat) : Prop := ∀ (N : Nat) (ao : Option Addr) (L : List Int) (w : World), L.length = N → N ≤ 1048576 → (∀ b ∈ L, 0 ≤ b ∧ b < 256) → RdB w ao N L → Calls Try.prog F #[.slice ao N N] w (Out L w)
theorem ans_none {L : List Int} {c : Int} {w w' : World} (h : readL L = ⟨c, 0, 0, fun _ => 0, fun _ => 0⟩) (hb : Below w.heap.size w w') : Out L w (.returned (.tuple #[.agg #[.slice none 0 0, .slice none 0 0], .int .i64 c])) w' := by
  unfold Out
  rw [h]
  exact ⟨none, none, 0, 0, rfl, fun h => absurd h (Nat.lt_irrefl _), fun h => absurd h (Nat.lt_irrefl _), fun _ h => (by cases h), fun _ h => (by cases h), hb⟩
theorem bel_door {w w5 : World} {x y z : Value} (h : Below w.heap.size w w5) : Below w.heap.size w (((w5.setCell ⟨w.heap.size, 0, none⟩ x).setCell ⟨w.heap.size, 1, none⟩ y).setCell ⟨w.heap.size + 1, 0, none⟩ z) :=
  ((h.setCell (p := ⟨w.heap.size, 0, none⟩) (Nat.le_refl _) _).setCell (p := ⟨w.heap.size, 1, none⟩) (Nat.le_refl _) _).setCell (p := ⟨w.heap.size + 1, 0, none⟩) (Nat.le_succ _) _
theorem readL_magic {L : List Int} (h : magic L = false) : readL L = ⟨1, 0, 0, fun _ => 0, fun _ => 0⟩ := by
  have h' := of_decide_eq_false h
  unfold readL
  rw [if_pos]
  by_cases h1 : L.length < 3
  · exact Or.inl h1
  · by_cases h2 : L.getD 0 0 = 83
    · by_cases h3 : L.getD 1 0 = 77
      · exact Or.inr (Or.inr (Or.inr fun h4 => h' ⟨by omega, h2, h3, h4⟩))
      · exact Or.inr (Or.inr (Or.inl h3))
    · exact Or.inr (Or.inl h2)
theorem readL_more {L : List Int} (h : magic L = true) : readL L =
    if (mE L 3).1 ≠ 0 then ⟨(mE L 3).1, 0, 0, fun _ => 0, fun _ => 0⟩
    else if L.length < (mE L 3).2 + 2 then ⟨2, 0, 0, fun _ => 0, fun _ => 0⟩
    else if (mE L 3).2 + 2 < L.length ∨ meshok (mA L 3).2.1.toNat (mD L 3).2.1.toNat (rdVal L (mA L 3).2.2 (mA L 3).1) (rdVal L (mD L 3).2.2 (mD L 3).1) = false then ⟨3, 0, 0, fun _ => 0, fun _ => 0⟩
    else if sumTo (L.take (mE L 3).2) 0 ≠ L.getD (mE L 3).2 0 + 256 * L.getD ((mE L 3).2 + 1) 0 then ⟨4, 0, 0, fun _ => 0, fun _ => 0⟩
    else ⟨0, (mA L 3).2.1.toNat, (mD L 3).2.1.toNat, rdVal L (mA L 3).2.2 (mA L 3).1, rdVal L (mD L 3).2.2 (mD L 3).1⟩ := by
  have h' := of_decide_eq_true h
  unfold readL
  rw [if_neg]
  · rfl
  · rintro (h1 | h1 | h1 | h1)
    · omega
    · exact h1 h'.2.1
    · exact h1 h'.2.2.1
    · exact h1 h'.2.2.2

theorem set_door {w9 : World} {M C q : Nat} {x y z : Value} (h1 : q ≠ M) (h2 : q ≠ C) : (((w9.setCell ⟨M, 0, none⟩ x).setCell ⟨M, 1, none⟩ y).setCell ⟨C, 0, none⟩ z).heap[q]? = w9.heap[q]? := by
  rw [Deep.blk_setCell_other _ _ _ _ h2, Deep.blk_setCell_other _ _ _ _ h1, Deep.blk_setCell_other _ _ _ _ h1]
theorem ans_some {L : List Int} {w w' : World} {nv nt cv ct : Nat} {V T : Nat → Int} {av at' : Option Addr} (h : readL L = ⟨0, nv, nt, V, T⟩) (hv : RdS w' 51 6 av nv V) (ht : RdS w' 53 3 at' nt T) (fv : ∀ g, av = some ⟨g, 0, none⟩ → 0 < nv → w.heap.size ≤ g) (ft : ∀ g, at' = some ⟨g, 0, none⟩ → 0 < nt → w.heap.size ≤ g) (hb : Below w.heap.size w w') :
    Out L w (.returned (.tuple #[.agg #[.slice av nv cv, .slice at' nt ct], .int .i64 0])) w' := by
  unfold Out
  rw [h]
  exact ⟨av, at', cv, ct, rfl, hv, ht, fv, ft, hb⟩
theorem fl_of {w : World} {R : Nat} {s : Value} {f c : Int} (h : At w R #[s, .int .i64 f]) : Fl (w.setCell ⟨R, 1, none⟩ (.int .i64 c)) R c := by
  have c1 := h.c 1
  have f1 := h.fz 1
  exact ⟨by go_simp, by simpa using h.sz⟩
/-- A row of numbers is not the block of two bytes. -/
theorem own_x {w : World} {X t S n : Nat} {ao : Option Addr} {F : Nat → Int} {x y : Int} (hX : At w X #[.int .u8 x, .int .u8 y]) (h : RdS w t S ao n F) (q : Nat) (e : ao = some ⟨q, 0, none⟩) (h0 : 0 < n) (hS : 0 < S) (e2 : q = X) : False := by
  obtain ⟨q', c, f, e', hr, hc, hf⟩ := h h0
  rw [e] at e'
  simp only [Option.some.injEq, Addr.mk.injEq] at e'
  obtain ⟨rfl, _⟩ := e'
  subst e2
  have hpos : 0 < n * S := Nat.mul_pos h0 hS
  have k := hr.cell (i := 0) (by omega)
  rw [hf 0 hpos, hX.c 0] at k
  simp at k
abbrev Xs (X : Nat) (b c : Int) (w' : World) : Prop := (w'.cell? ⟨X, 0, none⟩ = some (.int .u8 b) ∧ w'.cell? ⟨X, 1, none⟩ = some (.int .u8 c)) ∧ X < w'.heap.size
theorem Xs.call {X : Nat} {b c : Int} {w' w1 : World} (h : Xs X b c w') (hb : Below w'.heap.size w' w1) : Xs X b c w1 :=
  ⟨⟨(hb.cell (p := ⟨X, 0, none⟩) h.2).trans h.1.1, (hb.cell (p := ⟨X, 1, none⟩) h.2).trans h.1.2⟩, Nat.lt_of_lt_of_le h.2 hb.size⟩
theorem Xs.drew {X : Nat} {b c : Int} {w' : World} (h : Xs X b c w') : Xs X b c w'.drew := h
theorem RdB.take {w : World} {ao : Option Addr} {N k : Nat} {L : List Int} (h : RdB w ao N L) (hk : k ≤ N) : RdB w ao k (L.take k) := fun h0 => by
  obtain ⟨g, c, f, e, hr, hc, hf⟩ := h (by omega)
  exact ⟨g, c, f, e, hr, by omega, fun j hj => by rw [hf j (by omega)]; simp [List.getD, hj]⟩

set_option maxRecDepth 8000 in
set_option maxHeartbeats 4000000 in
theorem implRead_magic (N : Nat) (ao : Option Addr) (L : List Int) (w : World) (hlen : L.length = N) (hN : N ≤ 1048576) (hby : ∀ b ∈ L, 0 ≤ b ∧ b < 256) (hrd : RdB w ao N L) (hm : magic L = false) : Calls Try.prog 19 #[.slice ao N N] w (Out L w) := by
  have hmf : ∀ (fn : Fn) (first cap : Array Value) (w : World), (Instr.makeFunc fn first cap).run Try.prog w = .ok (.func fn first cap) w := fun _ _ _ _ => rfl
  have hcv := Joins.run_convert_bytes_const_at (P := Try.prog) ((w.alloc (.cells #[.slice none 0 0, .slice none 0 0] 31)).alloc (.cells #[.int .i64 0] 2)) 35 5 #[.int .u8 83, .int .u8 77, .int .u8 1] 3 3 (w.heap.size + 1 + 1) (by simp) Try.underlying35 Try.underlying5
  have HY : Hid (∀ b ∈ L, 0 ≤ b ∧ b < 256) := hby
  have HL : Hid (L.length = N) := hlen
  have HM : Hid (magic L = false) := hm
  have HR3 : Hid (RdB (((w.alloc (.cells #[.slice none 0 0, .slice none 0 0] 31)).alloc (.cells #[.int .i64 0] 2)).alloc (.cells #[.int .u8 83, .int .u8 77, .int .u8 1] 5 (3, 4))) ao N L) := hrd.below (((Joins.below_alloc2 _ _ _)).alloc (by simp; omega) _) (Nat.le_refl _)
  have HB3 : Hid (Below w.heap.size w (((w.alloc (.cells #[.slice none 0 0, .slice none 0 0] 31)).alloc (.cells #[.int .i64 0] 2)).alloc (.cells #[.int .u8 83, .int .u8 77, .int .u8 1] 5 (3, 4)))) := (Joins.below_alloc2 _ _ _).alloc (by simp; omega) _
  have HD : Hid ((((w.alloc (.cells #[.slice none 0 0, .slice none 0 0] 31)).alloc (.cells #[.int .i64 0] 2)).alloc (.cells #[.int .u8 83, .int .u8 77, .int .u8 1] 5 (3, 4))).cell? ⟨w.heap.size + 1 + 1, 0, none⟩ = some (.int .u8 83) ∧ (((w.alloc (.cells #[.slice none 0 0, .slice none 0 0] 31)).alloc (.cells #[.int .i64 0] 2)).alloc (.cells #[.int .u8 83, .int .u8 77, .int .u8 1] 5 (3, 4))).cell? ⟨w.heap.size + 1 + 1, 1, none⟩ = some (.int .u8 77) ∧ (((w.alloc (.cells #[.slice none 0 0, .slice none 0 0] 31)).alloc (.cells #[.int .i64 0] 2)).alloc (.cells #[.int .u8 83, .int .u8 77, .int .u8 1] 5 (3, 4))).cell? ⟨w.heap.size + 1 + 1, 2, none⟩ = some (.int .u8 1)) := ⟨by rw [Joins.cell_alloc_mark_at _ _ _ _ _ _ (by simp)]; rfl, by rw [Joins.cell_alloc_mark_at _ _ _ _ _ _ (by simp)]; rfl, by rw [Joins.cell_alloc_mark_at _ _ _ _ _ _ (by simp)]; rfl⟩
  clear hlen hby hrd hm
  go_enter_defers Try.func19, Try.ntmps19
  go_wp2_with fail
  refine (hasPrefix_any N N (w.heap.size + 1 + 1) ao L false _ HM.out HL.out (Nat.le_refl _) hN HY.out HR3.out HD.out.1 HD.out.2.1 HD.out.2.2).mono ?_
  rintro e w3 ⟨rfl, rfl⟩
  clear hcv HD
  go_wp2
  exact ⟨.tuple #[.agg #[.slice none 0 0, .slice none 0 0], .int .i64 1], by simp [results, Try.results19, go_sem], ans_none (readL_magic HM.out) ((Joins.below_alloc2 _ _ _).alloc (by simp; omega) _)⟩

set_option maxRecDepth 8000 in
set_option maxHeartbeats 4000000 in
theorem implRead_three (ao : Option Addr) (L : List Int) (w : World) (hlen : L.length = 3) (hN : 3 ≤ 1048576) (hby : ∀ b ∈ L, 0 ≤ b ∧ b < 256) (hrd : RdB w ao 3 L) (hm : magic L = true) : Calls Try.prog 19 #[.slice ao 3 3] w (Out L w) := by
  have h2 : mE L 3 = (2, 3) := by
    have h : rdNum L 3 0 = (2, 0, 3) := by unfold rdNum; rw [if_pos rfl]; exact rdGo_short (by rw [hlen]; exact Nat.le_refl _)
    exact mE_of_A (v := 0) (by unfold mA rdCount; rw [h, if_neg (by decide)]) (by decide)
  obtain ⟨g, rfl, hg, _⟩ := hrd.cell (i := 0) (by omega)
  have HE2 : Hid (mE L 3 = (2, 3)) := h2
  have HE : Hid (readL L = ⟨2, 0, 0, fun _ => 0, fun _ => 0⟩) := by rw [readL_more hm, h2, if_pos (by decide)]; exact rfl
  have hmf : ∀ (fn : Fn) (first cap : Array Value) (w : World), (Instr.makeFunc fn first cap).run Try.prog w = .ok (.func fn first cap) w := fun _ _ _ _ => rfl
  have hcv := Joins.run_convert_bytes_const_at (P := Try.prog) ((w.alloc (.cells #[.slice none 0 0, .slice none 0 0] 31)).alloc (.cells #[.int .i64 0] 2)) 35 5 #[.int .u8 83, .int .u8 77, .int .u8 1] 3 3 (w.heap.size + 1 + 1) (by simp) Try.underlying35 Try.underlying5
  have HY : Hid (∀ b ∈ L, 0 ≤ b ∧ b < 256) := hby
  have HL : Hid (L.length = 3) := hlen
  have HM : Hid (magic L = true) := hm
  have HR3 : Hid (RdB (((w.alloc (.cells #[.slice none 0 0, .slice none 0 0] 31)).alloc (.cells #[.int .i64 0] 2)).alloc (.cells #[.int .u8 83, .int .u8 77, .int .u8 1] 5 (3, 4))) (some ⟨g, 0, none⟩) 3 L) := hrd.below (((Joins.below_alloc2 _ _ _)).alloc (by simp; omega) _) (Nat.le_refl _)
  have HB3 : Hid (Below w.heap.size w (((w.alloc (.cells #[.slice none 0 0, .slice none 0 0] 31)).alloc (.cells #[.int .i64 0] 2)).alloc (.cells #[.int .u8 83, .int .u8 77, .int .u8 1] 5 (3, 4)))) := (Joins.below_alloc2 _ _ _).alloc (by simp; omega) _
  have HD : Hid ((((w.alloc (.cells #[.slice none 0 0, .slice none 0 0] 31)).alloc (.cells #[.int .i64 0] 2)).alloc (.cells #[.int .u8 83, .int .u8 77, .int .u8 1] 5 (3, 4))).cell? ⟨w.heap.size + 1 + 1, 0, none⟩ = some (.int .u8 83) ∧ (((w.alloc (.cells #[.slice none 0 0, .slice none 0 0] 31)).alloc (.cells #[.int .i64 0] 2)).alloc (.cells #[.int .u8 83, .int .u8 77, .int .u8 1] 5 (3, 4))).cell? ⟨w.heap.size + 1 + 1, 1, none⟩ = some (.int .u8 77) ∧ (((w.alloc (.cells #[.slice none 0 0, .slice none 0 0] 31)).alloc (.cells #[.int .i64 0] 2)).alloc (.cells #[.int .u8 83, .int .u8 77, .int .u8 1] 5 (3, 4))).cell? ⟨w.heap.size + 1 + 1, 2, none⟩ = some (.int .u8 1)) := ⟨by rw [Joins.cell_alloc_mark_at _ _ _ _ _ _ (by simp)]; rfl, by rw [Joins.cell_alloc_mark_at _ _ _ _ _ _ (by simp)]; rfl, by rw [Joins.cell_alloc_mark_at _ _ _ _ _ _ (by simp)]; rfl⟩
  have HZ : Hid (g < w.heap.size) := hg
  have HF : Hid (Lf ((((w.alloc (.cells #[.slice none 0 0, .slice none 0 0] 31)).alloc (.cells #[.int .i64 0] 2)).alloc (.cells #[.int .u8 83, .int .u8 77, .int .u8 1] 5 (3, 4))).alloc (.cells #[.slice (some ⟨g, 0, none⟩) 0 0, .int .i64 0] 78)) (w.heap.size + 1 + 1 + 1) g 3 3 L) := ⟨⟨some ⟨g, 0, none⟩, 0, ⟨fun j => by go_simp, fun j => by go_simp, by simp⟩, Nat.le_refl _, fun h => absurd h (Nat.lt_irrefl _)⟩, HR3.out.below ((Below.refl _ _).alloc (Nat.le_refl _) _) (Nat.le_refl _), by have := HZ.out; omega, Nat.le_refl _⟩
  have HB4 : Hid (Below w.heap.size w ((((w.alloc (.cells #[.slice none 0 0, .slice none 0 0] 31)).alloc (.cells #[.int .i64 0] 2)).alloc (.cells #[.int .u8 83, .int .u8 77, .int .u8 1] 5 (3, 4))).alloc (.cells #[.slice (some ⟨g, 0, none⟩) 0 0, .int .i64 0] 78))) := HB3.out.alloc (by simp; omega) _
  have HMM : Hid (At ((((w.alloc (.cells #[.slice none 0 0, .slice none 0 0] 31)).alloc (.cells #[.int .i64 0] 2)).alloc (.cells #[.int .u8 83, .int .u8 77, .int .u8 1] 5 (3, 4))).alloc (.cells #[.slice (some ⟨g, 0, none⟩) 0 0, .int .i64 0] 78)) w.heap.size #[.slice none 0 0, .slice none 0 0]) := At.alloc (At.alloc (At.alloc ⟨fun j => by go_simp, fun j => by go_simp, by simp⟩ _) _) _
  have HCC : Hid (At ((((w.alloc (.cells #[.slice none 0 0, .slice none 0 0] 31)).alloc (.cells #[.int .i64 0] 2)).alloc (.cells #[.int .u8 83, .int .u8 77, .int .u8 1] 5 (3, 4))).alloc (.cells #[.slice (some ⟨g, 0, none⟩) 0 0, .int .i64 0] 78)) (w.heap.size + 1) #[.int .i64 0]) := At.alloc (At.alloc two_at _) _
  clear hlen hby hrd hm h2
  go_enter_defers Try.func19, Try.ntmps19
  go_wp2_with fail
  refine (hasPrefix_any 3 3 (w.heap.size + 1 + 1) (some ⟨g, 0, none⟩) L true _ HM.out HL.out (Nat.le_refl _) hN HY.out HR3.out HD.out.1 HD.out.2.1 HD.out.2.2).mono ?_
  rintro e w3 ⟨rfl, rfl⟩
  clear hcv HD
  go_wp2_with fail
  refine (meshI_any (w.heap.size + 1 + 1 + 1) g 3 3 L _ HL.out hN (by omega) HY.out HF.out).mono ?_
  rintro e w5 ⟨h, hg5⟩
  rw [HE2.out] at h
  rcases h with ⟨h0, _⟩ | ⟨_, rfl, hf5⟩
  · exact absurd h0 (by decide)
  have HB5 : Hid (Below w.heap.size w w5) := HB4.out.trans (grown_below hg5 (by simp; omega) (by omega))
  have HM5 : Hid (At w5 w.heap.size #[.slice none 0 0, .slice none 0 0]) := HMM.out.grown hg5 (by omega)
  have HC5 : Hid (At w5 (w.heap.size + 1) #[.int .i64 0]) := HCC.out.grown hg5 (by omega)
  have HF5 : Hid (Fl w5 (w.heap.size + 1 + 1 + 1) 2) := hf5
  clear hg5 hf5 HF HB4 HMM HCC
  go_wp2
  refine leaves_cons (f := 45) (args := #[.pointer (some ⟨(w.heap.size + 1 + 1 + 1), 0, none⟩), .pointer (some ⟨w.heap.size, 0, none⟩), .pointer (some ⟨(w.heap.size + 1), 0, none⟩)]) (by simp) (by simp [go_sem]) ?_
  refine (catch_panicking (w.heap.size + 1 + 1 + 1) w.heap.size (w.heap.size + 1) 2 2 (.slice none 0 0) (.slice none 0 0) (.int .i64 0) _ HF5.out.c1 HM5.out HC5.out (by omega) (by omega)).mono ?_
  rintro e u' w'' ⟨rfl, rfl, rfl⟩
  obtain ⟨m, mz, ms⟩ := HM5.out
  obtain ⟨k, kz, ks⟩ := HC5.out
  have m0 := m 0
  have m1 := m 1
  have k0 := k 0
  simp [Leaves, settle, results, Try.results19, go_sem, m0, m1, k0]
  exact ans_none HE.out (bel_door HB5.out)

set_option maxRecDepth 8000 in
set_option maxHeartbeats 8000000 in
theorem implRead_more (N : Nat) (ao : Option Addr) (L : List Int) (w : World) (hlen : L.length = N) (hN : N ≤ 1048576) (hby : ∀ b ∈ L, 0 ≤ b ∧ b < 256) (hrd : RdB w ao N L) (hm : magic L = true) (h3 : 3 < N) : Calls Try.prog 19 #[.slice ao N N] w (Out L w) := by
  obtain ⟨g, rfl, hg, _⟩ := hrd.cell (i := 0) (by omega)
  obtain ⟨ce, pe, he⟩ : ∃ c p, mE L 3 = (c, p) := ⟨_, _, rfl⟩
  have HEE : Hid (mE L 3 = (ce, pe)) := he
  have HRL := readL_more hm
  rw [he] at HRL
  have HRL : Hid _ := HRL
  have hmf : ∀ (fn : Fn) (first cap : Array Value) (w : World), (Instr.makeFunc fn first cap).run Try.prog w = .ok (.func fn first cap) w := fun _ _ _ _ => rfl
  have hcv := Joins.run_convert_bytes_const_at (P := Try.prog) ((w.alloc (.cells #[.slice none 0 0, .slice none 0 0] 31)).alloc (.cells #[.int .i64 0] 2)) 35 5 #[.int .u8 83, .int .u8 77, .int .u8 1] 3 3 (w.heap.size + 1 + 1) (by simp) Try.underlying35 Try.underlying5
  have HY : Hid (∀ b ∈ L, 0 ≤ b ∧ b < 256) := hby
  have HL : Hid (L.length = N) := hlen
  have HM : Hid (magic L = true) := hm
  have HR3 : Hid (RdB (((w.alloc (.cells #[.slice none 0 0, .slice none 0 0] 31)).alloc (.cells #[.int .i64 0] 2)).alloc (.cells #[.int .u8 83, .int .u8 77, .int .u8 1] 5 (3, 4))) (some ⟨g, 0, none⟩) N L) := hrd.below (((Joins.below_alloc2 _ _ _)).alloc (by simp; omega) _) (Nat.le_refl _)
  have HB3 : Hid (Below w.heap.size w (((w.alloc (.cells #[.slice none 0 0, .slice none 0 0] 31)).alloc (.cells #[.int .i64 0] 2)).alloc (.cells #[.int .u8 83, .int .u8 77, .int .u8 1] 5 (3, 4)))) := (Joins.below_alloc2 _ _ _).alloc (by simp; omega) _
  have HD : Hid ((((w.alloc (.cells #[.slice none 0 0, .slice none 0 0] 31)).alloc (.cells #[.int .i64 0] 2)).alloc (.cells #[.int .u8 83, .int .u8 77, .int .u8 1] 5 (3, 4))).cell? ⟨w.heap.size + 1 + 1, 0, none⟩ = some (.int .u8 83) ∧ (((w.alloc (.cells #[.slice none 0 0, .slice none 0 0] 31)).alloc (.cells #[.int .i64 0] 2)).alloc (.cells #[.int .u8 83, .int .u8 77, .int .u8 1] 5 (3, 4))).cell? ⟨w.heap.size + 1 + 1, 1, none⟩ = some (.int .u8 77) ∧ (((w.alloc (.cells #[.slice none 0 0, .slice none 0 0] 31)).alloc (.cells #[.int .i64 0] 2)).alloc (.cells #[.int .u8 83, .int .u8 77, .int .u8 1] 5 (3, 4))).cell? ⟨w.heap.size + 1 + 1, 2, none⟩ = some (.int .u8 1)) := ⟨by rw [Joins.cell_alloc_mark_at _ _ _ _ _ _ (by simp)]; rfl, by rw [Joins.cell_alloc_mark_at _ _ _ _ _ _ (by simp)]; rfl, by rw [Joins.cell_alloc_mark_at _ _ _ _ _ _ (by simp)]; rfl⟩
  have HZ : Hid (g < w.heap.size) := hg
  have HF : Hid (Lf ((((w.alloc (.cells #[.slice none 0 0, .slice none 0 0] 31)).alloc (.cells #[.int .i64 0] 2)).alloc (.cells #[.int .u8 83, .int .u8 77, .int .u8 1] 5 (3, 4))).alloc (.cells #[.slice (some ⟨g, 3, none⟩) (N - 3) (N - 3), .int .i64 0] 78)) (w.heap.size + 1 + 1 + 1) g N 3 L) := ⟨⟨some ⟨g, 3, none⟩, N - 3, ⟨fun j => by go_simp, fun j => by go_simp, by simp⟩, Nat.le_refl _, fun h => rfl⟩, HR3.out.below ((Below.refl _ _).alloc (Nat.le_refl _) _) (Nat.le_refl _), by have := HZ.out; omega, by omega⟩
  have HB4 : Hid (Below w.heap.size w ((((w.alloc (.cells #[.slice none 0 0, .slice none 0 0] 31)).alloc (.cells #[.int .i64 0] 2)).alloc (.cells #[.int .u8 83, .int .u8 77, .int .u8 1] 5 (3, 4))).alloc (.cells #[.slice (some ⟨g, 3, none⟩) (N - 3) (N - 3), .int .i64 0] 78))) := HB3.out.alloc (by simp; omega) _
  have HMM : Hid (At ((((w.alloc (.cells #[.slice none 0 0, .slice none 0 0] 31)).alloc (.cells #[.int .i64 0] 2)).alloc (.cells #[.int .u8 83, .int .u8 77, .int .u8 1] 5 (3, 4))).alloc (.cells #[.slice (some ⟨g, 3, none⟩) (N - 3) (N - 3), .int .i64 0] 78)) w.heap.size #[.slice none 0 0, .slice none 0 0]) := At.alloc (At.alloc (At.alloc ⟨fun j => by go_simp, fun j => by go_simp, by simp⟩ _) _) _
  have HCC : Hid (At ((((w.alloc (.cells #[.slice none 0 0, .slice none 0 0] 31)).alloc (.cells #[.int .i64 0] 2)).alloc (.cells #[.int .u8 83, .int .u8 77, .int .u8 1] 5 (3, 4))).alloc (.cells #[.slice (some ⟨g, 3, none⟩) (N - 3) (N - 3), .int .i64 0] 78)) (w.heap.size + 1) #[.int .i64 0]) := At.alloc (At.alloc two_at _) _
  clear hlen hby hrd hm he
  go_enter_defers Try.func19, Try.ntmps19
  go_wp2_with fail
  refine (hasPrefix_any N N (w.heap.size + 1 + 1) (some ⟨g, 0, none⟩) L true _ HM.out HL.out (Nat.le_refl _) hN HY.out HR3.out HD.out.1 HD.out.2.1 HD.out.2.2).mono ?_
  rintro e w3 ⟨rfl, rfl⟩
  clear hcv HD
  go_wp2_with fail
  refine (meshI_any (w.heap.size + 1 + 1 + 1) g N 3 L _ HL.out hN (by omega) HY.out HF.out).mono ?_
  rintro e w5 ⟨h, hg5⟩
  have HB5 : Hid (Below w.heap.size w w5) := HB4.out.trans (grown_below hg5 (by simp; omega) (by omega))
  have HM5 : Hid (At w5 w.heap.size #[.slice none 0 0, .slice none 0 0]) := HMM.out.grown hg5 (by omega)
  have HC5 : Hid (At w5 (w.heap.size + 1) #[.int .i64 0]) := HCC.out.grown hg5 (by omega)
  have hs5 : w.heap.size + 1 + 1 + 1 + 1 ≤ w5.heap.size := by have := hg5.size; simp at this; omega
  rw [HEE.out] at h
  clear hg5 HF HB4 HMM HCC
  rcases h with ⟨h0, vv, vt, rfl, hov, hot, hl5⟩ | ⟨h0, rfl, hf5⟩
  · have h0' : ce = 0 := h0
    subst h0'
    have HO5 : Hid (OwnI w5 (w.heap.size + 1 + 1 + 1 + 1 + 2) 51 6 vv (mA L 3).2.1.toNat (rdVal L (mA L 3).2.2 (mA L 3).1)) := by simpa [Hid] using hov
    have HP5 : Hid (OwnI w5 (w.heap.size + 1 + 1 + 1 + 1 + 2) 53 3 vt (mD L 3).2.1.toNat (rdVal L (mD L 3).2.2 (mD L 3).1)) := by simpa [Hid] using hot
    have HL5 : Hid (Lf w5 (w.heap.size + 1 + 1 + 1) g N pe L) := hl5
    clear hov hot hl5 h0
    have hn1 := rdCount_le L 3 0 200 (by decide)
    have hn2 := rdCount_le L (mB L 3).2 (mB L 3).1 300 (by decide)
    obtain ⟨nv, hnv⟩ : ∃ n, (mA L 3).2.1.toNat = n := ⟨_, rfl⟩
    obtain ⟨nt, hnt⟩ : ∃ n, (mD L 3).2.1.toNat = n := ⟨_, rfl⟩
    obtain ⟨V, hV⟩ : ∃ F, rdVal L (mA L 3).2.2 (mA L 3).1 = F := ⟨_, rfl⟩
    obtain ⟨T, hT⟩ : ∃ F, rdVal L (mD L 3).2.2 (mD L 3).1 = F := ⟨_, rfl⟩
    have hnv2 : nv ≤ 200 := by have h : (mA L 3).2.1 ≤ 200 := hn1.2; omega
    have hnt3 : nt ≤ 300 := by have h : (mD L 3).2.1 ≤ 300 := hn2.2; omega
    rw [hnv, hV] at HO5
    rw [hnt, hT] at HP5
    rw [hnv, hnt, hV, hT] at HRL
    clear hn1 hn2 hnv hnt hV hT
    obtain ⟨av, cv, rfl, hv, hvn⟩ := HO5.out.told
    obtain ⟨at', ct, rfl, ht, htn⟩ := HP5.out.told
    have HVN : Hid ((∀ g, av = some ⟨g, 0, none⟩ → 0 < nv → w.heap.size + 1 + 1 + 1 + 1 + 2 ≤ g) ∧ ∀ g, at' = some ⟨g, 0, none⟩ → 0 < nt → w.heap.size + 1 + 1 + 1 + 1 + 2 ≤ g) := ⟨hvn, htn⟩
    have HL6 : Hid (Lf (((w5.setCell ⟨w.heap.size, 0, none⟩ (.slice av nv cv)).setCell ⟨w.heap.size, 1, none⟩ (.slice at' nt ct)).alloc (.cells #[.int .u8 0, .int .u8 0] 67)) (w.heap.size + 1 + 1 + 1) g N pe L) := (HL5.out.keep (by rw [Deep.blk_setCell_other _ _ _ _ (by show w.heap.size + 1 + 1 + 1 ≠ w.heap.size; omega), Deep.blk_setCell_other _ _ _ _ (by show w.heap.size + 1 + 1 + 1 ≠ w.heap.size; omega)]) (fun _ _ => by rw [Deep.blk_setCell_other _ _ _ _ (by show g ≠ w.heap.size; omega), Deep.blk_setCell_other _ _ _ _ (by show g ≠ w.heap.size; omega)]) (by simp)).alloc _
    have HM6 : Hid (At (((w5.setCell ⟨w.heap.size, 0, none⟩ (.slice av nv cv)).setCell ⟨w.heap.size, 1, none⟩ (.slice at' nt ct)).alloc (.cells #[.int .u8 0, .int .u8 0] 67)) w.heap.size #[.slice av nv cv, .slice at' nt ct]) := ((HM5.out.put2_0 _).put2_1 _).alloc _
    have HC6 : Hid (At (((w5.setCell ⟨w.heap.size, 0, none⟩ (.slice av nv cv)).setCell ⟨w.heap.size, 1, none⟩ (.slice at' nt ct)).alloc (.cells #[.int .u8 0, .int .u8 0] 67)) (w.heap.size + 1) #[.int .i64 0]) := ((HC5.out.other (by omega) 0 _).other (by omega) 1 _).alloc _
    have HX6 : Hid (At (((w5.setCell ⟨w.heap.size, 0, none⟩ (.slice av nv cv)).setCell ⟨w.heap.size, 1, none⟩ (.slice at' nt ct)).alloc (.cells #[.int .u8 0, .int .u8 0] 67)) w5.heap.size #[.int .u8 0, .int .u8 0]) := ⟨fun j => by go_simp, fun j => by go_simp, by simp⟩
    have HV6 : Hid (RdS (((w5.setCell ⟨w.heap.size, 0, none⟩ (.slice av nv cv)).setCell ⟨w.heap.size, 1, none⟩ (.slice at' nt ct)).alloc (.cells #[.int .u8 0, .int .u8 0] 67)) 51 6 av nv V) := hv.keep fun h0 q e hl => by have := hvn q e h0; rw [Deep.blk_alloc_lt _ _ _ (by simpa using hl), Deep.blk_setCell_other _ _ _ _ (by show q ≠ w.heap.size; omega), Deep.blk_setCell_other _ _ _ _ (by show q ≠ w.heap.size; omega)]
    have HT6 : Hid (RdS (((w5.setCell ⟨w.heap.size, 0, none⟩ (.slice av nv cv)).setCell ⟨w.heap.size, 1, none⟩ (.slice at' nt ct)).alloc (.cells #[.int .u8 0, .int .u8 0] 67)) 53 3 at' nt T) := ht.keep fun h0 q e hl => by have := htn q e h0; rw [Deep.blk_alloc_lt _ _ _ (by simpa using hl), Deep.blk_setCell_other _ _ _ _ (by show q ≠ w.heap.size; omega), Deep.blk_setCell_other _ _ _ _ (by show q ≠ w.heap.size; omega)]
    have HB6 : Hid (Below w.heap.size w (((w5.setCell ⟨w.heap.size, 0, none⟩ (.slice av nv cv)).setCell ⟨w.heap.size, 1, none⟩ (.slice at' nt ct)).alloc (.cells #[.int .u8 0, .int .u8 0] 67))) := ((HB5.out.setCell (p := ⟨w.heap.size, 0, none⟩) (Nat.le_refl _) _).setCell (p := ⟨w.heap.size, 1, none⟩) (Nat.le_refl _) _).alloc (by simp; omega) _
    obtain ⟨m, mz, ms⟩ := HM5.out
    have m0 := m 0
    have m1 := m 1
    have mz0 := mz 0
    have mz1 := mz 1
    clear hv ht hvn htn HO5 HP5 HL5 HB5 m mz
    by_cases hfew : N < pe + 2
    · have HE : Hid (readL L = ⟨2, 0, 0, fun _ => 0, fun _ => 0⟩) := by rw [HRL.out, if_neg (by decide), if_pos (by rw [HL.out]; exact hfew)]; exact rfl
      go_wp2_with fail
      refine (read_few (w.heap.size + 1 + 1 + 1) w5.heap.size g N pe L 0 0 _ (by omega) (by omega) (by omega) HL6.out HX6.out hfew).mono ?_
      rintro e w7 ⟨rfl, hf7, hs7, ho7, ht7, hp7, hk7⟩
      have HF7 : Hid (Fl w7 (w.heap.size + 1 + 1 + 1) 2) := hf7
      have HM7 : Hid (At w7 w.heap.size #[.slice av nv cv, .slice at' nt ct]) := HM6.out.same (hk7 _ (by omega) (by omega)) (Nat.le_of_eq hs7.symm)
      have HC7 : Hid (At w7 (w.heap.size + 1) #[.int .i64 0]) := HC6.out.same (hk7 _ (by omega) (by omega)) (Nat.le_of_eq hs7.symm)
      have HB7 : Hid (Below w.heap.size w w7) := HB6.out.trans ⟨ho7, ht7, hp7, Nat.le_of_eq hs7.symm, fun k hk => hk7 k (by omega) (by omega)⟩
      clear hf7 hs7 ho7 ht7 hp7 hk7 HM6 HC6 HB6 HM5 HC5 m0 m1 mz0 mz1
      go_wp2
      refine leaves_cons (f := 45) (args := #[.pointer (some ⟨(w.heap.size + 1 + 1 + 1), 0, none⟩), .pointer (some ⟨w.heap.size, 0, none⟩), .pointer (some ⟨(w.heap.size + 1), 0, none⟩)]) (by simp) (by simp [go_sem]) ?_
      refine (catch_panicking (w.heap.size + 1 + 1 + 1) w.heap.size (w.heap.size + 1) 2 2 (.slice av nv cv) (.slice at' nt ct) (.int .i64 0) _ HF7.out.c1 HM7.out HC7.out (by omega) (by omega)).mono ?_
      rintro e u' w'' ⟨rfl, rfl, rfl⟩
      obtain ⟨m, mz, ms⟩ := HM7.out
      obtain ⟨k, kz, ks⟩ := HC7.out
      have m0 := m 0
      have m1 := m 1
      have k0 := k 0
      simp [Leaves, settle, results, Try.results19, go_sem, m0, m1, k0]
      exact ans_none HE.out (bel_door HB7.out)
    · have hle : pe + 2 ≤ N := by omega
      obtain ⟨b, hb⟩ : ∃ b, b = L.getD pe 0 := ⟨_, rfl⟩
      obtain ⟨c, hc⟩ : ∃ c, c = L.getD (pe + 1) 0 := ⟨_, rfl⟩
      have hb8 : 0 ≤ b ∧ b < 256 := by rw [hb]; exact HY.out _ (getD_mem (by have := HL.out; omega))
      have hc8 : 0 ≤ c ∧ c < 256 := by rw [hc]; exact HY.out _ (getD_mem (by have := HL.out; omega))
      obtain ⟨ao', cap', ha6, hcap6, hao6⟩ := HL6.out.at_
      obtain rfl := hao6 (by omega)
      have HA6 : Hid (At (((w5.setCell ⟨w.heap.size, 0, none⟩ (.slice av nv cv)).setCell ⟨w.heap.size, 1, none⟩ (.slice at' nt ct)).alloc (.cells #[.int .u8 0, .int .u8 0] 67)) (w.heap.size + 1 + 1 + 1) #[.slice (some ⟨g, pe, none⟩) (N - pe) cap', .int .i64 0]) := ha6
      have HK6 : Hid ((((w5.setCell ⟨w.heap.size, 0, none⟩ (.slice av nv cv)).setCell ⟨w.heap.size, 1, none⟩ (.slice at' nt ct)).alloc (.cells #[.int .u8 0, .int .u8 0] 67)).cell? ⟨g, pe, none⟩ = some (.int .u8 b) ∧ (((w5.setCell ⟨w.heap.size, 0, none⟩ (.slice av nv cv)).setCell ⟨w.heap.size, 1, none⟩ (.slice at' nt ct)).alloc (.cells #[.int .u8 0, .int .u8 0] 67)).cell? ⟨g, pe + 1, none⟩ = some (.int .u8 c)) := by
        obtain ⟨q1, e1, _, k1⟩ := HL6.out.rd.cell (i := pe) (by omega)
        obtain ⟨q2, e2, _, k2⟩ := HL6.out.rd.cell (i := pe + 1) (by omega)
        simp only [Option.some.injEq, Addr.mk.injEq] at e1 e2
        obtain ⟨rfl, _⟩ := e1
        obtain ⟨rfl, _⟩ := e2
        exact ⟨by rw [hb]; exact k1, by rw [hc]; exact k2⟩
      have HBC : Hid (b = L.getD pe 0 ∧ c = L.getD (pe + 1) 0) := ⟨hb, hc⟩
      clear ha6 hao6 hb hc
      go_wp2_with fail
      refine (read_two (w.heap.size + 1 + 1 + 1) w5.heap.size g pe (N - pe) cap' b c 0 0 _ (by omega) hcap6 (by omega) HA6.out HX6.out HK6.out.1 HK6.out.2).mono ?_
      rintro e w7' ⟨rfl, ao', cap'', rfl⟩
      have HM7 : Hid (At ((((((w5.setCell ⟨w.heap.size, 0, none⟩ (.slice av nv cv)).setCell ⟨w.heap.size, 1, none⟩ (.slice at' nt ct)).alloc (.cells #[.int .u8 0, .int .u8 0] 67)).setCell ⟨w5.heap.size, 0, none⟩ (.int .u8 b)).setCell ⟨w5.heap.size, 1, none⟩ (.int .u8 c)).setCell ⟨(w.heap.size + 1 + 1 + 1), 0, none⟩ (.slice ao' (N - pe - 2) cap'')) w.heap.size #[.slice av nv cv, .slice at' nt ct]) := ((HM6.out.other (by omega) 0 _).other (by omega) 1 _).other (by omega) 0 _
      have HC7 : Hid (At ((((((w5.setCell ⟨w.heap.size, 0, none⟩ (.slice av nv cv)).setCell ⟨w.heap.size, 1, none⟩ (.slice at' nt ct)).alloc (.cells #[.int .u8 0, .int .u8 0] 67)).setCell ⟨w5.heap.size, 0, none⟩ (.int .u8 b)).setCell ⟨w5.heap.size, 1, none⟩ (.int .u8 c)).setCell ⟨(w.heap.size + 1 + 1 + 1), 0, none⟩ (.slice ao' (N - pe - 2) cap'')) (w.heap.size + 1) #[.int .i64 0]) := ((HC6.out.other (by omega) 0 _).other (by omega) 1 _).other (by omega) 0 _
      have HX7 : Hid (At ((((((w5.setCell ⟨w.heap.size, 0, none⟩ (.slice av nv cv)).setCell ⟨w.heap.size, 1, none⟩ (.slice at' nt ct)).alloc (.cells #[.int .u8 0, .int .u8 0] 67)).setCell ⟨w5.heap.size, 0, none⟩ (.int .u8 b)).setCell ⟨w5.heap.size, 1, none⟩ (.int .u8 c)).setCell ⟨(w.heap.size + 1 + 1 + 1), 0, none⟩ (.slice ao' (N - pe - 2) cap'')) w5.heap.size #[.int .u8 b, .int .u8 c]) := ((HX6.out.put2_0 _).put2_1 _).other (by omega) 0 _
      have HA7 : Hid (At ((((((w5.setCell ⟨w.heap.size, 0, none⟩ (.slice av nv cv)).setCell ⟨w.heap.size, 1, none⟩ (.slice at' nt ct)).alloc (.cells #[.int .u8 0, .int .u8 0] 67)).setCell ⟨w5.heap.size, 0, none⟩ (.int .u8 b)).setCell ⟨w5.heap.size, 1, none⟩ (.int .u8 c)).setCell ⟨(w.heap.size + 1 + 1 + 1), 0, none⟩ (.slice ao' (N - pe - 2) cap'')) (w.heap.size + 1 + 1 + 1) #[.slice ao' (N - pe - 2) cap'', .int .i64 0]) := ((HA6.out.other (by omega) 0 _).other (by omega) 1 _).put2_0 _
      have ho7 : ∀ q, q ≠ (w.heap.size + 1 + 1 + 1) → q ≠ w5.heap.size → ((((((w5.setCell ⟨w.heap.size, 0, none⟩ (.slice av nv cv)).setCell ⟨w.heap.size, 1, none⟩ (.slice at' nt ct)).alloc (.cells #[.int .u8 0, .int .u8 0] 67)).setCell ⟨w5.heap.size, 0, none⟩ (.int .u8 b)).setCell ⟨w5.heap.size, 1, none⟩ (.int .u8 c)).setCell ⟨(w.heap.size + 1 + 1 + 1), 0, none⟩ (.slice ao' (N - pe - 2) cap'')).heap[q]? = (((w5.setCell ⟨w.heap.size, 0, none⟩ (.slice av nv cv)).setCell ⟨w.heap.size, 1, none⟩ (.slice at' nt ct)).alloc (.cells #[.int .u8 0, .int .u8 0] 67)).heap[q]? := fun q h1 h2 => by rw [Deep.blk_setCell_other _ _ _ _ h1, Deep.blk_setCell_other _ _ _ _ h2, Deep.blk_setCell_other _ _ _ _ h2]
      have HV7 : Hid (RdS ((((((w5.setCell ⟨w.heap.size, 0, none⟩ (.slice av nv cv)).setCell ⟨w.heap.size, 1, none⟩ (.slice at' nt ct)).alloc (.cells #[.int .u8 0, .int .u8 0] 67)).setCell ⟨w5.heap.size, 0, none⟩ (.int .u8 b)).setCell ⟨w5.heap.size, 1, none⟩ (.int .u8 c)).setCell ⟨(w.heap.size + 1 + 1 + 1), 0, none⟩ (.slice ao' (N - pe - 2) cap'')) 51 6 av nv V) := HV6.out.keep fun h0 q e hl => ho7 q (by have := HVN.out.1 q e h0; omega) (fun e2 => own_x HX6.out HV6.out q e h0 (by decide) e2)
      have HT7 : Hid (RdS ((((((w5.setCell ⟨w.heap.size, 0, none⟩ (.slice av nv cv)).setCell ⟨w.heap.size, 1, none⟩ (.slice at' nt ct)).alloc (.cells #[.int .u8 0, .int .u8 0] 67)).setCell ⟨w5.heap.size, 0, none⟩ (.int .u8 b)).setCell ⟨w5.heap.size, 1, none⟩ (.int .u8 c)).setCell ⟨(w.heap.size + 1 + 1 + 1), 0, none⟩ (.slice ao' (N - pe - 2) cap'')) 53 3 at' nt T) := HT6.out.keep fun h0 q e hl => ho7 q (by have := HVN.out.2 q e h0; omega) (fun e2 => own_x HX6.out HT6.out q e h0 (by decide) e2)
      have HD7 : Hid (RdB ((((((w5.setCell ⟨w.heap.size, 0, none⟩ (.slice av nv cv)).setCell ⟨w.heap.size, 1, none⟩ (.slice at' nt ct)).alloc (.cells #[.int .u8 0, .int .u8 0] 67)).setCell ⟨w5.heap.size, 0, none⟩ (.int .u8 b)).setCell ⟨w5.heap.size, 1, none⟩ (.int .u8 c)).setCell ⟨(w.heap.size + 1 + 1 + 1), 0, none⟩ (.slice ao' (N - pe - 2) cap'')) (some ⟨g, 0, none⟩) N L) := HL6.out.rd.keep fun q e hl => by simp only [Option.some.injEq, Addr.mk.injEq] at e; exact ho7 q (by omega) (by omega)
      have HB7 : Hid (Below w.heap.size w ((((((w5.setCell ⟨w.heap.size, 0, none⟩ (.slice av nv cv)).setCell ⟨w.heap.size, 1, none⟩ (.slice at' nt ct)).alloc (.cells #[.int .u8 0, .int .u8 0] 67)).setCell ⟨w5.heap.size, 0, none⟩ (.int .u8 b)).setCell ⟨w5.heap.size, 1, none⟩ (.int .u8 c)).setCell ⟨(w.heap.size + 1 + 1 + 1), 0, none⟩ (.slice ao' (N - pe - 2) cap''))) := ((HB6.out.setCell (p := ⟨w5.heap.size, 0, none⟩) (by show w.heap.size ≤ w5.heap.size; omega) _).setCell (p := ⟨w5.heap.size, 1, none⟩) (by show w.heap.size ≤ w5.heap.size; omega) _).setCell (p := ⟨(w.heap.size + 1 + 1 + 1), 0, none⟩) (by show w.heap.size ≤ w.heap.size + 1 + 1 + 1; omega) _
      clear ho7 HM6 HC6 HX6 HA6 HV6 HT6 HL6 HB6 HK6 m0 m1 mz0 mz1
      generalize hw7 : ((((((w5.setCell ⟨w.heap.size, 0, none⟩ (.slice av nv cv)).setCell ⟨w.heap.size, 1, none⟩ (.slice at' nt ct)).alloc (.cells #[.int .u8 0, .int .u8 0] 67)).setCell ⟨w5.heap.size, 0, none⟩ (.int .u8 b)).setCell ⟨w5.heap.size, 1, none⟩ (.int .u8 c)).setCell ⟨(w.heap.size + 1 + 1 + 1), 0, none⟩ (.slice ao' (N - pe - 2) cap'')) = w7 at HM7 HC7 HX7 HA7 HV7 HT7 HD7 HB7 ⊢
      clear hw7 HM5 HC5
      have hs7 : w5.heap.size < w7.heap.size := HX7.out.sz
      obtain ⟨r, rz, _⟩ := HA7.out
      have r0 := r 0
      clear r rz
      by_cases hpos : pe + 2 < N
      · have HE : Hid (readL L = ⟨3, 0, 0, fun _ => 0, fun _ => 0⟩) := by rw [HRL.out, if_neg (by decide), if_neg (by rw [HL.out]; show ¬ N < pe + 2; omega), if_pos (Or.inl (by rw [HL.out]; exact hpos))]; exact rfl
        have hp : (0 : Int) < ((N - pe - 2 : Nat) : Int) := by omega
        go_wp2_with fail
        refine (stop_any (w.heap.size + 1 + 1 + 1) 3 0 _ _ HA7.out).mono ?_
        rintro e w8 ⟨rfl, rfl⟩
        have HF8 : Hid (Fl (w7.setCell ⟨(w.heap.size + 1 + 1 + 1), 1, none⟩ (.int .i64 3)) (w.heap.size + 1 + 1 + 1) 3) := fl_of HA7.out
        have HM8 : Hid (At (w7.setCell ⟨(w.heap.size + 1 + 1 + 1), 1, none⟩ (.int .i64 3)) w.heap.size #[.slice av nv cv, .slice at' nt ct]) := HM7.out.other (by omega) 1 _
        have HC8 : Hid (At (w7.setCell ⟨(w.heap.size + 1 + 1 + 1), 1, none⟩ (.int .i64 3)) (w.heap.size + 1) #[.int .i64 0]) := HC7.out.other (by omega) 1 _
        have HB8 : Hid (Below w.heap.size w (w7.setCell ⟨(w.heap.size + 1 + 1 + 1), 1, none⟩ (.int .i64 3))) := HB7.out.setCell (p := ⟨(w.heap.size + 1 + 1 + 1), 1, none⟩) (by show w.heap.size ≤ w.heap.size + 1 + 1 + 1; omega) _
        clear HM7 HC7 HB7 HA7 HX7 HV7 HT7 HD7
        go_wp2
        refine leaves_cons (f := 45) (args := #[.pointer (some ⟨(w.heap.size + 1 + 1 + 1), 0, none⟩), .pointer (some ⟨w.heap.size, 0, none⟩), .pointer (some ⟨(w.heap.size + 1), 0, none⟩)]) (by simp) (by simp [go_sem]) ?_
        refine (catch_panicking (w.heap.size + 1 + 1 + 1) w.heap.size (w.heap.size + 1) 3 3 (.slice av nv cv) (.slice at' nt ct) (.int .i64 0) _ HF8.out.c1 HM8.out HC8.out (by omega) (by omega)).mono ?_
        rintro e u' w'' ⟨rfl, rfl, rfl⟩
        obtain ⟨m, mz, ms⟩ := HM8.out
        obtain ⟨k, kz, ks⟩ := HC8.out
        have m0 := m 0
        have m1 := m 1
        have k0 := k 0
        simp [Leaves, settle, results, Try.results19, go_sem, m0, m1, k0]
        exact ans_none HE.out (bel_door HB8.out)
      · have hpe : N - pe - 2 = 0 := by omega
        rw [hpe] at r0 HA7
        obtain ⟨q, qz, _⟩ := HM7.out
        have q0 := q 0
        have q1 := q 1
        clear q qz
        go_wp2_with fail
        refine (implMeshOk nv nt cv ct av at' V T _ (by omega) (by omega) HV7.out.rd HT7.out.rd).mono ?_
        rintro e w8 ⟨rfl, hb8'⟩
        have HM8 : Hid (At w8 w.heap.size #[.slice av nv cv, .slice at' nt ct]) := HM7.out.below hb8' HM7.out.sz
        have HC8 : Hid (At w8 (w.heap.size + 1) #[.int .i64 0]) := HC7.out.below hb8' HC7.out.sz
        have HX8 : Hid (At w8 w5.heap.size #[.int .u8 b, .int .u8 c]) := HX7.out.below hb8' HX7.out.sz
        have HA8 : Hid (At w8 (w.heap.size + 1 + 1 + 1) #[.slice ao' 0 cap'', .int .i64 0]) := HA7.out.below hb8' HA7.out.sz
        have HV8 : Hid (RdS w8 51 6 av nv V) := HV7.out.below hb8' (Nat.le_refl _)
        have HT8 : Hid (RdS w8 53 3 at' nt T) := HT7.out.below hb8' (Nat.le_refl _)
        have HD8 : Hid (RdB w8 (some ⟨g, 0, none⟩) N L) := HD7.out.below hb8' (Nat.le_refl _)
        have HB8 : Hid (Below w.heap.size w w8) := HB7.out.trans (hb8'.mono HB7.out.size)
        clear hb8' HM7 HC7 HX7 HA7 HV7 HT7 HD7 HB7 r0 q0 q1
        rcases Bool.eq_false_or_eq_true (meshok nv nt V T) with hok | hok
        · rw [hok]
          have HOK : Hid (meshok nv nt V T = true) := hok
          obtain ⟨t, ht⟩ : ∃ t, sumTo (L.take (N - 2)) 0 = t := ⟨_, rfl⟩
          have HTT : Hid (sumTo (L.take (N - 2)) 0 = t) := ht
          have htr : 0 ≤ t ∧ t < 65521 := by rw [← ht]; exact sumTo_range _ _ (by omega)
          clear hok ht
          have HS : Hid (Xs w5.heap.size b c w8) := ⟨⟨HX8.out.c 0, HX8.out.c 1⟩, HX8.out.sz⟩
          have HD8d : Hid (RdB w8.drew (some ⟨g, 0, none⟩) N L) := HD8.out.below (Below.refl _ _).drew (Nat.le_refl _)
          obtain ⟨n2, rfl⟩ : ∃ k, N = k + 2 := ⟨N - 2, by omega⟩
          obtain rfl : pe = n2 := by omega
          rw [show pe + 2 - 2 = pe from rfl] at HTT
          have HLT : Hid ((L.take pe).length = pe) := (show (L.take pe).length = pe by have := HL.out; simp; omega)
          have HYT : Hid (∀ b ∈ L.take pe, 0 ≤ b ∧ b < 256) := fun b hb => HY.out b (List.mem_of_mem_take hb)
          have hw0 : IntKind.i64.wrap (pe : Int) = (pe : Int) := by rw [IntKind.wrap_i64]; omega
          have hq0 : (0 : Int) ≤ (pe : Int) ∧ (pe : Int) ≤ (pe : Int) + 2 := by omega
          have hq5 : (pe : Int) + 2 - 2 = (pe : Int) := by omega
          by_cases hsum : b = t % 256 ∧ c = t / 256
          · have heq : ∀ w, (Op.equalIn 10000 67 (.agg #[.int .u8 b, .int .u8 c]) (.agg #[.int .u8 (t % 256), .int .u8 (t / 256)])).run Try.prog w = .ok true w := fun w => (eq_two 9998 b c (t % 256) (t / 256) w).trans (by rw [hsum.1, hsum.2]; simp)
            have HE : Hid (readL L = ⟨0, nv, nt, V, T⟩) := by
              rw [HRL.out, if_neg (by decide), if_neg (by rw [HL.out]; show ¬ pe + 2 < pe + 2; omega), if_neg (by rw [HL.out, HOK.out]; simp), if_neg]
              · exact rfl
              · show ¬ (sumTo (L.take pe) 0 ≠ L.getD pe 0 + 256 * L.getD (pe + 1) 0)
                rw [← HBC.out.1, ← HBC.out.2, HTT.out]
                omega
            clear hsum
            go_wp2_with fail
            go_region_held3 (fun w' => Xs w5.heap.size b c w') (first | with_reducible exact Xs.drew HS.out | with_reducible exact Xs.call (by assumption) (by assumption))
              (first | (go_at_call 38; refine (sumOf_any pe (pe + 2) (some ⟨g, 0, none⟩) (L.take pe) _ (by omega) HLT.out HYT.out (HD8d.out.take (by omega)) t HTT.out).mono ?_; rintro e w9 ⟨rfl, hb9⟩))
            have hb89 : Below w8.heap.size w8 w9 := (Below.refl _ _).drew.trans hb9
            have HM9 : Hid (At w9 w.heap.size #[.slice av nv cv, .slice at' nt ct]) := HM8.out.below hb89 HM8.out.sz
            have HC9 : Hid (At w9 (w.heap.size + 1) #[.int .i64 0]) := HC8.out.below hb89 HC8.out.sz
            have HA9 : Hid (At w9 (w.heap.size + 1 + 1 + 1) #[.slice ao' 0 cap'', .int .i64 0]) := HA8.out.below hb89 HA8.out.sz
            have HV9 : Hid (RdS w9 51 6 av nv V) := HV8.out.below hb89 (Nat.le_refl _)
            have HT9 : Hid (RdS w9 53 3 at' nt T) := HT8.out.below hb89 (Nat.le_refl _)
            have HB9 : Hid (Below w.heap.size w w9) := HB8.out.trans (hb89.mono HB8.out.size)
            clear hb9 hb89 HM8 HC8 HA8 HX8 HV8 HT8 HD8 HD8d HB8 HS
            obtain ⟨m, mz, ms9⟩ := HM9.out
            have m0 := m 0
            have m1 := m 1
            have mz0 := mz 0
            have mz1 := mz 1
            obtain ⟨k, kz, ks⟩ := HC9.out
            have k0 := k 0
            have kz0 := kz 0
            clear m mz k kz
            go_wp2
            refine leaves_cons (f := 45) (args := #[.pointer (some ⟨(w.heap.size + 1 + 1 + 1), 0, none⟩), .pointer (some ⟨w.heap.size, 0, none⟩), .pointer (some ⟨(w.heap.size + 1), 0, none⟩)]) (by simp) (by simp [go_sem]) ?_
            refine (catch_idle _ _ _ _).mono ?_
            rintro e u' w'' ⟨rfl, rfl, rfl⟩
            simp [Leaves, settle, results, Try.results19, go_sem, m0, m1, k0]
            exact ans_some HE.out (HV9.out.keep fun h0 q e hl => set_door (by have := HVN.out.1 q e h0; omega) (by have := HVN.out.1 q e h0; omega)) (HT9.out.keep fun h0 q e hl => set_door (by have := HVN.out.2 q e h0; omega) (by have := HVN.out.2 q e h0; omega)) (fun q e h0 => by have := HVN.out.1 q e h0; omega) (fun q e h0 => by have := HVN.out.2 q e h0; omega) (bel_door HB9.out)
          · have heq : ∀ w, (Op.equalIn 10000 67 (.agg #[.int .u8 b, .int .u8 c]) (.agg #[.int .u8 (t % 256), .int .u8 (t / 256)])).run Try.prog w = .ok false w := fun w => (eq_two 9998 b c (t % 256) (t / 256) w).trans (by
              have : (b == t % 256 && c == t / 256) = false := by
                rw [Bool.and_eq_false_iff, beq_eq_false_iff_ne, beq_eq_false_iff_ne]
                omega
              rw [this])
            have HE : Hid (readL L = ⟨4, 0, 0, fun _ => 0, fun _ => 0⟩) := by
              rw [HRL.out, if_neg (by decide), if_neg (by rw [HL.out]; show ¬ pe + 2 < pe + 2; omega), if_neg (by rw [HL.out, HOK.out]; simp), if_pos]
              · exact rfl
              · show sumTo (L.take pe) 0 ≠ L.getD pe 0 + 256 * L.getD (pe + 1) 0
                rw [← HBC.out.1, ← HBC.out.2, HTT.out]
                omega
            clear hsum
            go_wp2_with fail
            go_region_held3 (fun w' => Xs w5.heap.size b c w') (first | with_reducible exact Xs.drew HS.out | with_reducible exact Xs.call (by assumption) (by assumption))
              (first | (go_at_call 38; refine (sumOf_any pe (pe + 2) (some ⟨g, 0, none⟩) (L.take pe) _ (by omega) HLT.out HYT.out (HD8d.out.take (by omega)) t HTT.out).mono ?_; rintro e w9 ⟨rfl, hb9⟩))
            have hb89 : Below w8.heap.size w8 w9 := (Below.refl _ _).drew.trans hb9
            have HM9 : Hid (At w9 w.heap.size #[.slice av nv cv, .slice at' nt ct]) := HM8.out.below hb89 HM8.out.sz
            have HC9 : Hid (At w9 (w.heap.size + 1) #[.int .i64 0]) := HC8.out.below hb89 HC8.out.sz
            have HA9 : Hid (At w9 (w.heap.size + 1 + 1 + 1) #[.slice ao' 0 cap'', .int .i64 0]) := HA8.out.below hb89 HA8.out.sz
            have HV9 : Hid (RdS w9 51 6 av nv V) := HV8.out.below hb89 (Nat.le_refl _)
            have HT9 : Hid (RdS w9 53 3 at' nt T) := HT8.out.below hb89 (Nat.le_refl _)
            have HB9 : Hid (Below w.heap.size w w9) := HB8.out.trans (hb89.mono HB8.out.size)
            clear hb9 hb89 HM8 HC8 HA8 HX8 HV8 HT8 HD8 HD8d HB8 HS
            go_wp2_with fail
            refine (stop_any (w.heap.size + 1 + 1 + 1) 4 0 _ _ HA9.out).mono ?_
            rintro e w10 ⟨rfl, rfl⟩
            have HF10 : Hid (Fl (w9.setCell ⟨(w.heap.size + 1 + 1 + 1), 1, none⟩ (.int .i64 4)) (w.heap.size + 1 + 1 + 1) 4) := fl_of HA9.out
            have HM10 : Hid (At (w9.setCell ⟨(w.heap.size + 1 + 1 + 1), 1, none⟩ (.int .i64 4)) w.heap.size #[.slice av nv cv, .slice at' nt ct]) := HM9.out.other (by omega) 1 _
            have HC10 : Hid (At (w9.setCell ⟨(w.heap.size + 1 + 1 + 1), 1, none⟩ (.int .i64 4)) (w.heap.size + 1) #[.int .i64 0]) := HC9.out.other (by omega) 1 _
            have HB10 : Hid (Below w.heap.size w (w9.setCell ⟨(w.heap.size + 1 + 1 + 1), 1, none⟩ (.int .i64 4))) := HB9.out.setCell (p := ⟨(w.heap.size + 1 + 1 + 1), 1, none⟩) (by show w.heap.size ≤ w.heap.size + 1 + 1 + 1; omega) _
            clear HM9 HC9 HB9 HA9 HV9 HT9
            go_wp2
            refine leaves_cons (f := 45) (args := #[.pointer (some ⟨(w.heap.size + 1 + 1 + 1), 0, none⟩), .pointer (some ⟨w.heap.size, 0, none⟩), .pointer (some ⟨(w.heap.size + 1), 0, none⟩)]) (by simp) (by simp [go_sem]) ?_
            refine (catch_panicking (w.heap.size + 1 + 1 + 1) w.heap.size (w.heap.size + 1) 4 4 (.slice av nv cv) (.slice at' nt ct) (.int .i64 0) _ HF10.out.c1 HM10.out HC10.out (by omega) (by omega)).mono ?_
            rintro e u' w'' ⟨rfl, rfl, rfl⟩
            obtain ⟨m, mz, ms⟩ := HM10.out
            obtain ⟨k, kz, ks⟩ := HC10.out
            have m0 := m 0
            have m1 := m 1
            have k0 := k 0
            simp [Leaves, settle, results, Try.results19, go_sem, m0, m1, k0]
            exact ans_none HE.out (bel_door HB10.out)
        · rw [hok]
          have HE : Hid (readL L = ⟨3, 0, 0, fun _ => 0, fun _ => 0⟩) := by rw [HRL.out, if_neg (by decide), if_neg (by rw [HL.out]; show ¬ N < pe + 2; omega), if_pos (Or.inr hok)]; exact rfl
          clear hok
          go_wp2_with fail
          refine (stop_any (w.heap.size + 1 + 1 + 1) 3 0 _ _ HA8.out).mono ?_
          rintro e w9 ⟨rfl, rfl⟩
          have HF9 : Hid (Fl (w8.setCell ⟨(w.heap.size + 1 + 1 + 1), 1, none⟩ (.int .i64 3)) (w.heap.size + 1 + 1 + 1) 3) := fl_of HA8.out
          have HM9 : Hid (At (w8.setCell ⟨(w.heap.size + 1 + 1 + 1), 1, none⟩ (.int .i64 3)) w.heap.size #[.slice av nv cv, .slice at' nt ct]) := HM8.out.other (by omega) 1 _
          have HC9 : Hid (At (w8.setCell ⟨(w.heap.size + 1 + 1 + 1), 1, none⟩ (.int .i64 3)) (w.heap.size + 1) #[.int .i64 0]) := HC8.out.other (by omega) 1 _
          have HB9 : Hid (Below w.heap.size w (w8.setCell ⟨(w.heap.size + 1 + 1 + 1), 1, none⟩ (.int .i64 3))) := HB8.out.setCell (p := ⟨(w.heap.size + 1 + 1 + 1), 1, none⟩) (by show w.heap.size ≤ w.heap.size + 1 + 1 + 1; omega) _
          clear HM8 HC8 HB8 HA8 HX8 HV8 HT8 HD8
          go_wp2
          refine leaves_cons (f := 45) (args := #[.pointer (some ⟨(w.heap.size + 1 + 1 + 1), 0, none⟩), .pointer (some ⟨w.heap.size, 0, none⟩), .pointer (some ⟨(w.heap.size + 1), 0, none⟩)]) (by simp) (by simp [go_sem]) ?_
          refine (catch_panicking (w.heap.size + 1 + 1 + 1) w.heap.size (w.heap.size + 1) 3 3 (.slice av nv cv) (.slice at' nt ct) (.int .i64 0) _ HF9.out.c1 HM9.out HC9.out (by omega) (by omega)).mono ?_
          rintro e u' w'' ⟨rfl, rfl, rfl⟩
          obtain ⟨m, mz, ms⟩ := HM9.out
          obtain ⟨k, kz, ks⟩ := HC9.out
          have m0 := m 0
          have m1 := m 1
          have k0 := k 0
          simp [Leaves, settle, results, Try.results19, go_sem, m0, m1, k0]
          exact ans_none HE.out (bel_door HB9.out)
  · have HE : Hid (readL L = ⟨ce, 0, 0, fun _ => 0, fun _ => 0⟩) := by rw [HRL.out, if_pos h0]; exact rfl
    have HF5 : Hid (Fl w5 (w.heap.size + 1 + 1 + 1) ce) := hf5
    clear hf5 h0
    go_wp2
    refine leaves_cons (f := 45) (args := #[.pointer (some ⟨(w.heap.size + 1 + 1 + 1), 0, none⟩), .pointer (some ⟨w.heap.size, 0, none⟩), .pointer (some ⟨(w.heap.size + 1), 0, none⟩)]) (by simp) (by simp [go_sem]) ?_
    refine (catch_panicking (w.heap.size + 1 + 1 + 1) w.heap.size (w.heap.size + 1) ce ce (.slice none 0 0) (.slice none 0 0) (.int .i64 0) _ HF5.out.c1 HM5.out HC5.out (by omega) (by omega)).mono ?_
    rintro e u' w'' ⟨rfl, rfl, rfl⟩
    obtain ⟨m, mz, ms⟩ := HM5.out
    obtain ⟨k, kz, ks⟩ := HC5.out
    have m0 := m 0
    have m1 := m 1
    have k0 := k 0
    simp [Leaves, settle, results, Try.results19, go_sem, m0, m1, k0]
    exact ans_none HE.out (bel_door HB5.out)

theorem implRead : ReadAns 19 := by
  intro N ao L w hlen hN hby hrd
  rcases Bool.eq_false_or_eq_true (magic L) with hm | hm
  · have h3 : 3 ≤ N := by have := (of_decide_eq_true hm).1; omega
    by_cases h : N = 3
    · subst h
      exact implRead_three ao L w hlen hN hby hrd hm
    · exact implRead_more N ao L w hlen hN hby hrd hm (by omega)
  · exact implRead_magic N ao L w hlen hN hby hrd hm
end Go.Proofs.Ytobhljmpdolomaa
