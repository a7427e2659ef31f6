import Derived.Test.YtobhljmpdolomaaRdAll
import Derived.Laws.IdiomCopy
namespace Go.Proofs.Ytobhljmpdolomaa
open Go.RowKit

theorem infoB1 : (Try.prog.info? 5).map (·.size) = some 1 := by kernel_rfl
theorem run_copy_one (w : World) (ty : TypeId) (X g p m cap : Nat) (b : Int) (hm : 0 < m) (hx : (w.cell? ⟨X, 0, none⟩).isSome = true) (hf : w.frozen? ⟨X, 0, none⟩ = false) (hb : w.cell? ⟨g, p, none⟩ = some (.int .u8 b)) :
    (Builtin.copy_ #[35, 35] ty #[.slice (some ⟨X, 0, none⟩) 1 1, .slice (some ⟨g, p, none⟩) m cap]).run Try.prog w = .ok (.int .i64 1) (w.setCell ⟨X, 0, none⟩ (.int .u8 b)) := by
  have h := run_copy_cells (P := Try.prog) w 35 35 ty 5 X 0 1 1 ⟨g, p, none⟩ m cap [.int .u8 b] Try.underlying35 infoB1 (by simp [Nat.min_def]; omega) ?_ ?_ ?_ ?_
  · simpa [World.setCells, goInt] using h
  · intro j v hj
    match j, hj with
    | 0, hj => simp at hj; subst hj; simpa [Addr.add] using hb
    | j + 1, hj => simp at hj
  · intro j hj
    simp at hj
    subst hj
    exact hx
  · intro j hj
    simp at hj
    subst hj
    exact hf
  · intro v hv
    simp at hv
    subst hv
    rfl
/-- What a panic of the reader's carries. -/
def chain (code : Int) : List PanicEntry := [{ v := .iface 2 (.int .i64 code), recovered := false }]

theorem At.put2_0 {w : World} {b : Nat} {x0 x1 : Value} (h : At w b #[x0, x1]) (y : Value) : At (w.setCell ⟨b, 0, none⟩ y) b #[y, x1] := by
  obtain ⟨c, fz, sz⟩ := h
  have c0 := c 0
  have c1 := c 1
  refine ⟨fun j => ?_, fun j => by have := fz j; go_simp, by simpa using sz⟩
  match j with
  | 0 => go_simp
  | 1 => go_simp
  | j + 2 => have := c (j + 2); go_simp
theorem At.put1_0 {w : World} {b : Nat} {x0 : Value} (h : At w b #[x0]) (y : Value) : At (w.setCell ⟨b, 0, none⟩ y) b #[y] := by
  obtain ⟨c, fz, sz⟩ := h
  have c0 := c 0
  refine ⟨fun j => ?_, fun j => by have := fz j; go_simp, by simpa using sz⟩
  match j with
  | 0 => go_simp
  | j + 1 => have := c (j + 1); go_simp
theorem At.alloc {w : World} {b : Nat} {A : Array Value} (h : At w b A) (o : Obj) : At (w.alloc o) b A := h.below (Joins.below_alloc1 _ _) h.sz

theorem stop_any (R : Nat) (code f : Int) (s : Value) (w : World) (hR : At w R #[s, .int .i64 f]) :
    Calls Try.prog 48 #[.pointer (some ⟨R, 0, none⟩), .int .i64 code] w fun e w' => e = .panicked (chain code) ∧ w' = w.setCell ⟨R, 1, none⟩ (.int .i64 code) := by
  obtain ⟨c, fz, sz⟩ := hR
  go_enter Try.func48, Try.ntmps48
  go_wp2
  exact ⟨rfl, rfl, rfl⟩

set_option maxHeartbeats 1000000 in
theorem read_one (R X g p m cap : Nat) (b f x : Int) (w : World) (hm : 0 < m) (hmc : m ≤ cap) (hne : X ≠ R) (hR : At w R #[.slice (some ⟨g, p, none⟩) m cap, .int .i64 f]) (hX : At w X #[.int .u8 x]) (hb : w.cell? ⟨g, p, none⟩ = some (.int .u8 b)) :
    Calls Try.prog 47 #[.pointer (some ⟨R, 0, none⟩), .slice (some ⟨X, 0, none⟩) 1 1] w fun e w' => e = .returned (.tuple #[]) ∧ ∃ ao' cap', w' = (w.setCell ⟨X, 0, none⟩ (.int .u8 b)).setCell ⟨R, 0, none⟩ (.slice ao' (m - 1) cap') ∧ m - 1 ≤ cap' ∧ (0 < m - 1 → ao' = some ⟨g, p + 1, none⟩) := by
  have hcp := fun ty => run_copy_one w ty X g p m cap b hm (by rw [hX.c]; rfl) (hX.fz 0) hb
  have hx0 := hX.c 0
  have hr0 := hR.c 0
  have hrz := hR.fz 0
  by_cases hc : cap = 1
  · subst hc
    obtain rfl : m = 1 := by omega
    go_enter Try.func47, Try.ntmps47
    go_wp2
    go_end0
    exact ⟨rfl, _, _, rfl, by omega, fun h => absurd h (by omega)⟩
  · go_enter Try.func47, Try.ntmps47
    go_wp2
    go_end0
    exact ⟨rfl, _, _, rfl, by omega, fun _ => rfl⟩

set_option maxHeartbeats 1000000 in
theorem read_none (R X cap : Nat) (ao : Option Addr) (f x : Int) (w : World) (hR : At w R #[.slice ao 0 cap, .int .i64 f]) (_hX : At w X #[.int .u8 x]) :
    Calls Try.prog 47 #[.pointer (some ⟨R, 0, none⟩), .slice (some ⟨X, 0, none⟩) 1 1] w fun e w' => e = .panicked (chain 2) ∧ w' = w.setCell ⟨R, 1, none⟩ (.int .i64 2) := by
  have hcp : ∀ ty, (Builtin.copy_ #[35, 35] ty #[.slice (some ⟨X, 0, none⟩) 1 1, .slice ao 0 cap]).run Try.prog w = .ok (.int .i64 0) w := fun ty => run_copy_none (P := Try.prog) w 35 35 ty 5 _ _ 1 1 0 cap Try.underlying35 infoB1 (by simp)
  have HR : Hid (At w R #[.slice ao 0 cap, .int .i64 f]) := hR
  have hr0 := hR.c 0
  clear hR
  go_enter Try.func47, Try.ntmps47
  go_wp2_with fail
  refine (stop_any R 2 f _ _ HR.out).mono ?_
  rintro e w1 ⟨rfl, rfl⟩
  go_wp2
  exact ⟨rfl, rfl, rfl⟩

/-- What is known of the program's reader: its block, and what is left of the bytes in another. -/
structure Lf (w : World) (R g N p : Nat) (L : List Int) : Prop where
  at_ : ∃ ao cap, At w R #[.slice ao (N - p) cap, .int .i64 0] ∧ N - p ≤ cap ∧ (0 < N - p → ao = some ⟨g, p, none⟩)
  rd : RdB w (some ⟨g, 0, none⟩) N L
  ne : g ≠ R
  le : p ≤ N
/-- The code that it keeps. -/
structure Fl (w : World) (R : Nat) (c : Int) : Prop where
  c1 : w.cell? ⟨R, 1, none⟩ = some (.int .i64 c)
  sz : R < w.heap.size
theorem Lf.sz {w : World} {R g N p : Nat} {L : List Int} (h : Lf w R g N p L) : R < w.heap.size := by
  obtain ⟨_, _, ha, _⟩ := h.at_
  exact ha.sz
theorem Lf.gsz {w : World} {R g N p : Nat} {L : List Int} (h : Lf w R g N p L) (hN : 0 < N) : g < w.heap.size := h.rd.blk g rfl hN
theorem Lf.keep {w w' : World} {R g N p : Nat} {L : List Int} (h : Lf w R g N p L) (hR : w'.heap[R]? = w.heap[R]?) (hg : 0 < N → g < w.heap.size → w'.heap[g]? = w.heap[g]?) (hs : w.heap.size ≤ w'.heap.size) : Lf w' R g N p L := by
  obtain ⟨ao, cap, ha, hc, he⟩ := h.at_
  refine ⟨⟨ao, cap, ⟨fun j => ?_, fun j => ?_, Nat.lt_of_lt_of_le ha.sz hs⟩, hc, he⟩, RdB.keep2 h.rd fun h0 g' e hl => ?_, h.ne, h.le⟩
  · rw [World.cell?_of_block (a := ⟨R, j, none⟩) (w := w) hR]; exact ha.c j
  · rw [World.frozen?_of_block (a := ⟨R, j, none⟩) (w := w) hR]; exact ha.fz j
  · simp only [Option.some.injEq, Addr.mk.injEq] at e
    obtain ⟨rfl, _⟩ := e
    exact hg h0 hl
theorem Lf.alloc {w : World} {R g N p : Nat} {L : List Int} (h : Lf w R g N p L) (o : Obj) : Lf (w.alloc o) R g N p L :=
  h.keep (Deep.blk_alloc_lt _ _ _ h.sz) (fun _ hl => Deep.blk_alloc_lt _ _ _ hl) (by simp)
theorem Lf.fault {w : World} {R g N p : Nat} {L : List Int} (h : Lf w R g N p L) (c : Int) : Fl (w.setCell ⟨R, 1, none⟩ (.int .i64 c)) R c := by
  obtain ⟨ao, cap, ha, _⟩ := h.at_
  have c1 := ha.c 1
  have f1 := ha.fz 1
  exact ⟨by go_simp, by simpa using ha.sz⟩
/-- Behind a byte that was read into a new block. -/
theorem Lf.step {w : World} {R g N p : Nat} {L : List Int} (h : Lf w R g N p L) (hp : p < N) (b : Value) {ao' : Option Addr} {cap' t : Nat} (hc : N - p - 1 ≤ cap') (he : 0 < N - p - 1 → ao' = some ⟨g, p + 1, none⟩) :
    Lf (((w.alloc (.cells #[.int .u8 0] t)).setCell ⟨w.heap.size, 0, none⟩ b).setCell ⟨R, 0, none⟩ (.slice ao' (N - p - 1) cap')) R g N (p + 1) L ∧ At (((w.alloc (.cells #[.int .u8 0] t)).setCell ⟨w.heap.size, 0, none⟩ b).setCell ⟨R, 0, none⟩ (.slice ao' (N - p - 1) cap')) w.heap.size #[b] ∧ w.grownBy (((w.alloc (.cells #[.int .u8 0] t)).setCell ⟨w.heap.size, 0, none⟩ b).setCell ⟨R, 0, none⟩ (.slice ao' (N - p - 1) cap')) (some R) := by
  have hsz := h.sz
  have hg := h.gsz (by omega)
  have hne := h.ne
  obtain ⟨ao, cap, ha, _, _⟩ := h.at_
  refine ⟨⟨⟨ao', cap', ?_, by omega, fun h0 => he (by omega)⟩, ?_, h.ne, by omega⟩, ?_, ?_⟩
  · rw [show N - (p + 1) = N - p - 1 by omega]
    exact ((ha.alloc _).other (by omega) 0 _).put2_0 _
  · refine h.rd.keep fun g' e hl => ?_
    simp only [Option.some.injEq, Addr.mk.injEq] at e
    obtain ⟨rfl, _⟩ := e
    rw [Deep.blk_setCell_other _ _ _ _ h.ne, Deep.blk_setCell_other _ _ _ _ (by show g ≠ w.heap.size; omega), Deep.blk_alloc_lt _ _ _ hl]
  · have hA : At (w.alloc (.cells #[.int .u8 0] t)) w.heap.size #[.int .u8 0] := ⟨fun j => by go_simp, fun j => by go_simp, by simp⟩
    exact (hA.put1_0 _).other (by omega) 0 _
  · exact grown_set (grown_set (grown_alloc (grownBy_refl w (some R)) _) (Or.inr (Nat.le_refl _))) (Or.inl rfl)

set_option maxRecDepth 8000 in
set_option maxHeartbeats 4000000 in
theorem numberI_any (R g N p0 : Nat) (L : List Int) (w : World) (hlen : L.length = N) (hN : N ≤ 1048576) (hby : ∀ b ∈ L, 0 ≤ b ∧ b < 256) (hl : Lf w R g N p0 L) :
    Calls Try.prog 69 #[.pointer (some ⟨R, 0, none⟩)] w fun e w' => (∃ c v p', rdNum L p0 0 = (c, v, p') ∧ ((c = 0 ∧ e = .returned (.int .i64 v) ∧ Lf w' R g N p' L) ∨ (c ≠ 0 ∧ e = .panicked (chain c) ∧ Fl w' R c))) ∧ w.grownBy w' (some R) := by
  have HL : Hid (L.length = N) := hlen
  have HY : Hid (∀ b ∈ L, 0 ≤ b ∧ b < 256) := hby
  have HF : Hid (Lf w R g N p0 L) := hl
  clear hlen hby hl
  go_enter Try.func69, Try.ntmps69
  go_wp2
  go_loopw [3, 4] (fun uv i wr => ∃ (k u p : Nat), k ≤ 9 ∧ i = .int .i64 k ∧ uv = .int .u64 u ∧ p ≤ N ∧ Hid (u < 2 ^ (7 * k)) ∧ Hid (rdGo L (10 - k) k p u = rdNum L p0 0) ∧ Hid (Lf wr R g N p L) ∧ Hid (w.grownBy wr (some R))) (fun _ i _ => 10 - (intOf i).toNat)
  case atStart => exact ⟨0, 0, p0, by omega, rfl, rfl, HF.out.le, by simp [Hid], by simp [rdNum, Hid], HF.out, grownBy_refl _ _⟩
  case round =>
    clear HF
    obtain ⟨k, u, p, hk, rfl, rfl, hp, HU1, HG, HF, HW⟩ := hrel
    obtain ⟨f, hf⟩ : ∃ f, 10 - k = f + 1 := ⟨9 - k, by omega⟩
    have HG1 : Hid (rdGo L (f + 1) k p u = rdNum L p0 0) := by rw [← hf]; exact HG.out
    have HX : Hid (At (wr.alloc (.cells #[.int .u8 0] 105)) wr.heap.size #[.int .u8 0]) := ⟨fun j => by go_simp, fun j => by go_simp, by simp⟩
    clear HG
    by_cases hsh : N ≤ p
    · have HQ : Hid (rdNum L p0 0 = (2, 0, p)) := by rw [← HG1.out]; exact rdGo_short (by rw [HL.out]; exact hsh)
      have hNp : N - p = 0 := by omega
      obtain ⟨ao, cap, ha, _, _⟩ := HF.out.at_
      rw [hNp] at ha
      have HA : Hid (At (wr.alloc (.cells #[.int .u8 0] 105)) R #[.slice ao 0 cap, .int .i64 0]) := ha.alloc _
      clear HG1 HU1 ha hNp
      go_wp2_with fail
      refine (read_none R wr.heap.size cap ao 0 0 _ HA.out HX.out).mono ?_
      rintro e w1 ⟨rfl, rfl⟩
      go_wp2
      exact ⟨rfl, ⟨2, 0, p, HQ.out, Or.inr ⟨by decide, rfl, (HF.out.alloc _).fault 2⟩⟩, grown_set (grown_alloc HW.out _) (Or.inl rfl)⟩
    · have hpN : p < N := by omega
      obtain ⟨b, hb⟩ : ∃ b : Nat, L.getD p 0 = (b : Int) := ⟨(L.getD p 0).toNat, by have := HY.out _ (getD_mem (k := p) (by have := HL.out; omega)); omega⟩
      have hb8 : b < 256 := by have := HY.out _ (getD_mem (k := p) (by have := HL.out; omega)); omega
      have HBb : Hid (L.getD p 0 = (b : Int)) := hb
      have HPL : Hid (¬ L.length ≤ p) := (show ¬ L.length ≤ p by rw [HL.out]; omega)
      obtain ⟨ao, cap, ha, hcap, hao⟩ := HF.out.at_
      obtain rfl := hao (by omega)
      have HA : Hid (At (wr.alloc (.cells #[.int .u8 0] 105)) R #[.slice (some ⟨g, p, none⟩) (N - p) cap, .int .i64 0]) := ha.alloc _
      have HC : Hid ((wr.alloc (.cells #[.int .u8 0] 105)).cell? ⟨g, p, none⟩ = some (.int .u8 (b : Int))) := by
        obtain ⟨g', c, fr, e, hr, hc, hfr⟩ := (HF.out.alloc (.cells #[.int .u8 0] 105)).rd (by omega)
        simp only [Option.some.injEq, Addr.mk.injEq] at e
        obtain ⟨rfl, _⟩ := e
        exact (hr.cell (by omega)).trans (by rw [hfr p hpN, hb])
      have HNe : Hid (wr.heap.size ≠ R) := (show wr.heap.size ≠ R by have := HF.out.sz; omega)
      obtain ⟨U, hU⟩ : ∃ U : Nat, U = u + (b % 128 * 2 ^ (7 * k)) % 18446744073709551616 := ⟨_, rfl⟩
      have hUu : U < 18446744073709551616 := by rw [hU]; exact (grow_u (by omega) HU1.out).1
      have HU9 : Hid (k < 9 → U < 2 ^ (7 * (k + 1))) := by rw [hU]; exact (grow_u (by omega) HU1.out).2
      have hor : bits .or .u64 (u : Int) (IntKind.u64.wrap ((b : Int) % 128 * 2 ^ (7 * k))) = (U : Int) := by rw [or_go (by omega) HU1.out, hU]
      have hnd := and127b hb8
      have HUe : Hid (U = u + ((L.getD p 0).toNat % 128 * 2 ^ (7 * k)) % 18446744073709551616) := by rw [HBb.out]; exact hU
      clear ha hb hU HU1
      go_wp2_with fail
      refine (read_one R wr.heap.size g p (N - p) cap (b : Int) 0 0 _ (by omega) hcap HNe.out HA.out HX.out HC.out).mono ?_
      rintro e w1 ⟨rfl, ao', cap', rfl, hc', he'⟩
      have HS : Hid (Lf (((wr.alloc (.cells #[.int .u8 0] 105)).setCell ⟨wr.heap.size, 0, none⟩ (.int .u8 (b : Int))).setCell ⟨R, 0, none⟩ (.slice ao' (N - p - 1) cap')) R g N (p + 1) L ∧ At (((wr.alloc (.cells #[.int .u8 0] 105)).setCell ⟨wr.heap.size, 0, none⟩ (.int .u8 (b : Int))).setCell ⟨R, 0, none⟩ (.slice ao' (N - p - 1) cap')) wr.heap.size #[.int .u8 (b : Int)] ∧ wr.grownBy (((wr.alloc (.cells #[.int .u8 0] 105)).setCell ⟨wr.heap.size, 0, none⟩ (.int .u8 (b : Int))).setCell ⟨R, 0, none⟩ (.slice ao' (N - p - 1) cap')) (some R)) := HF.out.step hpN _ hc' he'
      generalize hw1 : (((wr.alloc (.cells #[.int .u8 0] 105)).setCell ⟨wr.heap.size, 0, none⟩ (.int .u8 (b : Int))).setCell ⟨R, 0, none⟩ (.slice ao' (N - p - 1) cap')) = w1 at HS ⊢
      clear hw1 hc' he' HA HC HX
      have HW1 : Hid (w.grownBy w1 (some R)) := grown_trans HW.out HS.out.2.2 (fun b e => Or.inl e.symm)
      have x0 := HS.out.2.1.c 0
      clear HW
      by_cases hbad : (k = 9 ∧ 1 < b) ∨ (0 < k ∧ b = 0)
      · have HQ : Hid (∃ p', rdNum L p0 0 = (3, 0, p')) := by
          rw [← HG1.out]
          by_cases h128 : 128 ≤ b
          · have h9 : k = 9 := by omega
            have hf0 : f = 0 := by omega
            subst hf0
            exact ⟨_, by rw [rdGo_more HPL.out (by rw [HBb.out]; omega)]; exact rdGo_end⟩
          · exact ⟨_, rdGo_form HPL.out (by rw [HBb.out]; omega) (by rw [HBb.out]; omega)⟩
        obtain ⟨ao2, cap2, ha2, _⟩ := HS.out.1.at_
        have HA2 : Hid (At w1 R #[.slice ao2 (N - (p + 1)) cap2, .int .i64 0]) := ha2
        clear ha2 HG1 HU9 HUe hor hnd
        by_cases hk9 : k = 9 ∧ 1 < b
        · have kt : ((k : Int) == 9) = true := by rw [hk9.1]; rfl
          have hb1 : 1 < b := hk9.2
          clear hk9 hbad
          go_wp2_with fail
          refine (stop_any R 3 0 _ _ HA2.out).mono ?_
          rintro e w2 ⟨rfl, rfl⟩
          go_wp2
          obtain ⟨p', hq⟩ := HQ.out
          exact ⟨rfl, ⟨3, 0, p', hq, Or.inr ⟨by decide, rfl, HS.out.1.fault 3⟩⟩, grown_set HW1.out (Or.inl rfl)⟩
        · have hk0 : 0 < k ∧ b = 0 := by omega
          have bt : ((b : Int) == 0) = true := by rw [hk0.2]; rfl
          have hkp : 0 < k := hk0.1
          have hb1 : ¬ 1 < b := by omega
          have kz : ((k : Int) == 9) = decide (k = 9) := by by_cases e : k = 9 <;> simp [e] <;> omega
          clear hk9 hbad hk0
          by_cases e9 : k = 9
          · have kt : ((k : Int) == 9) = true := by rw [e9]; rfl
            clear kz e9
            go_wp2_with fail
            refine (stop_any R 3 0 _ _ HA2.out).mono ?_
            rintro e w2 ⟨rfl, rfl⟩
            go_wp2
            obtain ⟨p', hq⟩ := HQ.out
            exact ⟨rfl, ⟨3, 0, p', hq, Or.inr ⟨by decide, rfl, HS.out.1.fault 3⟩⟩, grown_set HW1.out (Or.inl rfl)⟩
          · have kf : ((k : Int) == 9) = false := beq_eq_false_iff_ne.2 (by omega)
            clear kz e9
            go_wp2_with fail
            refine (stop_any R 3 0 _ _ HA2.out).mono ?_
            rintro e w2 ⟨rfl, rfl⟩
            go_wp2
            obtain ⟨p', hq⟩ := HQ.out
            exact ⟨rfl, ⟨3, 0, p', hq, Or.inr ⟨by decide, rfl, HS.out.1.fault 3⟩⟩, grown_set HW1.out (Or.inl rfl)⟩
      · by_cases hm : 128 ≤ b
        · have hk9 : k < 9 := by omega
          have kf : ((k : Int) == 9) = false := beq_eq_false_iff_ne.2 (by omega)
          have bf : ((b : Int) == 0) = false := beq_eq_false_iff_ne.2 (by omega)
          have HQ : Hid (rdGo L (10 - (k + 1)) (k + 1) (p + 1) U = rdNum L p0 0) := by
            rw [← HG1.out, rdGo_more HPL.out (by rw [HBb.out]; omega), ← HUe.out, show 10 - (k + 1) = f by omega]
            exact rfl
          have HN9 : Hid (U < 2 ^ (7 * (k + 1))) := HU9.out hk9
          clear HG1 HU9 HUe hbad
          by_cases hk0 : 0 < k
          · go_wp2
            go_roundw
            case rel => exact ⟨k + 1, U, p + 1, by omega, by simp, by go_num, by omega, HN9.out, HQ.out, HS.out.1, HW1.out⟩
            case measure => simp [intOf]; omega
          · go_wp2
            go_roundw
            case rel => exact ⟨k + 1, U, p + 1, by omega, by simp, by go_num, by omega, HN9.out, HQ.out, HS.out.1, HW1.out⟩
            case measure => simp [intOf]; omega
        · have HQ : Hid (rdNum L p0 0 = (0, unzig U, p + 1)) := by
            rw [← HG1.out, rdGo_told HPL.out (by rw [HBb.out]; omega) (by rw [HBb.out]; omega), ← HUe.out]
            exact rfl
          clear HG1 HU9 HUe
          by_cases hk9 : k = 9
          · have kt : ((k : Int) == 9) = true := by rw [hk9]; rfl
            have hb1 : ¬ 1 < b := by omega
            have bf : ((b : Int) == 0) = false := beq_eq_false_iff_ne.2 (by omega)
            have hk0 : 0 < k := by omega
            clear hk9 hbad
            by_cases hpar : U % 2 = 1
            · skip
              have hob : ((U : Int) % 2 == 1) = true := by rw [beq_iff_eq]; omega
              have hv := not_half hUu
              have HZ : Hid (unzig U = -((U / 2 : Nat) : Int) - 1) := if_pos hpar
              clear hpar
              go_wp2
              go_ret
              exact ⟨⟨0, unzig U, p + 1, HQ.out, Or.inl ⟨rfl, by show Ending.returned (.int .i64 (wrap64 _)) = _; rw [HZ.out, odd_val hUu], HS.out.1⟩⟩, HW1.out⟩
            · skip
              have hob : ((U : Int) % 2 == 1) = false := beq_eq_false_iff_ne.2 (by omega)
              have HZ : Hid (unzig U = ((U / 2 : Nat) : Int)) := if_neg hpar
              clear hpar
              go_wp2
              go_ret
              exact ⟨⟨0, unzig U, p + 1, HQ.out, Or.inl ⟨rfl, by show Ending.returned (.int .i64 ((U : Int) / 2)) = _; rw [HZ.out, Int.natCast_ediv]; rfl, HS.out.1⟩⟩, HW1.out⟩
          · have kf : ((k : Int) == 9) = false := beq_eq_false_iff_ne.2 (by omega)
            by_cases hk0 : 0 < k
            · have bf : ((b : Int) == 0) = false := beq_eq_false_iff_ne.2 (by omega)
              clear hk9 hbad
              by_cases hpar : U % 2 = 1
              · skip
                have hob : ((U : Int) % 2 == 1) = true := by rw [beq_iff_eq]; omega
                have hv := not_half hUu
                have HZ : Hid (unzig U = -((U / 2 : Nat) : Int) - 1) := if_pos hpar
                clear hpar
                go_wp2
                go_ret
                exact ⟨⟨0, unzig U, p + 1, HQ.out, Or.inl ⟨rfl, by show Ending.returned (.int .i64 (wrap64 _)) = _; rw [HZ.out, odd_val hUu], HS.out.1⟩⟩, HW1.out⟩
              · skip
                have hob : ((U : Int) % 2 == 1) = false := beq_eq_false_iff_ne.2 (by omega)
                have HZ : Hid (unzig U = ((U / 2 : Nat) : Int)) := if_neg hpar
                clear hpar
                go_wp2
                go_ret
                exact ⟨⟨0, unzig U, p + 1, HQ.out, Or.inl ⟨rfl, by show Ending.returned (.int .i64 ((U : Int) / 2)) = _; rw [HZ.out, Int.natCast_ediv]; rfl, HS.out.1⟩⟩, HW1.out⟩
            · clear hk9 hbad
              by_cases hpar : U % 2 = 1
              · skip
                have hob : ((U : Int) % 2 == 1) = true := by rw [beq_iff_eq]; omega
                have hv := not_half hUu
                have HZ : Hid (unzig U = -((U / 2 : Nat) : Int) - 1) := if_pos hpar
                clear hpar
                go_wp2
                go_ret
                exact ⟨⟨0, unzig U, p + 1, HQ.out, Or.inl ⟨rfl, by show Ending.returned (.int .i64 (wrap64 _)) = _; rw [HZ.out, odd_val hUu], HS.out.1⟩⟩, HW1.out⟩
              · skip
                have hob : ((U : Int) % 2 == 1) = false := beq_eq_false_iff_ne.2 (by omega)
                have HZ : Hid (unzig U = ((U / 2 : Nat) : Int)) := if_neg hpar
                clear hpar
                go_wp2
                go_ret
                exact ⟨⟨0, unzig U, p + 1, HQ.out, Or.inl ⟨rfl, by show Ending.returned (.int .i64 ((U : Int) / 2)) = _; rw [HZ.out, Int.natCast_ediv]; rfl, HS.out.1⟩⟩, HW1.out⟩
end Go.Proofs.Ytobhljmpdolomaa
