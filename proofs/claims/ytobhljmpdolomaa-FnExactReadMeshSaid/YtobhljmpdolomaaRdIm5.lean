import Derived.Test.YtobhljmpdolomaaRdIm4
import Derived.Test.YtobhljmpdolomaaPkIm3
import Derived.Laws.BytesArg
import Derived.Recover
import Derived.Defers
namespace Go.Proofs.Ytobhljmpdolomaa
open Go.RowKit

theorem run_copy_two (w : World) (ty : TypeId) (X g p m cap : Nat) (b c : Int) (hm : 2 ≤ m) (hx0 : (w.cell? ⟨X, 0, none⟩).isSome = true) (hx1 : (w.cell? ⟨X, 1, none⟩).isSome = true) (hf0 : w.frozen? ⟨X, 0, none⟩ = false) (hf1 : w.frozen? ⟨X, 1, none⟩ = false) (hb : w.cell? ⟨g, p, none⟩ = some (.int .u8 b)) (hc : w.cell? ⟨g, p + 1, none⟩ = some (.int .u8 c)) :
    (Builtin.copy_ #[35, 35] ty #[.slice (some ⟨X, 0, none⟩) 2 2, .slice (some ⟨g, p, none⟩) m cap]).run Try.prog w = .ok (.int .i64 2) ((w.setCell ⟨X, 0, none⟩ (.int .u8 b)).setCell ⟨X, 1, none⟩ (.int .u8 c)) := by
  have h := run_copy_cells (P := Try.prog) w 35 35 ty 5 X 0 2 2 ⟨g, p, none⟩ m cap [.int .u8 b, .int .u8 c] Try.underlying35 infoB1 (by simp [Nat.min_def]; omega) ?_ ?_ ?_ ?_
  · simpa [World.setCells, goInt] using h
  · intro j v hj
    match j, hj with
    | 0, hj => simp at hj; subst hj; simpa [Addr.add] using hb
    | 1, hj => simp at hj; subst hj; simpa [Addr.add] using hc
    | j + 2, hj => simp at hj
  · intro j hj
    match j, hj with
    | 0, _ => exact hx0
    | 1, _ => exact hx1
    | j + 2, hj => simp at hj; omega
  · intro j hj
    match j, hj with
    | 0, _ => exact hf0
    | 1, _ => exact hf1
    | j + 2, hj => simp at hj; omega
  · intro v hv
    simp at hv
    rcases hv with rfl | rfl <;> rfl
theorem run_copy_part (w : World) (ty : TypeId) (X g p cap : Nat) (b : Int) (hx : (w.cell? ⟨X, 0, none⟩).isSome = true) (hf : w.frozen? ⟨X, 0, none⟩ = false) (hb : w.cell? ⟨g, p, none⟩ = some (.int .u8 b)) :
    (Builtin.copy_ #[35, 35] ty #[.slice (some ⟨X, 0, none⟩) 2 2, .slice (some ⟨g, p, none⟩) 1 cap]).run Try.prog w = .ok (.int .i64 1) (w.setCell ⟨X, 0, none⟩ (.int .u8 b)) := by
  have h := run_copy_cells (P := Try.prog) w 35 35 ty 5 X 0 2 2 ⟨g, p, none⟩ 1 cap [.int .u8 b] Try.underlying35 infoB1 (by simp) ?_ ?_ ?_ ?_
  · simpa [World.setCells, goInt] using h
  · intro j v hj
    match j, hj with
    | 0, hj => simp at hj; subst hj; simpa [Addr.add] using hb
    | j + 1, hj => simp at hj
  · intro j hj
    simp at hj
    subst hj
    exact hx
  · intro j hj
    simp at hj
    subst hj
    exact hf
  · intro v hv
    simp at hv
    subst hv
    rfl

set_option maxHeartbeats 1000000 in
theorem read_two (R X g p m cap : Nat) (b c x y : Int) (w : World) (hm : 2 ≤ m) (hmc : m ≤ cap) (hne : X ≠ R) (hR : At w R #[.slice (some ⟨g, p, none⟩) m cap, .int .i64 0]) (hX : At w X #[.int .u8 x, .int .u8 y]) (hb : w.cell? ⟨g, p, none⟩ = some (.int .u8 b)) (hc : w.cell? ⟨g, p + 1, none⟩ = some (.int .u8 c)) :
    Calls Try.prog 47 #[.pointer (some ⟨R, 0, none⟩), .slice (some ⟨X, 0, none⟩) 2 2] w fun e w' => e = .returned (.tuple #[]) ∧ ∃ ao' cap', w' = ((w.setCell ⟨X, 0, none⟩ (.int .u8 b)).setCell ⟨X, 1, none⟩ (.int .u8 c)).setCell ⟨R, 0, none⟩ (.slice ao' (m - 2) cap') := by
  have hcp := fun ty => run_copy_two w ty X g p m cap b c hm (by rw [hX.c]; rfl) (by rw [hX.c]; rfl) (hX.fz 0) (hX.fz 1) hb hc
  have hr0 := hR.c 0
  have hrz := hR.fz 0
  by_cases hcap : cap = 2
  · subst hcap
    obtain rfl : m = 2 := by omega
    go_enter Try.func47, Try.ntmps47
    go_wp2
    go_end0
    exact ⟨rfl, _, _, rfl⟩
  · go_enter Try.func47, Try.ntmps47
    go_wp2
    go_end0
    exact ⟨rfl, _, _, rfl⟩

set_option maxHeartbeats 1000000 in
/-- Too few bytes for the sum. -/
theorem read_few (R X g N p : Nat) (L : List Int) (x y : Int) (w : World) (_hN0 : 0 < N) (hne : X ≠ R) (hgx : g ≠ X) (hl : Lf w R g N p L) (hX : At w X #[.int .u8 x, .int .u8 y]) (hf : N < p + 2) :
    Calls Try.prog 47 #[.pointer (some ⟨R, 0, none⟩), .slice (some ⟨X, 0, none⟩) 2 2] w fun e w' => e = .panicked (chain 2) ∧ Fl w' R 2 ∧ w'.heap.size = w.heap.size ∧ w'.os = w.os ∧ w'.tape = w.tape ∧ w'.output = w.output ∧ ∀ b, b ≠ R → b ≠ X → w'.heap[b]? = w.heap[b]? := by
  obtain ⟨ao, cap, ha, hcap, hao⟩ := hl.at_
  have hle := hl.le
  by_cases h0 : N - p = 0
  · rw [h0] at ha
    have hcp : ∀ ty, (Builtin.copy_ #[35, 35] ty #[.slice (some ⟨X, 0, none⟩) 2 2, .slice ao 0 cap]).run Try.prog w = .ok (.int .i64 0) w := fun ty => run_copy_none (P := Try.prog) w 35 35 ty 5 _ _ 2 2 0 cap Try.underlying35 infoB1 (by simp)
    have HR : Hid (At w R #[.slice ao 0 cap, .int .i64 0]) := ha
    have HL : Hid (Lf w R g N p L) := hl
    have hr0 := ha.c 0
    clear ha hX hl
    go_enter Try.func47, Try.ntmps47
    go_wp2_with fail
    refine (stop_any R 2 0 _ _ HR.out).mono ?_
    rintro e w1 ⟨rfl, rfl⟩
    go_wp2
    exact ⟨rfl, rfl, HL.out.fault 2, by simp, rfl, rfl, rfl, fun b hb _ => Deep.blk_setCell_other _ _ _ _ hb⟩
  · have h1 : N - p = 1 := by omega
    obtain rfl := hao (by omega)
    rw [h1] at ha
    obtain ⟨b, hb⟩ : ∃ b, w.cell? ⟨g, p, none⟩ = some (.int .u8 b) := by
      obtain ⟨g', e, _, hc⟩ := hl.rd.cell (i := p) (by omega)
      simp only [Option.some.injEq, Addr.mk.injEq] at e
      obtain ⟨rfl, _⟩ := e
      exact ⟨_, hc⟩
    have hcp := fun ty => run_copy_part w ty X g p cap b (by rw [hX.c]; rfl) (hX.fz 0) hb
    have HR : Hid (At (w.setCell ⟨X, 0, none⟩ (.int .u8 b)) R #[.slice (some ⟨g, p, none⟩) 1 cap, .int .i64 0]) := ha.other hne.symm 0 _
    have HL : Hid (Lf (w.setCell ⟨X, 0, none⟩ (.int .u8 b)) R g N p L) := hl.keep (Deep.blk_setCell_other _ _ _ _ hne.symm) (fun _ _ => Deep.blk_setCell_other _ _ _ _ hgx) (by simp)
    have hr0 := ha.c 0
    clear ha hl
    go_enter Try.func47, Try.ntmps47
    go_wp2_with fail
    refine (stop_any R 2 0 _ _ HR.out).mono ?_
    rintro e w1 ⟨rfl, rfl⟩
    go_wp2
    exact ⟨rfl, rfl, HL.out.fault 2, by simp, rfl, rfl, rfl, fun b hb hx => by rw [Deep.blk_setCell_other _ _ _ _ hb, Deep.blk_setCell_other _ _ _ _ hx]⟩

/-- Whether the bytes begin as they should. -/
def magic (L : List Int) : Bool := decide (3 ≤ L.length ∧ L.getD 0 0 = 83 ∧ L.getD 1 0 = 77 ∧ L.getD 2 0 = 1)
theorem ofNat_inj {a b : Int} (ha : 0 ≤ a ∧ a < 256) (hb : 0 ≤ b ∧ b < 256) (h : UInt8.ofNat a.toNat = UInt8.ofNat b.toNat) : a = b := by
  have h2 := congrArg UInt8.toNat h
  simp only [UInt8.toNat_ofNat'] at h2
  omega
theorem str_beq {b0 b1 b2 : Int} (h0 : 0 ≤ b0 ∧ b0 < 256) (h1 : 0 ≤ b1 ∧ b1 < 256) (h2 : 0 ≤ b2 ∧ b2 < 256) : ((strOfNums [b0, b1, b2]).toList == (strOfNums [83, 77, 1]).toList) = decide (b0 = 83 ∧ b1 = 77 ∧ b2 = 1) := by
  rw [ByteArray.toList_eq, ByteArray.toList_eq, strOfNums_data, strOfNums_data]
  by_cases h : b0 = 83 ∧ b1 = 77 ∧ b2 = 1
  · obtain ⟨rfl, rfl, rfl⟩ := h
    rfl
  · rw [decide_eq_false h, beq_eq_false_iff_ne]
    intro h3
    simp only [List.map_cons, List.map_nil, List.cons.injEq, and_true] at h3
    exact h ⟨ofNat_inj h0 (by omega) h3.1, ofNat_inj h1 (by omega) h3.2.1, ofNat_inj h2 (by omega) h3.2.2⟩

set_option maxHeartbeats 1000000 in
theorem equal3_any (g P c : Nat) (b0 b1 b2 : Int) (w : World) (h0 : 0 ≤ b0 ∧ b0 < 256) (h1 : 0 ≤ b1 ∧ b1 < 256) (h2 : 0 ≤ b2 ∧ b2 < 256) (c0 : w.cell? ⟨g, 0, none⟩ = some (.int .u8 b0)) (c1 : w.cell? ⟨g, 1, none⟩ = some (.int .u8 b1)) (c2 : w.cell? ⟨g, 2, none⟩ = some (.int .u8 b2)) (d0 : w.cell? ⟨P, 0, none⟩ = some (.int .u8 83)) (d1 : w.cell? ⟨P, 1, none⟩ = some (.int .u8 77)) (d2 : w.cell? ⟨P, 2, none⟩ = some (.int .u8 1)) :
    Calls Try.prog 60 #[.slice (some ⟨g, 0, none⟩) 3 c, .slice (some ⟨P, 0, none⟩) 3 3] w fun e w' => e = .returned (.bool (decide (b0 = 83 ∧ b1 = 77 ∧ b2 = 1))) ∧ w' = w := by
  have hA := run_convert_bytes_arg (P := Try.prog) w 35 5 Try.underlying35 Try.underlying5 g 0 3 c [b0, b1, b2] rfl (fun i hi => by
    match i, hi with
    | 0, _ => exact c0
    | 1, _ => exact c1
    | 2, _ => exact c2) 9 Try.underlying9
  have hB := run_convert_bytes_arg (P := Try.prog) w 35 5 Try.underlying35 Try.underlying5 P 0 3 3 [83, 77, 1] rfl (fun i hi => by
    match i, hi with
    | 0, _ => exact d0
    | 1, _ => exact d1
    | 2, _ => exact d2) 9 Try.underlying9
  have hq := str_beq h0 h1 h2
  generalize hs : strOfNums [b0, b1, b2] = s at hA hq
  generalize ht : strOfNums [83, 77, 1] = t at hB hq
  clear hs ht
  generalize hx : decide (b0 = 83 ∧ b1 = 77 ∧ b2 = 1) = x at hq ⊢
  clear hx
  go_enter Try.func60, Try.ntmps60
  go_wp2
  go_ret
  exact ⟨rfl, rfl⟩

set_option maxHeartbeats 1000000 in
theorem hasPrefix_any (N cap P : Nat) (ao : Option Addr) (L : List Int) (x : Bool) (w : World) (hx : magic L = x) (hlen : L.length = N) (hcap : N ≤ cap) (hN : N ≤ 1048576) (hby : ∀ b ∈ L, 0 ≤ b ∧ b < 256) (hrd : RdB w ao N L) (d0 : w.cell? ⟨P, 0, none⟩ = some (.int .u8 83)) (d1 : w.cell? ⟨P, 1, none⟩ = some (.int .u8 77)) (d2 : w.cell? ⟨P, 2, none⟩ = some (.int .u8 1)) :
    Calls Try.prog 44 #[.slice ao N cap, .slice (some ⟨P, 0, none⟩) 3 3] w fun e w' => e = .returned (.bool x) ∧ w' = w := by
  by_cases h3 : N < 3
  · have e : magic L = false := decide_eq_false fun h => by omega
    rw [e] at hx
    subst hx
    clear hrd d0 d1 d2 hby e
    go_enter Try.func44, Try.ntmps44
    go_wp2
    go_ret
    exact ⟨rfl, rfl⟩
  · obtain ⟨g, rfl, _, c0⟩ := hrd.cell (i := 0) (by omega)
    obtain ⟨g1, e1, _, c1⟩ := hrd.cell (i := 1) (by omega)
    obtain ⟨g2, e2, _, c2⟩ := hrd.cell (i := 2) (by omega)
    simp only [Option.some.injEq, Addr.mk.injEq] at e1 e2
    obtain ⟨rfl, _⟩ := e1
    obtain ⟨rfl, _⟩ := e2
    have b0 := hby _ (getD_mem (k := 0) (by omega))
    have b1 := hby _ (getD_mem (k := 1) (by omega))
    have b2 := hby _ (getD_mem (k := 2) (by omega))
    have e : magic L = decide (L.getD 0 0 = 83 ∧ L.getD 1 0 = 77 ∧ L.getD 2 0 = 1) := by
      unfold magic
      by_cases h : L.getD 0 0 = 83 ∧ L.getD 1 0 = 77 ∧ L.getD 2 0 = 1
      · rw [decide_eq_true h, decide_eq_true ⟨by omega, h⟩]
      · rw [decide_eq_false h, decide_eq_false fun h' => h h'.2]
    rw [e] at hx
    generalize L.getD 0 0 = x0 at *
    generalize L.getD 1 0 = x1 at *
    generalize L.getD 2 0 = x2 at *
    have HX : Hid (decide (x0 = 83 ∧ x1 = 77 ∧ x2 = 1) = x) := hx
    have HC : Hid ((0 ≤ x0 ∧ x0 < 256) ∧ (0 ≤ x1 ∧ x1 < 256) ∧ (0 ≤ x2 ∧ x2 < 256)) := ⟨b0, b1, b2⟩
    have HD : Hid ((w.cell? ⟨g, 0, none⟩ = some (.int .u8 x0) ∧ w.cell? ⟨g, 1, none⟩ = some (.int .u8 x1) ∧ w.cell? ⟨g, 2, none⟩ = some (.int .u8 x2)) ∧ w.cell? ⟨P, 0, none⟩ = some (.int .u8 83) ∧ w.cell? ⟨P, 1, none⟩ = some (.int .u8 77) ∧ w.cell? ⟨P, 2, none⟩ = some (.int .u8 1)) := ⟨⟨c0, c1, c2⟩, d0, d1, d2⟩
    clear hx b0 b1 b2 c0 c1 c2 d0 d1 d2 e hby hrd
    go_enter Try.func44, Try.ntmps44
    go_wp2_with fail
    refine (equal3_any g P cap x0 x1 x2 _ HC.out.1 HC.out.2.1 HC.out.2.2 HD.out.1.1 HD.out.1.2.1 HD.out.1.2.2 HD.out.2.1 HD.out.2.2.1 HD.out.2.2.2).mono ?_
    rintro e w1 ⟨rfl, rfl⟩
    rw [HX.out]
    go_wp2
    go_ret
    exact ⟨rfl, rfl⟩

/-- What ReadMesh defers, while it panics. -/
theorem catch_panicking (R M C : Nat) (c f : Int) (a b s : Value) (w : World) (hR : w.cell? ⟨R, 1, none⟩ = some (.int .i64 f)) (hM : At w M #[a, b]) (hC : At w C #[s]) (hMC : M ≠ C) (hRM : R ≠ M) :
    CallsD Try.prog 45 #[.pointer (some ⟨R, 0, none⟩), .pointer (some ⟨M, 0, none⟩), .pointer (some ⟨C, 0, none⟩)] (.panicking (chain c)) w fun e u' w' =>
      e = .returned (.tuple #[]) ∧ u' = .panicking [{ v := .iface 2 (.int .i64 c), recovered := true }] ∧ w' = ((w.setCell ⟨M, 0, none⟩ (.slice none 0 0)).setCell ⟨M, 1, none⟩ (.slice none 0 0)).setCell ⟨C, 0, none⟩ (.int .i64 f) := by
  have m0 := hM.c 0
  have m1 := hM.c 1
  have z0 := hM.fz 0
  have z1 := hM.fz 1
  have k0 := hC.c 0
  have kz := hC.fz 0
  refine callsD_of_wpS Try.func45 rfl fun c₀ cs hu => ?_
  apply wpS_seq
  apply wpS_region
  unfold chain at hu
  simp [wpOpsS, go_sem, recoverD, hu, Try.ntmps45, Exit.thenS]
  refine wpS_cond (t := true) (by simp [Act.eval, Array.replicate]) ?_
  simp only [if_true]
  apply wpS_region
  simp [wpOpsS, go_sem, m0, m1, z0, z1, k0, kz, hR, bodyPostS, results, Try.results45]

theorem catch_idle (a b c : Value) (w : World) :
    CallsD Try.prog 45 #[a, b, c] .returning w fun e u' w' => e = .returned (.tuple #[]) ∧ u' = .returning ∧ w' = w := by
  refine callsD_of_wpS Try.func45 rfl fun c₀ cs hu => ?_
  apply wpS_seq
  apply wpS_region
  simp [wpOpsS, go_sem, recoverD, hu, Try.ntmps45, Exit.thenS]
  refine wpS_cond (t := false) (by simp [Act.eval, Array.replicate]) ?_
  simp only [Bool.false_eq_true, if_false]
  refine wpS_of_wp (wp_skip ?_)
  cases c₀
  simp_all [bodyPostS, results, Try.results45]
end Go.Proofs.Ytobhljmpdolomaa
