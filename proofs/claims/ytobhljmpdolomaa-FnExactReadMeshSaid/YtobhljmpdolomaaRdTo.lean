import Derived.Test.YtobhljmpdolomaaRdMark
namespace Go.Proofs.Ytobhljmpdolomaa
open Go.RowKit

/-- Bytes that lie anywhere. -/
def RdA (w : World) (ao : Option Addr) (n : Nat) (L : List Int) : Prop :=
  0 < n → ∃ b off, ao = some ⟨b, off, none⟩ ∧ b < w.heap.size ∧ ∀ j, j < n → w.cell? ⟨b, off + j, none⟩ = some (.int .u8 (L.getD j 0))
theorem RdA.below {w w' : World} {ao : Option Addr} {n B : Nat} {L : List Int} (h : RdA w ao n L) (hb : Below B w w') (hB : w.heap.size ≤ B) : RdA w' ao n L := fun h0 => by
  obtain ⟨b, off, e, hl, hc⟩ := h h0
  exact ⟨b, off, e, Nat.lt_of_lt_of_le hl hb.size, fun j hj => (hb.cell (p := ⟨b, off + j, none⟩) (Nat.lt_of_lt_of_le hl hB)).trans (hc j hj)⟩
theorem run_make_bytes (n : Nat) (hn : n ≤ 1048576) (w : World) : (Instr.makeSlice 35 (.int .i64 (n : Int)) (.int .i64 (n : Int))).run Try.prog w = .ok (.slice (some ⟨w.heap.size, 0, none⟩) n n) (w.alloc (.cells (madeCells #[.int .u8 0] n) 5)) := by
  obtain ⟨i, hi, hzz⟩ := Option.map_eq_some_iff.1 infoB
  simp only [Prod.mk.injEq] at hzz
  obtain ⟨hz, hs, hb⟩ := hzz
  have hr := run_make (P := Try.prog) w 35 5 i (.int .u8 0) Try.underlying35 hi hz .i64 .i64 n n (by omega) (Int.le_refl _) (by rw [hb]; omega) (by omega)
  simp only [Int.toNat_natCast, hs, Value.cells, Nat.mul_one] at hr
  exact hr

set_option maxHeartbeats 1000000 in
theorem toByteS_any (n cap : Nat) (ao : Option Addr) (L : List Int) (w : World) (hn : n ≤ 1048576) (ha : RdA w ao n L) :
    Calls Try.prog 18 #[.slice ao n cap] w fun e w' => ∃ g, e = .returned (.slice (some ⟨g, 0, none⟩) n n) ∧ w.heap.size ≤ g ∧ g < w'.heap.size ∧ RdB w' (some ⟨g, 0, none⟩) n L ∧ Below w.heap.size w w' := by
  have hmk := run_make_bytes n hn w
  have H0 : Hid ((w.alloc (.cells (madeCells #[.int .u8 0] n) 5)).rowIs w.heap.size 5 n (fun _ => .int .u8 0)) := World.rowIs_made _ _ _ _
  have HA : Hid (RdA w ao n L) := ha
  clear ha
  go_enter Try.func18, Try.ntmps18
  go_wp2
  go_loopw [4] (fun i wr => ∃ k : Nat, k ≤ n ∧ i = .int .i64 k ∧ Hid (∃ f, wr.rowIs w.heap.size 5 n f ∧ ∀ j, j < k → f j = .int .u8 (L.getD j 0)) ∧ Hid (Below w.heap.size w wr)) (fun i _ => n - (intOf i).toNat)
  case atStart => exact ⟨0, Nat.zero_le _, rfl, ⟨_, H0.out, fun j hj => absurd hj (Nat.not_lt_zero _)⟩, (Below.refl _ _).alloc (Nat.le_refl _) _⟩
  case round =>
    obtain ⟨k, hk, rfl, HF, HB⟩ := hrel
    by_cases hlt : k < n
    · obtain ⟨f1, hr1, hf1⟩ := HF.out
      obtain ⟨b, off, rfl, hbw, hcell⟩ := HA.out (by omega)
      have c0 : wr.cell? ⟨b, off + k, none⟩ = some (.int .u8 (L.getD k 0)) := (HB.out.cell (p := ⟨b, off + k, none⟩) hbw).trans (hcell k hlt)
      have d0 := hr1.cell (i := k) hlt
      have z0 := hr1.frozen k
      have HR1 : Hid (wr.rowIs w.heap.size 5 n f1 ∧ ∀ j, j < k → f1 j = .int .u8 (L.getD j 0)) := ⟨hr1, hf1⟩
      clear hr1 hf1 HF hcell hmk H0
      go_wp2
      go_roundw
      case rel =>
        refine ⟨k + 1, by omega, by simp, ⟨_, HR1.out.1.set k _, fun j hj => ?_⟩, HB.out.setCell (p := ⟨w.heap.size, k, none⟩) (Nat.le_refl _) _⟩
        by_cases e : j = k
        · subst e; rw [if_pos rfl]; exact rfl
        · rw [if_neg e]; exact HR1.out.2 j (by omega)
      case measure => simp [intOf]; omega
    · obtain ⟨f1, hr1, hf1⟩ := HF.out
      have HE : Hid (w.heap.size < wr.heap.size ∧ RdB wr (some ⟨w.heap.size, 0, none⟩) n L) := ⟨hr1.lt, fun _ => ⟨w.heap.size, n, f1, rfl, hr1, Nat.le_refl _, fun j hj => hf1 j (by omega)⟩⟩
      clear hr1 hf1 HF hmk H0
      go_wp2
      go_ret
      exact ⟨_, rfl, Nat.le_refl _, HE.out.1, HE.out.2, HB.out⟩

theorem readL_le (L : List Int) : (readL L).nv ≤ 200 ∧ (readL L).nt ≤ 300 := by
  rcases Bool.eq_false_or_eq_true (magic L) with hm | hm
  · have h1 := rdCount_le L 3 0 200 (by decide)
    have h2 := rdCount_le L (mB L 3).2 (mB L 3).1 300 (by decide)
    have h1' : (mA L 3).2.1 ≤ 200 := h1.2
    have h2' : (mD L 3).2.1 ≤ 300 := h2.2
    rw [readL_more hm]
    split
    · exact ⟨Nat.zero_le _, Nat.zero_le _⟩
    · split
      · exact ⟨Nat.zero_le _, Nat.zero_le _⟩
      · split
        · exact ⟨Nat.zero_le _, Nat.zero_le _⟩
        · split
          · exact ⟨Nat.zero_le _, Nat.zero_le _⟩
          · exact ⟨by show (mA L 3).2.1.toNat ≤ 200; omega, by show (mD L 3).2.1.toNat ≤ 300; omega⟩
  · rw [readL_magic hm]
    exact ⟨Nat.zero_le _, Nat.zero_le _⟩
end Go.Proofs.Ytobhljmpdolomaa
