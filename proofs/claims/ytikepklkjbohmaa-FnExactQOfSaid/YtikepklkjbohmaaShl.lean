import Derived.Test.YtikepklkjbohmaaZed
namespace Go.Proofs.Ytikepklkjbohmaa
open Go.RowKit

theorem pow_le31 (s : Nat) (hs : s ≤ 31) : 2 ^ s ≤ 2147483648 := by
  have := Nat.pow_le_pow_right (n := 2) (by omega) hs
  simpa using this
theorem shl_lt (x s : Nat) (hx : x < 4294967296) (hs : s ≤ 31) : x * 2 ^ s < 9223372036854775808 := by
  have h := pow_le31 s hs
  have := Nat.mul_le_mul (show x ≤ 4294967295 by omega) h
  omega
theorem or_shl (x cy s : Nat) (hx : x < 4294967296) (hs : s ≤ 31) (hc : cy < 2 ^ s) : bits BinOp.or IntKind.u64 (IntKind.u64.wrap ((x : Int) * 2 ^ s)) (cy : Int) = ((x * 2 ^ s + cy : Nat) : Int) := by
  have h1 := shl_lt x s hx hs
  have h2 := pow_le31 s hs
  have e : ((x : Int) * 2 ^ s) = ((x * 2 ^ s : Nat) : Int) := by simp
  rw [e, show IntKind.u64.wrap ((x * 2 ^ s : Nat) : Int) = ((x * 2 ^ s : Nat) : Int) from by rw [wrap_u64]; omega]
  rw [u64_or_nat (x * 2 ^ s) cy (by omega) (by omega)]
  congr 1
  rw [Nat.mul_comm]
  exact (Nat.two_pow_add_eq_or_of_lt (i := s) (b := cy) hc x).symm
theorem shl_step (k cy s T : Nat) (o f : Nat → Nat) (h : val k o + cy * 4294967296 ^ k = val k f * 2 ^ s) (hT : T = f k * 2 ^ s + cy) :
    val (k + 1) (upd o k (T % 4294967296)) + T / 4294967296 * 4294967296 ^ (k + 1) = val (k + 1) f * 2 ^ s := by
  show val k (upd o k (T % 4294967296)) + upd o k (T % 4294967296) k * 4294967296 ^ k + T / 4294967296 * 4294967296 ^ (k + 1) = (val k f + f k * 4294967296 ^ k) * 2 ^ s
  rw [val_upd_ge k k o _ (Nat.le_refl _), show upd o k (T % 4294967296) k = T % 4294967296 from if_pos rfl, Nat.pow_succ]
  generalize 4294967296 ^ k = P at h ⊢
  have e : T % 4294967296 * P + T / 4294967296 * (P * 4294967296) = T * P := by
    have h := Nat.div_add_mod T 4294967296
    calc T % 4294967296 * P + T / 4294967296 * (P * 4294967296) = (4294967296 * (T / 4294967296) + T % 4294967296) * P := by
          rw [Nat.add_mul, Nat.mul_comm P 4294967296, ← Nat.mul_assoc, Nat.mul_comm (T / 4294967296) 4294967296]; omega
      _ = T * P := by rw [h]
  rw [Nat.add_mul, Nat.mul_right_comm (f k) P (2 ^ s), Nat.add_assoc, e, hT, Nat.add_mul]
  omega
theorem shl_carry (x cy s : Nat) (hx : x < 4294967296) (hc : cy < 2 ^ s) : (x * 2 ^ s + cy) / 4294967296 < 2 ^ s := by
  apply Nat.div_lt_of_lt_mul
  have := Nat.mul_le_mul_right (2 ^ s) (show x + 1 ≤ 4294967296 by omega)
  rw [Nat.add_mul] at this
  omega

set_option maxHeartbeats 4000000 in
theorem l1Shl_zero (ga c s : Nat) (f : Nat → Nat) (w : World) (ha : Sl w (some ⟨ga, 0, none⟩) 2 c f) (hs : s ≤ 31) :
    Calls Try.prog 84 #[.slice (some ⟨ga, 0, none⟩) 2 c, .int .u64 s, .int .i64 0] w fun e w' => ∃ o, e = .returned (.slice (some ⟨w.heap.size, 0, none⟩) 2 2) ∧ w'.rowIs w.heap.size 114 2 (fun j => .int .u32 (o j)) ∧ (∀ j, j < 2 → o j < 4294967296) ∧ (∃ cy, val 2 o + cy * 4294967296 ^ 2 = val 2 f * 2 ^ s) ∧ Below w.heap.size w w' := by
  have HA : Hid (Sl w (some ⟨ga, 0, none⟩) 2 c f) := ha
  clear ha
  have hmk : ∀ w, (Instr.makeSlice 61 (.int .i64 2) (.int .i64 2)).run Try.prog w = .ok (.slice (some ⟨w.heap.size, 0, none⟩) 2 2) (w.alloc (.cells (madeCells #[.int .u32 0] 2) 114)) := fun w => mk_u32 2 (by omega) w
  go_enter Try.func84, Try.ntmps84
  go_wp2
  go_loopw [8, 9] (fun cv iv wr => ∃ (k cy : Nat) (o : Nat → Nat), k ≤ 2 ∧ cy < 2 ^ s ∧ cv = .int .u64 cy ∧ iv = .int .i64 k ∧ wr.rowIs w.heap.size 114 2 (fun j => .int .u32 (o j)) ∧ (∀ j, j < 2 → o j < 4294967296) ∧ val k o + cy * 4294967296 ^ k = val k f * 2 ^ s ∧ Below w.heap.size w wr) (fun _ iv _ => 2 - (intOf iv).toNat)
  case atStart => exact ⟨0, 0, fun _ => 0, by omega, Nat.two_pow_pos s, rfl, rfl, World.rowIs_made w _ _ _, fun _ _ => (by show 0 < 4294967296; omega), by show 0 + 0 * _ = 0 * _; omega, Joins.below_alloc1 _ _⟩
  case round =>
    obtain ⟨k, cy, o, hk, hcy, rfl, rfl, hrow, hol, hv, hbel⟩ := hrel
    have HV : Hid (val k o + cy * 4294967296 ^ k = val k f * 2 ^ s ∧ cy < 2 ^ s ∧ wr.rowIs w.heap.size 114 2 (fun j => .int .u32 (o j)) ∧ (∀ j, j < 2 → o j < 4294967296) ∧ Below w.heap.size w wr) := ⟨hv, hcy, hrow, hol, hbel⟩
    clear hv
    by_cases h0 : k < 2
    · obtain ⟨g', ea, ca⟩ := HA.out.at_ (by omega)
      simp at ea
      subst ea
      have ca' : wr.cell? ⟨ga, k, none⟩ = some (.int .u32 (f k)) := by
        rw [hbel.cell (p := ⟨ga, k, none⟩) (World.block_lt_of_cell? w _ (ca k (by omega)))]; exact ca k (by omega)
      have la := HA.out.lt k (by omega)
      have co := hrow.cell (i := k) (by omega)
      have fo := hrow.frozen k
      have hsz : w.heap.size < wr.heap.size := hrow.lt
      clear ca hrow hol hbel
      go_wp2
      have eo := or_shl (f k) cy s la hs hcy
      obtain ⟨T, hTd⟩ : ∃ T, T = f k * 2 ^ s + cy := ⟨_, rfl⟩
      have hc' := shl_carry (f k) cy s la hcy
      rw [← hTd] at eo hc'
      rw [eo, show ((T : Int) % 4294967296) = ((T % 4294967296 : Nat) : Int) from by omega, show ((T : Int) / 4294967296) = ((T / 4294967296 : Nat) : Int) from by omega]
      refine ⟨⟨k + 1, T / 4294967296, upd o k (T % 4294967296), by omega, hc', rfl, by go_num, row_upd HV.out.2.2.1, upd_lt HV.out.2.2.2.1 (Nat.mod_lt _ (by omega)), shl_step k cy s T o f HV.out.1 hTd, HV.out.2.2.2.2.setCell (p := ⟨w.heap.size, k, none⟩) (Nat.le_refl _) _⟩, ?_⟩
      simp [intOf]; omega
    · have hk2 : k = 2 := by omega
      subst hk2
      clear hrow hol hbel
      go_wp2
      go_ret
      exact ⟨o, rfl, HV.out.2.2.1, HV.out.2.2.2.1, ⟨cy, HV.out.1⟩, HV.out.2.2.2.2⟩

set_option maxHeartbeats 4000000 in
theorem l1Shl_one (ga c s : Nat) (f : Nat → Nat) (w : World) (ha : Sl w (some ⟨ga, 0, none⟩) 2 c f) (hs : s ≤ 31) :
    Calls Try.prog 84 #[.slice (some ⟨ga, 0, none⟩) 2 c, .int .u64 s, .int .i64 1] w fun e w' => ∃ o, e = .returned (.slice (some ⟨w.heap.size, 0, none⟩) 3 3) ∧ w'.rowIs w.heap.size 114 3 (fun j => .int .u32 (o j)) ∧ (∀ j, j < 3 → o j < 4294967296) ∧ (val 3 o = val 2 f * 2 ^ s) ∧ Below w.heap.size w w' := by
  have HA : Hid (Sl w (some ⟨ga, 0, none⟩) 2 c f) := ha
  clear ha
  have hmk : ∀ w, (Instr.makeSlice 61 (.int .i64 3) (.int .i64 3)).run Try.prog w = .ok (.slice (some ⟨w.heap.size, 0, none⟩) 3 3) (w.alloc (.cells (madeCells #[.int .u32 0] 3) 114)) := fun w => mk_u32 3 (by omega) w
  go_enter Try.func84, Try.ntmps84
  go_wp2
  go_loopw [8, 9] (fun cv iv wr => ∃ (k cy : Nat) (o : Nat → Nat), k ≤ 2 ∧ cy < 2 ^ s ∧ cv = .int .u64 cy ∧ iv = .int .i64 k ∧ wr.rowIs w.heap.size 114 3 (fun j => .int .u32 (o j)) ∧ (∀ j, j < 3 → o j < 4294967296) ∧ val k o + cy * 4294967296 ^ k = val k f * 2 ^ s ∧ Below w.heap.size w wr) (fun _ iv _ => 2 - (intOf iv).toNat)
  case atStart => exact ⟨0, 0, fun _ => 0, by omega, Nat.two_pow_pos s, rfl, rfl, World.rowIs_made w _ _ _, fun _ _ => (by show 0 < 4294967296; omega), by show 0 + 0 * _ = 0 * _; omega, Joins.below_alloc1 _ _⟩
  case round =>
    obtain ⟨k, cy, o, hk, hcy, rfl, rfl, hrow, hol, hv, hbel⟩ := hrel
    have HV : Hid (val k o + cy * 4294967296 ^ k = val k f * 2 ^ s ∧ cy < 2 ^ s ∧ wr.rowIs w.heap.size 114 3 (fun j => .int .u32 (o j)) ∧ (∀ j, j < 3 → o j < 4294967296) ∧ Below w.heap.size w wr) := ⟨hv, hcy, hrow, hol, hbel⟩
    clear hv
    by_cases h0 : k < 2
    · obtain ⟨g', ea, ca⟩ := HA.out.at_ (by omega)
      simp at ea
      subst ea
      have ca' : wr.cell? ⟨ga, k, none⟩ = some (.int .u32 (f k)) := by
        rw [hbel.cell (p := ⟨ga, k, none⟩) (World.block_lt_of_cell? w _ (ca k (by omega)))]; exact ca k (by omega)
      have la := HA.out.lt k (by omega)
      have co := hrow.cell (i := k) (by omega)
      have fo := hrow.frozen k
      have hsz : w.heap.size < wr.heap.size := hrow.lt
      clear ca hrow hol hbel
      go_wp2
      have eo := or_shl (f k) cy s la hs hcy
      obtain ⟨T, hTd⟩ : ∃ T, T = f k * 2 ^ s + cy := ⟨_, rfl⟩
      have hc' := shl_carry (f k) cy s la hcy
      rw [← hTd] at eo hc'
      rw [eo, show ((T : Int) % 4294967296) = ((T % 4294967296 : Nat) : Int) from by omega, show ((T : Int) / 4294967296) = ((T / 4294967296 : Nat) : Int) from by omega]
      refine ⟨⟨k + 1, T / 4294967296, upd o k (T % 4294967296), by omega, hc', rfl, by go_num, row_upd HV.out.2.2.1, upd_lt HV.out.2.2.2.1 (Nat.mod_lt _ (by omega)), shl_step k cy s T o f HV.out.1 hTd, HV.out.2.2.2.2.setCell (p := ⟨w.heap.size, k, none⟩) (Nat.le_refl _) _⟩, ?_⟩
      simp [intOf]; omega
    · have hk2 : k = 2 := by omega
      subst hk2
      have co := hrow.cell (i := 2) (by omega)
      have fo := hrow.frozen 2
      have hsz : w.heap.size < wr.heap.size := hrow.lt
      clear hrow hol hbel
      go_wp2
      go_ret
      have hp := pow_le31 s hs
      rw [show ((cy : Int) % 4294967296) = (cy : Int) from by omega]
      refine ⟨upd o 2 cy, rfl, row_upd HV.out.2.2.1, upd_lt HV.out.2.2.2.1 (by omega), ?_, HV.out.2.2.2.2.setCell (p := ⟨w.heap.size, 2, none⟩) (Nat.le_refl _) _⟩
      show val 2 (upd o 2 cy) + upd o 2 cy 2 * 4294967296 ^ 2 = _
      rw [val_upd_ge 2 2 o _ (Nat.le_refl _), show upd o 2 cy 2 = cy from if_pos rfl]
      exact HV.out.1

end Go.Proofs.Ytikepklkjbohmaa
