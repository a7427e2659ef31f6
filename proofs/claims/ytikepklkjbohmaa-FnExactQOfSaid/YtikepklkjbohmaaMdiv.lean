import Derived.Test.YtikepklkjbohmaaMmul
namespace Go.Proofs.Ytikepklkjbohmaa
open Go.RowKit

theorem div_step (H b x : Nat) (hb : 0 < b) : (H * 4294967296 + x) / b = H / b * 4294967296 + (H % b * 4294967296 + x) / b ∧ (H * 4294967296 + x) % b = (H % b * 4294967296 + x) % b := by
  have h1 : H * 4294967296 + x = (H % b * 4294967296 + x) + b * (H / b * 4294967296) := by
    have := Nat.div_add_mod H b
    have h2 : H * 4294967296 = (b * (H / b) + H % b) * 4294967296 := by rw [this]
    rw [h2, Nat.add_mul, Nat.mul_assoc]; omega
  constructor
  · rw [h1, Nat.add_mul_div_left _ _ hb]; omega
  · rw [h1, Nat.add_mul_mod_self_left]

theorem or_hi (r x : Nat) (hr : r < 4294967296) (hx : x < 4294967296) : bits BinOp.or IntKind.u64 ((r : Int) * 4294967296) (x : Int) = ((r * 4294967296 + x : Nat) : Int) := by
  have h := u64_or_nat (r * 4294967296) x (by omega) (by omega)
  rw [show (((r * 4294967296 : Nat)) : Int) = (r : Int) * 4294967296 from by omega] at h
  rw [h]
  congr 1
  have := Nat.two_pow_add_eq_or_of_lt (i := 32) (b := x) (by omega) r
  rw [show r * 4294967296 = 2 ^ 32 * r from by omega]
  exact this.symm
theorem wrap_small (q : Nat) (h : q < 4294967296) : IntKind.u64.wrap (q : Int) % 4294967296 = (q : Int) := by rw [wrap_u64]; omega
theorem div_word (T b : Nat) (hT : T < b * 4294967296) : T / b < 4294967296 := Nat.div_lt_of_lt_mul hT
theorem tdiv_nat (T b : Nat) : ((T : Nat) : Int).tdiv (b : Int) = ((T / b : Nat) : Int) := (Int.ofNat_tdiv T b).symm
theorem tmod_nat (T b : Nat) : ((T : Nat) : Int).tmod (b : Int) = ((T % b : Nat) : Int) := (Int.ofNat_tmod T b).symm

set_option maxHeartbeats 4000000 in
theorem l1MagDiv1_any (a : Option Addr) (n c b : Nat) (f : Nat → Nat) (x : Nat) (w : World) (ha : Mag w a n c f x) (hb : 0 < b) (hb2 : b < 4294967296) :
    Calls Try.prog 83 #[.slice a n c, .int .u32 b] w fun e w' => ∃ q k cc h q2 k2 c2 h2, e = .returned (.tuple #[.slice (some ⟨q, 0, none⟩) k cc, .slice (some ⟨q2, 0, none⟩) k2 c2]) ∧ Mag w' (some ⟨q, 0, none⟩) k cc h (x / b) ∧ Mag w' (some ⟨q2, 0, none⟩) k2 c2 h2 (x % b) ∧ Below w.heap.size w w' := by
  have hs1 := ha.sl.small
  have HA : Hid (Mag w a n c f x) := ha
  clear ha
  have hmk := fun w => mk_u32 n (by omega) w
  go_enter Try.func83, Try.ntmps83
  go_wp2
  go_loopw [7, 8] (fun rv iv wr => ∃ (k r H : Nat) (o : Nat → Nat), k ≤ n ∧ r < b ∧ rv = .int .u64 r ∧ iv = .int .i64 ((k : Int) - 1) ∧ wr.rowIs w.heap.size 114 n (fun j => .int .u32 (o j)) ∧ (∀ j, j < n → o j < 4294967296) ∧ (∀ j, j < k → o j = 0) ∧ val n f = H * 4294967296 ^ k + val k f ∧ val n o = H / b * 4294967296 ^ k ∧ r = H % b ∧ Below w.heap.size w wr) (fun _ iv _ => (intOf iv + 1).toNat)
  case atStart => exact ⟨n, 0, 0, fun _ => 0, by omega, hb, rfl, rfl, World.rowIs_made w _ _ _, fun _ _ => (by show 0 < 4294967296; omega), fun _ _ => rfl, by omega, by rw [val_zero, Nat.zero_div]; omega, by rw [Nat.zero_mod], Joins.below_alloc1 _ _⟩
  case round =>
    obtain ⟨k, r, H, o, hk, hr, rfl, rfl, hrow, hol, hoz, hv1, hv2, hrH, hbel⟩ := hrel
    have HV : Hid ((∀ j, j < k → o j = 0) ∧ val n f = H * 4294967296 ^ k + val k f ∧ val n o = H / b * 4294967296 ^ k ∧ r = H % b) := ⟨hoz, hv1, hv2, hrH⟩
    have HR : Hid (wr.rowIs w.heap.size 114 n (fun j => .int .u32 (o j)) ∧ ∀ j, j < n → o j < 4294967296) := ⟨hrow, hol⟩
    have HBel : Hid (Below w.heap.size w wr) := hbel
    have hsz : w.heap.size < wr.heap.size := hrow.lt
    clear hv1 hv2 hrH hoz
    by_cases h0 : k = 0
    · subst h0
      have HS : Hid (Sl wr (some ⟨w.heap.size, 0, none⟩) n n o) := Sl.ofRow hrow (by omega) hol
      clear hrow hol hbel
      go_wp2_with fail
      refine (l1Trim_any _ _ _ o _ HS.out).mono ?_
      rintro e w' ⟨rfl, rfl⟩
      go_wp2_with fail
      refine (l1Mag_any _ _ (by omega)).mono ?_
      rintro e w2 ⟨q2, k2, c2, h2, rfl, hm2, hb3⟩
      go_wp2
      go_ret2
      refine ⟨_, _, _, o, _, _, _, h2, rfl, ?_, ?_, HBel.out.trans (hb3.mono HBel.out.size)⟩
      · have hm := (Mag.trim HS.out).below hb3
        have hv : val n o = x / b := by
          have h1 := HV.out.2.1
          have h2 := HV.out.2.2.1
          rw [HA.out.is] at h1
          have h3 : x = H := by rw [h1]; show H * 1 + 0 = H; omega
          rw [h2, h3]; show H / b * 1 = _; omega
        rwa [hv] at hm
      · have hv : r = x % b := by
          have h1 := HV.out.2.1
          rw [HA.out.is] at h1
          have h3 : x = H := by rw [h1]; show H * 1 + 0 = H; omega
          rw [h3]; exact HV.out.2.2.2
        rwa [hv] at hm2
    · obtain ⟨j, rfl⟩ : ∃ j, k = j + 1 := ⟨k - 1, by omega⟩
      obtain ⟨ga, ea, ca⟩ := HA.out.sl.at_ (by omega)
      have ca' : wr.cell? ⟨ga, j, none⟩ = some (.int .u32 (f j)) := by
        rw [hbel.cell (p := ⟨ga, j, none⟩) (World.block_lt_of_cell? w _ (ca j (by omega)))]; exact ca j (by omega)
      have la := HA.out.sl.lt j (by omega)
      subst ea
      have co := hrow.cell (i := j) (by omega)
      have fo := hrow.frozen j
      clear ca hrow hol hbel
      have hbz : (0 : Int) < (b : Int) := by omega
      go_wp2
      obtain ⟨T, hTd⟩ : ∃ T, T = r * 4294967296 + f j := ⟨_, rfl⟩
      have eo := or_hi r (f j) (by omega) la
      have hT : r * 4294967296 + f j < b * 4294967296 := by omega
      have hd := div_step H b (f j) hb
      rw [← HV.out.2.2.2] at hd
      rw [← hTd] at eo hT hd
      have hq := div_word _ _ hT
      rw [eo, tdiv_nat, tmod_nat]
      rw [wrap_small _ hq]
      obtain ⟨H', hH'⟩ : ∃ H', H' = H * 4294967296 + f j := ⟨_, rfl⟩
      rw [← hH'] at hd
      refine ⟨⟨j, T % b, H', upd o j (T / b), by omega, Nat.mod_lt _ hb, rfl, rfl, row_upd HR.out.1, upd_lt HR.out.2 hq, ?_, ?_, ?_, hd.2.symm, HBel.out.setCell (p := ⟨w.heap.size, j, none⟩) (Nat.le_refl _) _⟩, ?_⟩
      · intro i hi
        unfold upd
        rw [if_neg (by omega)]
        exact HV.out.1 i (by omega)
      · rw [HV.out.2.1, Nat.pow_succ, hH']
        show H * (4294967296 ^ j * 4294967296) + (val j f + f j * 4294967296 ^ j) = _
        rw [Nat.add_mul, Nat.mul_assoc, Nat.mul_comm 4294967296 (4294967296 ^ j)]; omega
      · have h1 := val_upd n j o (T / b) (by omega)
        rw [HV.out.1 j (by omega), HV.out.2.2.1, Nat.pow_succ] at h1
        rw [hd.1, Nat.add_mul, Nat.mul_assoc, Nat.mul_comm 4294967296 (4294967296 ^ j)]; omega
      · simp [intOf]
end Go.Proofs.Ytikepklkjbohmaa
