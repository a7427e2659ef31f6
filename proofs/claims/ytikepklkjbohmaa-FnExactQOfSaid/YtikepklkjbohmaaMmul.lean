import Derived.Test.YtikepklkjbohmaaMsub
namespace Go.Proofs.Ytikepklkjbohmaa
open Go.RowKit

theorem mul_step (N i k c t x f vk gk : Nat) (o : Nat → Nat) (hp : i + k < N) (h : val N o + c * 4294967296 ^ (i + k) = x + f * vk * 4294967296 ^ i) (ht : t = f * gk + o (i + k) + c) :
    val N (upd o (i + k) (t % 4294967296)) + t / 4294967296 * 4294967296 ^ (i + (k + 1)) = x + f * (vk + gk * 4294967296 ^ k) * 4294967296 ^ i := by
  have h1 := val_upd N (i + k) o (t % 4294967296) hp
  have h2 : t % 4294967296 * 4294967296 ^ (i + k) + t / 4294967296 * 4294967296 ^ (i + (k + 1)) = t * 4294967296 ^ (i + k) := by
    rw [show i + (k + 1) = (i + k) + 1 by omega, Nat.pow_succ, Nat.mul_comm (4294967296 ^ (i + k)) 4294967296, ← Nat.mul_assoc, ← Nat.add_mul]
    congr 1; omega
  have h3 : t * 4294967296 ^ (i + k) = f * gk * 4294967296 ^ (i + k) + o (i + k) * 4294967296 ^ (i + k) + c * 4294967296 ^ (i + k) := by rw [ht, Nat.add_mul, Nat.add_mul]
  have h4 : f * (vk + gk * 4294967296 ^ k) * 4294967296 ^ i = f * vk * 4294967296 ^ i + f * gk * 4294967296 ^ (i + k) := by
    rw [Nat.mul_add, Nat.add_mul, Nat.pow_add, Nat.mul_comm (4294967296 ^ i) (4294967296 ^ k)]
    congr 1
    rw [Nat.mul_assoc, Nat.mul_assoc, Nat.mul_assoc]
  omega
theorem mul_end (N i m c vi fi vm : Nat) (o : Nat → Nat) (hp : i + m < N) (h : val N o + c * 4294967296 ^ (i + m) = vi * vm + fi * vm * 4294967296 ^ i) (h0 : o (i + m) = 0) :
    val N (upd o (i + m) c) = (vi + fi * 4294967296 ^ i) * vm := by
  have h1 := val_upd N (i + m) o c hp
  rw [h0] at h1
  have h2 : (vi + fi * 4294967296 ^ i) * vm = vi * vm + fi * vm * 4294967296 ^ i := by
    rw [Nat.add_mul]; congr 1
    rw [Nat.mul_assoc, Nat.mul_comm (4294967296 ^ i) vm, ← Nat.mul_assoc]
  omega

set_option maxHeartbeats 4000000 in
theorem l1MagMul_any (a b : Option Addr) (n m c d : Nat) (f g : Nat → Nat) (x y : Nat) (w : World) (ha : Mag w a n c f x) (hb : Mag w b m d g y) (hnm : n + m ≤ 8) :
    Calls Try.prog 89 #[.slice a n c, .slice b m d] w fun e w' => ∃ q k cc h, e = .returned (.slice (some ⟨q, 0, none⟩) k cc) ∧ Mag w' (some ⟨q, 0, none⟩) k cc h (x * y) ∧ Below w.heap.size w w' := by
  have HA : Hid (Mag w a n c f x) := ha
  have HB : Hid (Mag w b m d g y) := hb
  clear ha hb
  have hmk := fun w => mk_u32 (n + m) (by omega) w
  have ec : ((n + m : Nat) : Int) = (n : Int) + (m : Int) := by omega
  rw [ec] at hmk
  clear ec
  go_enter Try.func89, Try.ntmps89
  go_wp2
  go_loopw [6] (fun iv wr => ∃ (i : Nat) (o : Nat → Nat), i ≤ n ∧ iv = .int .i64 i ∧ wr.rowIs w.heap.size 114 (n + m) (fun j => .int .u32 (o j)) ∧ (∀ j, j < n + m → o j < 4294967296) ∧ (∀ j, i + m ≤ j → o j = 0) ∧ val (n + m) o = val i f * val m g ∧ Below w.heap.size w wr) (fun iv _ => n - (intOf iv).toNat)
  case atStart => exact ⟨0, fun _ => 0, by omega, rfl, World.rowIs_made w _ _ _, fun _ _ => (by show 0 < 4294967296; omega), fun _ _ => rfl, by rw [val_zero]; show 0 = 0 * _; omega, Joins.below_alloc1 _ _⟩
  case round =>
    obtain ⟨i, o, hi, rfl, hrow, hol, hoz, hv, hbel⟩ := hrel
    have HV : Hid (val (n + m) o = val i f * val m g ∧ (∀ j, i + m ≤ j → o j = 0)) := ⟨hv, hoz⟩
    have HR : Hid (wr.rowIs w.heap.size 114 (n + m) (fun j => .int .u32 (o j)) ∧ ∀ j, j < n + m → o j < 4294967296) := ⟨hrow, hol⟩
    have HBel : Hid (Below w.heap.size w wr) := hbel
    clear hv hoz
    by_cases hlt : i < n
    · obtain ⟨ga, ea, ca⟩ := HA.out.sl.at_ (by omega)
      have cA := ca i hlt
      have la := HA.out.sl.lt i hlt
      subst ea
      clear ca hrow hol hbel
      go_wp2
      go_loopw [7, 8] (fun cv kv wi => ∃ (k cy : Nat) (p : Nat → Nat), k ≤ m ∧ cy < 4294967296 ∧ cv = .int .u64 cy ∧ kv = .int .i64 k ∧ wi.rowIs w.heap.size 114 (n + m) (fun j => .int .u32 (p j)) ∧ (∀ j, j < n + m → p j < 4294967296) ∧ (∀ j, i + m ≤ j → p j = 0) ∧ val (n + m) p + cy * 4294967296 ^ (i + k) = val i f * val m g + f i * val k g * 4294967296 ^ i ∧ Below w.heap.size w wi) (fun _ kv _ => m - (intOf kv).toNat)
      case atStart => exact ⟨0, 0, o, by omega, by omega, rfl, rfl, HR.out.1, HR.out.2, HV.out.2, by rw [HV.out.1]; show _ + 0 * _ = _ + _ * 0 * _; omega, HBel.out⟩
      case round =>
        obtain ⟨k, cy, p, hk, hcy, rfl, rfl, hrow, hpl, hpz, hv, hbel⟩ := hrel
        have HV2 : Hid (val (n + m) p + cy * 4294967296 ^ (i + k) = val i f * val m g + f i * val k g * 4294967296 ^ i ∧ (∀ j, i + m ≤ j → p j = 0)) := ⟨hv, hpz⟩
        have HR2 : Hid (wr.rowIs w.heap.size 114 (n + m) (fun j => .int .u32 (p j)) ∧ ∀ j, j < n + m → p j < 4294967296) := ⟨hrow, hpl⟩
        have HBel2 : Hid (Below w.heap.size w wr) := hbel
        have hsz : w.heap.size < wr.heap.size := hrow.lt
        clear hv hpz
        by_cases hkm : k < m
        · obtain ⟨gb, eb, cb⟩ := HB.out.sl.at_ (by omega)
          have cB := cb k hkm
          have lb := HB.out.sl.lt k hkm
          subst eb
          have cA' : wr.cell? ⟨ga, i, none⟩ = some (.int .u32 (f i)) := by rw [hbel.cell (p := ⟨ga, i, none⟩) (World.block_lt_of_cell? w _ cA)]; exact cA
          have cB' : wr.cell? ⟨gb, k, none⟩ = some (.int .u32 (g k)) := by rw [hbel.cell (p := ⟨gb, k, none⟩) (World.block_lt_of_cell? w _ cB)]; exact cB
          have co := hrow.cell (i := i + k) (by omega)
          have fo := hrow.frozen (i + k)
          have lp := hpl (i + k) (by omega)
          have hmul : f i * g k ≤ 18446744065119617025 := by
            have := Nat.mul_le_mul (show f i ≤ 4294967295 by omega) (show g k ≤ 4294967295 by omega)
            omega
          have hmul' : ((f i : Nat) : Int) * (g k : Int) ≤ 18446744065119617025 := by
            have : ((f i * g k : Nat) : Int) ≤ 18446744065119617025 := by omega
            rwa [Int.natCast_mul] at this
          have hmul0 : (0 : Int) ≤ ((f i : Nat) : Int) * (g k : Int) := by
            have : (0 : Int) ≤ ((f i * g k : Nat) : Int) := by omega
            rwa [Int.natCast_mul] at this
          clear hrow hpl hbel cA cB cb
          go_wp2
          go_quiet (fail)
          go_wp2
          go_roundw
          case rel =>
            have ek : ((f i : Nat) : Int) * (g k : Int) + (p (i + k) : Int) + (cy : Int) = ((f i * g k + p (i + k) + cy : Nat) : Int) := by rw [Int.natCast_add, Int.natCast_add, Int.natCast_mul]
            rw [ek]
            have hT : f i * g k + p (i + k) + cy ≤ 18446744073709551615 := by omega
            have hrow2 : (wr.drewN nq).rowIs w.heap.size 114 (n + m) (fun j => .int .u32 (p j)) := HR2.out.1.of_block rfl
            have hst := mul_step (n + m) i k cy _ (val i f * val m g) (f i) (val k g) (g k) p (by omega) HV2.out.1 rfl
            generalize f i * g k + p (i + k) + cy = T at hT hst ⊢
            rw [show ((T : Nat) : Int) % 4294967296 = ((T % 4294967296 : Nat) : Int) from by omega]
            exact ⟨k + 1, T / 4294967296, upd p (i + k) (T % 4294967296), by omega, by omega, vint (by omega), by go_num, row_upd hrow2, upd_lt HR2.out.2 (by omega), fun j hj => by unfold upd; rw [if_neg (by omega)]; exact HV2.out.2 j hj, hst, (HBel2.out.trans (Joins.below_draws _ _ nq)).setCell (p := ⟨w.heap.size, i + k, none⟩) (Nat.le_refl _) _⟩
          case measure => simp [intOf]; omega
        · have hkm' : k = m := by omega
          subst hkm'
          have co := hrow.cell (i := i + k) (by omega)
          have fo := hrow.frozen (i + k)
          clear hrow hpl hbel cA
          go_wp2
          go_roundw
          case rel =>
            exact ⟨i + 1, upd p (i + k) cy, by omega, by go_num, row_upd HR2.out.1, upd_lt HR2.out.2 hcy, fun j hj => by unfold upd; rw [if_neg (by omega)]; exact HV2.out.2 j (by omega), mul_end _ _ _ _ _ _ _ _ (by omega) HV2.out.1 (HV2.out.2 _ (by omega)), HBel2.out.setCell (p := ⟨w.heap.size, i + k, none⟩) (Nat.le_refl _) _⟩
          case measure => simp [intOf]; omega
    · have hin : i = n := by omega
      subst hin
      have HS : Hid (Sl wr (some ⟨w.heap.size, 0, none⟩) (i + m) (i + m) o) := Sl.ofRow hrow (by omega) hol
      clear hrow hol hbel
      go_wp2_with fail
      refine (l1Trim_any _ _ _ o _ HS.out).mono ?_
      rintro e w' ⟨rfl, rfl⟩
      go_wp2
      go_ret
      refine ⟨_, _, _, o, rfl, ?_, HBel.out⟩
      have hm := Mag.trim HS.out
      have hv : val (i + m) o = x * y := by rw [HV.out.1, HA.out.is, HB.out.is]
      rwa [hv] at hm
end Go.Proofs.Ytikepklkjbohmaa
