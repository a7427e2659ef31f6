import Derived.Test.YtikepklkjbohmaaMadd
namespace Go.Proofs.Ytikepklkjbohmaa
open Go.RowKit

theorem Mag.len2 {w : World} {a : Option Addr} {n c : Nat} {f : Nat → Nat} {x : Nat} (h : Mag w a n c f x) (hx : x < 18446744073709551616) : n ≤ 2 := by
  rcases h.top with h0 | h0
  · omega
  · rcases Nat.lt_or_ge 2 n with h1 | h1
    · have h2 := val_top (n - 1) f h0
      rw [show n - 1 + 1 = n by omega, h.is] at h2
      have h3 : 4294967296 ^ 2 ≤ 4294967296 ^ (n - 1) := Nat.pow_le_pow_right (by omega) (by omega)
      have h4 : 4294967296 ^ 2 = 18446744073709551616 := by decide
      omega
    · exact h1

theorem vint {k : IntKind} {a b : Int} (h : a = b) : Value.int k a = .int k b := by rw [h]
theorem wrap_u64 (x : Int) : IntKind.u64.wrap x = x % 18446744073709551616 := by
  simp [IntKind.wrap, IntKind.bits, IntKind.signed]
theorem wrap2 (f cy g : Nat) (h1 : f < 4294967296) (h2 : cy ≤ 1) (h3 : g < 4294967296) (h : f < cy + g) : IntKind.u64.wrap (IntKind.u64.wrap ((f : Int) - (cy : Int)) - (g : Int)) = ((18446744073709551616 + f - (cy + g) : Nat) : Int) := by
  rw [wrap_u64, wrap_u64]; omega
theorem wrap1 (f cy : Nat) (h2 : cy ≤ 1) (h : f < cy) : IntKind.u64.wrap ((f : Int) - (cy : Int)) = ((18446744073709551616 + f - cy : Nat) : Int) := by
  rw [wrap_u64]; omega
theorem sub_step (i cy cy' v : Nat) (o f g : Nat → Nat) (h : val i o + val i g = val i f + cy * 4294967296 ^ i) (ht : v + g i + cy = f i + cy' * 4294967296) :
    val (i + 1) (upd o i v) + val (i + 1) g = val (i + 1) f + cy' * 4294967296 ^ (i + 1) := by
  show val i (upd o i v) + upd o i v i * _ + (val i g + g i * 4294967296 ^ i) = val i f + f i * 4294967296 ^ i + _
  rw [val_upd_ge i i o _ (Nat.le_refl _)]
  have h1 : upd o i v i = v := by unfold upd; rw [if_pos rfl]
  rw [h1, Nat.pow_succ]
  have h2 : v * 4294967296 ^ i + g i * 4294967296 ^ i + cy * 4294967296 ^ i = f i * 4294967296 ^ i + cy' * (4294967296 ^ i * 4294967296) := by
    rw [← Nat.add_mul, ← Nat.add_mul, ht, Nat.add_mul, Nat.mul_assoc, Nat.mul_comm 4294967296 (4294967296 ^ i)]
  omega
theorem upd_lt {o : Nat → Nat} {n i v : Nat} (h : ∀ j, j < n → o j < 4294967296) (hv : v < 4294967296) : ∀ j, j < n → upd o i v j < 4294967296 := fun j hj => by
  unfold upd; split
  · exact hv
  · exact h j hj

set_option maxHeartbeats 2000000 in
theorem l1MagSub_any (a b : Option Addr) (n m c d : Nat) (f g : Nat → Nat) (x y : Nat) (w : World) (ha : Mag w a n c f x) (hb : Mag w b m d g y) (hxy : y ≤ x) :
    Calls Try.prog 94 #[.slice a n c, .slice b m d] w fun e w' => ∃ q k cc h, e = .returned (.slice (some ⟨q, 0, none⟩) k cc) ∧ Mag w' (some ⟨q, 0, none⟩) k cc h (x - y) ∧ Below w.heap.size w w' := by
  have hmn : m ≤ n := by
    rcases Nat.lt_or_ge n m with h | h
    · have := mag_len_lt ha hb h; omega
    · exact h
  have hs1 := ha.sl.small
  have HA : Hid (Mag w a n c f x) := ha
  have HB : Hid (Mag w b m d g y) := hb
  clear ha hb
  have hmk := fun w => mk_u32 n (by omega) w
  go_enter Try.func94, Try.ntmps94
  go_wp2
  go_loopw [6, 7] (fun cv iv wr => ∃ (i cy : Nat) (o : Nat → Nat), i ≤ n ∧ cy ≤ 1 ∧ cv = .int .u64 cy ∧ iv = .int .i64 i ∧ wr.rowIs w.heap.size 114 n (fun j => .int .u32 (o j)) ∧ (∀ j, j < n → o j < 4294967296) ∧ val i o + val i (fun j => if j < m then g j else 0) = val i f + cy * 4294967296 ^ i ∧ Below w.heap.size w wr) (fun _ iv _ => n - (intOf iv).toNat)
  case atStart => exact ⟨0, 0, fun _ => 0, by omega, by omega, rfl, rfl, World.rowIs_made w _ _ _, fun _ _ => (by show 0 < 4294967296; omega), rfl, Joins.below_alloc1 _ _⟩
  case round =>
    obtain ⟨i, cy, o, hi, hcy, rfl, rfl, hrow, hol, hv, hbel⟩ := hrel
    have HV : Hid (val i o + val i (fun j => if j < m then g j else 0) = val i f + cy * 4294967296 ^ i) := hv
    have HR : Hid (wr.rowIs w.heap.size 114 n (fun j => .int .u32 (o j)) ∧ ∀ j, j < n → o j < 4294967296) := ⟨hrow, hol⟩
    have HBel : Hid (Below w.heap.size w wr) := hbel
    have hsz : w.heap.size < wr.heap.size := hrow.lt
    clear hv
    by_cases hlt : i < n
    · obtain ⟨ga, ea, ca⟩ := HA.out.sl.at_ (by omega)
      have ca' : wr.cell? ⟨ga, i, none⟩ = some (.int .u32 (f i)) := by
        rw [hbel.cell (p := ⟨ga, i, none⟩) (World.block_lt_of_cell? w _ (ca i hlt))]; exact ca i hlt
      have la := HA.out.sl.lt i hlt
      subst ea
      have co := hrow.cell (i := i) (by omega)
      have fo := hrow.frozen i
      clear ca hrow hol hbel
      by_cases hlm : i < m
      · obtain ⟨gb, eb, cb⟩ := HB.out.sl.at_ (by omega)
        have cb' : wr.cell? ⟨gb, i, none⟩ = some (.int .u32 (g i)) := by
          rw [HBel.out.cell (p := ⟨gb, i, none⟩) (World.block_lt_of_cell? w _ (cb i hlm))]; exact cb i hlm
        have lb := HB.out.sl.lt i hlm
        subst eb
        clear cb
        by_cases hbr : cy + g i ≤ f i
        · go_wp2
          go_roundw
          case rel =>
            rw [show ((f i : Nat) : Int) - (cy : Int) - (g i : Int) = ((f i - (cy + g i) : Nat) : Int) from by omega]
            exact ⟨i + 1, 0, upd o i (f i - (cy + g i)), by omega, by omega, vint (by omega), by go_num, row_upd HR.out.1, upd_lt HR.out.2 (by omega), sub_step i cy 0 _ o f _ HV.out (by rw [if_pos hlm]; omega), HBel.out.setCell (p := ⟨w.heap.size, i, none⟩) (Nat.le_refl _) _⟩
          case measure => simp [intOf]; omega
        · go_wp2
          go_roundw
          case rel =>
            rw [wrap2 (f i) cy (g i) la hcy lb (by omega), show ((18446744073709551616 + f i - (cy + g i) : Nat) : Int) % 4294967296 = ((4294967296 + f i - (cy + g i) : Nat) : Int) from by omega]
            exact ⟨i + 1, 1, upd o i (4294967296 + f i - (cy + g i)), by omega, by omega, vint (by omega), by go_num, row_upd HR.out.1, upd_lt HR.out.2 (by omega), sub_step i cy 1 _ o f _ HV.out (by rw [if_pos hlm]; omega), HBel.out.setCell (p := ⟨w.heap.size, i, none⟩) (Nat.le_refl _) _⟩
          case measure => simp [intOf]; omega
      · by_cases hbr : cy ≤ f i
        · go_wp2
          go_roundw
          case rel =>
            rw [show ((f i : Nat) : Int) - (cy : Int) = ((f i - cy : Nat) : Int) from by omega]
            exact ⟨i + 1, 0, upd o i (f i - cy), by omega, by omega, vint (by omega), by go_num, row_upd HR.out.1, upd_lt HR.out.2 (by omega), sub_step i cy 0 _ o f _ HV.out (by rw [if_neg hlm]; omega), HBel.out.setCell (p := ⟨w.heap.size, i, none⟩) (Nat.le_refl _) _⟩
          case measure => simp [intOf]; omega
        · go_wp2
          go_roundw
          case rel =>
            rw [wrap1 (f i) cy hcy (by omega), show ((18446744073709551616 + f i - cy : Nat) : Int) % 4294967296 = ((4294967296 + f i - cy : Nat) : Int) from by omega]
            exact ⟨i + 1, 1, upd o i (4294967296 + f i - cy), by omega, by omega, vint (by omega), by go_num, row_upd HR.out.1, upd_lt HR.out.2 (by omega), sub_step i cy 1 _ o f _ HV.out (by rw [if_neg hlm]; omega), HBel.out.setCell (p := ⟨w.heap.size, i, none⟩) (Nat.le_refl _) _⟩
          case measure => simp [intOf]; omega
    · have hin : i = n := by omega
      subst hin
      have HS : Hid (Sl wr (some ⟨w.heap.size, 0, none⟩) i i o) := Sl.ofRow hrow (by omega) hol
      clear hrow hol hbel
      go_wp2_with fail
      refine (l1Trim_any _ _ _ o _ HS.out).mono ?_
      rintro e w' ⟨rfl, rfl⟩
      go_wp2
      go_ret
      refine ⟨_, _, _, o, rfl, ?_, HBel.out⟩
      have hm := Mag.trim HS.out
      have hv : val i o = x - y := by
        have h1 := HV.out
        rw [val_ext _ _ _ hmn, HA.out.is, HB.out.is] at h1
        have h2 := val_lt i o HS.out.lt
        have h3 : cy = 0 := by
          rcases Nat.eq_zero_or_pos cy with h | h
          · exact h
          · have : cy = 1 := by omega
            subst this
            omega
        subst h3
        omega
      rwa [hv] at hm
end Go.Proofs.Ytikepklkjbohmaa
