import Derived.Test.YtikepklkjbohmaaMag2
namespace Go.Proofs.Ytikepklkjbohmaa
open Go.RowKit

theorem val_ext (n m : Nat) (g : Nat → Nat) (h : m ≤ n) : val n (fun j => if j < m then g j else 0) = val m g := by
  induction n with
  | zero => have : m = 0 := by omega
            subst this; rfl
  | succ n ih =>
    by_cases e : m = n + 1
    · subst e; exact val_congr fun i hi => by rw [if_pos hi]
    · show val n _ + (if n < m then g n else 0) * _ = _
      rw [ih (by omega), if_neg (by omega)]; omega

set_option maxHeartbeats 2000000 in
theorem l1MagAdd_any (a b : Option Addr) (n m c d : Nat) (f g : Nat → Nat) (x y : Nat) (w : World) (ha : Mag w a n c f x) (hb : Mag w b m d g y) (hs1 : n ≤ 7) (hs2 : m ≤ 7) :
    Calls Try.prog 93 #[.slice a n c, .slice b m d] w fun e w' => ∃ q k cc h, e = .returned (.slice (some ⟨q, 0, none⟩) k cc) ∧ Mag w' (some ⟨q, 0, none⟩) k cc h (x + y) ∧ Below w.heap.size w w' := by
  have HA : Hid (Mag w a n c f x) := ha
  have HB : Hid (Mag w b m d g y) := hb
  clear ha hb
  by_cases hnm : n < m
  · have hmk := fun w => mk_u32 (m + 1) (by omega) w
    have ec : ((m + 1 : Nat) : Int) = (m : Int) + 1 := by omega
    rw [ec] at hmk
    clear ec
    go_enter Try.func93, Try.ntmps93
    go_wp2
    go_loopw [6, 7] (fun cv iv wr => ∃ (i cy : Nat) (o : Nat → Nat), i ≤ m ∧ cy ≤ 1 ∧ cv = .int .u64 cy ∧ iv = .int .i64 i ∧ wr.rowIs w.heap.size 114 (m + 1) (fun j => .int .u32 (o j)) ∧ (∀ j, j < m + 1 → o j < 4294967296) ∧ val i o + cy * 4294967296 ^ i = val i g + val i (fun j => if j < n then f j else 0) ∧ Below w.heap.size w wr) (fun _ iv _ => m - (intOf iv).toNat)
    case atStart => exact ⟨0, 0, fun _ => 0, by omega, by omega, rfl, rfl, World.rowIs_made w _ _ _, fun _ _ => (by show 0 < 4294967296; omega), rfl, Joins.below_alloc1 _ _⟩
    case round =>
      obtain ⟨i, cy, o, hi, hcy, rfl, rfl, hrow, hol, hv, hbel⟩ := hrel
      have HV : Hid (val i o + cy * 4294967296 ^ i = val i g + val i (fun j => if j < n then f j else 0)) := hv
      have HR : Hid (wr.rowIs w.heap.size 114 (m + 1) (fun j => .int .u32 (o j)) ∧ ∀ j, j < m + 1 → o j < 4294967296) := ⟨hrow, hol⟩
      have HBel : Hid (Below w.heap.size w wr) := hbel
      have hsz : w.heap.size < wr.heap.size := hrow.lt
      clear hv
      by_cases hlt : i < m
      · obtain ⟨ga, ea, ca⟩ := HB.out.sl.at_ (by omega)
        have ca' : wr.cell? ⟨ga, i, none⟩ = some (.int .u32 (g i)) := by
          rw [hbel.cell (p := ⟨ga, i, none⟩) (World.block_lt_of_cell? w _ (ca i hlt))]; exact ca i hlt
        have la := HB.out.sl.lt i hlt
        subst ea
        have co := hrow.cell (i := i) (by omega)
        have fo := hrow.frozen i
        clear ca hrow hol hbel
        by_cases hlm : i < n
        · obtain ⟨gb, eb, cb⟩ := HA.out.sl.at_ (by omega)
          have cb' : wr.cell? ⟨gb, i, none⟩ = some (.int .u32 (f i)) := by
            rw [HBel.out.cell (p := ⟨gb, i, none⟩) (World.block_lt_of_cell? w _ (cb i hlm))]; exact cb i hlm
          have lb := HA.out.sl.lt i hlm
          subst eb
          clear cb
          go_wp2
          go_roundw
          case rel =>
            refine ⟨i + 1, (cy + g i + f i) / 4294967296, upd o i ((cy + g i + f i) % 4294967296), by omega, by omega, by go_num, by go_num, row_upd HR.out.1, fun j hj => ?_, ?_, HBel.out.setCell (p := ⟨w.heap.size, i, none⟩) (Nat.le_refl _) _⟩
            · unfold upd; split
              · omega
              · exact HR.out.2 j hj
            · exact add_step m i cy _ (cy + g i + f i) o g _ hlt HV.out (by show cy + g i + (if i < n then f i else 0) = _; rw [if_pos hlm]) rfl
          case measure => simp [intOf]; omega
        · go_wp2
          go_roundw
          case rel =>
            refine ⟨i + 1, (cy + g i) / 4294967296, upd o i ((cy + g i) % 4294967296), by omega, by omega, by go_num, by go_num, row_upd HR.out.1, fun j hj => ?_, ?_, HBel.out.setCell (p := ⟨w.heap.size, i, none⟩) (Nat.le_refl _) _⟩
            · unfold upd; split
              · omega
              · exact HR.out.2 j hj
            · exact add_step m i cy _ (cy + g i) o g _ hlt HV.out (by show cy + g i + (if i < n then f i else 0) = _; rw [if_neg hlm]; omega) rfl
          case measure => simp [intOf]; omega
      · have hin : i = m := by omega
        subst hin
        have co := hrow.cell (i := i) (by omega)
        have fo := hrow.frozen i
        have HS : Hid (Sl (wr.setCell ⟨w.heap.size, i, none⟩ (.int .u32 cy)) (some ⟨w.heap.size, 0, none⟩) (i + 1) (i + 1) (upd o i cy)) :=
          Sl.ofRow (row_upd hrow) (by omega) (fun j hj => by unfold upd; split; · omega
                                                             · exact hol j hj)
        clear hrow hol hbel
        go_wp2_with fail
        refine (l1Trim_any _ _ _ (upd o i cy) _ HS.out).mono ?_
        rintro e w' ⟨rfl, rfl⟩
        go_wp2
        go_ret
        refine ⟨_, _, _, upd o i cy, rfl, ?_, HBel.out.setCell (p := ⟨w.heap.size, i, none⟩) (Nat.le_refl _) _⟩
        have hm := Mag.trim HS.out
        have hv : val (i + 1) (upd o i cy) = x + y := by
          show val i (upd o i cy) + upd o i cy i * _ = _
          rw [val_upd_ge i i o cy (Nat.le_refl _)]
          have h1 : upd o i cy i = cy := by unfold upd; rw [if_pos rfl]
          rw [h1, HV.out, val_ext _ _ _ (by omega), HA.out.is, HB.out.is]; omega
        rwa [hv] at hm
  · have hmk := fun w => mk_u32 (n + 1) (by omega) w
    have ec : ((n + 1 : Nat) : Int) = (n : Int) + 1 := by omega
    rw [ec] at hmk
    clear ec
    go_enter Try.func93, Try.ntmps93
    go_wp2
    go_loopw [6, 7] (fun cv iv wr => ∃ (i cy : Nat) (o : Nat → Nat), i ≤ n ∧ cy ≤ 1 ∧ cv = .int .u64 cy ∧ iv = .int .i64 i ∧ wr.rowIs w.heap.size 114 (n + 1) (fun j => .int .u32 (o j)) ∧ (∀ j, j < n + 1 → o j < 4294967296) ∧ val i o + cy * 4294967296 ^ i = val i f + val i (fun j => if j < m then g j else 0) ∧ Below w.heap.size w wr) (fun _ iv _ => n - (intOf iv).toNat)
    case atStart => exact ⟨0, 0, fun _ => 0, by omega, by omega, rfl, rfl, World.rowIs_made w _ _ _, fun _ _ => (by show 0 < 4294967296; omega), rfl, Joins.below_alloc1 _ _⟩
    case round =>
      obtain ⟨i, cy, o, hi, hcy, rfl, rfl, hrow, hol, hv, hbel⟩ := hrel
      have HV : Hid (val i o + cy * 4294967296 ^ i = val i f + val i (fun j => if j < m then g j else 0)) := hv
      have HR : Hid (wr.rowIs w.heap.size 114 (n + 1) (fun j => .int .u32 (o j)) ∧ ∀ j, j < n + 1 → o j < 4294967296) := ⟨hrow, hol⟩
      have HBel : Hid (Below w.heap.size w wr) := hbel
      have hsz : w.heap.size < wr.heap.size := hrow.lt
      clear hv
      by_cases hlt : i < n
      · obtain ⟨ga, ea, ca⟩ := HA.out.sl.at_ (by omega)
        have ca' : wr.cell? ⟨ga, i, none⟩ = some (.int .u32 (f i)) := by
          rw [hbel.cell (p := ⟨ga, i, none⟩) (World.block_lt_of_cell? w _ (ca i hlt))]; exact ca i hlt
        have la := HA.out.sl.lt i hlt
        subst ea
        have co := hrow.cell (i := i) (by omega)
        have fo := hrow.frozen i
        clear ca hrow hol hbel
        by_cases hlm : i < m
        · obtain ⟨gb, eb, cb⟩ := HB.out.sl.at_ (by omega)
          have cb' : wr.cell? ⟨gb, i, none⟩ = some (.int .u32 (g i)) := by
            rw [HBel.out.cell (p := ⟨gb, i, none⟩) (World.block_lt_of_cell? w _ (cb i hlm))]; exact cb i hlm
          have lb := HB.out.sl.lt i hlm
          subst eb
          clear cb
          go_wp2
          go_roundw
          case rel =>
            refine ⟨i + 1, (cy + f i + g i) / 4294967296, upd o i ((cy + f i + g i) % 4294967296), by omega, by omega, by go_num, by go_num, row_upd HR.out.1, fun j hj => ?_, ?_, HBel.out.setCell (p := ⟨w.heap.size, i, none⟩) (Nat.le_refl _) _⟩
            · unfold upd; split
              · omega
              · exact HR.out.2 j hj
            · exact add_step n i cy _ (cy + f i + g i) o f _ hlt HV.out (by show cy + f i + (if i < m then g i else 0) = _; rw [if_pos hlm]) rfl
          case measure => simp [intOf]; omega
        · go_wp2
          go_roundw
          case rel =>
            refine ⟨i + 1, (cy + f i) / 4294967296, upd o i ((cy + f i) % 4294967296), by omega, by omega, by go_num, by go_num, row_upd HR.out.1, fun j hj => ?_, ?_, HBel.out.setCell (p := ⟨w.heap.size, i, none⟩) (Nat.le_refl _) _⟩
            · unfold upd; split
              · omega
              · exact HR.out.2 j hj
            · exact add_step n i cy _ (cy + f i) o f _ hlt HV.out (by show cy + f i + (if i < m then g i else 0) = _; rw [if_neg hlm]; omega) rfl
          case measure => simp [intOf]; omega
      · have hin : i = n := by omega
        subst hin
        have co := hrow.cell (i := i) (by omega)
        have fo := hrow.frozen i
        have HS : Hid (Sl (wr.setCell ⟨w.heap.size, i, none⟩ (.int .u32 cy)) (some ⟨w.heap.size, 0, none⟩) (i + 1) (i + 1) (upd o i cy)) :=
          Sl.ofRow (row_upd hrow) (by omega) (fun j hj => by unfold upd; split; · omega
                                                             · exact hol j hj)
        clear hrow hol hbel
        go_wp2_with fail
        refine (l1Trim_any _ _ _ (upd o i cy) _ HS.out).mono ?_
        rintro e w' ⟨rfl, rfl⟩
        go_wp2
        go_ret
        refine ⟨_, _, _, upd o i cy, rfl, ?_, HBel.out.setCell (p := ⟨w.heap.size, i, none⟩) (Nat.le_refl _) _⟩
        have hm := Mag.trim HS.out
        have hv : val (i + 1) (upd o i cy) = x + y := by
          show val i (upd o i cy) + upd o i cy i * _ = _
          rw [val_upd_ge i i o cy (Nat.le_refl _)]
          have h1 : upd o i cy i = cy := by unfold upd; rw [if_pos rfl]
          rw [h1, HV.out, val_ext _ _ _ (by omega), HA.out.is, HB.out.is]
        rwa [hv] at hm
end Go.Proofs.Ytikepklkjbohmaa
