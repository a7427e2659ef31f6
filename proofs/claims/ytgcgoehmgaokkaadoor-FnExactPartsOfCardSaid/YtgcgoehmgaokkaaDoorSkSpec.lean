import Derived.Test.YtgcgoehmgaokkaaDoorSkNm
import Derived.Deep.RegionWith
import Derived.BigQuiet
namespace Go.Proofs.YtgcgoehmgaokkaaDoor
open Go.RowKit

def posok (p : Int) (b : Bool) (x : Int) : Bool := if b then decide (0 ≤ x ∧ x < p) else decide (x = 0)
def numok (b : Bool) (x y : Int) : Bool := if b then qok x y else decide (x = 0 ∧ y = 1)
/-- Position j of rule i, number j of rule i. -/
def pk (p : Int) (R : Nat → Int) (i j : Nat) : Bool := posok p (nm (R (i * 9)) j) (R (i * 9 + 1 + j))
def nk (R : Nat → Int) (i j : Nat) : Bool := numok (nm (R (i * 9)) (4 + j)) (R (i * 9 + 5 + 2 * j)) (R (i * 9 + 5 + 2 * j + 1))
def rok (p : Int) (R : Nat → Int) (i : Nat) : Bool :=
  decide (isKind (R (i * 9))) && (List.range 4).all (pk p R i) && (List.range 2).all (nk R i) && !decide (R (i * 9) = 9 ∧ R (i * 9 + 5) = 0 ∧ R (i * 9 + 7) = 0)
def skok (p : Int) (n : Nat) (R : Nat → Int) : Bool := decide (1 ≤ p ∧ p ≤ 8 ∧ n ≤ 16) && (List.range n).all (rok p R)

theorem rok_kind {p : Int} {R : Nat → Int} {i : Nat} (h : ¬ isKind (R (i * 9))) : rok p R i = false := by simp [rok, h]
theorem rok_pos {p : Int} {R : Nat → Int} {i k : Nat} (hk : k < 4) (h : pk p R i k = false) : rok p R i = false := by
  have : (List.range 4).all (pk p R i) = false := by rw [List.all_eq_false]; exact ⟨k, List.mem_range.2 hk, by simp [h]⟩
  simp [rok, this]
theorem rok_num {p : Int} {R : Nat → Int} {i k : Nat} (hk : k < 2) (h : nk R i k = false) : rok p R i = false := by
  have : (List.range 2).all (nk R i) = false := by rw [List.all_eq_false]; exact ⟨k, List.mem_range.2 hk, by simp [h]⟩
  simp [rok, this]
theorem rok_zero {p : Int} {R : Nat → Int} {i : Nat} (h : R (i * 9) = 9 ∧ R (i * 9 + 5) = 0 ∧ R (i * 9 + 7) = 0) : rok p R i = false := by simp [rok, h]
theorem rok_yes {p : Int} {R : Nat → Int} {i : Nat} (h1 : isKind (R (i * 9))) (h2 : ∀ j, j < 4 → pk p R i j = true) (h3 : ∀ j, j < 2 → nk R i j = true) (h4 : ¬ (R (i * 9) = 9 ∧ R (i * 9 + 5) = 0 ∧ R (i * 9 + 7) = 0)) : rok p R i = true := by
  simp only [rok, Bool.and_eq_true, decide_eq_true_eq, List.all_eq_true, List.mem_range, Bool.not_eq_true', decide_eq_false_iff_not]
  exact ⟨⟨⟨h1, h2⟩, h3⟩, h4⟩
theorem skok_no {p : Int} {n : Nat} {R : Nat → Int} {k : Nat} (hk : k < n) (h : rok p R k = false) : skok p n R = false := by
  have : (List.range n).all (rok p R) = false := by rw [List.all_eq_false]; exact ⟨k, List.mem_range.2 hk, by simp [h]⟩
  simp [skok, this]
theorem skok_yes {p : Int} {n : Nat} {R : Nat → Int} (h1 : 1 ≤ p) (h2 : p ≤ 8) (h3 : n ≤ 16) (h : ∀ j, j < n → rok p R j = true) : skok p n R = true := by
  simp only [skok, Bool.and_eq_true, decide_eq_true_eq, List.all_eq_true, List.mem_range]
  exact ⟨⟨h1, h2, h3⟩, h⟩
theorem all_succ {f : Nat → Bool} {k : Nat} (h : ∀ j, j < k → f j = true) (hk : f k = true) : ∀ j, j < k + 1 → f j = true := fun j hj => by
  by_cases e : j = k
  · subst e; exact hk
  · exact h j (by omega)

theorem Below.drewN {B : Nat} {w w' : World} (h : Below B w w') (n : Nat) : Below B w (w'.drewN n) := by
  induction n with
  | zero => exact h
  | succ n ih => exact ih.drew

theorem l7At_any (k n : Int) (w : World) : Calls Tryd.prog 24 #[.int .i64 k, .int .i64 n] w fun e w' => e = .returned (.bool (decide (0 ≤ k ∧ k < n))) ∧ w' = w := by
  by_cases h : 0 ≤ k
  · go_enter Tryd.func24, Tryd.ntmps24
    go_wp2
    go_ret
    simp [h]
  · have h' : ¬ (0 ≤ k ∧ k < n) := fun x => h x.1
    go_enter Tryd.func24, Tryd.ntmps24
    go_wp2
    go_ret
    exact ⟨rfl, rfl⟩

theorem l7At_is (k n : Int) (x : Bool) (hx : decide (0 ≤ k ∧ k < n) = x) (w : World) : Calls Tryd.prog 24 #[.int .i64 k, .int .i64 n] w fun e w' => e = .returned (.bool x) ∧ Below w.heap.size w w' := by
  subst hx
  exact (l7At_any k n w).mono fun e w' h => ⟨h.1, by rw [h.2]; exact Below.refl _ _⟩
theorem l7At_same (k n : Int) (x : Bool) (hx : decide (0 ≤ k ∧ k < n) = x) (w : World) : Calls Tryd.prog 24 #[.int .i64 k, .int .i64 n] w fun e w' => e = .returned (.bool x) ∧ w' = w := by
  subst hx
  exact l7At_any k n w
theorem specQOk_is (n d : Int) (x : Bool) (hx : qok n d = x) (w : World) : Calls Tryd.prog 25 #[.agg #[.int .i64 n, .int .i64 d]] w fun e w' => e = .returned (.bool x) ∧ Below w.heap.size w w' := by
  subst hx
  exact specQOk_any n d w
theorem at4 (R : Nat → Int) (k q : Nat) (h : q < 4) : (#[.int .i64 (R (k * 9 + 1)), .int .i64 (R (k * 9 + 2)), .int .i64 (R (k * 9 + 3)), .int .i64 (R (k * 9 + 4))] : Array Value)[q]? = some (.int .i64 (R (k * 9 + 1 + q))) := by
  match q, h with
  | 0, _ => rfl
  | 1, _ => rfl
  | 2, _ => rfl
  | 3, _ => rfl
theorem at2 (R : Nat → Int) (k q : Nat) (h : q < 2) : (#[.int .i64 (R (k * 9 + 5)), .int .i64 (R (k * 9 + 6)), .int .i64 (R (k * 9 + 7)), .int .i64 (R (k * 9 + 8))] : Array Value)[q * 2]? = some (.int .i64 (R (k * 9 + 5 + 2 * q))) ∧ (#[.int .i64 (R (k * 9 + 5)), .int .i64 (R (k * 9 + 6)), .int .i64 (R (k * 9 + 7)), .int .i64 (R (k * 9 + 8))] : Array Value)[q * 2 + 1]? = some (.int .i64 (R (k * 9 + 5 + 2 * q + 1))) := by
  match q, h with
  | 0, _ => exact ⟨rfl, rfl⟩
  | 1, _ => exact ⟨rfl, rfl⟩

abbrev Three (a0 : Addr) (v0 : Value) (a1 : Addr) (v1 : Value) (a2 : Addr) (v2 : Value) (w' : World) : Prop :=
  (w'.cell? a0 = some v0 ∧ w'.cell? a1 = some v1 ∧ w'.cell? a2 = some v2) ∧ a0.block < w'.heap.size ∧ a1.block < w'.heap.size ∧ a2.block < w'.heap.size
theorem Three.drew {a0 a1 a2 : Addr} {v0 v1 v2 : Value} {w' : World} (h : Three a0 v0 a1 v1 a2 v2 w') : Three a0 v0 a1 v1 a2 v2 w'.drew := h
theorem Three.call {a0 a1 a2 : Addr} {v0 v1 v2 : Value} {w' w1 : World} (h : Three a0 v0 a1 v1 a2 v2 w') (hb : Below w'.heap.size w' w1) : Three a0 v0 a1 v1 a2 v2 w1 :=
  ⟨⟨(hb.cell h.2.1).trans h.1.1, (hb.cell h.2.2.1).trans h.1.2.1, (hb.cell h.2.2.2).trans h.1.2.2⟩, Nat.lt_of_lt_of_le h.2.1 hb.size, Nat.lt_of_lt_of_le h.2.2.1 hb.size, Nat.lt_of_lt_of_le h.2.2.2 hb.size⟩

theorem sk_cells {w wr : World} {x y : Value} {t : Nat} (hb : Below (w.alloc (.cells #[x, y] t)).heap.size (w.alloc (.cells #[x, y] t)) wr) :
    wr.cell? ⟨w.heap.size, 0, none⟩ = some x ∧ wr.cell? ⟨w.heap.size, 1, none⟩ = some y :=
  ⟨by rw [hb.cell (p := ⟨w.heap.size, 0, none⟩) (by simp)]; go_simp, by rw [hb.cell (p := ⟨w.heap.size, 1, none⟩) (by simp)]; go_simp⟩

theorem bel_base {w w1 wr : World} {o o' : Obj} (h1 : Below (w.alloc o).heap.size (w.alloc o) w1) (h2 : Below (w1.alloc o').heap.size (w1.alloc o') wr) : Below (w.alloc o).heap.size (w.alloc o) wr :=
  h1.trans (((Joins.below_alloc1 w1 o').trans (h2.mono (by simp))).mono h1.size)
theorem bel_chain {w w1 wr : World} {o o' : Obj} (h1 : Below (w.alloc o).heap.size (w.alloc o) w1) (h2 : Below (w1.alloc o').heap.size (w1.alloc o') wr) : Below w.heap.size w wr :=
  (Joins.below_alloc1 w o).trans ((bel_base h1 h2).mono (by simp))

set_option maxRecDepth 20000 in
set_option maxHeartbeats 4000000 in
theorem specSketchOk_any (p : Int) (n cap : Nat) (ao : Option Addr) (R : Nat → Int) (w : World) (hn : n ≤ 1048576) (hr : Rd w 9 ao n R) :
    Calls Tryd.prog 7 #[.agg #[.int .i64 p, .slice ao n cap]] w fun e w' => e = .returned (.bool (skok p n R)) ∧ Below w.heap.size w w' := by
  have HV : Hid (Rd (w.alloc (.cells #[.int .i64 p, .slice ao n cap] 29)) 9 ao n R) := Rd.below hr (Joins.below_alloc1 _ _) (Nat.le_refl _)
  clear hr
  by_cases h1 : p < 1
  · go_enter Tryd.func7, Tryd.ntmps7
    go_wp2
    go_ret
    exact ⟨by rw [show skok p n R = false by simp [skok]; omega]; rfl, Joins.below_alloc1 _ _⟩
  by_cases h2 : p > 8
  · go_enter Tryd.func7, Tryd.ntmps7
    go_wp2
    go_ret
    exact ⟨by rw [show skok p n R = false by simp [skok]; omega]; rfl, Joins.below_alloc1 _ _⟩
  by_cases h3 : n > 16
  · go_enter Tryd.func7, Tryd.ntmps7
    go_wp2
    go_ret
    exact ⟨by rw [show skok p n R = false by simp [skok]; omega]; rfl, Joins.below_alloc1 _ _⟩
  go_enter Tryd.func7, Tryd.ntmps7
  go_wp2
  go_loopw [3] (fun i wr => ∃ k : Nat, k ≤ n ∧ i = .int .i64 k ∧ Hid (∀ j, j < k → rok p R j = true) ∧ Hid (Below (w.alloc (.cells #[.int .i64 p, .slice ao n cap] 29)).heap.size (w.alloc (.cells #[.int .i64 p, .slice ao n cap] 29)) wr)) (fun i _ => n - (intOf i).toNat)
  case atStart => exact ⟨0, Nat.zero_le _, rfl, fun j hj => absurd hj (Nat.not_lt_zero _), Below.refl _ _⟩
  case round =>
    obtain ⟨k, hk, rfl, HK, HB⟩ := hrel
    obtain ⟨m0, m1⟩ := sk_cells HB.out
    by_cases hlt : k < n
    · have HV1 : Hid (Rd wr 9 ao n R) := Rd.below HV.out HB.out (Nat.le_refl _)
      obtain ⟨b, off, rfl, hbw, hcell⟩ := HV1.out (by omega)
      have c0 : wr.cell? ⟨b, off + k * 9, none⟩ = some (.int .i64 (R (k * 9))) := hcell (k * 9) (by omega)
      have c1 : wr.cell? ⟨b, off + k * 9 + 1, none⟩ = some (.int .i64 (R (k * 9 + 1))) := hcell (k * 9 + 1) (by omega)
      have c2 : wr.cell? ⟨b, off + k * 9 + 2, none⟩ = some (.int .i64 (R (k * 9 + 2))) := hcell (k * 9 + 2) (by omega)
      have c3 : wr.cell? ⟨b, off + k * 9 + 3, none⟩ = some (.int .i64 (R (k * 9 + 3))) := hcell (k * 9 + 3) (by omega)
      have c4 : wr.cell? ⟨b, off + k * 9 + 4, none⟩ = some (.int .i64 (R (k * 9 + 4))) := hcell (k * 9 + 4) (by omega)
      have c5 : wr.cell? ⟨b, off + k * 9 + 5, none⟩ = some (.int .i64 (R (k * 9 + 5))) := hcell (k * 9 + 5) (by omega)
      have c6 : wr.cell? ⟨b, off + k * 9 + 6, none⟩ = some (.int .i64 (R (k * 9 + 6))) := hcell (k * 9 + 6) (by omega)
      have c7 : wr.cell? ⟨b, off + k * 9 + 7, none⟩ = some (.int .i64 (R (k * 9 + 7))) := hcell (k * 9 + 7) (by omega)
      have c8 : wr.cell? ⟨b, off + k * 9 + 8, none⟩ = some (.int .i64 (R (k * 9 + 8))) := hcell (k * 9 + 8) (by omega)
      clear hcell HV1
      go_wp2_with fail
      refine (l18Names_any (R (k * 9)) _).mono ?_
      rintro e w1 ⟨v, rfl, hnm, hb1⟩
      have HRu : Hid (At w1 wr.heap.size #[.int .i64 (R (k * 9)), .int .i64 (R (k * 9 + 1)), .int .i64 (R (k * 9 + 2)), .int .i64 (R (k * 9 + 3)), .int .i64 (R (k * 9 + 4)), .int .i64 (R (k * 9 + 5)), .int .i64 (R (k * 9 + 6)), .int .i64 (R (k * 9 + 7)), .int .i64 (R (k * 9 + 8))]) := At.below (w := wr.alloc (.cells #[.int .i64 (R (k * 9)), .int .i64 (R (k * 9 + 1)), .int .i64 (R (k * 9 + 2)), .int .i64 (R (k * 9 + 3)), .int .i64 (R (k * 9 + 4)), .int .i64 (R (k * 9 + 5)), .int .i64 (R (k * 9 + 6)), .int .i64 (R (k * 9 + 7)), .int .i64 (R (k * 9 + 8))] 56)) ⟨fun j => by go_simp, fun j => by go_simp, by simp⟩ hb1 (by simp)
      have HB1 : Hid (Below (w.alloc (.cells #[.int .i64 p, .slice (some ⟨b, off, none⟩) n cap] 29)).heap.size (w.alloc (.cells #[.int .i64 p, .slice (some ⟨b, off, none⟩) n cap] 29)) w1) := (HB.out.alloc HB.out.size _).trans (hb1.mono (by have := HB.out.size; simp at this ⊢; omega))
      clear hb1 c0 c1 c2 c3 c4 c5 c6 c7 c8 m0 m1 hbw
      rcases hnm with ⟨hkind, g, rfl, hg, hrow⟩ | ⟨hkind, ao', c, rfl⟩
      · have HKi : Hid (isKind (R (k * 9))) := hkind
        have HG : Hid (w1.rowIs g 4 6 (fun j => .bool (nm (R (k * 9)) j))) := hrow
        clear hkind hg hrow
        obtain ⟨rc, rz, rs⟩ := HRu.out
        go_wp2
        clear rc rz rs
        go_loopw [7] (fun i wj => ∃ q : Nat, q ≤ 4 ∧ i = .int .i64 q ∧ Hid (∀ j, j < q → pk p R k j = true) ∧ Hid (Below (w1.alloc (.cells #[.int .i64 (R (k * 9 + 1)), .int .i64 (R (k * 9 + 2)), .int .i64 (R (k * 9 + 3)), .int .i64 (R (k * 9 + 4))] 2)).heap.size (w1.alloc (.cells #[.int .i64 (R (k * 9 + 1)), .int .i64 (R (k * 9 + 2)), .int .i64 (R (k * 9 + 3)), .int .i64 (R (k * 9 + 4))] 2)) wj)) (fun i _ => 4 - (intOf i).toNat)
        case atStart => exact ⟨0, Nat.zero_le _, rfl, fun j hj => absurd hj (Nat.not_lt_zero _), Below.refl _ _⟩
        case round =>
          obtain ⟨q, hq, rfl, HQ, HJ⟩ := hrel
          by_cases hq4 : q < 4
          · have hgl := HG.out.lt
            have hq6 : (q : Int) < 6 := by omega
            have hq5 : (q : Int) < 4 := by omega
            have hq0 : (0 : Int) ≤ q := by omega
            have cn := (rowIs_below (rowIs_below HG.out (Joins.below_alloc1 w1 (.cells #[.int .i64 (R (k * 9 + 1)), .int .i64 (R (k * 9 + 2)), .int .i64 (R (k * 9 + 3)), .int .i64 (R (k * 9 + 4))] 2)) hgl) HJ.out (by simp; omega)).cell (i := q) (by omega)
            have ca : wr.cell? ⟨w1.heap.size, q, none⟩ = some (.int .i64 (R (k * 9 + 1 + q))) := by
              rw [HJ.out.cell (p := ⟨w1.heap.size, q, none⟩) (by simp)]
              rw [← at4 R k q hq4]
              go_simp
            have cs : wr.cell? ⟨w.heap.size, 0, none⟩ = some (.int .i64 p) := by
              have hs := HB1.out.size
              rw [HJ.out.cell (p := ⟨w.heap.size, 0, none⟩) (by simp at hs ⊢; omega), (Joins.below_alloc1 w1 (.cells #[.int .i64 (R (k * 9 + 1)), .int .i64 (R (k * 9 + 2)), .int .i64 (R (k * 9 + 3)), .int .i64 (R (k * 9 + 4))] 2)).cell (p := ⟨w.heap.size, 0, none⟩) (by simp at hs ⊢; omega)]
              exact (sk_cells HB1.out).1
            rcases Bool.eq_false_or_eq_true (nm (R (k * 9)) q) with hb | hb
            · rw [hb] at cn
              by_cases hx : 0 ≤ (R (k * 9 + 1 + q)) ∧ (R (k * 9 + 1 + q)) < p
              · have HX : Hid (decide (0 ≤ (R (k * 9 + 1 + q)) ∧ (R (k * 9 + 1 + q)) < p) = true) := decide_eq_true hx
                have HP : Hid (pk p R k q = true) := by simp [Hid, pk, posok, hb, hx]
                clear hb hx hgl
                go_wp2_with fail
                go_quiet (first | (go_at_call 24; exact Calls.quiet_of_same (l7At_same _ _ true HX.out _)))
                go_wp2
                go_roundw
                case rel => exact ⟨q + 1, by omega, by simp, all_succ HQ.out HP.out, Below.drewN HJ.out _⟩
                case measure => simp [intOf]; omega
              · have HX : Hid (decide (0 ≤ (R (k * 9 + 1 + q)) ∧ (R (k * 9 + 1 + q)) < p) = false) := decide_eq_false hx
                have HP : Hid (pk p R k q = false) := by simp [Hid, pk, posok, hb, hx]
                clear hb hx hgl
                go_wp2_with fail
                go_quiet (first | (go_at_call 24; exact Calls.quiet_of_same (l7At_same _ _ false HX.out _)))
                go_wp2
                go_ret
                exact ⟨by rw [skok_no hlt (rok_pos hq4 HP.out)]; rfl, bel_chain HB1.out (Below.drewN HJ.out _)⟩
            · rw [hb] at cn
              by_cases hx : (R (k * 9 + 1 + q)) = 0
              · have HP : Hid (pk p R k q = true) := by simp [Hid, pk, posok, hb, hx]
                clear hb hgl
                go_wp2_with fail
                go_quiet (fail)
                go_wp2
                go_roundw
                case rel => exact ⟨q + 1, by omega, by simp, all_succ HQ.out HP.out, Below.drewN HJ.out _⟩
                case measure => simp [intOf]; omega
              · have HP : Hid (pk p R k q = false) := by simp [Hid, pk, posok, hb, hx]
                have hx' : (R (k * 9 + 1 + q) == 0) = false := beq_eq_false_iff_ne.2 hx
                clear hb hgl
                go_wp2_with fail
                go_quiet (fail)
                go_wp2
                go_ret
                exact ⟨by rw [skok_no hlt (rok_pos hq4 HP.out)]; rfl, bel_chain HB1.out (Below.drewN HJ.out _)⟩
          · have HPs : Hid (∀ j, j < 4 → pk p R k j = true) := fun j hj => HQ.out j (by omega)
            have HB2 : Hid _ := bel_base HB1.out HJ.out
            have HRk : Hid _ := At.below (At.alloc HRu.out (.cells #[.int .i64 (R (k * 9 + 1)), .int .i64 (R (k * 9 + 2)), .int .i64 (R (k * 9 + 3)), .int .i64 (R (k * 9 + 4))] 2)) HJ.out (by have := HRu.out.sz; simp; omega)
            have HGk : Hid (wr.rowIs g 4 6 (fun j => .bool (nm (R (k * 9)) j))) := rowIs_below (rowIs_below HG.out (Joins.below_alloc1 w1 (.cells #[.int .i64 (R (k * 9 + 1)), .int .i64 (R (k * 9 + 2)), .int .i64 (R (k * 9 + 3)), .int .i64 (R (k * 9 + 4))] 2)) HG.out.lt) HJ.out (by have := HG.out.lt; simp; omega)
            clear HQ HG HRu HB1 HJ
            rename World => wk
            obtain ⟨rc, rz, rs⟩ := HRk.out
            go_wp2
            clear rc rz rs
            go_loopw [9] (fun i wj => ∃ q : Nat, q ≤ 2 ∧ i = .int .i64 q ∧ Hid (∀ j, j < q → nk R k j = true) ∧ Hid (Below (wk.alloc (.cells #[.int .i64 (R (k * 9 + 5)), .int .i64 (R (k * 9 + 6)), .int .i64 (R (k * 9 + 7)), .int .i64 (R (k * 9 + 8))] 54)).heap.size (wk.alloc (.cells #[.int .i64 (R (k * 9 + 5)), .int .i64 (R (k * 9 + 6)), .int .i64 (R (k * 9 + 7)), .int .i64 (R (k * 9 + 8))] 54)) wj)) (fun i _ => 2 - (intOf i).toNat)
            case atStart => exact ⟨0, Nat.zero_le _, rfl, fun j hj => absurd hj (Nat.not_lt_zero _), Below.refl _ _⟩
            case round =>
              clear hq
              obtain ⟨q, hq, rfl, HQ, HJ⟩ := hrel
              by_cases hq2 : q < 2
              · rcases (show q = 0 ∨ q = 1 by omega) with rfl | rfl
                · have cn : wr.cell? ⟨g, 4, none⟩ = some (.bool (nm (R (k * 9)) 4)) := (rowIs_below (rowIs_below HGk.out (Joins.below_alloc1 wk (.cells #[.int .i64 (R (k * 9 + 5)), .int .i64 (R (k * 9 + 6)), .int .i64 (R (k * 9 + 7)), .int .i64 (R (k * 9 + 8))] 54)) HGk.out.lt) HJ.out (by have := HGk.out.lt; simp; omega)).cell (i := 4) (by omega)
                  have c0 : wr.cell? ⟨wk.heap.size, 0, none⟩ = some (.int .i64 (R (k * 9 + 5))) := by rw [HJ.out.cell (p := ⟨wk.heap.size, 0, none⟩) (by simp)]; go_simp
                  have c1 : wr.cell? ⟨wk.heap.size, 1, none⟩ = some (.int .i64 (R (k * 9 + 6))) := by rw [HJ.out.cell (p := ⟨wk.heap.size, 1, none⟩) (by simp)]; go_simp
                  have hgw : g < wr.heap.size := by have := HGk.out.lt; have := HJ.out.size; simp at this; omega
                  rcases Bool.eq_false_or_eq_true (nm (R (k * 9)) 4) with hb | hb
                  · rw [hb] at cn
                    rcases Bool.eq_false_or_eq_true (qok (R (k * 9 + 5)) (R (k * 9 + 6))) with hx | hx
                    · have HX : Hid (qok (R (k * 9 + 5)) (R (k * 9 + 6)) = true) := hx
                      have HP : Hid (nk R k 0 = true) := by simp [Hid, nk, numok, hb, hx]
                      clear hb hx
                      go_wp2_with fail
                      refine (specQOk_is _ _ true HX.out _).mono ?_
                      rintro e w2 ⟨rfl, hb2⟩
                      have cn2 := (hb2.cell (p := ⟨g, 4, none⟩) hgw).trans cn
                      have HJ2 : Hid (Below (wk.alloc (.cells #[.int .i64 (R (k * 9 + 5)), .int .i64 (R (k * 9 + 6)), .int .i64 (R (k * 9 + 7)), .int .i64 (R (k * 9 + 8))] 54)).heap.size (wk.alloc (.cells #[.int .i64 (R (k * 9 + 5)), .int .i64 (R (k * 9 + 6)), .int .i64 (R (k * 9 + 7)), .int .i64 (R (k * 9 + 8))] 54)) w2) := HJ.out.trans (hb2.mono HJ.out.size)
                      clear hb2 cn c0 c1
                      go_wp2
                      go_roundw
                      case rel => exact ⟨1, by omega, by simp, all_succ HQ.out HP.out, HJ2.out⟩
                      case measure => simp [intOf]
                    · have HX : Hid (qok (R (k * 9 + 5)) (R (k * 9 + 6)) = false) := hx
                      have HP : Hid (nk R k 0 = false) := by simp [Hid, nk, numok, hb, hx]
                      clear hb hx
                      go_wp2_with fail
                      refine (specQOk_is _ _ false HX.out _).mono ?_
                      rintro e w2 ⟨rfl, hb2⟩
                      have cn2 := (hb2.cell (p := ⟨g, 4, none⟩) hgw).trans cn
                      have HJ2 : Hid (Below (wk.alloc (.cells #[.int .i64 (R (k * 9 + 5)), .int .i64 (R (k * 9 + 6)), .int .i64 (R (k * 9 + 7)), .int .i64 (R (k * 9 + 8))] 54)).heap.size (wk.alloc (.cells #[.int .i64 (R (k * 9 + 5)), .int .i64 (R (k * 9 + 6)), .int .i64 (R (k * 9 + 7)), .int .i64 (R (k * 9 + 8))] 54)) w2) := HJ.out.trans (hb2.mono HJ.out.size)
                      clear hb2 cn c0 c1
                      go_wp2
                      go_ret
                      exact ⟨by rw [skok_no hlt (rok_num (k := 0) (by omega) HP.out)]; rfl, bel_chain HB2.out HJ2.out⟩
                  · rw [hb] at cn
                    by_cases hx : (R (k * 9 + 5)) = 0 ∧ (R (k * 9 + 6)) = 1
                    · have HP : Hid (nk R k 0 = true) := by simp [Hid, nk, numok, hb, hx]
                      have hx0 := hx.1
                      have hx1 := hx.2
                      rw [hx0] at c0
                      rw [hx1] at c1
                      clear hb hx hx0 hx1
                      go_wp2
                      go_roundw
                      case rel => exact ⟨1, by omega, by simp, all_succ HQ.out HP.out, by first | exact HJ.out | exact HJ.out.drew⟩
                      case measure => simp [intOf]
                    · have HP : Hid (nk R k 0 = false) := by simp [Hid, nk, numok, hb, hx]
                      have HN : (((R (k * 9 + 5)) == 0) && ((R (k * 9 + 6)) == 1)) = false := by rw [Bool.eq_false_iff]; simpa using hx
                      clear hb
                      go_wp2
                      all_goals
                        go_ret
                        exact ⟨by rw [skok_no hlt (rok_num (k := 0) (by omega) HP.out)]; rfl, bel_chain HB2.out HJ.out⟩
                · have cn : wr.cell? ⟨g, 5, none⟩ = some (.bool (nm (R (k * 9)) 5)) := (rowIs_below (rowIs_below HGk.out (Joins.below_alloc1 wk (.cells #[.int .i64 (R (k * 9 + 5)), .int .i64 (R (k * 9 + 6)), .int .i64 (R (k * 9 + 7)), .int .i64 (R (k * 9 + 8))] 54)) HGk.out.lt) HJ.out (by have := HGk.out.lt; simp; omega)).cell (i := 5) (by omega)
                  have c0 : wr.cell? ⟨wk.heap.size, 2, none⟩ = some (.int .i64 (R (k * 9 + 7))) := by rw [HJ.out.cell (p := ⟨wk.heap.size, 2, none⟩) (by simp)]; go_simp
                  have c1 : wr.cell? ⟨wk.heap.size, 3, none⟩ = some (.int .i64 (R (k * 9 + 8))) := by rw [HJ.out.cell (p := ⟨wk.heap.size, 3, none⟩) (by simp)]; go_simp
                  have hgw : g < wr.heap.size := by have := HGk.out.lt; have := HJ.out.size; simp at this; omega
                  rcases Bool.eq_false_or_eq_true (nm (R (k * 9)) 5) with hb | hb
                  · rw [hb] at cn
                    rcases Bool.eq_false_or_eq_true (qok (R (k * 9 + 7)) (R (k * 9 + 8))) with hx | hx
                    · have HX : Hid (qok (R (k * 9 + 7)) (R (k * 9 + 8)) = true) := hx
                      have HP : Hid (nk R k 1 = true) := by simp [Hid, nk, numok, hb, hx]
                      clear hb hx
                      go_wp2_with fail
                      refine (specQOk_is _ _ true HX.out _).mono ?_
                      rintro e w2 ⟨rfl, hb2⟩
                      have cn2 := (hb2.cell (p := ⟨g, 5, none⟩) hgw).trans cn
                      have HJ2 : Hid (Below (wk.alloc (.cells #[.int .i64 (R (k * 9 + 5)), .int .i64 (R (k * 9 + 6)), .int .i64 (R (k * 9 + 7)), .int .i64 (R (k * 9 + 8))] 54)).heap.size (wk.alloc (.cells #[.int .i64 (R (k * 9 + 5)), .int .i64 (R (k * 9 + 6)), .int .i64 (R (k * 9 + 7)), .int .i64 (R (k * 9 + 8))] 54)) w2) := HJ.out.trans (hb2.mono HJ.out.size)
                      clear hb2 cn c0 c1
                      go_wp2
                      go_roundw
                      case rel => exact ⟨2, by omega, by simp, all_succ HQ.out HP.out, HJ2.out⟩
                      case measure => simp [intOf]
                    · have HX : Hid (qok (R (k * 9 + 7)) (R (k * 9 + 8)) = false) := hx
                      have HP : Hid (nk R k 1 = false) := by simp [Hid, nk, numok, hb, hx]
                      clear hb hx
                      go_wp2_with fail
                      refine (specQOk_is _ _ false HX.out _).mono ?_
                      rintro e w2 ⟨rfl, hb2⟩
                      have cn2 := (hb2.cell (p := ⟨g, 5, none⟩) hgw).trans cn
                      have HJ2 : Hid (Below (wk.alloc (.cells #[.int .i64 (R (k * 9 + 5)), .int .i64 (R (k * 9 + 6)), .int .i64 (R (k * 9 + 7)), .int .i64 (R (k * 9 + 8))] 54)).heap.size (wk.alloc (.cells #[.int .i64 (R (k * 9 + 5)), .int .i64 (R (k * 9 + 6)), .int .i64 (R (k * 9 + 7)), .int .i64 (R (k * 9 + 8))] 54)) w2) := HJ.out.trans (hb2.mono HJ.out.size)
                      clear hb2 cn c0 c1
                      go_wp2
                      go_ret
                      exact ⟨by rw [skok_no hlt (rok_num (k := 1) (by omega) HP.out)]; rfl, bel_chain HB2.out HJ2.out⟩
                  · rw [hb] at cn
                    by_cases hx : (R (k * 9 + 7)) = 0 ∧ (R (k * 9 + 8)) = 1
                    · have HP : Hid (nk R k 1 = true) := by simp [Hid, nk, numok, hb, hx]
                      have hx0 := hx.1
                      have hx1 := hx.2
                      rw [hx0] at c0
                      rw [hx1] at c1
                      clear hb hx hx0 hx1
                      go_wp2
                      go_roundw
                      case rel => exact ⟨2, by omega, by simp, all_succ HQ.out HP.out, by first | exact HJ.out | exact HJ.out.drew⟩
                      case measure => simp [intOf]
                    · have HP : Hid (nk R k 1 = false) := by simp [Hid, nk, numok, hb, hx]
                      have HN : (((R (k * 9 + 7)) == 0) && ((R (k * 9 + 8)) == 1)) = false := by rw [Bool.eq_false_iff]; simpa using hx
                      clear hb
                      go_wp2
                      all_goals
                        go_ret
                        exact ⟨by rw [skok_no hlt (rok_num (k := 1) (by omega) HP.out)]; rfl, bel_chain HB2.out HJ.out⟩
              · have HNs : Hid (∀ j, j < 2 → nk R k j = true) := fun j hj => HQ.out j (by omega)
                have HB3 : Hid _ := bel_base HB2.out HJ.out
                obtain ⟨rc, _, _⟩ := At.below (At.alloc HRk.out (.cells #[.int .i64 (R (k * 9 + 5)), .int .i64 (R (k * 9 + 6)), .int .i64 (R (k * 9 + 7)), .int .i64 (R (k * 9 + 8))] 54)) HJ.out (by have := HRk.out.sz; simp; omega)
                have r0 := rc 0
                have r5 := rc 5
                have r7 := rc 7
                clear HQ HRk HB2 HJ HGk rc
                by_cases hz : R (k * 9) = 9 ∧ R (k * 9 + 5) = 0 ∧ R (k * 9 + 7) = 0
                · have HZ : Hid (rok p R k = false) := rok_zero hz
                  rw [hz.1] at r0
                  rw [hz.2.1] at r5
                  rw [hz.2.2] at r7
                  clear hz
                  go_wp2
                  go_ret
                  exact ⟨by rw [skok_no hlt HZ.out]; rfl, (Joins.below_alloc1 _ _).trans (HB3.out.mono (by simp))⟩
                · have HZ : Hid (rok p R k = true) := rok_yes HKi.out HPs.out HNs.out hz
                  by_cases z0 : R (k * 9) = 9
                  · by_cases z5 : R (k * 9 + 5) = 0
                    · have z7 : (R (k * 9 + 7) == 0) = false := beq_eq_false_iff_ne.2 fun e => hz ⟨z0, z5, e⟩
                      rw [z0] at r0
                      rw [z5] at r5
                      clear hz z0 z5
                      go_wp2
                      go_roundw
                      case rel => exact ⟨k + 1, by omega, by simp, all_succ HK.out HZ.out, HB3.out⟩
                      case measure => simp [intOf]; omega
                    · have y5 : (R (k * 9 + 5) == 0) = false := beq_eq_false_iff_ne.2 z5
                      rw [z0] at r0
                      clear hz z0 z5
                      go_wp2
                      go_roundw
                      case rel => exact ⟨k + 1, by omega, by simp, all_succ HK.out HZ.out, HB3.out⟩
                      case measure => simp [intOf]; omega
                  · have y0 : (R (k * 9) == 9) = false := beq_eq_false_iff_ne.2 z0
                    clear hz z0
                    go_wp2
                    go_roundw
                    case rel => exact ⟨k + 1, by omega, by simp, all_succ HK.out HZ.out, HB3.out⟩
                    case measure => simp [intOf]; omega
      · go_wp2
        go_ret
        exact ⟨by rw [skok_no hlt (rok_kind hkind)]; rfl, (Joins.below_alloc1 _ _).trans (HB1.out.mono (by simp))⟩
    · go_wp2
      go_ret
      exact ⟨by rw [skok_yes (by omega) (by omega) (by omega) (fun j hj => HK.out j (by omega))]; rfl, (Joins.below_alloc1 _ _).trans (HB.out.mono (by simp))⟩
end Go.Proofs.YtgcgoehmgaokkaaDoor
