import Derived.Test.YtikepklkjbohmaaQok
import Derived.Deep.OwnRows
import Derived.Laws.BitsAllLaws
namespace Go.Proofs.Ytikepklkjbohmaa
open Go.RowKit

/-! ### Groups of 32 bits: plain numbers -/
/-- The number of n groups. -/
def val : Nat → (Nat → Nat) → Nat
  | 0, _ => 0
  | n + 1, f => val n f + f n * 4294967296 ^ n
/-- How many are left without the noughts at the end. -/
def tl : Nat → (Nat → Nat) → Nat
  | 0, _ => 0
  | n + 1, f => if f n = 0 then tl n f else n + 1

theorem tl_le (n : Nat) (f : Nat → Nat) : tl n f ≤ n := by
  induction n with
  | zero => exact Nat.le_refl _
  | succ n ih => unfold tl; split <;> omega
theorem val_tl (n : Nat) (f : Nat → Nat) : val (tl n f) f = val n f := by
  induction n with
  | zero => rfl
  | succ n ih =>
    unfold tl
    split
    · rename_i h; rw [ih]; show _ = val n f + f n * _; rw [h]; omega
    · rfl
theorem tl_top (n : Nat) (f : Nat → Nat) : tl n f = 0 ∨ f (tl n f - 1) ≠ 0 := by
  induction n with
  | zero => exact .inl rfl
  | succ n ih =>
    unfold tl
    split
    · exact ih
    · rename_i h; exact .inr h
theorem val_congr {n : Nat} {f g : Nat → Nat} (h : ∀ i, i < n → f i = g i) : val n f = val n g := by
  induction n with
  | zero => rfl
  | succ n ih =>
    show val n f + f n * _ = val n g + g n * _
    rw [ih (fun i hi => h i (by omega)), h n (by omega)]
theorem val_lt (n : Nat) (f : Nat → Nat) (h : ∀ i, i < n → f i < 4294967296) : val n f < 4294967296 ^ n := by
  induction n with
  | zero => show 0 < 1; omega
  | succ n ih =>
    have h1 := ih (fun i hi => h i (by omega))
    have h2 := h n (by omega)
    show val n f + f n * 4294967296 ^ n < 4294967296 ^ (n + 1)
    rw [Nat.pow_succ]
    have h3 : f n * 4294967296 ^ n ≤ 4294967295 * 4294967296 ^ n := Nat.mul_le_mul_right _ (by omega)
    omega
theorem val_top (n : Nat) (f : Nat → Nat) (h : f n ≠ 0) : 4294967296 ^ n ≤ val (n + 1) f := by
  show _ ≤ val n f + f n * 4294967296 ^ n
  have : 1 * 4294967296 ^ n ≤ f n * 4294967296 ^ n := Nat.mul_le_mul_right _ (by omega)
  omega

/-- A slice of groups of a block. -/
structure Sl (w : World) (a : Option Addr) (n c : Nat) (f : Nat → Nat) : Prop where
  small : n ≤ 8
  cap : n ≤ c
  caps : c ≤ 9223372036854775807
  lt : ∀ i, i < n → f i < 4294967296
  at_ : 0 < n → ∃ g, a = some ⟨g, 0, none⟩ ∧ ∀ i, i < n → w.cell? ⟨g, i, none⟩ = some (.int .u32 (f i))

theorem Sl.below {w w' : World} {a : Option Addr} {n c : Nat} {f : Nat → Nat} (h : Sl w a n c f) (hb : Below w.heap.size w w') : Sl w' a n c f :=
  ⟨h.small, h.cap, h.caps, h.lt, fun hn => by
    obtain ⟨g, e, hc⟩ := h.at_ hn
    refine ⟨g, e, fun i hi => ?_⟩
    have := hc i hi
    rw [hb.cell (p := ⟨g, i, none⟩) (World.block_lt_of_cell? w _ this)]
    exact this⟩
/-- The slice stands for the number m, without noughts at the end. -/
structure Mag (w : World) (a : Option Addr) (n c : Nat) (f : Nat → Nat) (m : Nat) : Prop where
  sl : Sl w a n c f
  top : n = 0 ∨ f (n - 1) ≠ 0
  is : val n f = m
theorem Mag.below {w w' : World} {a : Option Addr} {n c : Nat} {f : Nat → Nat} {m : Nat} (h : Mag w a n c f m) (hb : Below w.heap.size w w') : Mag w' a n c f m := ⟨h.sl.below hb, h.top, h.is⟩

theorem ret_slice {a : Option Addr} {n m c : Nat} (h : n = m) : Ending.returned (.slice a n c) = .returned (.slice a m c) := by rw [h]

set_option maxHeartbeats 400000 in
theorem l1Trim_any (g n c : Nat) (f : Nat → Nat) (w : World) (h : Sl w (some ⟨g, 0, none⟩) n c f) :
    Calls Try.prog 85 #[.slice (some ⟨g, 0, none⟩) n c] w fun e w' => e = .returned (.slice (some ⟨g, 0, none⟩) (tl n f) c) ∧ w' = w := by
  obtain ⟨hn, hc, hcc, hlt, hat⟩ := h
  have hcell : ∀ i, i < n → w.cell? ⟨g, i, none⟩ = some (.int .u32 (f i)) := fun i hi => by
    obtain ⟨g', e, h⟩ := hat (by omega)
    cases e
    exact h i hi
  clear hat
  go_enter Try.func85, Try.ntmps85
  go_wp2
  go_loop [3] (fun i => ∃ k : Nat, k ≤ n ∧ i = .int .i64 k ∧ tl k f = tl n f) (fun i => (intOf i).toNat)
  case atStart => exact ⟨n, Nat.le_refl _, rfl, rfl⟩
  case round =>
    obtain ⟨k, hk, rfl, ht⟩ := hrel
    have HT : Hid (tl k f = tl n f) := ht
    clear ht
    by_cases h0 : k = 0
    · subst h0
      have HR : Hid (0 = tl n f) := HT.out
      clear HT
      go_wp2
      go_ret
      exact ⟨ret_slice HR.out, rfl⟩
    · obtain ⟨j, rfl⟩ : ∃ j, k = j + 1 := ⟨k - 1, by omega⟩
      have hj := hcell j (by omega)
      have hl := hlt j (by omega)
      clear hcell hlt
      by_cases hz : f j = 0
      · have HR : Hid (tl j f = tl n f) := by
          have e : tl (j + 1) f = tl j f := by show (if f j = 0 then tl j f else j + 1) = _; rw [if_pos hz]
          exact e.symm.trans HT.out
        clear HT
        have hz' : (((f j : Nat) : Int) == 0) = true := by simp [hz]
        have HZ : Hid (f j = 0) := hz
        clear hz
        go_wp2
        go_round
        case rel => exact ⟨j, by omega, by go_num, HR.out⟩
        case measure => simp [intOf]
      · have HR : Hid (j + 1 = tl n f) := by
          have e : tl (j + 1) f = j + 1 := by show (if f j = 0 then tl j f else j + 1) = _; rw [if_neg hz]
          exact e.symm.trans HT.out
        clear HT
        have hz' : (((f j : Nat) : Int) == 0) = false := by simp; omega
        have HZ : Hid (¬ f j = 0) := hz
        clear hz
        go_wp2
        go_ret
        exact ⟨ret_slice HR.out, rfl⟩

/-- A trimmed slice stands for its number. -/
theorem Mag.trim {w : World} {g n c : Nat} {f : Nat → Nat} (h : Sl w (some ⟨g, 0, none⟩) n c f) : Mag w (some ⟨g, 0, none⟩) (tl n f) c f (val n f) := by
  have hl := tl_le n f
  refine ⟨⟨by have := h.small; omega, by have := h.cap; omega, h.caps, fun i hi => h.lt i (by omega), fun hn => ?_⟩, tl_top n f, val_tl n f⟩
  obtain ⟨g', e, hc⟩ := h.at_ (by omega)
  exact ⟨g', e, fun i hi => hc i (by omega)⟩

/-- The two groups of a number of 64 bits. -/
def lo (x : Nat) : Nat → Nat := fun i => if i = 0 then x % 4294967296 else x / 4294967296
theorem val_lo (x : Nat) : val 2 (lo x) = x := by
  show (0 + x % 4294967296 * 1) + x / 4294967296 * 4294967296 = x
  omega

set_option maxHeartbeats 400000 in
theorem l1Mag_any (x : Nat) (w : World) (hx : x ≤ 18446744073709551615) :
    Calls Try.prog 71 #[.int .u64 x] w fun e w' => ∃ g n c f, e = .returned (.slice (some ⟨g, 0, none⟩) n c) ∧ Mag w' (some ⟨g, 0, none⟩) n c f x ∧ Below w.heap.size w w' := by
  have hS : Sl (w.alloc (.cells #[.int .u32 ((x : Int) % 4294967296), .int .u32 ((x : Int) / 4294967296)] 114)) (some ⟨w.heap.size, 0, none⟩) 2 2 (lo x) := by
    refine ⟨by omega, by omega, by omega, fun i hi => ?_, fun _ => ⟨_, rfl, fun i hi => ?_⟩⟩
    · unfold lo; split <;> omega
    · rw [Joins.cell_alloc_mark_at _ _ _ _ _ _ rfl]
      have : i = 0 ∨ i = 1 := by omega
      rcases this with rfl | rfl
      · simp [lo]
      · simp [lo]
  have HS : Hid _ := hS
  clear hS
  go_enter Try.func71, Try.ntmps71
  go_wp2_with fail
  refine (l1Trim_any _ 2 2 (lo x) _ HS.out).mono ?_
  rintro e w' ⟨rfl, rfl⟩
  go_wp2
  go_ret
  exact ⟨_, _, _, _, rfl, by have := Mag.trim HS.out; rwa [val_lo] at this, Joins.below_alloc1 _ _⟩

/-- A whole number. -/
def ZIs (w : World) (v : Value) (z : Int) : Prop := ∃ a n c f, v = .agg #[.bool (decide (z < 0)), .slice a n c] ∧ Mag w a n c f z.natAbs
theorem ZIs.below {w w' : World} {v : Value} {z : Int} (h : ZIs w v z) (hb : Below w.heap.size w w') : ZIs w' v z := by
  obtain ⟨a, n, c, f, e, hm⟩ := h
  exact ⟨a, n, c, f, e, hm.below hb⟩

/-- No group of bits. -/
def NotG (v : Value) : Prop := ∀ x, v ≠ .int .u32 x
theorem notG_bool (b : Bool) : NotG (.bool b) := fun _ h => by cases h
theorem notG_i64 (x : Int) : NotG (.int .i64 x) := fun _ h => by cases h

theorem cell_same {w w' : World} {g : Nat} (h : w'.heap[g]? = w.heap[g]?) (o : Nat) : w'.cell? ⟨g, o, none⟩ = w.cell? ⟨g, o, none⟩ := by simp [World.cell?, h]

theorem Sl.other {w w' : World} {a : Option Addr} {n c : Nat} {f : Nat → Nat} (h : Sl w a n c f) (b : Nat) (u : Value) (hb : w.cell? ⟨b, 0, none⟩ = some u) (hu : NotG u) (hk : ∀ g, g ≠ b → w'.heap[g]? = w.heap[g]?) : Sl w' a n c f :=
  ⟨h.small, h.cap, h.caps, h.lt, fun hn => by
    obtain ⟨g, e, hc⟩ := h.at_ hn
    have hg : g ≠ b := by
      intro hgb
      have := hc 0 hn
      rw [hgb, hb] at this
      exact hu _ (Option.some.inj this)
    exact ⟨g, e, fun i hi => by rw [cell_same (hk g hg)]; exact hc i hi⟩⟩
theorem Mag.other {w w' : World} {a : Option Addr} {n c : Nat} {f : Nat → Nat} {m : Nat} (h : Mag w a n c f m) (b : Nat) (u : Value) (hb : w.cell? ⟨b, 0, none⟩ = some u) (hu : NotG u) (hk : ∀ g, g ≠ b → w'.heap[g]? = w.heap[g]?) : Mag w' a n c f m :=
  ⟨h.sl.other b u hb hu hk, h.top, h.is⟩
theorem set2_other (w : World) (b : Nat) (u0 u1 : Value) : ∀ g, g ≠ b → ((w.setCell ⟨b, 0, none⟩ u0).setCell ⟨b, 1, none⟩ u1).heap[g]? = w.heap[g]? := fun g hg => by
  rw [Below.heap_setCell _ _ _ _ (by exact hg), Below.heap_setCell _ _ _ _ (by exact hg)]
theorem set3_other (w : World) (b : Nat) (u0 u1 u2 : Value) : ∀ g, g ≠ b → (((w.setCell ⟨b, 0, none⟩ u0).setCell ⟨b, 1, none⟩ u1).setCell ⟨b, 2, none⟩ u2).heap[g]? = w.heap[g]? := fun g hg => by
  rw [Below.heap_setCell _ _ _ _ (by exact hg), set2_other _ _ _ _ g hg]

set_option maxHeartbeats 400000 in
theorem l1ZOf_any (x : Int) (w : World) (h1 : -9223372036854775808 ≤ x) (h2 : x ≤ 9223372036854775807) :
    Calls Try.prog 34 #[.int .i64 x] w fun e w' => ∃ v, e = .returned v ∧ ZIs w' v x ∧ Below w.heap.size w w' := by
  go_enter Try.func34, Try.ntmps34
  go_wp2_with fail
  refine (l1Abs_any _ _ (by omega) (by omega)).mono ?_
  rintro e w' ⟨rfl, rfl⟩
  go_wp2_with fail
  refine (l1Mag_any _ _ (by omega)).mono ?_
  rintro e w1 ⟨g, n, c, f, rfl, hm, hb⟩
  have hcf := bcell hb
  have hz : w.heap.size < w1.heap.size := by have := hb.size; simp at this; omega
  have h0 : w1.cell? ⟨w.heap.size, 0, none⟩ = some (.bool false) := by rw [hb.cell (p := ⟨w.heap.size, 0, none⟩) (by simp)]; go_simp
  have HM : Hid (∀ u0 u1, Mag ((w1.setCell ⟨w.heap.size, 0, none⟩ u0).setCell ⟨w.heap.size, 1, none⟩ u1) (some ⟨g, 0, none⟩) n c f x.natAbs ∧ Below w.heap.size w ((w1.setCell ⟨w.heap.size, 0, none⟩ u0).setCell ⟨w.heap.size, 1, none⟩ u1)) := fun u0 u1 =>
    ⟨hm.other w.heap.size _ h0 (notG_bool _) (set2_other _ _ _ _), (((Joins.below_alloc1 w _).trans (hb.mono (by simp))).setCell (p := ⟨w.heap.size, 0, none⟩) (Nat.le_refl _) u0).setCell (p := ⟨w.heap.size, 1, none⟩) (Nat.le_refl _) u1⟩
  clear hm hb
  go_wp2
  refine bodyPost_ret (v := .agg #[.bool (decide (x < 0)), .slice (some ⟨g, 0, none⟩) n c]) (by simp [results, Try.results34, go_sem, hcf.1]) rfl ⟨_, rfl, ⟨_, _, _, _, rfl, (HM.out _ _).1⟩, (HM.out _ _).2⟩

set_option maxHeartbeats 400000 in
theorem l1Small_any (x : Int) (w : World) : Calls Try.prog 92 #[.int .i64 x] w fun e w' => e = .returned (.bool (decide (-2147483648 < x ∧ x < 2147483648))) ∧ w' = w := by
  by_cases h1 : -2147483648 < x
  · by_cases h2 : x < 2147483648
    · have HR : Hid (true = decide (-2147483648 < x ∧ x < 2147483648)) := by unfold Hid; symm; simpa using ⟨h1, h2⟩
      go_enter Try.func92, Try.ntmps92
      go_wp2
      go_ret
      exact ⟨ret_bool (by simp <;> omega), rfl⟩
    · go_enter Try.func92, Try.ntmps92
      go_wp2
      go_ret
      exact ⟨ret_bool (by simp <;> omega), rfl⟩
  · go_enter Try.func92, Try.ntmps92
    go_wp2
    go_ret
    exact ⟨ret_bool (by simp <;> omega), rfl⟩
end Go.Proofs.Ytikepklkjbohmaa
