import Derived.Test.YtikepklkjbohmaaMag
namespace Go.Proofs.Ytikepklkjbohmaa
open Go.RowKit

theorem val_cmp (n k : Nat) (f g : Nat → Nat) (hf : ∀ i, i < n → f i < 4294967296) (hk : k < n) (he : ∀ i, k < i → i < n → f i = g i) (hlt : f k < g k) : val n f < val n g := by
  induction n with
  | zero => omega
  | succ n ih =>
    show val n f + f n * 4294967296 ^ n < val n g + g n * 4294967296 ^ n
    by_cases e : k = n
    · subst e
      have h1 := val_lt k f (fun i hi => hf i (by omega))
      have h2 : (f k + 1) * 4294967296 ^ k ≤ g k * 4294967296 ^ k := Nat.mul_le_mul_right _ (by omega)
      rw [Nat.add_mul] at h2
      omega
    · have h1 := ih (fun i hi => hf i (by omega)) (by omega) (fun i h1 h2 => he i h1 (by omega))
      rw [he n (by omega) (by omega)]
      omega
/-- How two numbers stand to each other. -/
def cmpN (x y : Nat) : Int := if x < y then -1 else if y < x then 1 else 0
theorem mag_len_lt {w w' : World} {a b : Option Addr} {n m c d : Nat} {f g : Nat → Nat} {x y : Nat} (ha : Mag w a n c f x) (hb : Mag w' b m d g y) (h : n < m) : x < y := by
  have h1 := val_lt n f ha.sl.lt
  rcases hb.top with h0 | h0
  · omega
  · have h2 := val_top (m - 1) g h0
    rw [show m - 1 + 1 = m by omega] at h2
    rw [ha.is] at h1
    rw [hb.is] at h2
    exact Nat.lt_of_lt_of_le h1 (Nat.le_trans (Nat.pow_le_pow_right (by omega) (by omega)) h2)

set_option maxHeartbeats 1000000 in
theorem l1MagCmp_any (a b : Option Addr) (n m c d : Nat) (f g : Nat → Nat) (x y : Nat) (w : World) (ha : Mag w a n c f x) (hb : Mag w b m d g y) :
    Calls Try.prog 82 #[.slice a n c, .slice b m d] w fun e w' => e = .returned (.int .i64 (cmpN x y)) ∧ ∃ q, w' = w.drewN q := by
  have hn := ha.sl.small
  have hm := hb.sl.small
  by_cases h1 : n < m
  · have HR : Hid (-1 = cmpN x y) := by unfold Hid cmpN; rw [if_pos (mag_len_lt ha hb h1)]
    have hne : ((n : Int) != (m : Int)) = true := by rw [bne_iff_ne]; omega
    clear ha hb
    go_enter Try.func82, Try.ntmps82
    go_wp2
    go_ret
    exact ⟨ret_int HR.out, 0, rfl⟩
  · by_cases h2 : m < n
    · have HR : Hid (1 = cmpN x y) := by unfold Hid cmpN; have := mag_len_lt hb ha h2; rw [if_neg (by omega), if_pos this]
      have hne : ((n : Int) != (m : Int)) = true := by rw [bne_iff_ne]; omega
      clear ha hb
      go_enter Try.func82, Try.ntmps82
      go_wp2
      go_ret
      exact ⟨ret_int HR.out, 0, rfl⟩
    · have h3 : m = n := by omega
      subst h3
      clear h1 h2
      have HA : Hid (Mag w a m c f x) := ha
      have HB : Hid (Mag w b m d g y) := hb
      clear ha hb
      go_enter Try.func82, Try.ntmps82
      go_wp2
      go_loopw [5] (fun i wr => ∃ k : Nat, k ≤ m ∧ i = .int .i64 ((k : Int) - 1) ∧ (∀ j, k ≤ j → j < m → f j = g j) ∧ ∃ q, wr = w.drewN q) (fun i _ => (intOf i + 1).toNat)
      case atStart => exact ⟨m, Nat.le_refl _, rfl, fun j h1 h2 => absurd h1 (by omega), 0, rfl⟩
      case round =>
        obtain ⟨k, hk, rfl, he, q, rfl⟩ := hrel
        have HE : Hid (∀ j, k ≤ j → j < m → f j = g j) := he
        clear he
        by_cases h0 : k = 0
        · subst h0
          have HR : Hid (0 = cmpN x y) := by
            have : x = y := by rw [← HA.out.is, ← HB.out.is]; exact val_congr (fun i hi => HE.out i (by omega) hi)
            unfold Hid cmpN; rw [this, if_neg (by omega), if_neg (by omega)]
          go_wp2
          go_ret
          exact ⟨ret_int HR.out, q, rfl⟩
        · obtain ⟨j, rfl⟩ : ∃ j, k = j + 1 := ⟨k - 1, by omega⟩
          obtain ⟨ga, rfl, ca⟩ := HA.out.sl.at_ (by omega)
          obtain ⟨gb, rfl, cb⟩ := HB.out.sl.at_ (by omega)
          have ca' := ca j (by omega)
          have cb' := cb j (by omega)
          have la := HA.out.sl.lt j (by omega)
          have lb := HB.out.sl.lt j (by omega)
          clear ca cb
          by_cases hlt : f j < g j
          · have HR : Hid (-1 = cmpN x y) := by
              have : x < y := by
                rw [← HA.out.is, ← HB.out.is]
                exact val_cmp m j f g HA.out.sl.lt (by omega) (fun i h1 h2 => HE.out i (by omega) h2) hlt
              unfold Hid cmpN; rw [if_pos this]
            have hne : (((f j : Nat) : Int) != (g j : Int)) = true := by rw [bne_iff_ne]; omega
            go_wp2
            go_quiet (fail)
            go_wp2
            go_quiet (fail)
            go_wp2
            go_ret
            exact ⟨ret_int HR.out, _, by rw [World.drewN_drewN, World.drewN_drewN]⟩
          · by_cases hgt : g j < f j
            · have HR : Hid (1 = cmpN x y) := by
                have : y < x := by
                  rw [← HA.out.is, ← HB.out.is]
                  exact val_cmp m j g f HB.out.sl.lt (by omega) (fun i h1 h2 => (HE.out i (by omega) h2).symm) hgt
                unfold Hid cmpN; rw [if_neg (by omega), if_pos this]
              have hne : (((f j : Nat) : Int) != (g j : Int)) = true := by rw [bne_iff_ne]; omega
              go_wp2
              go_quiet (fail)
              go_wp2
              go_quiet (fail)
              go_wp2
              go_ret
              exact ⟨ret_int HR.out, _, by rw [World.drewN_drewN, World.drewN_drewN]⟩
            · have heq : f j = g j := by omega
              have HK : Hid (∀ i, j ≤ i → i < m → f i = g i) := fun i h1 h2 => by
                by_cases e : i = j
                · subst e; exact heq
                · exact HE.out i (by omega) h2
              have hne : (((f j : Nat) : Int) != (g j : Int)) = false := by rw [heq]; simp
              clear heq
              go_wp2
              go_quiet (fail)
              go_wp2
              go_roundw
              case rel => exact ⟨j, by omega, by go_num, HK.out, _, rfl⟩
              case measure => simp [intOf]

theorem Mag.drewN {w : World} {a : Option Addr} {n c : Nat} {f : Nat → Nat} {m : Nat} (h : Mag w a n c f m) (q : Nat) : Mag (w.drewN q) a n c f m := h.below (Joins.below_draws _ _ q)

/-- A row of the call's own that is trimmed. -/
theorem Sl.ofRow {w : World} {g n : Nat} {o : Nat → Nat} (h : w.rowIs g 114 n (fun i => .int .u32 (o i))) (hn : n ≤ 8) (hl : ∀ i, i < n → o i < 4294967296) : Sl w (some ⟨g, 0, none⟩) n n o :=
  ⟨hn, Nat.le_refl _, by omega, hl, fun _ => ⟨g, rfl, fun _ hi => h.cell hi⟩⟩

/-- One group changed. -/
def upd (o : Nat → Nat) (p v : Nat) : Nat → Nat := fun j => if j = p then v else o j
theorem val_upd_ge (n p : Nat) (o : Nat → Nat) (v : Nat) (h : n ≤ p) : val n (upd o p v) = val n o := val_congr fun i hi => by unfold upd; rw [if_neg (by omega)]
theorem val_upd (n p : Nat) (o : Nat → Nat) (v : Nat) (h : p < n) : val n (upd o p v) + o p * 4294967296 ^ p = val n o + v * 4294967296 ^ p := by
  induction n with
  | zero => omega
  | succ n ih =>
    show val n (upd o p v) + upd o p v n * 4294967296 ^ n + _ = val n o + o n * 4294967296 ^ n + _
    by_cases e : p = n
    · subst e
      rw [val_upd_ge p p o v (Nat.le_refl _)]
      have : upd o p v p = v := by unfold upd; rw [if_pos rfl]
      rw [this]; omega
    · have := ih (by omega)
      have h2 : upd o p v n = o n := by unfold upd; rw [if_neg (by omega)]
      rw [h2]; omega
theorem row_upd {w : World} {g n p v : Nat} {o : Nat → Nat} (h : w.rowIs g 114 n (fun i => .int .u32 (o i))) : (w.setCell ⟨g, p, none⟩ (.int .u32 v)).rowIs g 114 n (fun i => .int .u32 (upd o p v i)) :=
  (h.set p (.int .u32 v)).congr fun i _ => by show (if i = p then _ else _) = _; unfold upd; split <;> rfl

theorem info114 : (Try.prog.info? 114).map (fun i => (i.zero, i.size, i.bytes)) = some (some (.int .u32 0), 1, 4) := by kernel_rfl
theorem mk_u32 (n : Nat) (h : n ≤ 1000) (w : World) : (Instr.makeSlice 61 (.int .i64 (n : Int)) (.int .i64 (n : Int))).run Try.prog w = .ok (.slice (some ⟨w.heap.size, 0, none⟩) n n) (w.alloc (.cells (madeCells #[.int .u32 0] n) 114)) :=
  run_make_row' 61 114 _ 4 Try.underlying61 info114 rfl .i64 .i64 n (by omega) (by omega) w

theorem val_zero (n : Nat) : val n (fun _ => 0) = 0 := by
  induction n with
  | zero => rfl
  | succ n ih => show val n _ + 0 * _ = 0; rw [ih]; omega

/-- What the groups of two numbers come to, group by group, with a carry. -/
theorem add_step (n i c c' t : Nat) (o f g : Nat → Nat) (_hi : i < n) (h : val i o + c * 4294967296 ^ i = val i f + val i g) (ht : c + f i + g i = t) (hc : c' = t / 4294967296) :
    val (i + 1) (upd o i (t % 4294967296)) + c' * 4294967296 ^ (i + 1) = val (i + 1) f + val (i + 1) g := by
  show val i (upd o i _) + upd o i _ i * _ + _ = val i f + f i * 4294967296 ^ i + (val i g + g i * 4294967296 ^ i)
  rw [val_upd_ge i i o _ (Nat.le_refl _)]
  have h1 : upd o i (t % 4294967296) i = t % 4294967296 := by unfold upd; rw [if_pos rfl]
  rw [h1, hc, Nat.pow_succ]
  have h2 : t % 4294967296 * 4294967296 ^ i + t / 4294967296 * (4294967296 ^ i * 4294967296) = t * 4294967296 ^ i := by
    rw [Nat.mul_comm (4294967296 ^ i) 4294967296, ← Nat.mul_assoc, ← Nat.add_mul]
    congr 1; omega
  have h3 : t * 4294967296 ^ i = c * 4294967296 ^ i + f i * 4294967296 ^ i + g i * 4294967296 ^ i := by rw [← ht, Nat.add_mul, Nat.add_mul]
  omega
end Go.Proofs.Ytikepklkjbohmaa
