import Derived.Test.YtobhljmpdolomaaPkNum2
import Derived.Test.YtobhljmpdolomaaPkSum
import Derived.Lib.SmallJoins
import Derived.ArgAppend
namespace Go.Proofs.Ytobhljmpdolomaa
open Go.RowKit

theorem grp_more {f u : Nat} (h : 128 ≤ u) : grp (f + 1) u = ((u : Int) % 128 + 128) :: grp f (u / 128) := by
  rw [grp, if_neg (by omega)]
  simp
theorem grp_last {f u : Nat} (h : u < 128) : grp (f + 1) u = [(u : Int)] := by rw [grp, if_pos h]
theorem or128w (u : Nat) : bits .or .u8 ((u : Int) % 256) 128 = (u : Int) % 128 + 128 := by
  have h := u8_or_nat (u % 256) 128 (by omega) (by omega)
  have e : u % 256 ||| 128 = u % 128 + 128 := by
    have h1 : u % 256 = u % 128 + 128 * (u / 128 % 2) := by omega
    have h0 : u % 128 < 2 ^ 7 := by omega
    rcases Nat.mod_two_eq_zero_or_one (u / 128) with h2 | h2
    · rw [h1, h2, Nat.mul_zero, Nat.add_zero]
      have := Nat.two_pow_add_eq_or_of_lt (i := 7) (b := u % 128) h0 1
      simp at this
      rw [Nat.or_comm, ← this]; omega
    · have e1 : u % 256 = 128 ||| u % 128 := by
        have := Nat.two_pow_add_eq_or_of_lt (i := 7) (b := u % 128) h0 1
        simp at this
        rw [← this]; omega
      rw [e1, Nat.or_comm, ← Nat.or_assoc, Nat.or_self, ← e1]; omega
  rw [e] at h
  simpa using h
/-- A row of bytes that is full: whatever its mark, append makes a new one. -/
structure FullB (w : World) (base g cap n : Nat) (L : List Int) : Prop where
  full : n = cap
  len : L.length = n
  le : base ≤ g
  lt : g < w.heap.size
  c : ∀ j, j < n → w.cell? ⟨g, j, none⟩ = some (.int .u8 (L.getD j 0))
def OwnX (w : World) (base g cap n : Nat) (L : List Int) : Prop := OwnB w base g cap n L ∨ FullB w base g cap n L
theorem OwnX.lt {w : World} {base g cap n : Nat} {L : List Int} (h : OwnX w base g cap n L) : base ≤ g ∧ g < w.heap.size := by
  rcases h with h | h
  · exact h.lt
  · exact ⟨h.le, h.lt⟩
theorem grown_some {w w1 : World} (h : w.grownBy w1 none) (g : Nat) : w.grownBy w1 (some g) := ⟨h.os, h.tape, h.output, h.size, fun b hb _ => h.block b hb (by simp)⟩
/-- append of one byte to such a row. -/
theorem append_byteX {ops : Array Oper} {rst : List Oper} {o : Oper} {a : Act} {Q : Exit → Act → World → Prop} (w : World) (hgd : o.guard = none) (s x : Operand)
    (ho : o.op = .call { callee := .builtin .append, args := #[s, x], argTypes := #[35, 35] })
    (base g cap n : Nat) (L : List Int) (b : Int) (hs : a.eval s = .slice (some ⟨g, 0, none⟩) n cap) (hx : a.eval x = .slice (some ⟨w.heap.size, 0, none⟩) 1 1)
    (hown : OwnX w base g cap n L) (hbase : base ≤ w.heap.size) (hL : n ≤ 1000000)
    (h : ∀ g' cap' w', OwnB w' base g' cap' (n + 1) (L ++ [b]) → w.grownBy w' (some g) → (g' = g ∨ w.heap.size ≤ g') → wpList Try.prog ops Q rst (a.put o.dst (.slice (some ⟨g', 0, none⟩) (n + 1) cap')) w') :
    wpList Try.prog ops Q (o :: rst) a (w.alloc (.cells #[.int .u8 b] 5)) := by
  rcases hown with hown | hf
  · exact append_byte w hgd s x ho base g cap n L b hs hx hown hbase hL h
  · have hi := infoB
    cases hq : Try.prog.info? 5 with
    | none => rw [hq] at hi; simp at hi
    | some i =>
      rw [hq] at hi
      simp only [Option.map_some, Option.some.injEq, Prod.mk.injEq] at hi
      obtain ⟨hz, hsz, hby⟩ := hi
      have hfl := hf.full
      refine wpList_append_grows _ hgd s x 35 ho 5 i _ 1 1 Try.underlying35 hq hz hsz hby rfl (by decide) (some ⟨g, 0, none⟩) n cap (L.map (Value.int .u8)) hs (fun e => by cases e) (by simp [hf.len]) ?_ ⟨w.heap.size, 0, none⟩ 1 1 [.int .u8 b] hx rfl ?_ ?_ (by omega) (by simp only [maxLen]; omega) (by omega) (fun v' w' h2 h3 => ?_)
      · intro b' e j u hj
        simp only [Option.some.injEq] at e
        subst e
        have hj2 : j < n := by
          have := (List.getElem?_eq_some_iff.1 hj).1
          simp [hf.len] at this
          exact this
        have hc := hf.c j hj2
        have e2 : (⟨g, 0, none⟩ : Addr).add j = ⟨g, j, none⟩ := by
          unfold Addr.add
          split
          · rename_i h0; rw [h0]
          · simp
        have hjl : j < L.length := by rw [hf.len]; exact hj2
        have hu : u = .int .u8 (L.getD j 0) := by
          rw [List.getElem?_map, List.getElem?_eq_getElem hjl] at hj
          simp only [Option.map_some, Option.some.injEq] at hj
          rw [← hj]; simp [List.getD, hjl]
        rw [e2, hu, ← hc]
        exact World.cell?_of_block (a := ⟨g, j, none⟩) (w := w) (Deep.blk_alloc_lt _ _ _ hf.lt)
      · intro j u hj
        match j, hj with
        | 0, hj => simp at hj; subst hj; go_simp
        | j + 1, hj => simp at hj
      · intro u hu
        simp at hu
        subst hu
        rfl
      · obtain ⟨g', cap', rfl, hg', _⟩ := h2.form (by omega)
        refine h g' cap' w' ?_ (grown_some (grown_trans (grown_alloc (grownBy_refl w none) _) h3 (fun k e => by cases e)) g) (Or.inr ?_)
        · unfold OwnB
          rw [List.map_append]
          exact Joins.ownsRow_le h2 (by simp; omega)
        · have : (w.alloc (.cells #[.int .u8 b] 5)).heap.size ≤ g' := hg'
          simp at this
          omega
/-- The loop of appendNumber: what has been appended, what is left. -/
def AppRel (w wr : World) (base g : Nat) (L : List Int) (x : Int) (k u g1 cap1 m : Nat) (acc : List Int) : Prop :=
  acc.length = k ∧ k ≤ 9 ∧ u < 128 ^ (10 - k) ∧ acc ++ grp (10 - k) u = num x ∧ OwnX wr base g1 cap1 m (L ++ acc) ∧ w.grownBy wr (some g) ∧ (g1 = g ∨ w.heap.size ≤ g1)
theorem AppRel.step {w wr w1 : World} {base g k u g1 cap1 m g2 cap2 : Nat} {L acc : List Int} {x : Int} (h : AppRel w wr base g L x k u g1 cap1 m acc) (hu : 128 ≤ u)
    (ho : OwnB w1 base g2 cap2 (m + 1) (L ++ acc ++ [(u : Int) % 128 + 128])) (hg : wr.grownBy w1 (some g1)) (hl : g2 = g1 ∨ wr.heap.size ≤ g2) : AppRel w w1 base g L x (k + 1) (u / 128) g2 cap2 (m + 1) (acc ++ [(u : Int) % 128 + 128]) := by
  obtain ⟨h1, h2, h2b, h3, h4, h5, h6⟩ := h
  have hk : k ≤ 8 := by
    by_cases e : k = 9
    · subst e; have h2c : u < 128 ^ 1 := h2b; omega
    · omega
  have e10 : 10 - k = (10 - (k + 1)) + 1 := by omega
  refine ⟨by simp [h1], by omega, ?_, by rw [← h3, e10, grp_more hu]; simp, by rw [← List.append_assoc]; exact Or.inl ho, grown_trans h5 hg (fun k e => ?_), ?_⟩
  · rw [e10, Nat.pow_succ] at h2b
    exact Nat.div_lt_of_lt_mul (by rw [Nat.mul_comm]; exact h2b)
  · have e' : g1 = k := Option.some.inj e
    subst e'
    rcases h6 with h6 | h6
    · left; rw [h6]
    · right; exact h6
  · have := h5.size
    rcases hl with hl | hl
    · rw [hl]; exact h6
    · right; omega
theorem AppRel.done {w wr w1 : World} {base g k u g1 cap1 m g2 cap2 : Nat} {L acc : List Int} {x : Int} (h : AppRel w wr base g L x k u g1 cap1 m acc) (hu : u < 128)
    (ho : OwnB w1 base g2 cap2 (m + 1) (L ++ acc ++ [(u : Int)])) (hg : wr.grownBy w1 (some g1)) (hl : g2 = g1 ∨ wr.heap.size ≤ g2) : OwnB w1 base g2 cap2 (m + 1) (L ++ num x) ∧ w.grownBy w1 (some g) ∧ (g2 = g ∨ w.heap.size ≤ g2) := by
  obtain ⟨h1, h2, h2b, h3, h4, h5, h6⟩ := h
  have e10 : 10 - k = (9 - k) + 1 := by omega
  refine ⟨by rw [← h3, e10, grp_last hu, ← List.append_assoc]; exact ho, grown_trans h5 hg (fun k e => ?_), ?_⟩
  · have e' : g1 = k := Option.some.inj e
    subst e'
    rcases h6 with h6 | h6
    · left; rw [h6]
    · right; exact h6
  · have := h5.size
    rcases hl with hl | hl
    · rw [hl]; exact h6
    · right; omega

set_option maxRecDepth 8000 in
set_option maxHeartbeats 4000000 in
theorem appendNumber_pos (z : Nat) (g cap base n : Nat) (L : List Int) (w : World) (hx : z ≤ 1000000000000000000) (hL : n ≤ 999000) (hbase : base ≤ w.heap.size) (hown : OwnX w base g cap n L) :
    Calls Try.prog 37 #[.slice (some ⟨g, 0, none⟩) n cap, .int .i64 (z : Int)] w fun e w' => ∃ g' cap' n', e = .returned (.slice (some ⟨g', 0, none⟩) n' cap') ∧ n' ≤ n + 10 ∧ OwnB w' base g' cap' n' (L ++ num (z : Int)) ∧ w.grownBy w' (some g) ∧ (g' = g ∨ w.heap.size ≤ g') := by
  have HO : Hid (OwnX w base g cap n L) := hown
  clear hown
  go_enter Try.func37, Try.ntmps37
  go_wp2
  go_loopw [0, 5] (fun v u wr => ∃ (k uu g1 cap1 m : Nat) (acc : List Int), u = .int .u64 uu ∧ v = .slice (some ⟨g1, 0, none⟩) m cap1 ∧ uu < 18446744073709551616 ∧ k ≤ 9 ∧ m ≤ n + k ∧ Hid (AppRel w wr base g L (z : Int) k uu g1 cap1 m acc)) (fun _ u _ => (intOf u).toNat)
  case atStart => exact ⟨0, z * 2, g, cap, n, [], by go_num, rfl, by omega, by omega, by omega, rfl, by omega, by omega, by rw [List.nil_append]; unfold num; rw [zig_pos], by simpa using HO.out, grownBy_refl _ _, Or.inl rfl⟩
  case round =>
    obtain ⟨k, uu, g1, cap1, m, acc, rfl, rfl, huu, hk, hm10, HR⟩ := hrel
    have hor := or128w uu
    by_cases hm : 128 ≤ uu
    · go_wp2_with (first | (at_builtin; refine append_byteX wr rfl (.tmp 17) (.tmp 21) rfl base g1 cap1 m (L ++ acc) _ rfl rfl HR.out.2.2.2.2.1 (Nat.le_trans hbase HR.out.2.2.2.2.2.1.size) (by omega) ?_; intro g2 cap2 w1 ho1 hg1 hl1; have HN : Hid (AppRel w w1 base g L (z : Int) (k + 1) (uu / 128) g2 cap2 (m + 1) (acc ++ [(uu : Int) % 128 + 128])) := AppRel.step HR.out hm ho1 hg1 hl1; clear ho1 hg1 hl1))
      have hk9 : k + 1 ≤ 9 := HN.out.2.1
      go_roundw
      case rel => exact ⟨k + 1, uu / 128, _, _, _, _, by go_num, rfl, by omega, hk9, by omega, HN.out⟩
      case measure => simp [intOf] <;> omega
    · have hu8 : (uu : Int) % 256 = uu := by omega
      clear hor
      go_wp2_with (first | (at_builtin; refine append_byteX wr rfl (.tmp 23) (.tmp 26) rfl base g1 cap1 m (L ++ acc) _ rfl rfl HR.out.2.2.2.2.1 (Nat.le_trans hbase HR.out.2.2.2.2.2.1.size) (by omega) ?_; intro g2 cap2 w1 ho1 hg1 hl1))
      go_ret
      exact ⟨g2, cap2, m + 1, rfl, by omega, AppRel.done HR.out (by omega) ho1 hg1 hl1⟩

set_option maxRecDepth 8000 in
set_option maxHeartbeats 4000000 in
theorem appendNumber_neg (z : Nat) (g cap base n : Nat) (L : List Int) (w : World) (hx : z ≤ 1000000000000000000) (hL : n ≤ 999000) (hbase : base ≤ w.heap.size) (hown : OwnX w base g cap n L) :
    Calls Try.prog 37 #[.slice (some ⟨g, 0, none⟩) n cap, .int .i64 (-(z : Int) - 1)] w fun e w' => ∃ g' cap' n', e = .returned (.slice (some ⟨g', 0, none⟩) n' cap') ∧ n' ≤ n + 10 ∧ OwnB w' base g' cap' n' (L ++ num (-(z : Int) - 1)) ∧ w.grownBy w' (some g) ∧ (g' = g ∨ w.heap.size ≤ g') := by
  have HO : Hid (OwnX w base g cap n L) := hown
  clear hown
  go_enter Try.func37, Try.ntmps37
  have hneg := neg_start (z := z) (by omega)
  go_wp2
  go_loopw [0, 5] (fun v u wr => ∃ (k uu g1 cap1 m : Nat) (acc : List Int), u = .int .u64 uu ∧ v = .slice (some ⟨g1, 0, none⟩) m cap1 ∧ uu < 18446744073709551616 ∧ k ≤ 9 ∧ m ≤ n + k ∧ Hid (AppRel w wr base g L (-(z : Int) - 1) k uu g1 cap1 m acc)) (fun _ u _ => (intOf u).toNat)
  case atStart => exact ⟨0, z * 2 + 1, g, cap, n, [], by go_num, rfl, by omega, by omega, by omega, rfl, by omega, by omega, by rw [List.nil_append]; unfold num; rw [zig_neg], by simpa using HO.out, grownBy_refl _ _, Or.inl rfl⟩
  case round =>
    obtain ⟨k, uu, g1, cap1, m, acc, rfl, rfl, huu, hk, hm10, HR⟩ := hrel
    have hor := or128w uu
    by_cases hm : 128 ≤ uu
    · go_wp2_with (first | (at_builtin; refine append_byteX wr rfl (.tmp 17) (.tmp 21) rfl base g1 cap1 m (L ++ acc) _ rfl rfl HR.out.2.2.2.2.1 (Nat.le_trans hbase HR.out.2.2.2.2.2.1.size) (by omega) ?_; intro g2 cap2 w1 ho1 hg1 hl1; have HN : Hid (AppRel w w1 base g L (-(z : Int) - 1) (k + 1) (uu / 128) g2 cap2 (m + 1) (acc ++ [(uu : Int) % 128 + 128])) := AppRel.step HR.out hm ho1 hg1 hl1; clear ho1 hg1 hl1))
      have hk9 : k + 1 ≤ 9 := HN.out.2.1
      go_roundw
      case rel => exact ⟨k + 1, uu / 128, _, _, _, _, by go_num, rfl, by omega, hk9, by omega, HN.out⟩
      case measure => simp [intOf] <;> omega
    · have hu8 : (uu : Int) % 256 = uu := by omega
      clear hor
      go_wp2_with (first | (at_builtin; refine append_byteX wr rfl (.tmp 23) (.tmp 26) rfl base g1 cap1 m (L ++ acc) _ rfl rfl HR.out.2.2.2.2.1 (Nat.le_trans hbase HR.out.2.2.2.2.2.1.size) (by omega) ?_; intro g2 cap2 w1 ho1 hg1 hl1))
      go_ret
      exact ⟨g2, cap2, m + 1, rfl, by omega, AppRel.done HR.out (by omega) ho1 hg1 hl1⟩

theorem appendNumber_any (x : Int) (g cap base n : Nat) (L : List Int) (w : World) (hx : -1000000000000000000 ≤ x ∧ x ≤ 1000000000000000000) (hL : n ≤ 999000) (hbase : base ≤ w.heap.size) (hown : OwnX w base g cap n L) :
    Calls Try.prog 37 #[.slice (some ⟨g, 0, none⟩) n cap, .int .i64 x] w fun e w' => ∃ g' cap' n', e = .returned (.slice (some ⟨g', 0, none⟩) n' cap') ∧ n' ≤ n + 10 ∧ OwnB w' base g' cap' n' (L ++ num x) ∧ w.grownBy w' (some g) ∧ (g' = g ∨ w.heap.size ≤ g') := by
  by_cases h0 : 0 ≤ x
  · obtain ⟨z, rfl⟩ := Int.eq_ofNat_of_zero_le h0
    exact appendNumber_pos z g cap base n L w (by omega) hL hbase hown
  · obtain ⟨z, rfl⟩ : ∃ z : Nat, x = -(z : Int) - 1 := ⟨(-x - 1).toNat, by omega⟩
    exact appendNumber_neg z g cap base n L w (by omega) hL hbase hown
end Go.Proofs.Ytobhljmpdolomaa
