import Derived.Test.YtobhljmpdolomaaPkNum
namespace Go.Proofs.Ytobhljmpdolomaa
open Go.RowKit

/-- The loop of l16Number: what has been appended, what is left. -/
def NumRel (w wr : World) (base g : Nat) (L : List Int) (x : Int) (k u g1 cap1 m : Nat) (acc : List Int) : Prop :=
  acc.length = k ∧ k ≤ 10 ∧ acc ++ rest k u = num x ∧ OwnB wr base g1 cap1 m (L ++ acc) ∧ w.grownBy wr (some g) ∧ (g1 = g ∨ w.heap.size ≤ g1)
theorem NumRel.step {w wr w1 : World} {base g k u g1 cap1 m g2 cap2 : Nat} {L acc : List Int} {x b : Int} (h : NumRel w wr base g L x k u g1 cap1 m acc) (hk : k < 10) (hb : rest k u = b :: rest (k + 1) (u / 128))
    (ho : OwnB w1 base g2 cap2 (m + 1) (L ++ acc ++ [b])) (hg : wr.grownBy w1 (some g1)) (hl : g2 = g1 ∨ wr.heap.size ≤ g2) : NumRel w w1 base g L x (k + 1) (u / 128) g2 cap2 (m + 1) (acc ++ [b]) := by
  obtain ⟨h1, h2, h3, h4, h5, h6⟩ := h
  refine ⟨by simp [h1], by omega, by rw [← h3, hb]; simp, by rw [← List.append_assoc]; exact ho, grown_trans h5 hg (fun k e => ?_), ?_⟩
  · have e' : g1 = k := Option.some.inj e
    subst e'
    rcases h6 with h6 | h6
    · left; rw [h6]
    · right; exact h6
  · have := h5.size
    rcases hl with hl | hl
    · rw [hl]; exact h6
    · right; omega
theorem NumRel.done {w wr : World} {base g k u g1 cap1 m : Nat} {L acc : List Int} {x : Int} (h : NumRel w wr base g L x k u g1 cap1 m acc) (hk : ¬ (k < 10 ∧ (k = 0 ∨ 0 < u))) : acc = num x := by
  have := h.2.2.1
  rw [rest_end hk, List.append_nil] at this
  exact this
theorem and127 {u : Nat} (h : u < 18446744073709551616) : bits .and .u64 (u : Int) 127 = (u : Int) % 128 := by
  have := u64_and_nat u 127 h (by omega)
  rw [show ((127 : Nat) : Int) = 127 from rfl] at this
  rw [this, show (127 : Nat) = 2 ^ 7 - 1 from rfl, Nat.and_two_pow_sub_one_eq_mod]
  simp
theorem or128 (u : Nat) : bits .or .u8 ((u : Int) % 128) 128 = (u : Int) % 128 + 128 := by
  have h := u8_or_nat (u % 128) 128 (by omega) (by omega)
  have e : u % 128 ||| 128 = u % 128 + 128 := by
    have := Nat.two_pow_add_eq_or_of_lt (i := 7) (b := u % 128) (by omega) 1
    simp at this
    rw [Nat.or_comm, ← this]; omega
  rw [e] at h
  simpa using h
theorem xor_max {n : Nat} (h : n < 18446744073709551616) : bits .xor .u64 IntKind.u64.max (n : Int) = ((18446744073709551615 - n : Nat) : Int) := by
  have := u64_xor_nat 18446744073709551615 n (by omega) h
  rw [show IntKind.u64.max = ((18446744073709551615 : Nat) : Int) from rfl, this]
  congr 1
  have e := congrArg BitVec.toNat (BitVec.not_def (x := BitVec.ofNat 64 n))
  rw [BitVec.toNat_not, BitVec.toNat_xor, BitVec.toNat_allOnes, BitVec.toNat_ofNat, Nat.mod_eq_of_lt (show n < 2 ^ 64 from h)] at e
  have e2 : (2 : Nat) ^ 64 - 1 = 18446744073709551615 := by decide
  rw [e2] at e
  omega
theorem zig_pos (z : Nat) : zig (z : Int) = z * 2 := by unfold zig; rw [if_pos (by omega)]; omega
theorem zig_neg (z : Nat) : zig (-(z : Int) - 1) = z * 2 + 1 := by unfold zig; rw [if_neg (by omega)]; omega
theorem neg_start {z : Nat} (h : z ≤ 1000000000000000000) : bits .xor .u64 IntKind.u64.max (IntKind.u64.wrap (IntKind.u64.wrap (-(z : Int) - 1) * 2)) = ((z * 2 + 1 : Nat) : Int) := by
  have e : IntKind.u64.wrap (IntKind.u64.wrap (-(z : Int) - 1) * 2) = ((18446744073709551614 - 2 * z : Nat) : Int) := by
    rw [IntKind.wrap_u64, IntKind.wrap_u64]; omega
  rw [e, xor_max (by omega)]
  congr 1
  omega

set_option maxHeartbeats 4000000 in
theorem l16Number_any (x : Int) (g cap base n : Nat) (L : List Int) (w : World) (hx : -1000000000000000000 ≤ x ∧ x ≤ 1000000000000000000) (hL : n ≤ 999000) (hbase : base ≤ w.heap.size) (hown : OwnB w base g cap n L) :
    Calls Try.prog 34 #[.slice (some ⟨g, 0, none⟩) n cap, .int .i64 x] w fun e w' => ∃ g' cap' n', e = .returned (.slice (some ⟨g', 0, none⟩) n' cap') ∧ n' ≤ n + 10 ∧ OwnB w' base g' cap' n' (L ++ num x) ∧ w.grownBy w' (some g) ∧ (g' = g ∨ w.heap.size ≤ g') := by
  have HO : Hid (OwnB w base g cap n L) := hown
  clear hown
  by_cases h0 : 0 ≤ x
  · obtain ⟨z, rfl⟩ := Int.eq_ofNat_of_zero_le h0
    go_enter Try.func34, Try.ntmps34
    go_wp2
    go_loopw [0, 5, 6] (fun v u i wr => ∃ (k uu g1 cap1 m : Nat) (acc : List Int), i = .int .i64 k ∧ u = .int .u64 uu ∧ v = .slice (some ⟨g1, 0, none⟩) m cap1 ∧ uu < 18446744073709551616 ∧ m ≤ n + k ∧ Hid (NumRel w wr base g L (z : Int) k uu g1 cap1 m acc)) (fun _ _ i _ => 10 - (intOf i).toNat)
    case atStart => exact ⟨0, z * 2, g, cap, n, [], rfl, by go_num, rfl, by omega, by omega, rfl, by omega, by rw [List.nil_append, rest_start]; unfold num; rw [zig_pos], by simpa using HO.out, grownBy_refl _ _, Or.inl rfl⟩
    case round =>
      obtain ⟨k, uu, g1, cap1, m, acc, rfl, rfl, rfl, huu, hm10, HR⟩ := hrel
      have hk10 : k ≤ 10 := HR.out.2.1
      have hand := and127 huu
      have hor := or128 uu
      by_cases hc : k < 10 ∧ (k = 0 ∨ 0 < uu)
      · have hk : k < 10 := hc.1
        have HC : Hid (k < 10 ∧ (k = 0 ∨ 0 < uu)) := hc
        by_cases hk0 : k = 0
        · subst hk0
          clear hc
          by_cases hm : 0 < uu / 128
          · have HM : Hid (rest 0 uu = ((uu : Int) % 128 + 128) :: rest (0 + 1) (uu / 128)) := rest_moreI HC.out hm
            go_wp2_with (first | (at_builtin; refine append_byte wr rfl (.tmp 36) (.tmp 38) rfl base g1 cap1 m (L ++ acc) _ rfl rfl HR.out.2.2.2.1 (Nat.le_trans hbase HR.out.2.2.2.2.1.size) (by omega) ?_; intro g2 cap2 w1 ho1 hg1 hl1; have HN : Hid _ := NumRel.step HR.out (by omega)  HM.out ho1 hg1 hl1; clear ho1 hg1 hl1))
            go_roundw
            case rel => exact ⟨_, _, _, _, _, _, by go_num, by go_num, rfl, by omega, by omega, HN.out⟩
            case measure => simp [intOf] <;> omega
          · have HM : Hid (rest 0 uu = ((uu : Int) % 128) :: rest (0 + 1) (uu / 128)) := rest_lastI HC.out (by omega)
            go_wp2_with (first | (at_builtin; refine append_byte wr rfl (.tmp 36) (.tmp 38) rfl base g1 cap1 m (L ++ acc) _ rfl rfl HR.out.2.2.2.1 (Nat.le_trans hbase HR.out.2.2.2.2.1.size) (by omega) ?_; intro g2 cap2 w1 ho1 hg1 hl1; have HN : Hid _ := NumRel.step HR.out (by omega)  HM.out ho1 hg1 hl1; clear ho1 hg1 hl1))
            go_roundw
            case rel => exact ⟨_, _, _, _, _, _, by go_num, by go_num, rfl, by omega, by omega, HN.out⟩
            case measure => simp [intOf] <;> omega
        · have hu0 : 0 < uu := hc.2.resolve_left hk0
          clear hc
          have hkb : ((k : Int) == 0) = false := beq_eq_false_iff_ne.2 (by omega)
          by_cases hm : 0 < uu / 128
          · have HM : Hid (rest k uu = ((uu : Int) % 128 + 128) :: rest (k + 1) (uu / 128)) := rest_moreI HC.out hm
            go_wp2_with (first | (at_builtin; refine append_byte wr rfl (.tmp 36) (.tmp 38) rfl base g1 cap1 m (L ++ acc) _ rfl rfl HR.out.2.2.2.1 (Nat.le_trans hbase HR.out.2.2.2.2.1.size) (by omega) ?_; intro g2 cap2 w1 ho1 hg1 hl1; have HN : Hid _ := NumRel.step HR.out (by omega)  HM.out ho1 hg1 hl1; clear ho1 hg1 hl1))
            go_roundw
            case rel => exact ⟨_, _, _, _, _, _, by go_num, by go_num, rfl, by omega, by omega, HN.out⟩
            case measure => simp [intOf] <;> omega
          · have HM : Hid (rest k uu = ((uu : Int) % 128) :: rest (k + 1) (uu / 128)) := rest_lastI HC.out (by omega)
            go_wp2_with (first | (at_builtin; refine append_byte wr rfl (.tmp 36) (.tmp 38) rfl base g1 cap1 m (L ++ acc) _ rfl rfl HR.out.2.2.2.1 (Nat.le_trans hbase HR.out.2.2.2.2.1.size) (by omega) ?_; intro g2 cap2 w1 ho1 hg1 hl1; have HN : Hid _ := NumRel.step HR.out (by omega)  HM.out ho1 hg1 hl1; clear ho1 hg1 hl1))
            go_roundw
            case rel => exact ⟨_, _, _, _, _, _, by go_num, by go_num, rfl, by omega, by omega, HN.out⟩
            case measure => simp [intOf] <;> omega
      · have HD : Hid (acc = num (z : Int)) := NumRel.done HR.out hc
        have HO1 : Hid (OwnB wr base g1 cap1 m (L ++ num (z : Int))) := by rw [← HD.out]; exact HR.out.2.2.2.1
        have HG1 : Hid (w.grownBy wr (some g) ∧ (g1 = g ∨ w.heap.size ≤ g1)) := HR.out.2.2.2.2
        clear HR HD
        by_cases hk : k < 10
        · have hk0 : k ≠ 0 := fun e => hc ⟨hk, Or.inl e⟩
          have hu0 : uu = 0 := by by_cases e : 0 < uu; exact absurd ⟨hk, Or.inr e⟩ hc; omega
          subst hu0
          have hkb : ((k : Int) == 0) = false := beq_eq_false_iff_ne.2 (by omega)
          clear hc
          go_wp2
          go_ret
          exact ⟨g1, cap1, m, rfl, by omega, HO1.out, HG1.out⟩
        · clear hc
          go_wp2
          go_ret
          exact ⟨g1, cap1, m, rfl, by omega, HO1.out, HG1.out⟩
  · obtain ⟨z, rfl⟩ : ∃ z : Nat, x = -(z : Int) - 1 := ⟨(-x - 1).toNat, by omega⟩
    go_enter Try.func34, Try.ntmps34
    have hneg := neg_start (z := z) (by omega)
    go_wp2
    go_loopw [0, 5, 6] (fun v u i wr => ∃ (k uu g1 cap1 m : Nat) (acc : List Int), i = .int .i64 k ∧ u = .int .u64 uu ∧ v = .slice (some ⟨g1, 0, none⟩) m cap1 ∧ uu < 18446744073709551616 ∧ m ≤ n + k ∧ Hid (NumRel w wr base g L (-(z : Int) - 1) k uu g1 cap1 m acc)) (fun _ _ i _ => 10 - (intOf i).toNat)
    case atStart => exact ⟨0, z * 2 + 1, g, cap, n, [], rfl, by go_num, rfl, by omega, by omega, rfl, by omega, by rw [List.nil_append, rest_start]; unfold num; rw [zig_neg], by simpa using HO.out, grownBy_refl _ _, Or.inl rfl⟩
    case round =>
      obtain ⟨k, uu, g1, cap1, m, acc, rfl, rfl, rfl, huu, hm10, HR⟩ := hrel
      have hk10 : k ≤ 10 := HR.out.2.1
      have hand := and127 huu
      have hor := or128 uu
      by_cases hc : k < 10 ∧ (k = 0 ∨ 0 < uu)
      · have hk : k < 10 := hc.1
        have HC : Hid (k < 10 ∧ (k = 0 ∨ 0 < uu)) := hc
        by_cases hk0 : k = 0
        · subst hk0
          clear hc
          by_cases hm : 0 < uu / 128
          · have HM : Hid (rest 0 uu = ((uu : Int) % 128 + 128) :: rest (0 + 1) (uu / 128)) := rest_moreI HC.out hm
            go_wp2_with (first | (at_builtin; refine append_byte wr rfl (.tmp 36) (.tmp 38) rfl base g1 cap1 m (L ++ acc) _ rfl rfl HR.out.2.2.2.1 (Nat.le_trans hbase HR.out.2.2.2.2.1.size) (by omega) ?_; intro g2 cap2 w1 ho1 hg1 hl1; have HN : Hid _ := NumRel.step HR.out (by omega)  HM.out ho1 hg1 hl1; clear ho1 hg1 hl1))
            go_roundw
            case rel => exact ⟨_, _, _, _, _, _, by go_num, by go_num, rfl, by omega, by omega, HN.out⟩
            case measure => simp [intOf] <;> omega
          · have HM : Hid (rest 0 uu = ((uu : Int) % 128) :: rest (0 + 1) (uu / 128)) := rest_lastI HC.out (by omega)
            go_wp2_with (first | (at_builtin; refine append_byte wr rfl (.tmp 36) (.tmp 38) rfl base g1 cap1 m (L ++ acc) _ rfl rfl HR.out.2.2.2.1 (Nat.le_trans hbase HR.out.2.2.2.2.1.size) (by omega) ?_; intro g2 cap2 w1 ho1 hg1 hl1; have HN : Hid _ := NumRel.step HR.out (by omega)  HM.out ho1 hg1 hl1; clear ho1 hg1 hl1))
            go_roundw
            case rel => exact ⟨_, _, _, _, _, _, by go_num, by go_num, rfl, by omega, by omega, HN.out⟩
            case measure => simp [intOf] <;> omega
        · have hu0 : 0 < uu := hc.2.resolve_left hk0
          clear hc
          have hkb : ((k : Int) == 0) = false := beq_eq_false_iff_ne.2 (by omega)
          by_cases hm : 0 < uu / 128
          · have HM : Hid (rest k uu = ((uu : Int) % 128 + 128) :: rest (k + 1) (uu / 128)) := rest_moreI HC.out hm
            go_wp2_with (first | (at_builtin; refine append_byte wr rfl (.tmp 36) (.tmp 38) rfl base g1 cap1 m (L ++ acc) _ rfl rfl HR.out.2.2.2.1 (Nat.le_trans hbase HR.out.2.2.2.2.1.size) (by omega) ?_; intro g2 cap2 w1 ho1 hg1 hl1; have HN : Hid _ := NumRel.step HR.out (by omega)  HM.out ho1 hg1 hl1; clear ho1 hg1 hl1))
            go_roundw
            case rel => exact ⟨_, _, _, _, _, _, by go_num, by go_num, rfl, by omega, by omega, HN.out⟩
            case measure => simp [intOf] <;> omega
          · have HM : Hid (rest k uu = ((uu : Int) % 128) :: rest (k + 1) (uu / 128)) := rest_lastI HC.out (by omega)
            go_wp2_with (first | (at_builtin; refine append_byte wr rfl (.tmp 36) (.tmp 38) rfl base g1 cap1 m (L ++ acc) _ rfl rfl HR.out.2.2.2.1 (Nat.le_trans hbase HR.out.2.2.2.2.1.size) (by omega) ?_; intro g2 cap2 w1 ho1 hg1 hl1; have HN : Hid _ := NumRel.step HR.out (by omega)  HM.out ho1 hg1 hl1; clear ho1 hg1 hl1))
            go_roundw
            case rel => exact ⟨_, _, _, _, _, _, by go_num, by go_num, rfl, by omega, by omega, HN.out⟩
            case measure => simp [intOf] <;> omega
      · have HD : Hid (acc = num (-(z : Int) - 1)) := NumRel.done HR.out hc
        have HO1 : Hid (OwnB wr base g1 cap1 m (L ++ num (-(z : Int) - 1))) := by rw [← HD.out]; exact HR.out.2.2.2.1
        have HG1 : Hid (w.grownBy wr (some g) ∧ (g1 = g ∨ w.heap.size ≤ g1)) := HR.out.2.2.2.2
        clear HR HD
        by_cases hk : k < 10
        · have hk0 : k ≠ 0 := fun e => hc ⟨hk, Or.inl e⟩
          have hu0 : uu = 0 := by by_cases e : 0 < uu; exact absurd ⟨hk, Or.inr e⟩ hc; omega
          subst hu0
          have hkb : ((k : Int) == 0) = false := beq_eq_false_iff_ne.2 (by omega)
          clear hc
          go_wp2
          go_ret
          exact ⟨g1, cap1, m, rfl, by omega, HO1.out, HG1.out⟩
        · clear hc
          go_wp2
          go_ret
          exact ⟨g1, cap1, m, rfl, by omega, HO1.out, HG1.out⟩
end Go.Proofs.Ytobhljmpdolomaa
