import Derived.Test.YtobhljmpdolomaaRdMath
import Derived.Test.YtobhljmpdolomaaPkNum2
namespace Go.Proofs.Ytobhljmpdolomaa
open Go.RowKit

theorem At.set3_1 {w : World} {b : Nat} {x0 x1 x2 : Value} (h : At w b #[x0, x1, x2]) (y : Value) : At (w.setCell ⟨b, 1, none⟩ y) b #[x0, y, x2] := by
  obtain ⟨c, fz, sz⟩ := h
  have c0 := c 0
  have c1 := c 1
  have c2 := c 2
  refine ⟨fun j => ?_, fun j => by have := fz j; go_simp, by simpa using sz⟩
  match j with
  | 0 => go_simp
  | 1 => go_simp
  | 2 => go_simp
  | j + 3 => have := c (j + 3); go_simp
theorem At.set3_2 {w : World} {b : Nat} {x0 x1 x2 : Value} (h : At w b #[x0, x1, x2]) (y : Value) : At (w.setCell ⟨b, 2, none⟩ y) b #[x0, x1, y] := by
  obtain ⟨c, fz, sz⟩ := h
  have c0 := c 0
  have c1 := c 1
  have c2 := c 2
  refine ⟨fun j => ?_, fun j => by have := fz j; go_simp, by simpa using sz⟩
  match j with
  | 0 => go_simp
  | 1 => go_simp
  | 2 => go_simp
  | j + 3 => have := c (j + 3); go_simp
theorem At.drew {w : World} {b : Nat} {A : Array Value} (h : At w b A) : At w.drew b A := ⟨h.c, h.fz, h.sz⟩
abbrev Rs (R : Nat) (s q : Value) (w' : World) : Prop := w'.cell? ⟨R, 0, none⟩ = some s ∧ w'.cell? ⟨R, 1, none⟩ = some q
theorem Rs.drew {R : Nat} {s q : Value} {w' : World} (h : Rs R s q w') : Rs R s q w'.drew := h
abbrev Rt (R g p : Nat) (s q b : Value) (w' : World) : Prop := w'.cell? ⟨R, 0, none⟩ = some s ∧ w'.cell? ⟨R, 1, none⟩ = some q ∧ w'.cell? ⟨g, p, none⟩ = some b
theorem Rt.drew {R g p : Nat} {s q b : Value} {w' : World} (h : Rt R g p s q b w') : Rt R g p s q b w'.drew := h

theorem or_go {k u b : Nat} (hk : k ≤ 9) (hu : u < 2 ^ (7 * k)) : bits .or .u64 (u : Int) (IntKind.u64.wrap ((b : Int) % 128 * 2 ^ (7 * k))) = ((u + (b % 128 * 2 ^ (7 * k)) % 18446744073709551616 : Nat) : Int) := by
  have e : IntKind.u64.wrap ((b : Int) % 128 * 2 ^ (7 * k)) = (((b % 128 * 2 ^ (7 * k)) % 18446744073709551616 : Nat) : Int) := by
    rw [IntKind.wrap_u64, Int.natCast_emod, Int.natCast_mul, Int.natCast_emod, Int.natCast_pow]
    rfl
  have h1 : (2 : Nat) ^ (7 * k) ≤ 2 ^ 63 := Nat.pow_le_pow_right (by omega) (by omega)
  rw [e, u64_or_nat _ _ (by omega) (Nat.mod_lt _ (by omega)), or_u hk hu]
theorem and127b {b : Nat} (hb8 : b < 256) : bits .and .u8 (b : Int) 127 = (b : Int) % 128 := by
  have := u8_and_nat b 127 hb8 (by omega)
  rw [show ((127 : Nat) : Int) = 127 from rfl] at this
  rw [this, show (127 : Nat) = 2 ^ 7 - 1 from rfl, Nat.and_two_pow_sub_one_eq_mod]
  simp
theorem and1 {u : Nat} (h : u < 18446744073709551616) : bits .and .u64 (u : Int) 1 = (u : Int) % 2 := by
  have := u64_and_nat u 1 h (by omega)
  rw [show ((1 : Nat) : Int) = 1 from rfl] at this
  rw [this, Nat.and_one_is_mod]
  simp
theorem not_half {u : Nat} (h : u < 18446744073709551616) : bits .xor .u64 IntKind.u64.max ((u : Int) / 2) = ((18446744073709551615 - u / 2 : Nat) : Int) := by
  have := xor_max (n := u / 2) (by omega)
  simpa using this
theorem odd_val {U : Nat} (h : U < 18446744073709551616) : wrap64 ((18446744073709551615 - U / 2 : Nat) : Int) = -((U / 2 : Nat) : Int) - 1 := by
  unfold wrap64
  omega
theorem set_rd {wr : World} {R : Nat} {s q c y : Value} (h : At wr R #[s, q, c]) : At (wr.setCell ⟨R, 1, none⟩ y).drew.drew R #[s, y, c] := (h.set3_1 y).drew.drew
theorem rd_form {wr : World} {R : Nat} {s q c y z : Value} (h : At wr R #[s, q, c]) : At ((wr.setCell ⟨R, 1, none⟩ y).setCell ⟨R, 2, none⟩ z).drew.drew R #[s, y, z] := ((h.set3_1 y).set3_2 z).drew.drew
theorem grown_drew {w w1 : World} {r : Option Nat} (h : w.grownBy w1 r) : w.grownBy w1.drew r := ⟨h.os, h.tape, h.output, h.size, h.block⟩
theorem gr_form {w wr : World} {R : Nat} {y z : Value} (h : w.grownBy wr (some R)) : w.grownBy ((wr.setCell ⟨R, 1, none⟩ y).setCell ⟨R, 2, none⟩ z).drew.drew (some R) := grown_drew (grown_drew (grown_set (grown_set h (Or.inl rfl)) (Or.inl rfl)))

set_option maxRecDepth 8000 in
set_option maxHeartbeats 4000000 in
theorem number_any (R N cap p0 : Nat) (code : Int) (ao : Option Addr) (L : List Int) (w : World) (hlen : L.length = N) (hN : N ≤ 1048576) (hp0 : p0 ≤ N) (hby : ∀ b ∈ L, 0 ≤ b ∧ b < 256)
    (hR : At w R #[.slice ao N cap, .int .i64 p0, .int .i64 code]) (hrd : RdB w ao N L) (hne : ∀ g, ao = some ⟨g, 0, none⟩ → 0 < N → g ≠ R) :
    Calls Try.prog 43 #[.pointer (some ⟨R, 0, none⟩)] w fun e w' => ∃ c v p', rdNum L p0 code = (c, v, p') ∧ e = .returned (.int .i64 v) ∧ p' ≤ N ∧ At w' R #[.slice ao N cap, .int .i64 p', .int .i64 c] ∧ w.grownBy w' (some R) := by
  have HL : Hid (L.length = N) := hlen
  have HY : Hid (∀ b ∈ L, 0 ≤ b ∧ b < 256) := hby
  have HA : Hid (At w R #[.slice ao N cap, .int .i64 p0, .int .i64 code]) := hR
  have HD : Hid (RdB w ao N L) := hrd
  have HE : Hid (∀ g, ao = some ⟨g, 0, none⟩ → 0 < N → g ≠ R) := hne
  clear hlen hby hR hrd hne
  by_cases hc0 : code = 0
  · subst hc0
    obtain ⟨a, az, ar⟩ := HA.out
    go_enter Try.func43, Try.ntmps43
    go_wp2
    go_loopw [3, 4] (fun uv i wr => ∃ (k u p : Nat), k ≤ 10 ∧ i = .int .i64 k ∧ uv = .int .u64 u ∧ p ≤ N ∧ Hid (k ≤ 9 → u < 2 ^ (7 * k)) ∧ Hid (rdGo L (10 - k) k p u = rdNum L p0 0) ∧ Hid (At wr R #[.slice ao N cap, .int .i64 p, .int .i64 0]) ∧ Hid (w.grownBy wr (some R))) (fun _ i _ => 10 - (intOf i).toNat)
    case atStart => exact ⟨0, 0, p0, by omega, rfl, rfl, hp0, fun _ => by simp, by simp [rdNum, Hid], HA.out, grownBy_refl _ _⟩
    case round =>
      clear a az ar HA
      obtain ⟨k, u, p, hk, rfl, rfl, hp, HU, HG, HA, HW⟩ := hrel
      obtain ⟨a, az, ar⟩ := HA.out
      by_cases hk10 : k < 10
      · have HU1 : Hid (u < 2 ^ (7 * k)) := HU.out (by omega)
        obtain ⟨f, hf⟩ : ∃ f, 10 - k = f + 1 := ⟨9 - k, by omega⟩
        have HG1 : Hid (rdGo L (f + 1) k p u = rdNum L p0 0) := by rw [← hf]; exact HG.out
        clear HU HG
        by_cases hsh : N ≤ p
        · have HQ : Hid (rdNum L p0 0 = (2, 0, p)) := by rw [← HG1.out]; exact rdGo_short (by rw [HL.out]; exact hsh)
          have HS : Hid (Rs R (.slice ao N cap) (.int .i64 (p : Int)) wr) := ⟨a 0, a 1⟩
          have a2 : wr.drew.cell? ⟨R, 2, none⟩ = some (.int .i64 0) := a 2
          have z2 : wr.drew.frozen? ⟨R, 2, none⟩ = false := az 2
          clear HG1 HU1 a
          go_wp2_with fail
          go_region_held3 (fun w' => Rs R (.slice ao N cap) (.int .i64 (p : Int)) w') (first | with_reducible exact Rs.drew HS.out) (fail)
          clear HS
          go_wp2
          go_ret
          exact ⟨2, 0, p, HQ.out, rfl, hp, (HA.out.set3_2 _).drew, grown_drew (grown_set HW.out (Or.inl rfl))⟩
        · have HD1 : Hid (RdB wr ao N L) := RdB.keep2 HD.out fun h0 g e hg => HW.out.block g hg (by have := HE.out g e h0; simp; omega)
          obtain ⟨g, c, fr, rfl, hr, hc, hfr⟩ := HD1.out (by omega)
          obtain ⟨b, hb⟩ : ∃ b : Nat, L.getD p 0 = (b : Int) := ⟨(L.getD p 0).toNat, by have := HY.out _ (getD_mem (k := p) (by have := HL.out; omega)); omega⟩
          have hb8 : b < 256 := by have := HY.out _ (getD_mem (k := p) (by have := HL.out; omega)); omega
          have hcell : wr.cell? ⟨g, p, none⟩ = some (.int .u8 (b : Int)) := (hr.cell (by omega)).trans (by rw [hfr p (by omega), hb])
          have HS : Hid (Rt R g p (.slice (some ⟨g, 0, none⟩) N cap) (.int .i64 (p : Int)) (.int .u8 (b : Int)) wr) := ⟨a 0, a 1, hcell⟩
          have HBb : Hid (L.getD p 0 = (b : Int)) := hb
          have hpN : p < N := by omega
          have HPL : Hid (¬ L.length ≤ p) := (show ¬ L.length ≤ p by rw [HL.out]; omega)
          obtain ⟨U, hU⟩ : ∃ U : Nat, U = u + (b % 128 * 2 ^ (7 * k)) % 18446744073709551616 := ⟨_, rfl⟩
          have hUu : U < 18446744073709551616 := by rw [hU]; exact (grow_u (by omega) HU1.out).1
          have HU9 : Hid (k < 9 → U < 2 ^ (7 * (k + 1))) := by rw [hU]; exact (grow_u (by omega) HU1.out).2
          have hor : bits .or .u64 (u : Int) (IntKind.u64.wrap ((b : Int) % 128 * 2 ^ (7 * k))) = (U : Int) := by rw [or_go (by omega) HU1.out, hU]
          have hnd := and127b hb8
          have HUe : Hid (U = u + ((L.getD p 0).toNat % 128 * 2 ^ (7 * k)) % 18446744073709551616) := by rw [HBb.out]; exact hU
          clear hr hfr hb hcell HD1 hsh hU HU1
          by_cases hm : 128 ≤ b
          · have HQ : Hid (rdGo L (10 - (k + 1)) (k + 1) (p + 1) U = rdNum L p0 0) := by
              rw [← HG1.out, rdGo_more HPL.out (by rw [HBb.out]; omega), ← HUe.out, show 10 - (k + 1) = f by omega]
              exact rfl
            have HN9 : Hid (k + 1 ≤ 9 → U < 2 ^ (7 * (k + 1))) := fun h => HU9.out (by omega)
            clear HG1 HU9 HUe
            go_wp2_with fail
            go_region_held3 (fun w' => Rt R g p (.slice (some ⟨g, 0, none⟩) N cap) (.int .i64 (p : Int)) (.int .u8 (b : Int)) w') (first | with_reducible exact Rt.drew HS.out) (fail)
            go_wp2_with fail
            go_region_held3 (fun w' => Rt R g p (.slice (some ⟨g, 0, none⟩) N cap) (.int .i64 (p : Int)) (.int .u8 (b : Int)) w') (first | with_reducible exact Rt.drew (Rt.drew HS.out)) (fail)
            go_wp2
            go_roundw
            case rel => exact ⟨k + 1, U, p + 1, by omega, by simp, by go_num, by omega, HN9.out, HQ.out, set_rd HA.out, grown_drew (grown_drew (grown_set HW.out (Or.inl rfl)))⟩
            case measure => simp [intOf]; omega
          · by_cases hbad : (b = 0 ∧ 0 < k) ∨ (k = 9 ∧ 1 < b)
            · have HQ : Hid (rdNum L p0 0 = (3, 0, p + 1)) := by
                rw [← HG1.out]
                exact rdGo_form HPL.out (by rw [HBb.out]; omega) (by rw [HBb.out]; omega)
              have bz : ((b : Int) == 0) = decide (b = 0) := by by_cases e : b = 0 <;> simp [e]
              have kz : ((k : Int) == 9) = decide (k = 9) := by by_cases e : k = 9 <;> simp [e] <;> omega
              clear HG1 HU9 HUe
              rcases hbad with ⟨hb0, hk0⟩ | ⟨hk9, hb1⟩
              · have bt : ((b : Int) == 0) = true := by rw [hb0]; rfl
                clear hb0 bz
                go_wp2_with fail
                go_region_held3 (fun w' => Rt R g p (.slice (some ⟨g, 0, none⟩) N cap) (.int .i64 (p : Int)) (.int .u8 (b : Int)) w') (first | with_reducible exact Rt.drew HS.out) (fail)
                go_wp2_with fail
                go_region_held3 (fun w' => Rt R g p (.slice (some ⟨g, 0, none⟩) N cap) (.int .i64 (p : Int)) (.int .u8 (b : Int)) w') (first | with_reducible exact Rt.drew (Rt.drew HS.out)) (fail)
                go_wp2
                go_ret
                exact ⟨3, 0, p + 1, HQ.out, rfl, by omega, rd_form HA.out, gr_form HW.out⟩
              · subst hk9
                go_wp2_with fail
                go_region_held3 (fun w' => Rt R g p (.slice (some ⟨g, 0, none⟩) N cap) (.int .i64 (p : Int)) (.int .u8 (b : Int)) w') (first | with_reducible exact Rt.drew HS.out) (fail)
                go_wp2_with fail
                go_region_held3 (fun w' => Rt R g p (.slice (some ⟨g, 0, none⟩) N cap) (.int .i64 (p : Int)) (.int .u8 (b : Int)) w') (first | with_reducible exact Rt.drew (Rt.drew HS.out)) (fail)
                go_wp2
                go_ret
                exact ⟨3, 0, p + 1, HQ.out, rfl, by omega, rd_form HA.out, gr_form HW.out⟩
            · have HQ : Hid (rdNum L p0 0 = (0, unzig U, p + 1)) := by
                rw [← HG1.out, rdGo_told HPL.out (by rw [HBb.out]; omega) (by rw [HBb.out]; omega), ← HUe.out]
                exact rfl
              have hud := and1 hUu
              clear HG1 HU9 HUe
              by_cases hb0 : b = 0
              · have bt : ((b : Int) == 0) = true := by rw [hb0]; rfl
                have hkz : k ≤ 0 := by omega
                have kf : ((k : Int) == 9) = false := beq_eq_false_iff_ne.2 (by omega)
                clear hb0 hbad
                by_cases hpar : U % 2 = 1
                · have hob : ((U : Int) % 2 == 1) = true := by rw [beq_iff_eq]; omega
                  have hv := not_half hUu
                  have HZ : Hid (unzig U = -((U / 2 : Nat) : Int) - 1) := if_pos hpar
                  clear hpar
                  go_wp2_with fail
                  go_region_held3 (fun w' => Rt R g p (.slice (some ⟨g, 0, none⟩) N cap) (.int .i64 (p : Int)) (.int .u8 (b : Int)) w') (first | with_reducible exact Rt.drew HS.out) (fail)
                  go_wp2_with fail
                  go_region_held3 (fun w' => Rt R g p (.slice (some ⟨g, 0, none⟩) N cap) (.int .i64 (p : Int)) (.int .u8 (b : Int)) w') (first | with_reducible exact Rt.drew (Rt.drew HS.out)) (fail)
                  go_wp2
                  go_ret
                  exact ⟨0, unzig U, p + 1, HQ.out, by show Ending.returned (.int .i64 (wrap64 _)) = _; rw [HZ.out, odd_val hUu], by omega, set_rd HA.out, grown_drew (grown_drew (grown_set HW.out (Or.inl rfl)))⟩
                · have hob : ((U : Int) % 2 == 1) = false := beq_eq_false_iff_ne.2 (by omega)
                  have HZ : Hid (unzig U = ((U / 2 : Nat) : Int)) := if_neg hpar
                  clear hpar
                  go_wp2_with fail
                  go_region_held3 (fun w' => Rt R g p (.slice (some ⟨g, 0, none⟩) N cap) (.int .i64 (p : Int)) (.int .u8 (b : Int)) w') (first | with_reducible exact Rt.drew HS.out) (fail)
                  go_wp2_with fail
                  go_region_held3 (fun w' => Rt R g p (.slice (some ⟨g, 0, none⟩) N cap) (.int .i64 (p : Int)) (.int .u8 (b : Int)) w') (first | with_reducible exact Rt.drew (Rt.drew HS.out)) (fail)
                  go_wp2
                  go_ret
                  exact ⟨0, unzig U, p + 1, HQ.out, by show Ending.returned (.int .i64 ((U : Int) / 2)) = _; rw [HZ.out, Int.natCast_ediv]; rfl, by omega, set_rd HA.out, grown_drew (grown_drew (grown_set HW.out (Or.inl rfl)))⟩
              · have bf : ((b : Int) == 0) = false := beq_eq_false_iff_ne.2 (by omega)
                by_cases hk9 : k = 9
                · have kt : ((k : Int) == 9) = true := by rw [hk9]; rfl
                  have hb1 : b ≤ 1 := by omega
                  clear hk9 hbad
                  by_cases hpar : U % 2 = 1
                  · have hob : ((U : Int) % 2 == 1) = true := by rw [beq_iff_eq]; omega
                    have hv := not_half hUu
                    have HZ : Hid (unzig U = -((U / 2 : Nat) : Int) - 1) := if_pos hpar
                    clear hpar
                    go_wp2_with fail
                    go_region_held3 (fun w' => Rt R g p (.slice (some ⟨g, 0, none⟩) N cap) (.int .i64 (p : Int)) (.int .u8 (b : Int)) w') (first | with_reducible exact Rt.drew HS.out) (fail)
                    go_wp2_with fail
                    go_region_held3 (fun w' => Rt R g p (.slice (some ⟨g, 0, none⟩) N cap) (.int .i64 (p : Int)) (.int .u8 (b : Int)) w') (first | with_reducible exact Rt.drew (Rt.drew HS.out)) (fail)
                    go_wp2
                    go_ret
                    exact ⟨0, unzig U, p + 1, HQ.out, by show Ending.returned (.int .i64 (wrap64 _)) = _; rw [HZ.out, odd_val hUu], by omega, set_rd HA.out, grown_drew (grown_drew (grown_set HW.out (Or.inl rfl)))⟩
                  · have hob : ((U : Int) % 2 == 1) = false := beq_eq_false_iff_ne.2 (by omega)
                    have HZ : Hid (unzig U = ((U / 2 : Nat) : Int)) := if_neg hpar
                    clear hpar
                    go_wp2_with fail
                    go_region_held3 (fun w' => Rt R g p (.slice (some ⟨g, 0, none⟩) N cap) (.int .i64 (p : Int)) (.int .u8 (b : Int)) w') (first | with_reducible exact Rt.drew HS.out) (fail)
                    go_wp2_with fail
                    go_region_held3 (fun w' => Rt R g p (.slice (some ⟨g, 0, none⟩) N cap) (.int .i64 (p : Int)) (.int .u8 (b : Int)) w') (first | with_reducible exact Rt.drew (Rt.drew HS.out)) (fail)
                    go_wp2
                    go_ret
                    exact ⟨0, unzig U, p + 1, HQ.out, by show Ending.returned (.int .i64 ((U : Int) / 2)) = _; rw [HZ.out, Int.natCast_ediv]; rfl, by omega, set_rd HA.out, grown_drew (grown_drew (grown_set HW.out (Or.inl rfl)))⟩
                · have kf : ((k : Int) == 9) = false := beq_eq_false_iff_ne.2 (by omega)
                  clear hbad
                  by_cases hpar : U % 2 = 1
                  · have hob : ((U : Int) % 2 == 1) = true := by rw [beq_iff_eq]; omega
                    have hv := not_half hUu
                    have HZ : Hid (unzig U = -((U / 2 : Nat) : Int) - 1) := if_pos hpar
                    clear hpar
                    go_wp2_with fail
                    go_region_held3 (fun w' => Rt R g p (.slice (some ⟨g, 0, none⟩) N cap) (.int .i64 (p : Int)) (.int .u8 (b : Int)) w') (first | with_reducible exact Rt.drew HS.out) (fail)
                    go_wp2_with fail
                    go_region_held3 (fun w' => Rt R g p (.slice (some ⟨g, 0, none⟩) N cap) (.int .i64 (p : Int)) (.int .u8 (b : Int)) w') (first | with_reducible exact Rt.drew (Rt.drew HS.out)) (fail)
                    go_wp2
                    go_ret
                    exact ⟨0, unzig U, p + 1, HQ.out, by show Ending.returned (.int .i64 (wrap64 _)) = _; rw [HZ.out, odd_val hUu], by omega, set_rd HA.out, grown_drew (grown_drew (grown_set HW.out (Or.inl rfl)))⟩
                  · have hob : ((U : Int) % 2 == 1) = false := beq_eq_false_iff_ne.2 (by omega)
                    have HZ : Hid (unzig U = ((U / 2 : Nat) : Int)) := if_neg hpar
                    clear hpar
                    go_wp2_with fail
                    go_region_held3 (fun w' => Rt R g p (.slice (some ⟨g, 0, none⟩) N cap) (.int .i64 (p : Int)) (.int .u8 (b : Int)) w') (first | with_reducible exact Rt.drew HS.out) (fail)
                    go_wp2_with fail
                    go_region_held3 (fun w' => Rt R g p (.slice (some ⟨g, 0, none⟩) N cap) (.int .i64 (p : Int)) (.int .u8 (b : Int)) w') (first | with_reducible exact Rt.drew (Rt.drew HS.out)) (fail)
                    go_wp2
                    go_ret
                    exact ⟨0, unzig U, p + 1, HQ.out, by show Ending.returned (.int .i64 ((U : Int) / 2)) = _; rw [HZ.out, Int.natCast_ediv]; rfl, by omega, set_rd HA.out, grown_drew (grown_drew (grown_set HW.out (Or.inl rfl)))⟩
      · have hk0 : k = 10 := by omega
        subst hk0
        have HQ : Hid (rdNum L p0 0 = (3, 0, p)) := by rw [← HG.out]; exact rfl
        have a2 : wr.cell? ⟨R, 2, none⟩ = some (.int .i64 0) := a 2
        have z2 : wr.frozen? ⟨R, 2, none⟩ = false := az 2
        clear a az HG HU
        go_wp2
        go_ret
        exact ⟨3, 0, p, HQ.out, rfl, hp, HA.out.set3_2 _, grown_set HW.out (Or.inl rfl)⟩
  · have HQ : Hid (rdNum L p0 code = (code, 0, p0)) := by unfold rdNum; rw [if_neg hc0]; exact rfl
    have a2 : w.cell? ⟨R, 2, none⟩ = some (.int .i64 code) := HA.out.c 2
    have hcb : (code == 0) = false := beq_eq_false_iff_ne.2 hc0
    go_enter Try.func43, Try.ntmps43
    go_wp2
    go_ret
    exact ⟨code, 0, p0, HQ.out, rfl, hp0, HA.out, grownBy_refl _ _⟩
end Go.Proofs.Ytobhljmpdolomaa
