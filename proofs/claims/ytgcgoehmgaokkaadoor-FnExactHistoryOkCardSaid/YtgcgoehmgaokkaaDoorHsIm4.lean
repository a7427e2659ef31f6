import Derived.Test.YtgcgoehmgaokkaaDoorHsIm3
namespace Go.Proofs.YtgcgoehmgaokkaaDoor
open Go.RowKit

set_option maxRecDepth 20000 in
set_option maxHeartbeats 4000000 in
theorem isBehind_bad (G : Nat → Ft) (i : Nat) (id : Int) (kind : Int) (off : Bool) (on wth : Int) (n cn ca : Nat) (no fo : Option Addr) (la : Int) (hla : la = if i = 0 then 0 else (G (i - 1)).id) (w : World) (hi : i ≤ 1048576) (hf : Fs w fo i G) (ht : FTab w) (x : Bool) (hx : false = x) (hbad : id ≤ la ∨ id > 1000 ∨ kind < 1 ∨ kind > 7) :
    Calls Tryd.prog 48 #[.agg #[.int .i64 id, .int .i64 kind, .bool off, .int .i64 on, .int .i64 wth, .slice no n cn], .slice fo i ca] w fun e w' => e = .returned (.bool x) ∧ Below w.heap.size w w' := by
  have HBad : Hid (id ≤ la ∨ id > 1000 ∨ kind < 1 ∨ kind > 7) := hbad
  clear hbad
  have HF : Hid (Fs ((w.alloc (.cells #[.int .i64 id, .int .i64 kind, .bool off, .int .i64 on, .int .i64 wth, .slice no n cn] 78)).alloc (.cells #[.slice fo i ca] 46)) fo i G) := Fs.below hf (Joins.below_alloc2 _ _ _) (Nat.le_refl _)
  have HT : Hid (FTab ((w.alloc (.cells #[.int .i64 id, .int .i64 kind, .bool off, .int .i64 on, .int .i64 wth, .slice no n cn] 78)).alloc (.cells #[.slice fo i ca] 46))) := ht.below (Joins.below_alloc2 _ _ _)
  have HBw : Hid (Below w.heap.size w ((w.alloc (.cells #[.int .i64 id, .int .i64 kind, .bool off, .int .i64 on, .int .i64 wth, .slice no n cn] 78)).alloc (.cells #[.slice fo i ca] 46))) := Joins.below_alloc2 _ _ _
  have HA1 : Hid (At ((w.alloc (.cells #[.int .i64 id, .int .i64 kind, .bool off, .int .i64 on, .int .i64 wth, .slice no n cn] 78)).alloc (.cells #[.slice fo i ca] 46)) w.heap.size #[.int .i64 id, .int .i64 kind, .bool off, .int .i64 on, .int .i64 wth, .slice no n cn]) := At.alloc ⟨fun j => by go_simp, fun j => by go_simp, by simp⟩ _
  have HA2 : Hid (At ((w.alloc (.cells #[.int .i64 id, .int .i64 kind, .bool off, .int .i64 on, .int .i64 wth, .slice no n cn] 78)).alloc (.cells #[.slice fo i ca] 46)) (w.heap.size + 1) #[.slice fo i ca]) := ⟨fun j => by go_simp, fun j => by go_simp, by simp⟩
  have HLa : Hid (la = if i = 0 then 0 else (G (i - 1)).id) := hla
  have HX : Hid (false = x) := hx
  clear hf ht hla hx
  go_enter Tryd.func48, Tryd.ntmps48
  go_upto_region 1 with (fail)
  generalize hw2 : ((w.alloc (.cells #[.int .i64 id, .int .i64 kind, .bool off, .int .i64 on, .int .i64 wth, .slice no n cn] 78)).alloc (.cells #[.slice fo i ca] 46)) = w2 at HF HT HBw HA1 HA2 ⊢
  clear hw2
  have a0 := HA2.out.c 0
  go_upto_if 10 with (fail)
  go_cut [5] from 8 (fun s w' => s = .int .i64 la ∧ w' = w2)
  case first =>
    by_cases i0 : i = 0
    · have d0 : decide (0 < i) = false := decide_eq_false (by omega)
      have hla0 : la = 0 := by rw [HLa.out, if_pos i0]
      have HL0 : Hid (la = 0) := hla0
      have di : ¬ 0 < i := by omega
      clear i0 hla0
      go_wp2_with fail
      go_meet
      case rel => exact ⟨by rw [HL0.out], rfl⟩
    · obtain ⟨b, of, rfl, hbw, hcell⟩ := HF.out (by omega)
      obtain ⟨no', cn', ck, _⟩ := hcell (i - 1) (by omega)
      have c0 : w2.cell? ⟨b, of + (i - 1) * 6, none⟩ = some (.int .i64 (G (i - 1)).id) := ck 0 (by omega)
      have d0 : decide (0 < i) = true := decide_eq_true (by omega)
      have di : 0 < i := by omega
      have hwrap : IntKind.i64.wrap ((i : Int) - 1) = ((i - 1 : Nat) : Int) := by
        rw [IntKind.wrap_i64]
        omega
      have hm1 : ((i - 1 : Nat) : Int) < i := by omega
      have HL1 : Hid (la = (G (i - 1)).id) := by unfold Hid; rw [HLa.out, if_neg i0]
      clear i0 hcell ck
      generalize hm : i - 1 = m at *
      go_wp2_with fail
      go_meet
      case rel => exact ⟨by rw [HL1.out], rfl⟩
  case rest =>
    obtain ⟨rfl, rfl⟩ := hcut
    have c0 := HA1.out.c 0
    have c1 := HA1.out.c 1
    obtain rfl := HX.out
    by_cases a1 : id ≤ la
    · go_wp2
      go_ret
      exact ⟨rfl, HBw.out⟩
    by_cases a2 : id > 1000
    · go_wp2
      go_ret
      exact ⟨rfl, HBw.out⟩
    by_cases a3 : kind < 1
    · go_wp2
      go_ret
      exact ⟨rfl, HBw.out⟩
    by_cases a4 : kind > 7
    · go_wp2
      go_ret
      exact ⟨rfl, HBw.out⟩
    · exact absurd HBad.out (by omega)

set_option maxRecDepth 20000 in
set_option maxHeartbeats 4000000 in
theorem isBehind_good (G : Nat → Ft) (i : Nat) (id : Int) (k : Nat) (off : Bool) (on wth : Int) (n cn ca : Nat) (no fo : Option Addr) (la : Int) (hla : la = if i = 0 then 0 else (G (i - 1)).id) (w : World) (hi : i ≤ 1048576) (hf : Fs w fo i G) (ht : FTab w) (x : Bool) (hx : (refok G (usesOn k) on i && refok G (usesWith k) wth i) = x) (h1 : 1 ≤ k) (h7 : k ≤ 7) (h2 : ¬ id ≤ la) (h3 : ¬ id > 1000) :
    Calls Tryd.prog 48 #[.agg #[.int .i64 id, .int .i64 (k : Int), .bool off, .int .i64 on, .int .i64 wth, .slice no n cn], .slice fo i ca] w fun e w' => e = .returned (.bool x) ∧ Below w.heap.size w w' := by
  have hmf : ∀ (fn : Fn) (first cap : Array Value) (w : World), (Instr.makeFunc fn first cap).run Tryd.prog w = .ok (.func fn first cap) w := fun _ _ _ _ => rfl
  have H23 : Hid (¬ id ≤ la ∧ ¬ id > 1000) := ⟨h2, h3⟩
  clear h2 h3
  have HF : Hid (Fs ((w.alloc (.cells #[.int .i64 id, .int .i64 (k : Int), .bool off, .int .i64 on, .int .i64 wth, .slice no n cn] 78)).alloc (.cells #[.slice fo i ca] 46)) fo i G) := Fs.below hf (Joins.below_alloc2 _ _ _) (Nat.le_refl _)
  have HT : Hid (FTab ((w.alloc (.cells #[.int .i64 id, .int .i64 (k : Int), .bool off, .int .i64 on, .int .i64 wth, .slice no n cn] 78)).alloc (.cells #[.slice fo i ca] 46))) := ht.below (Joins.below_alloc2 _ _ _)
  have HBw : Hid (Below w.heap.size w ((w.alloc (.cells #[.int .i64 id, .int .i64 (k : Int), .bool off, .int .i64 on, .int .i64 wth, .slice no n cn] 78)).alloc (.cells #[.slice fo i ca] 46))) := Joins.below_alloc2 _ _ _
  have HA1 : Hid (At ((w.alloc (.cells #[.int .i64 id, .int .i64 (k : Int), .bool off, .int .i64 on, .int .i64 wth, .slice no n cn] 78)).alloc (.cells #[.slice fo i ca] 46)) w.heap.size #[.int .i64 id, .int .i64 (k : Int), .bool off, .int .i64 on, .int .i64 wth, .slice no n cn]) := At.alloc ⟨fun j => by go_simp, fun j => by go_simp, by simp⟩ _
  have HA2 : Hid (At ((w.alloc (.cells #[.int .i64 id, .int .i64 (k : Int), .bool off, .int .i64 on, .int .i64 wth, .slice no n cn] 78)).alloc (.cells #[.slice fo i ca] 46)) (w.heap.size + 1) #[.slice fo i ca]) := ⟨fun j => by go_simp, fun j => by go_simp, by simp⟩
  have HLa : Hid (la = if i = 0 then 0 else (G (i - 1)).id) := hla
  have HX : Hid ((refok G (usesOn k) on i && refok G (usesWith k) wth i) = x) := hx
  clear hf ht hla hx
  go_enter Tryd.func48, Tryd.ntmps48
  go_upto_region 1 with (fail)
  generalize hw2 : ((w.alloc (.cells #[.int .i64 id, .int .i64 (k : Int), .bool off, .int .i64 on, .int .i64 wth, .slice no n cn] 78)).alloc (.cells #[.slice fo i ca] 46)) = w2 at HF HT HBw HA1 HA2 ⊢
  clear hw2
  have a0 := HA2.out.c 0
  go_upto_if 10 with (fail)
  go_cut [5] from 8 (fun s w' => s = .int .i64 la ∧ w' = w2)
  case first =>
    by_cases i0 : i = 0
    · have d0 : decide (0 < i) = false := decide_eq_false (by omega)
      have hla0 : la = 0 := by rw [HLa.out, if_pos i0]
      have HL0 : Hid (la = 0) := hla0
      have di : ¬ 0 < i := by omega
      clear i0 hla0
      go_wp2_with fail
      go_meet
      case rel => exact ⟨by rw [HL0.out], rfl⟩
    · obtain ⟨b, of, rfl, hbw, hcell⟩ := HF.out (by omega)
      obtain ⟨no', cn', ck, _⟩ := hcell (i - 1) (by omega)
      have c0 : w2.cell? ⟨b, of + (i - 1) * 6, none⟩ = some (.int .i64 (G (i - 1)).id) := ck 0 (by omega)
      have d0 : decide (0 < i) = true := decide_eq_true (by omega)
      have di : 0 < i := by omega
      have hwrap : IntKind.i64.wrap ((i : Int) - 1) = ((i - 1 : Nat) : Int) := by
        rw [IntKind.wrap_i64]
        omega
      have hm1 : ((i - 1 : Nat) : Int) < i := by omega
      have HL1 : Hid (la = (G (i - 1)).id) := by unfold Hid; rw [HLa.out, if_neg i0]
      clear i0 hcell ck
      generalize hm : i - 1 = m at *
      go_wp2_with fail
      go_meet
      case rel => exact ⟨by rw [HL1.out], rfl⟩
  case rest =>
    obtain ⟨rfl, rfl⟩ := hcut
    have c0 := HA1.out.c 0
    have c1 := HA1.out.c 1
    have hk8 : (k : Int) < 8 := by omega
    have hk0 : (0 : Int) ≤ k := by omega
    have hk1 : ¬ (k : Int) < 1 := by omega
    have hk7 : ¬ (7 : Int) < k := by omega
    obtain ⟨h2, h3⟩ := H23.out
    have c3 := HA1.out.c 3
    obtain ⟨u1, hu1⟩ : ∃ u, u = usesOn k := ⟨_, rfl⟩
    obtain ⟨u2, hu2⟩ : ∃ u, u = usesWith k := ⟨_, rfl⟩
    obtain ⟨le, hle⟩ : ∃ u, u = leastN k := ⟨_, rfl⟩
    obtain ⟨mo, hmo⟩ : ∃ u, u = mostN k := ⟨_, rfl⟩
    obtain ⟨t0, t1, t2, t3⟩ := HT.out.c k (by omega)
    rw [← hu1] at t0
    rw [← hu2] at t1
    rw [← hle] at t2
    rw [← hmo] at t3
    obtain ⟨r1, hr1⟩ : ∃ r, r = refok G u1 on i := ⟨_, rfl⟩
    obtain ⟨r2, hr2⟩ : ∃ r, r = refok G u2 wth i := ⟨_, rfl⟩
    have HX2 : Hid ((r1 && r2) = x) := by
      unfold Hid
      rw [hr1, hr2, hu1, hu2]
      exact HX.out
    have HR1 : Hid (refok G u1 on i = r1) := hr1.symm
    have HR2 : Hid (refok G u2 wth i = r2) := hr2.symm
    have d3 : (wc.alloc (.cells #[.bool u1, .bool u2, .int .i64 le, .int .i64 mo] 116)).cell? ⟨w.heap.size, 3, none⟩ = some (.int .i64 on) := (HA1.out.alloc _).c 3
    have HC1 : Hid (At (wc.alloc (.cells #[.bool u1, .bool u2, .int .i64 le, .int .i64 mo] 116)) w.heap.size #[.int .i64 id, .int .i64 (k : Int), .bool off, .int .i64 on, .int .i64 wth, .slice no n cn]) := HA1.out.alloc _
    have HC2 : Hid (At (wc.alloc (.cells #[.bool u1, .bool u2, .int .i64 le, .int .i64 mo] 116)) (w.heap.size + 1) #[.slice fo i ca]) := HA2.out.alloc _
    have HC3 : Hid (At (wc.alloc (.cells #[.bool u1, .bool u2, .int .i64 le, .int .i64 mo] 116)) wc.heap.size #[.bool u1, .bool u2, .int .i64 le, .int .i64 mo]) := ⟨fun j => by go_simp, fun j => by go_simp, by simp⟩
    have HF3 : Hid (Fs (wc.alloc (.cells #[.bool u1, .bool u2, .int .i64 le, .int .i64 mo] 116)) fo i G) := Fs.below HF.out (Joins.below_alloc1 _ _) (Nat.le_refl _)
    have HB3 : Hid (Below w.heap.size w (wc.alloc (.cells #[.bool u1, .bool u2, .int .i64 le, .int .i64 mo] 116))) := HBw.out.alloc HBw.out.size _
    clear hu1 hu2 hle hmo hr1 hr2 HX HT
    go_wp2_with fail
    refine (isMet_any G on u1 i ca (w.heap.size + 1) fo r1 HR1.out _ hi HF3.out (HC2.out.c 0) HC2.out.sz).mono ?_
    rintro e w4 ⟨rfl, hb4⟩
    have HB4 : Hid (Below w.heap.size w w4) := HB3.out.trans (hb4.mono HB3.out.size)
    have HD1 : Hid (At w4 w.heap.size #[.int .i64 id, .int .i64 (k : Int), .bool off, .int .i64 on, .int .i64 wth, .slice no n cn]) := HC1.out.below hb4 HC1.out.sz
    have HD2 : Hid (At w4 (w.heap.size + 1) #[.slice fo i ca]) := HC2.out.below hb4 HC2.out.sz
    have HD3 : Hid (At w4 wc.heap.size #[.bool u1, .bool u2, .int .i64 le, .int .i64 mo]) := HC3.out.below hb4 HC3.out.sz
    have HF4 : Hid (Fs w4 fo i G) := Fs.below HF3.out hb4 (Nat.le_refl _)
    clear hb4 HB3 HC1 HC2 HC3 HF3 c0 c1 c3 d3 t0 t1 t2 t3 a0
    cases r1 with
    | false =>
      obtain rfl := HX2.out
      go_wp2
      go_ret
      exact ⟨rfl, HB4.out⟩
    | true =>
      obtain rfl : r2 = x := HX2.out
      have c4 := HD1.out.c 4
      have e1 := HD3.out.c 1
      go_wp2_with fail
      refine (isMet_any G wth u2 i ca (w.heap.size + 1) fo r2 HR2.out _ hi HF4.out (HD2.out.c 0) HD2.out.sz).mono ?_
      rintro e w5 ⟨rfl, hb5⟩
      have HB5 : Hid (Below w.heap.size w w5) := HB4.out.trans (hb5.mono HB4.out.size)
      clear hb5
      go_wp2
      go_ret
      exact ⟨rfl, HB5.out⟩
end Go.Proofs.YtgcgoehmgaokkaaDoor
