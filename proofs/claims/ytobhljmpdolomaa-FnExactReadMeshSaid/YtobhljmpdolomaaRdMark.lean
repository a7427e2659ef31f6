import Derived.Test.YtobhljmpdolomaaRdIm6
namespace Go.Proofs.Ytobhljmpdolomaa
open Go.RowKit

set_option maxHeartbeats 4000000 in
theorem markV3S_r (n cap : Nat) (ao : Option Addr) (F : Nat → Int) (k0 : Int) (w : World) (hn : n ≤ 1048576) (hk0 : 0 ≤ k0 ∧ k0 ≤ 100000000) (ha : RdS w 51 6 ao n F) :
    Calls Try.prog 39 #[.slice ao n cap, .int .i64 k0] w fun e w' => e = .returned (.int .i64 (k0 + 6 * (n : Int))) ∧ RdS w' 51 6 ao n (fun j => k0 + (j : Int)) ∧ w.grownBy w' (if 0 < n then rowOf ao else none) := by
  by_cases h0 : 0 < n
  · rw [if_pos h0]
    obtain ⟨g, c, f, rfl, hr, hc, _⟩ := ha h0
    have HR : Hid (w.rowIs g 51 c f) := hr
    clear ha hr
    go_enter Try.func39, Try.ntmps39
    go_wp2
    go_loopw [1, 5] (fun kv i wr => ∃ k : Nat, k ≤ n ∧ i = .int .i64 k ∧ kv = .int .i64 (k0 + 6 * (k : Int)) ∧ Hid (∃ f, wr.rowIs g 51 c f ∧ ∀ j, j < k * 6 → f j = .int .i64 (k0 + (j : Int))) ∧ Hid (w.grownBy wr (some g))) (fun _ i _ => n - (intOf i).toNat)
    case atStart => exact ⟨0, Nat.zero_le _, rfl, by go_num, ⟨f, HR.out, fun j hj => absurd hj (by omega)⟩, grownBy_refl _ _⟩
    case round =>
      obtain ⟨k, hk, rfl, rfl, HF, HG⟩ := hrel
      by_cases hlt : k < n
      · obtain ⟨f1, hr1, hf1⟩ := HF.out
        have c0 := hr1.cell (i := k * 6) (by omega)
        have z0 := hr1.frozen (k * 6)
        have c1 := hr1.cell (i := k * 6 + 1) (by omega)
        have z1 := hr1.frozen (k * 6 + 1)
        have c2 := hr1.cell (i := k * 6 + 2) (by omega)
        have z2 := hr1.frozen (k * 6 + 2)
        have c3 := hr1.cell (i := k * 6 + 3) (by omega)
        have z3 := hr1.frozen (k * 6 + 3)
        have c4 := hr1.cell (i := k * 6 + 4) (by omega)
        have z4 := hr1.frozen (k * 6 + 4)
        have c5 := hr1.cell (i := k * 6 + 5) (by omega)
        have z5 := hr1.frozen (k * 6 + 5)
        have HR1 : Hid (wr.rowIs g 51 c f1 ∧ ∀ j, j < k * 6 → f1 j = .int .i64 (k0 + (j : Int))) := ⟨hr1, hf1⟩
        clear hr1 hf1 HF HR
        go_wp2
        go_roundw
        case rel =>
          refine ⟨k + 1, by omega, by simp, by go_num, ⟨_, ((((((HR1.out.1.set (k * 6) _).set (k * 6 + 1) _).set (k * 6 + 2) _).set (k * 6 + 3) _).set (k * 6 + 4) _).set (k * 6 + 5) _), fun j hj => ?_⟩, (grown_set (grown_set (grown_set (grown_set (grown_set (grown_set HG.out (Or.inl rfl)) (Or.inl rfl)) (Or.inl rfl)) (Or.inl rfl)) (Or.inl rfl)) (Or.inl rfl))⟩
          by_cases e5 : j = k * 6 + 5
          · subst e5; rw [if_pos rfl]; congr 1; omega
          rw [if_neg e5]
          by_cases e4 : j = k * 6 + 4
          · subst e4; rw [if_pos rfl]; congr 1; omega
          rw [if_neg e4]
          by_cases e3 : j = k * 6 + 3
          · subst e3; rw [if_pos rfl]; congr 1; omega
          rw [if_neg e3]
          by_cases e2 : j = k * 6 + 2
          · subst e2; rw [if_pos rfl]; congr 1; omega
          rw [if_neg e2]
          by_cases e1 : j = k * 6 + 1
          · subst e1; rw [if_pos rfl]; congr 1; omega
          rw [if_neg e1]
          by_cases e0 : j = k * 6
          · subst e0; rw [if_pos rfl]; congr 1; omega
          rw [if_neg e0]
          exact HR1.out.2 j (by omega)
        case measure => simp [intOf]; omega
      · have HE : Hid (RdS wr 51 6 (some ⟨g, 0, none⟩) n (fun j => k0 + (j : Int))) := fun _ => by
          obtain ⟨f1, hr1, hf1⟩ := HF.out
          exact ⟨g, c, f1, rfl, hr1, hc, fun j hj => hf1 j (Nat.lt_of_lt_of_le hj (Nat.mul_le_mul_right _ (by omega)))⟩
        have hkn : k = n := by omega
        subst hkn
        clear HF HR
        go_wp2
        go_ret
        exact ⟨rfl, HE.out, HG.out⟩
  · have hn0 : n = 0 := by omega
    subst hn0
    go_enter Try.func39, Try.ntmps39
    go_wp2
    refine wp_loop_rounds 1 ?_
    rw [rounds_succ]
    go_wp2
    go_ret
    exact ⟨by simp, fun h => absurd h (Nat.lt_irrefl _), grownBy_refl _ _⟩

set_option maxHeartbeats 4000000 in
theorem heldV3S_r (n cap : Nat) (ao : Option Addr) (k0 : Int) (w : World) (hn : n ≤ 1048576) (hk0 : 0 ≤ k0 ∧ k0 ≤ 100000000) (ha : RdS w 51 6 ao n (fun j => k0 + (j : Int))) :
    Calls Try.prog 49 #[.slice ao n cap, .int .i64 k0] w fun e w' => e = .returned (.int .i64 (k0 + 6 * (n : Int))) ∧ w' = w := by
  have HA : Hid (RdS w 51 6 ao n (fun j => k0 + (j : Int))) := ha
  clear ha
  go_enter Try.func49, Try.ntmps49
  go_wp2
  go_loopw [1, 5] (fun kv i wr => ∃ k : Nat, k ≤ n ∧ i = .int .i64 k ∧ kv = .int .i64 (k0 + 6 * (k : Int)) ∧ wr = w) (fun _ i _ => n - (intOf i).toNat)
  case atStart => exact ⟨0, Nat.zero_le _, rfl, by go_num, rfl⟩
  case round =>
    obtain ⟨k, hk, rfl, rfl, rfl⟩ := hrel
    by_cases hlt : k < n
    · obtain ⟨g, c, f, rfl, hr, hc, hf⟩ := HA.out (by omega)
      have c0 : wr.cell? ⟨g, k * 6, none⟩ = some (.int .i64 (k0 + 6 * (k : Int))) := (hr.cell (by omega)).trans (by rw [hf _ (by omega)]; congr 2; dsimp only; omega)
      have c1 : wr.cell? ⟨g, k * 6 + 1, none⟩ = some (.int .i64 (k0 + 6 * (k : Int) + 1)) := (hr.cell (by omega)).trans (by rw [hf _ (by omega)]; congr 2; dsimp only; omega)
      have c2 : wr.cell? ⟨g, k * 6 + 2, none⟩ = some (.int .i64 (k0 + 6 * (k : Int) + 2)) := (hr.cell (by omega)).trans (by rw [hf _ (by omega)]; congr 2; dsimp only; omega)
      have c3 : wr.cell? ⟨g, k * 6 + 3, none⟩ = some (.int .i64 (k0 + 6 * (k : Int) + 3)) := (hr.cell (by omega)).trans (by rw [hf _ (by omega)]; congr 2; dsimp only; omega)
      have c4 : wr.cell? ⟨g, k * 6 + 4, none⟩ = some (.int .i64 (k0 + 6 * (k : Int) + 4)) := (hr.cell (by omega)).trans (by rw [hf _ (by omega)]; congr 2; dsimp only; omega)
      have c5 : wr.cell? ⟨g, k * 6 + 5, none⟩ = some (.int .i64 (k0 + 6 * (k : Int) + 5)) := (hr.cell (by omega)).trans (by rw [hf _ (by omega)]; congr 2; dsimp only; omega)
      have n0 : ((k0 + 6 * (k : Int)) != (k0 + 6 * (k : Int))) = false := by simp
      have n1 : ((k0 + 6 * (k : Int) + 1) != (k0 + 6 * (k : Int) + 1)) = false := by simp
      have n2 : ((k0 + 6 * (k : Int) + 2) != (k0 + 6 * (k : Int) + 2)) = false := by simp
      have n3 : ((k0 + 6 * (k : Int) + 3) != (k0 + 6 * (k : Int) + 3)) = false := by simp
      have n4 : ((k0 + 6 * (k : Int) + 4) != (k0 + 6 * (k : Int) + 4)) = false := by simp
      have n5 : ((k0 + 6 * (k : Int) + 5) != (k0 + 6 * (k : Int) + 5)) = false := by simp
      clear hr hf HA
      go_wp2
      go_roundw
      case rel => exact ⟨k + 1, by omega, by simp, by go_num, by first | rfl | trivial⟩
      case measure => simp [intOf]; omega
    · have hkn : k = n := by omega
      subst hkn
      go_wp2
      go_ret
      exact ⟨rfl, rfl⟩

set_option maxHeartbeats 4000000 in
theorem markTriS_r (n cap : Nat) (ao : Option Addr) (F : Nat → Int) (k0 : Int) (w : World) (hn : n ≤ 1048576) (hk0 : 0 ≤ k0 ∧ k0 ≤ 100000000) (ha : RdS w 53 3 ao n F) :
    Calls Try.prog 40 #[.slice ao n cap, .int .i64 k0] w fun e w' => e = .returned (.int .i64 (k0 + 3 * (n : Int))) ∧ RdS w' 53 3 ao n (fun j => k0 + (j : Int)) ∧ w.grownBy w' (if 0 < n then rowOf ao else none) := by
  by_cases h0 : 0 < n
  · rw [if_pos h0]
    obtain ⟨g, c, f, rfl, hr, hc, _⟩ := ha h0
    have HR : Hid (w.rowIs g 53 c f) := hr
    clear ha hr
    go_enter Try.func40, Try.ntmps40
    go_wp2
    go_loopw [1, 5] (fun kv i wr => ∃ k : Nat, k ≤ n ∧ i = .int .i64 k ∧ kv = .int .i64 (k0 + 3 * (k : Int)) ∧ Hid (∃ f, wr.rowIs g 53 c f ∧ ∀ j, j < k * 3 → f j = .int .i64 (k0 + (j : Int))) ∧ Hid (w.grownBy wr (some g))) (fun _ i _ => n - (intOf i).toNat)
    case atStart => exact ⟨0, Nat.zero_le _, rfl, by go_num, ⟨f, HR.out, fun j hj => absurd hj (by omega)⟩, grownBy_refl _ _⟩
    case round =>
      obtain ⟨k, hk, rfl, rfl, HF, HG⟩ := hrel
      by_cases hlt : k < n
      · obtain ⟨f1, hr1, hf1⟩ := HF.out
        have c0 := hr1.cell (i := k * 3) (by omega)
        have z0 := hr1.frozen (k * 3)
        have c1 := hr1.cell (i := k * 3 + 1) (by omega)
        have z1 := hr1.frozen (k * 3 + 1)
        have c2 := hr1.cell (i := k * 3 + 2) (by omega)
        have z2 := hr1.frozen (k * 3 + 2)
        have HR1 : Hid (wr.rowIs g 53 c f1 ∧ ∀ j, j < k * 3 → f1 j = .int .i64 (k0 + (j : Int))) := ⟨hr1, hf1⟩
        clear hr1 hf1 HF HR
        go_wp2
        go_roundw
        case rel =>
          refine ⟨k + 1, by omega, by simp, by go_num, ⟨_, (((HR1.out.1.set (k * 3) _).set (k * 3 + 1) _).set (k * 3 + 2) _), fun j hj => ?_⟩, (grown_set (grown_set (grown_set HG.out (Or.inl rfl)) (Or.inl rfl)) (Or.inl rfl))⟩
          by_cases e2 : j = k * 3 + 2
          · subst e2; rw [if_pos rfl]; congr 1; omega
          rw [if_neg e2]
          by_cases e1 : j = k * 3 + 1
          · subst e1; rw [if_pos rfl]; congr 1; omega
          rw [if_neg e1]
          by_cases e0 : j = k * 3
          · subst e0; rw [if_pos rfl]; congr 1; omega
          rw [if_neg e0]
          exact HR1.out.2 j (by omega)
        case measure => simp [intOf]; omega
      · have HE : Hid (RdS wr 53 3 (some ⟨g, 0, none⟩) n (fun j => k0 + (j : Int))) := fun _ => by
          obtain ⟨f1, hr1, hf1⟩ := HF.out
          exact ⟨g, c, f1, rfl, hr1, hc, fun j hj => hf1 j (Nat.lt_of_lt_of_le hj (Nat.mul_le_mul_right _ (by omega)))⟩
        have hkn : k = n := by omega
        subst hkn
        clear HF HR
        go_wp2
        go_ret
        exact ⟨rfl, HE.out, HG.out⟩
  · have hn0 : n = 0 := by omega
    subst hn0
    go_enter Try.func40, Try.ntmps40
    go_wp2
    refine wp_loop_rounds 1 ?_
    rw [rounds_succ]
    go_wp2
    go_ret
    exact ⟨by simp, fun h => absurd h (Nat.lt_irrefl _), grownBy_refl _ _⟩

set_option maxHeartbeats 4000000 in
theorem heldTriS_r (n cap : Nat) (ao : Option Addr) (k0 : Int) (w : World) (hn : n ≤ 1048576) (hk0 : 0 ≤ k0 ∧ k0 ≤ 100000000) (ha : RdS w 53 3 ao n (fun j => k0 + (j : Int))) :
    Calls Try.prog 50 #[.slice ao n cap, .int .i64 k0] w fun e w' => e = .returned (.int .i64 (k0 + 3 * (n : Int))) ∧ w' = w := by
  have HA : Hid (RdS w 53 3 ao n (fun j => k0 + (j : Int))) := ha
  clear ha
  go_enter Try.func50, Try.ntmps50
  go_wp2
  go_loopw [1, 5] (fun kv i wr => ∃ k : Nat, k ≤ n ∧ i = .int .i64 k ∧ kv = .int .i64 (k0 + 3 * (k : Int)) ∧ wr = w) (fun _ i _ => n - (intOf i).toNat)
  case atStart => exact ⟨0, Nat.zero_le _, rfl, by go_num, rfl⟩
  case round =>
    obtain ⟨k, hk, rfl, rfl, rfl⟩ := hrel
    by_cases hlt : k < n
    · obtain ⟨g, c, f, rfl, hr, hc, hf⟩ := HA.out (by omega)
      have c0 : wr.cell? ⟨g, k * 3, none⟩ = some (.int .i64 (k0 + 3 * (k : Int))) := (hr.cell (by omega)).trans (by rw [hf _ (by omega)]; congr 2; dsimp only; omega)
      have c1 : wr.cell? ⟨g, k * 3 + 1, none⟩ = some (.int .i64 (k0 + 3 * (k : Int) + 1)) := (hr.cell (by omega)).trans (by rw [hf _ (by omega)]; congr 2; dsimp only; omega)
      have c2 : wr.cell? ⟨g, k * 3 + 2, none⟩ = some (.int .i64 (k0 + 3 * (k : Int) + 2)) := (hr.cell (by omega)).trans (by rw [hf _ (by omega)]; congr 2; dsimp only; omega)
      have n0 : ((k0 + 3 * (k : Int)) != (k0 + 3 * (k : Int))) = false := by simp
      have n1 : ((k0 + 3 * (k : Int) + 1) != (k0 + 3 * (k : Int) + 1)) = false := by simp
      have n2 : ((k0 + 3 * (k : Int) + 2) != (k0 + 3 * (k : Int) + 2)) = false := by simp
      clear hr hf HA
      go_wp2
      go_roundw
      case rel => exact ⟨k + 1, by omega, by simp, by go_num, by first | rfl | trivial⟩
      case measure => simp [intOf]; omega
    · have hkn : k = n := by omega
      subst hkn
      go_wp2
      go_ret
      exact ⟨rfl, rfl⟩

/-- The rows of places and of triangles are two. -/
theorem rds_ne {w : World} {nv nt g h : Nat} {vo to : Option Addr} {F G : Nat → Int} (hv : RdS w 51 6 vo nv F) (ht : RdS w 53 3 to nt G) (e : vo = some ⟨g, 0, none⟩) (e' : to = some ⟨h, 0, none⟩) (h0 : 0 < nv) (h1 : 0 < nt) : g ≠ h := fun hgh => by
  obtain ⟨g1, c1, f1, a1, ⟨k1, b1, _⟩, _⟩ := hv h0
  obtain ⟨g2, c2, f2, a2, ⟨k2, b2, _⟩, _⟩ := ht h1
  rw [e] at a1
  rw [e'] at a2
  simp only [Option.some.injEq, Addr.mk.injEq] at a1 a2
  obtain ⟨rfl, _⟩ := a1
  obtain ⟨rfl, _⟩ := a2
  subst hgh
  rw [b1] at b2
  simp at b2
theorem row_ne {w : World} {t S n b : Nat} {ao : Option Addr} {F : Nat → Int} (h : RdS w t S ao n F) (hb : ∀ g, ao = some ⟨g, 0, none⟩ → 0 < n → b ≠ g) : some b ≠ (if 0 < n then rowOf ao else none) := fun e => by
  by_cases h0 : 0 < n
  · rw [if_pos h0] at e
    obtain ⟨g, c, f, ea, _⟩ := h h0
    have := hb g ea h0
    rw [ea] at e
    simp only [rowOf, Option.some.injEq] at e
    exact this e
  · rw [if_neg h0] at e
    cases e

set_option maxHeartbeats 2000000 in
theorem markMesh_r (nv nt cv ct : Nat) (vo to : Option Addr) (F G : Nat → Int) (w : World) (hnv : nv ≤ 1000) (hnt : nt ≤ 1000) (hv : RdS w 51 6 vo nv F) (ht : RdS w 53 3 to nt G) :
    Calls Try.prog 14 #[.agg #[.slice vo nv cv, .slice to nt ct], .int .i64 1] w fun e w' => e = .returned (.int .i64 (1 + 6 * (nv : Int) + 3 * (nt : Int))) ∧ (RdS w' 51 6 vo nv (fun j => 1 + (j : Int)) ∧ RdS w' 53 3 to nt (fun j => (1 + 6 * (nv : Int)) + (j : Int))) ∧ w.heap.size ≤ w'.heap.size ∧ w'.os = w.os ∧ w'.tape = w.tape ∧ w'.output = w.output ∧ ∀ b, b < w.heap.size → (∀ g, vo = some ⟨g, 0, none⟩ → 0 < nv → b ≠ g) → (∀ g, to = some ⟨g, 0, none⟩ → 0 < nt → b ≠ g) → w'.heap[b]? = w.heap[b]? := by
  have HV : Hid (RdS (w.alloc (.cells #[.slice vo nv cv, .slice to nt ct] 31)) 51 6 vo nv F) := hv.below (Joins.below_alloc1 _ _) (Nat.le_refl _)
  have HT : Hid (RdS (w.alloc (.cells #[.slice vo nv cv, .slice to nt ct] 31)) 53 3 to nt G) := ht.below (Joins.below_alloc1 _ _) (Nat.le_refl _)
  have HK : Hid ((∀ g, vo = some ⟨g, 0, none⟩ → 0 < nv → g < w.heap.size) ∧ ∀ g, to = some ⟨g, 0, none⟩ → 0 < nt → g < w.heap.size) := ⟨hv.blk, ht.blk⟩
  clear hv ht
  go_enter Try.func14, Try.ntmps14
  go_wp2_with fail
  refine (markV3S_r nv cv vo F 1 _ (by omega) (by omega) HV.out).mono ?_
  rintro e w1 ⟨rfl, hv1, hg1⟩
  have hb1 : w1.heap[w.heap.size]? = (w.alloc (.cells #[.slice vo nv cv, .slice to nt ct] 31)).heap[w.heap.size]? := hg1.block _ (by simp) (row_ne HV.out fun g e h0 => by have := HK.out.1 g e h0; omega)
  have q1 : w1.cell? ⟨w.heap.size, 1, none⟩ = some (.slice to nt ct) := by
    rw [World.cell?_of_block (a := ⟨w.heap.size, 1, none⟩) (w := w.alloc (.cells #[.slice vo nv cv, .slice to nt ct] 31)) hb1]
    go_simp
  have HV1 : Hid (RdS w1 51 6 vo nv (fun j => 1 + (j : Int))) := hv1
  have HT1 : Hid (RdS w1 53 3 to nt G) := HT.out.keep fun h1 h e hl => hg1.block h hl (row_ne HV.out fun g e' h0 => (rds_ne HV.out HT.out e' e h0 h1).symm)
  have HG1 : Hid ((w.alloc (.cells #[.slice vo nv cv, .slice to nt ct] 31)).grownBy w1 (if 0 < nv then rowOf vo else none)) := hg1
  clear hv1 hg1 hb1
  go_wp2_with fail
  refine (markTriS_r nt ct to G _ _ (by omega) (by omega) HT1.out).mono ?_
  rintro e w2 ⟨rfl, ht2, hg2⟩
  have HT2 : Hid (RdS w2 53 3 to nt (fun j => (1 + 6 * (nv : Int)) + (j : Int))) := ht2
  have HV2 : Hid (RdS w2 51 6 vo nv (fun j => 1 + (j : Int))) := HV1.out.keep fun h0 g e hl => hg2.block g hl (row_ne HT1.out fun h e' h1 => rds_ne HV1.out HT1.out e e' h0 h1)
  have HB : Hid (w.heap.size ≤ w2.heap.size ∧ w2.os = w.os ∧ w2.tape = w.tape ∧ w2.output = w.output ∧ ∀ b, b < w.heap.size → (∀ g, vo = some ⟨g, 0, none⟩ → 0 < nv → b ≠ g) → (∀ g, to = some ⟨g, 0, none⟩ → 0 < nt → b ≠ g) → w2.heap[b]? = w.heap[b]?) := by
    have hs1 := HG1.out.size
    have hs2 := hg2.size
    refine ⟨by simp at hs1; omega, hg2.os.trans HG1.out.os, hg2.tape.trans HG1.out.tape, hg2.output.trans HG1.out.output, fun b hb h1 h2 => ?_⟩
    rw [hg2.block b (by simp at hs1; omega) (row_ne HT1.out h2), HG1.out.block b (by simp; omega) (row_ne HV.out h1), Deep.blk_alloc_lt _ _ _ hb]
  clear ht2 hg2 HG1 HV HT HV1 HT1 q1
  go_wp2
  go_ret
  exact ⟨rfl, ⟨HV2.out, HT2.out⟩, HB.out⟩

set_option maxHeartbeats 2000000 in
theorem heldMesh_r (nv nt cv ct : Nat) (vo to : Option Addr) (w : World) (hnv : nv ≤ 1000) (hnt : nt ≤ 1000) (hv : RdS w 51 6 vo nv (fun j => 1 + (j : Int))) (ht : RdS w 53 3 to nt (fun j => (1 + 6 * (nv : Int)) + (j : Int))) :
    Calls Try.prog 20 #[.agg #[.slice vo nv cv, .slice to nt ct], .int .i64 1] w fun e w' => e = .returned (.int .i64 (1 + 6 * (nv : Int) + 3 * (nt : Int))) ∧ Below w.heap.size w w' := by
  have HV : Hid (RdS (w.alloc (.cells #[.slice vo nv cv, .slice to nt ct] 31)) 51 6 vo nv (fun j => 1 + (j : Int))) := hv.below (Joins.below_alloc1 _ _) (Nat.le_refl _)
  have HT : Hid (RdS (w.alloc (.cells #[.slice vo nv cv, .slice to nt ct] 31)) 53 3 to nt (fun j => (1 + 6 * (nv : Int)) + (j : Int))) := ht.below (Joins.below_alloc1 _ _) (Nat.le_refl _)
  clear hv ht
  have hp1 : ¬ (1 + 6 * (nv : Int) < 0) := by omega
  have hp2 : ¬ (1 + 6 * (nv : Int) + 3 * (nt : Int) < 0) := by omega
  go_enter Try.func20, Try.ntmps20
  go_wp2_with fail
  refine (heldV3S_r nv cv vo 1 _ (by omega) (by omega) HV.out).mono ?_
  rintro e w1 ⟨rfl, rfl⟩
  go_wp2_with fail
  refine (heldTriS_r nt ct to _ _ (by omega) (by omega) HT.out).mono ?_
  rintro e w2 ⟨rfl, rfl⟩
  go_wp2
  go_ret
  exact ⟨rfl, Joins.below_alloc1 _ _⟩
end Go.Proofs.Ytobhljmpdolomaa
