import Derived.Test.YtobhljmpdolomaaPkSum
import Derived.Deep.RegionHeld3
namespace Go.Proofs.Ytobhljmpdolomaa
open Go.RowKit

/-- A slice of bytes at the head of a row. -/
def RdB (w : World) (ao : Option Addr) (n : Nat) (L : List Int) : Prop :=
  0 < n → ∃ g c f, ao = some ⟨g, 0, none⟩ ∧ w.rowIs g 5 c f ∧ n ≤ c ∧ ∀ j, j < n → f j = .int .u8 (L.getD j 0)
theorem RdB.keep {w w' : World} {ao : Option Addr} {n : Nat} {L : List Int} (h : RdB w ao n L) (hk : ∀ g, ao = some ⟨g, 0, none⟩ → g < w.heap.size → w'.heap[g]? = w.heap[g]?) : RdB w' ao n L := fun h0 => by
  obtain ⟨g, c, f, e, hr, hc, hf⟩ := h h0
  exact ⟨g, c, f, e, hr.of_block (hk g e hr.lt), hc, hf⟩
theorem RdB.keep2 {w w' : World} {ao : Option Addr} {n : Nat} {L : List Int} (h : RdB w ao n L) (hk : 0 < n → ∀ g, ao = some ⟨g, 0, none⟩ → g < w.heap.size → w'.heap[g]? = w.heap[g]?) : RdB w' ao n L := fun h0 => h.keep (hk h0) h0
theorem RdB.blk {w : World} {ao : Option Addr} {n : Nat} {L : List Int} (h : RdB w ao n L) : ∀ g, ao = some ⟨g, 0, none⟩ → 0 < n → g < w.heap.size := fun g e h0 => by
  obtain ⟨g', c, f, e', hr, _, _⟩ := h h0
  rw [e] at e'
  simp only [Option.some.injEq, Addr.mk.injEq] at e'
  rw [e'.1]
  exact hr.lt
theorem RdB.below {w w' : World} {ao : Option Addr} {n B : Nat} {L : List Int} (h : RdB w ao n L) (hb : Below B w w') (hB : w.heap.size ≤ B) : RdB w' ao n L :=
  h.keep fun g _ hg => hb.block g (Nat.lt_of_lt_of_le hg hB)
theorem OwnB.rd {w : World} {base g cap n : Nat} {L : List Int} (h : OwnB w base g cap n L) : RdB w (some ⟨g, 0, none⟩) n L := fun _ => by
  have hl := h.len
  have hcell := fun i (hi : i < n) => h.cell hi
  rcases h.2 with ⟨h1, _⟩ | ⟨g', cap', cur, hv, _, hb, hnc, _, hs, ht⟩
  · cases h1
  · simp only [Value.slice.injEq, Option.some.injEq, Addr.mk.injEq] at hv
    obtain ⟨⟨rfl, _, _⟩, _, rfl⟩ := hv
    refine ⟨g, cap, fun j => cur.getD j default, rfl, ⟨cur, hb, by simpa using hs, fun i hi => ?_⟩, hnc, fun j hj => ?_⟩
    · have : i < cur.size := by omega
      simp [Array.getD, this]
    · have h1 := hcell j hj
      simp [World.cell?, hb] at h1
      simp [Array.getD_eq_getD_getElem?, h1]

abbrev TwoB (b c k : Nat) (x : Int) (w' : World) : Prop := w'.cell? ⟨b, k, none⟩ = some (.int .u8 x) ∧ w'.cell? ⟨c, k, none⟩ = some (.int .u8 x)
theorem TwoB.drew {b c k : Nat} {x : Int} {w' : World} (h : TwoB b c k x w') : TwoB b c k x w'.drew := h

set_option maxHeartbeats 1000000 in
theorem eqByteS_same (n cap cap' : Nat) (ao bo : Option Addr) (L : List Int) (w : World) (hn : n ≤ 1048576) (ha : RdB w ao n L) (hb : RdB w bo n L) :
    Calls Try.prog 13 #[.slice ao n cap, .slice bo n cap'] w fun e w' => e = .returned (.bool true) ∧ Below w.heap.size w w' := by
  have HA : Hid (RdB w ao n L) := ha
  have HC : Hid (RdB w bo n L) := hb
  clear ha hb
  go_enter Try.func13, Try.ntmps13
  go_wp2
  go_loopw [5] (fun i wr => ∃ k : Nat, k ≤ n ∧ i = .int .i64 k ∧ Hid (Below w.heap.size w wr)) (fun i _ => n - (intOf i).toNat)
  case atStart => exact ⟨0, Nat.zero_le _, rfl, Below.refl _ _⟩
  case round =>
    obtain ⟨k, hk, rfl, HB⟩ := hrel
    by_cases hlt : k < n
    · have HA1 : Hid (RdB wr ao n L) := RdB.below HA.out HB.out (Nat.le_refl _)
      have HC1 : Hid (RdB wr bo n L) := RdB.below HC.out HB.out (Nat.le_refl _)
      obtain ⟨b, cb, fb, rfl, rb, hcb, hfb⟩ := HA1.out (by omega)
      obtain ⟨c, cc, fc, rfl, rc, hcc, hfc⟩ := HC1.out (by omega)
      obtain ⟨x, hx⟩ : ∃ x, x = L.getD k 0 := ⟨_, rfl⟩
      have HS : Hid (TwoB b c k x wr) := by rw [hx]; exact ⟨(rb.cell (by omega)).trans (by rw [hfb k hlt]), (rc.cell (by omega)).trans (by rw [hfc k hlt])⟩
      clear hx rb rc hfb hfc HA HC HA1 HC1
      go_wp2_with fail
      go_region_held3 (fun w' => TwoB b c k x w') (first | with_reducible exact TwoB.drew HS.out) (fail)
      have HB1 : Hid (Below w.heap.size w wr.drew) := HB.out.drew
      clear HS HB
      go_wp2
      go_roundw
      case rel => exact ⟨k + 1, by omega, by simp, HB1.out⟩
      case measure => simp [intOf]; omega
    · go_wp2
      go_ret
      exact ⟨rfl, HB.out⟩

theorem grown_set {w wr : World} {r : Option Nat} {a : Addr} {v : Value} (h : w.grownBy wr r) (ha : some a.block = r ∨ w.heap.size ≤ a.block) : w.grownBy (wr.setCell a v) r :=
  ⟨h.os, h.tape, h.output, by have := h.size; rw [Deep.nblk_setCell]; exact this, fun k hk hne => by
    rw [Deep.blk_setCell_other _ _ _ _ (fun e => by rcases ha with h1 | h1; exact hne (e ▸ h1); omega)]
    exact h.block k hk hne⟩
/-- The bytes that markByteS writes. -/
def marks (n : Nat) : List Int := (List.range n).map fun j : Nat => (1 + (j : Int)) % 256
theorem marks_at {n j : Nat} (h : j < n) : (marks n).getD j 0 = (1 + (j : Int)) % 256 := by simp [marks, List.getD, h]
def rowOf : Option Addr → Option Nat
  | some a => some a.block
  | none => none

set_option maxHeartbeats 1000000 in
theorem markByteS_any (n cap : Nat) (ao : Option Addr) (L : List Int) (w : World) (hn : n ≤ 1048576) (ha : RdB w ao n L) :
    Calls Try.prog 15 #[.slice ao n cap, .int .i64 1] w fun e w' => e = .returned (.int .i64 (1 + (n : Int))) ∧ RdB w' ao n (marks n) ∧ w.grownBy w' (if 0 < n then rowOf ao else none) := by
  by_cases h0 : 0 < n
  · rw [if_pos h0]
    obtain ⟨g, c, f, rfl, hr, hc, _⟩ := ha h0
    have HR : Hid (w.rowIs g 5 c f) := hr
    clear ha hr
    go_enter Try.func15, Try.ntmps15
    go_wp2
    go_loopw [1, 5] (fun kv i wr => ∃ k : Nat, k ≤ n ∧ i = .int .i64 k ∧ kv = .int .i64 (1 + (k : Int)) ∧ Hid (∃ f, wr.rowIs g 5 c f ∧ ∀ j, j < k → f j = .int .u8 ((1 + (j : Int)) % 256)) ∧ Hid (w.grownBy wr (some g))) (fun _ i _ => n - (intOf i).toNat)
    case atStart => exact ⟨0, Nat.zero_le _, rfl, rfl, ⟨f, HR.out, fun j hj => absurd hj (Nat.not_lt_zero _)⟩, grownBy_refl _ _⟩
    case round =>
      obtain ⟨k, hk, rfl, rfl, HF, HG⟩ := hrel
      by_cases hlt : k < n
      · obtain ⟨f1, hr1, hf1⟩ := HF.out
        have c0 := hr1.cell (i := k) (by omega)
        have z0 := hr1.frozen k
        have HR1 : Hid (wr.rowIs g 5 c f1 ∧ ∀ j, j < k → f1 j = .int .u8 ((1 + (j : Int)) % 256)) := ⟨hr1, hf1⟩
        clear hr1 hf1 HF HR
        go_wp2
        go_roundw
        case rel =>
          refine ⟨k + 1, by omega, by simp, by go_num, ⟨_, HR1.out.1.set k _, fun j hj => ?_⟩, ?_⟩
          · by_cases e : j = k
            · subst e; rw [if_pos rfl]
            · rw [if_neg e]; exact HR1.out.2 j (by omega)
          · exact grown_set HG.out (Or.inl rfl)
        case measure => simp [intOf]; omega
      · have HE : Hid (RdB wr (some ⟨g, 0, none⟩) n (marks n)) := fun _ => by
          obtain ⟨f1, hr1, hf1⟩ := HF.out
          exact ⟨g, c, f1, rfl, hr1, hc, fun j hj => by rw [hf1 j (by omega), marks_at hj]⟩
        have hkn : k = n := by omega
        subst hkn
        clear HF HR
        go_wp2
        go_ret
        exact ⟨rfl, HE.out, HG.out⟩
  · have hn0 : n = 0 := by omega
    subst hn0
    go_enter Try.func15, Try.ntmps15
    go_wp2
    refine wp_loop_rounds 1 ?_
    rw [rounds_succ]
    go_wp2
    go_ret
    exact ⟨rfl, fun h => absurd h (Nat.lt_irrefl _), grownBy_refl _ _⟩

set_option maxHeartbeats 1000000 in
theorem heldByteS_any (n cap : Nat) (ao : Option Addr) (w : World) (hn : n ≤ 1048576) (ha : RdB w ao n (marks n)) :
    Calls Try.prog 16 #[.slice ao n cap, .int .i64 1] w fun e w' => e = .returned (.int .i64 (1 + (n : Int))) ∧ w' = w := by
  have HA : Hid (RdB w ao n (marks n)) := ha
  clear ha
  go_enter Try.func16, Try.ntmps16
  go_wp2
  go_loopw [1, 5] (fun kv i wr => ∃ k : Nat, k ≤ n ∧ i = .int .i64 k ∧ kv = .int .i64 (1 + (k : Int)) ∧ wr = w) (fun _ i _ => n - (intOf i).toNat)
  case atStart => exact ⟨0, Nat.zero_le _, rfl, rfl, rfl⟩
  case round =>
    obtain ⟨k, hk, rfl, rfl, rfl⟩ := hrel
    by_cases hlt : k < n
    · obtain ⟨g, c, f, rfl, hr, hc, hf⟩ := HA.out (by omega)
      have c0 : wr.cell? ⟨g, k, none⟩ = some (.int .u8 ((1 + (k : Int)) % 256)) := (hr.cell (by omega)).trans (by rw [hf k hlt, marks_at hlt])
      clear hr hf HA
      go_wp2
      go_roundw
      case rel => exact ⟨k + 1, by omega, by simp, by go_num, by first | rfl | trivial⟩
      case measure => simp [intOf]; omega
    · have hkn : k = n := by omega
      subst hkn
      go_wp2
      go_ret
      exact ⟨rfl, rfl⟩
end Go.Proofs.Ytobhljmpdolomaa
