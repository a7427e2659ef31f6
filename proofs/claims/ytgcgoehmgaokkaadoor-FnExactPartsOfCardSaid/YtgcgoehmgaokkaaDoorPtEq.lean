import Derived.Test.YtgcgoehmgaokkaaDoorPtAns
import Derived.Test.YtgcgoehmgaokkaaDoorSkRule
import Derived.BigQuiet
import Derived.Deep.RegionWith
import Derived.Deep.LoopGhost
namespace Go.Proofs.YtgcgoehmgaokkaaDoor
open Go.RowKit

theorem Below.drewN2 {B : Nat} {w w' : World} (h : Below B w w') (n : Nat) : Below B w (w'.drewN n) := by
  induction n with
  | zero => exact h
  | succ n ih => exact ih.drew

/-- Numbers in a row. -/
def Ro (w : World) (g : Nat) (l : List Int) : Prop := g < w.heap.size ∧ (∀ x, x < l.length → w.cell? ⟨g, x, none⟩ = some (.int .i64 (l.getD x 0))) ∧ (∀ x, x < l.length → w.frozen? ⟨g, x, none⟩ = false)
theorem Ro.below {w w' : World} {g : Nat} {l : List Int} (h : Ro w g l) (hb : Below w.heap.size w w') : Ro w' g l :=
  ⟨Nat.lt_of_lt_of_le h.1 hb.size, fun x hx => (hb.cell (p := ⟨g, x, none⟩) h.1).trans (h.2.1 x hx), fun x hx => (hb.frozen (p := ⟨g, x, none⟩) h.1).trans (h.2.2 x hx)⟩

theorem drewN_add (w : World) (m n : Nat) : (w.drewN m).drewN n = w.drewN (m + n) := by
  induction n with
  | zero => rfl
  | succ n ih => show ((w.drewN m).drewN n).drew = (w.drewN (m + n)).drew; rw [ih]

set_option maxHeartbeats 1000000 in
theorem eqInt64S_same (ga gb ca cb : Nat) (l : List Int) (w : World) (hn : l.length ≤ 1048576) (ha : Ro w ga l) (hb : Ro w gb l) :
    Calls Tryd.prog 35 #[.slice (some ⟨ga, 0, none⟩) l.length ca, .slice (some ⟨gb, 0, none⟩) l.length cb] w fun e w' => e = .returned (.bool true) ∧ ∃ m, w' = w.drewN m := by
  have HA : Hid (Ro w ga l) := ha
  have HB : Hid (Ro w gb l) := hb
  obtain ⟨n, hnl⟩ : ∃ n, n = l.length := ⟨_, rfl⟩
  have HN : Hid (l.length = n) := hnl.symm
  rw [← hnl] at hn ⊢
  clear ha hb hnl
  go_enter Tryd.func35, Tryd.ntmps35
  go_wp2
  go_loopw [5] (fun i wr => ∃ k : Nat, k ≤ n ∧ i = .int .i64 k ∧ Hid (∃ m, wr = w.drewN m)) (fun i _ => n - (intOf i).toNat)
  case atStart => exact ⟨0, Nat.zero_le _, rfl, 0, rfl⟩
  case round =>
    obtain ⟨k, hk, rfl, HM⟩ := hrel
    have HBr : Hid (Below w.heap.size w wr) := by
      obtain ⟨m, hm⟩ := HM.out
      rw [hm]
      exact Below.drewN2 (Below.refl _ _) m
    by_cases hlt : k < n
    · have hkI : (k : Int) < n := by omega
      have c0 := (HA.out.below HBr.out).2.1 k (by rw [HN.out]; exact hlt)
      have c1 := (HB.out.below HBr.out).2.1 k (by rw [HN.out]; exact hlt)
      obtain ⟨x, hx⟩ : ∃ x, x = l.getD k 0 := ⟨_, rfl⟩
      rw [← hx] at c0 c1
      have e1 : (x != x) = false := by simp
      clear hx
      go_wp2_with fail
      go_quiet (fail)
      go_wp2
      go_roundw
      case rel => exact ⟨k + 1, by omega, by simp, by
        obtain ⟨m, hm⟩ := HM.out
        exact ⟨_, by rw [hm, drewN_add]⟩⟩
      case measure => simp [intOf]; omega
    · go_wp2
      go_ret
      exact ⟨rfl, HM.out⟩

theorem LL.ro {w : World} {base n b : Nat} {ao : Option Addr} {L : Nat → List Int} {hh : Nat → Nat} (h : LL w base ao n L b hh) {j : Nat} (hj : j < n) : Ro w (hh j) (L j) := ⟨(h.rows j hj).2.1, (h.rows j hj).2.2.2.1, (h.rows j hj).2.2.2.2⟩

set_option maxHeartbeats 1000000 in
theorem eqInt64SS_same (n ca cb a1 a2 b1 b2 : Nat) (ao1 ao2 : Option Addr) (L : Nat → List Int) (h1 h2 : Nat → Nat) (w : World) (hn : n ≤ 1048576) (hL : ∀ j, j < n → (L j).length ≤ 1048576) (x1 : LL w a1 ao1 n L b1 h1) (x2 : LL w a2 ao2 n L b2 h2) :
    Calls Tryd.prog 13 #[.slice ao1 n ca, .slice ao2 n cb] w fun e w' => e = .returned (.bool true) ∧ Below w.heap.size w w' := by
  have H1 : Hid (LL w a1 ao1 n L b1 h1) := x1
  have H2 : Hid (LL w a2 ao2 n L b2 h2) := x2
  have HL : Hid (∀ j, j < n → (L j).length ≤ 1048576) := hL
  clear x1 x2 hL
  go_enter Tryd.func13, Tryd.ntmps13
  go_wp2
  go_loopw [5] (fun i wr => ∃ k : Nat, k ≤ n ∧ i = .int .i64 k ∧ Hid (Below w.heap.size w wr)) (fun i _ => n - (intOf i).toNat)
  case atStart => exact ⟨0, Nat.zero_le _, rfl, Below.refl _ _⟩
  case round =>
    obtain ⟨k, hk, rfl, HBr⟩ := hrel
    by_cases hlt : k < n
    · have hkI : (k : Int) < n := by omega
      obtain ⟨rfl, _, _⟩ := H1.out.ad (by omega)
      obtain ⟨rfl, _, _⟩ := H2.out.ad (by omega)
      have Hx1 : Hid (LL wr a1 (some ⟨b1, 0, none⟩) n L b1 h1) := H1.out.below HBr.out (Nat.le_refl _)
      have Hx2 : Hid (LL wr a2 (some ⟨b2, 0, none⟩) n L b2 h2) := H2.out.below HBr.out (Nat.le_refl _)
      obtain ⟨c1, d1⟩ := Hx1.out.out k hlt
      obtain ⟨c2, d2⟩ := Hx2.out.out k hlt
      have HQ : Hid (∀ m, Calls Tryd.prog 35 #[.slice (some ⟨h1 k, 0, none⟩) (L k).length c1, .slice (some ⟨h2 k, 0, none⟩) (L k).length c2] (wr.drewN m) fun e w' => e = .returned (.bool true) ∧ ∃ m', w' = (wr.drewN m).drewN m') := fun m =>
        eqInt64S_same (h1 k) (h2 k) c1 c2 (L k) _ (HL.out k hlt) ((Hx1.out.ro hlt).below (Below.drewN2 (Below.refl _ _) m)) ((Hx2.out.ro hlt).below (Below.drewN2 (Below.refl _ _) m))
      go_wp2_with fail
      go_quiet (first | (go_at_call 35; exact Calls.quiet_of (HQ.out _)))
      go_wp2
      go_roundw
      case rel => exact ⟨k + 1, by omega, by simp, Below.drewN2 HBr.out _⟩
      case measure => simp [intOf]; omega
    · go_wp2
      go_ret
      exact ⟨rfl, HBr.out⟩
end Go.Proofs.YtgcgoehmgaokkaaDoor
