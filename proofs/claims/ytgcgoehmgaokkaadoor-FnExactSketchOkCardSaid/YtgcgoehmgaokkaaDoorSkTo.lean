import Derived.Test.YtgcgoehmgaokkaaDoorSkRule
import Derived.Test.YtgcgoehmgaokkaaDoorSkEqR
namespace Go.Proofs.YtgcgoehmgaokkaaDoor
open Go.RowKit

/-- What toSketch lays. -/
def SkLaid (w w' : World) (v : Value) (p : Int) (n : Nat) (R : Nat → Int) : Prop :=
  ∃ g, v = .agg #[.int .i64 p, .slice (some ⟨g, 0, none⟩) n n] ∧ w.heap.size ≤ g ∧ w'.rowIs g 56 (n * 9) (fun j => .int .i64 (R j))

set_option maxHeartbeats 1000000 in
theorem toSketch_any (p : Int) (n cap : Nat) (ao : Option Addr) (R : Nat → Int) (w : World) (hn : n ≤ 1048576) (hr : Rd w 9 ao n R) :
    Calls Tryd.prog 8 #[.agg #[.int .i64 p, .slice ao n cap]] w fun e w' => ∃ v, e = .returned v ∧ SkLaid w w' v p n R ∧ Below w.heap.size w w' := by
  have HV : Hid (Rd (((w.alloc (.cells #[.int .i64 p, .slice ao n cap] 24)).alloc (.cells #[.int .i64 0, .slice none 0 0] 29)).alloc (.cells #[.int .i64 p, .slice none 0 0] 29)) 9 ao n R) := Rd.below hr (Joins.below_alloc3 _ _ _ _) (Nat.le_refl _)
  have HA : Hid (At (((w.alloc (.cells #[.int .i64 p, .slice ao n cap] 24)).alloc (.cells #[.int .i64 0, .slice none 0 0] 29)).alloc (.cells #[.int .i64 p, .slice none 0 0] 29)) (w.heap.size + 1) #[.int .i64 0, .slice none 0 0] ∧ At (((w.alloc (.cells #[.int .i64 p, .slice ao n cap] 24)).alloc (.cells #[.int .i64 0, .slice none 0 0] 29)).alloc (.cells #[.int .i64 p, .slice none 0 0] 29)) (w.heap.size + 1 + 1) #[.int .i64 p, .slice none 0 0]) := ⟨⟨fun j => by go_simp, fun j => by go_simp, by simp⟩, ⟨fun j => by go_simp, fun j => by go_simp, by simp⟩⟩
  clear hr
  go_enter Tryd.func8, Tryd.ntmps8
  go_wp2_with fail
  refine (toRuleS_any n cap ao R _ hn HV.out).mono ?_
  rintro e w1 ⟨g, rfl, hg, hrow, hb1⟩
  have HG : Hid (w.heap.size + 1 + 1 + 1 ≤ g) := by simp at hg; exact hg
  have HR : Hid (w1.rowIs g 56 (n * 9) (fun j => .int .i64 (R j))) := hrow
  have HB1 : Hid (Below w.heap.size w w1) := (Joins.below_alloc3 _ _ _ _).trans (hb1.mono (by simp; omega))
  have HA1 : Hid (At w1 (w.heap.size + 1) #[.int .i64 0, .slice none 0 0] ∧ At w1 (w.heap.size + 1 + 1) #[.int .i64 p, .slice none 0 0]) := ⟨HA.out.1.below hb1 HA.out.1.sz, HA.out.2.below hb1 HA.out.2.sz⟩
  clear hg hrow hb1 HV HA
  obtain ⟨q, qf, qs⟩ := HA1.out.2
  obtain ⟨r, rf, rs⟩ := HA1.out.1
  go_wp2
  refine bodyPost_ret (v := .agg #[.int .i64 p, .slice (some ⟨g, 0, none⟩) n n]) (by simp [results, Tryd.results8, go_sem, r]) rfl ⟨_, rfl, ⟨g, rfl, ?_, ?_⟩, ?_⟩
  · have := HG.out; omega
  · exact ((HR.out.setOther (a := ⟨w.heap.size + 1 + 1, 1, none⟩) (by have := HG.out; simp; omega) _).setOther (a := ⟨w.heap.size + 1, 0, none⟩) (by have := HG.out; simp; omega) _).setOther (a := ⟨w.heap.size + 1, 1, none⟩) (by have := HG.out; simp; omega) _
  · exact ((HB1.out.setCell (p := ⟨w.heap.size + 1 + 1, 1, none⟩) (by simp; omega) _).setCell (p := ⟨w.heap.size + 1, 0, none⟩) (by simp) _).setCell (p := ⟨w.heap.size + 1, 1, none⟩) (by simp) _

theorem szRuleS_any (n cap : Nat) (ao : Option Addr) (l : Int) (w : World) (hl : 0 ≤ l ∧ l ≤ 1048576) (hn : n ≤ 9223372036854775807) :
    Calls Tryd.prog 22 #[.slice ao n cap, .int .i64 l] w fun e w' => e = .returned (.int .i64 (if l - n < 0 then -1 else l - n)) ∧ w' = w := by
  by_cases h : l - n < 0
  · rw [if_pos h]
    go_enter Tryd.func22, Tryd.ntmps22
    go_wp2
    go_ret
    exact ⟨rfl, rfl⟩
  · rw [if_neg h]
    go_enter Tryd.func22, Tryd.ntmps22
    go_wp2
    go_ret
    exact ⟨rfl, rfl⟩
/-- szSketch: -1, or what is left: then the rules are few. -/
theorem szSketch_any (p : Int) (n cap : Nat) (ao : Option Addr) (w : World) (hn : n ≤ 9223372036854775807) :
    Calls Tryd.prog 6 #[.agg #[.int .i64 p, .slice ao n cap], .int .i64 1048576] w fun e w' => ∃ l : Int, e = .returned (.int .i64 l) ∧ (l < 0 ∨ n ≤ 1048576 ∧ 0 ≤ l) ∧ Below w.heap.size w w' := by
  by_cases h1 : (1048576 : Int) - n < 0
  · go_enter Tryd.func6, Tryd.ntmps6
    go_wp2_with fail
    refine (szRuleS_any _ _ _ _ _ (by omega) hn).mono ?_
    rintro e w1 ⟨rfl, rfl⟩
    rw [if_pos h1]
    go_wp2
    go_ret
    exact ⟨-1, rfl, Or.inl (by omega), Joins.below_alloc1 _ _⟩
  · go_enter Tryd.func6, Tryd.ntmps6
    go_wp2_with fail
    refine (szRuleS_any _ _ _ _ _ (by omega) hn).mono ?_
    rintro e w1 ⟨rfl, rfl⟩
    rw [if_neg (show ¬ ((1048576 : Int) - n < 0) by omega)]
    go_wp2
    go_ret
    exact ⟨_, rfl, Or.inr ⟨by omega, by omega⟩, Joins.below_alloc1 _ _⟩

theorem eqSketch_same (p : Int) (n c d : Nat) (ao bo : Option Addr) (R : Nat → Int) (w : World) (hn : n ≤ 1048576) (ha : Rd w 9 ao n R) (hb : Rd w 9 bo n R) :
    Calls Tryd.prog 10 #[.agg #[.int .i64 p, .slice ao n c], .agg #[.int .i64 p, .slice bo n d]] w fun e w' => e = .returned (.bool true) ∧ Below w.heap.size w w' := by
  have H0 : Hid (Rd ((w.alloc (.cells #[.int .i64 p, .slice ao n c] 29)).alloc (.cells #[.int .i64 p, .slice bo n d] 29)) 9 ao n R) := Rd.below ha (Joins.below_alloc2 _ _ _) (Nat.le_refl _)
  have H1 : Hid (Rd ((w.alloc (.cells #[.int .i64 p, .slice ao n c] 29)).alloc (.cells #[.int .i64 p, .slice bo n d] 29)) 9 bo n R) := Rd.below hb (Joins.below_alloc2 _ _ _) (Nat.le_refl _)
  clear ha hb
  go_enter Tryd.func10, Tryd.ntmps10
  go_wp2_with fail
  refine (eqRuleS_same n c d ao bo R _ hn H0.out H1.out).mono ?_
  rintro e w1 ⟨rfl, hb1⟩
  have HB1 : Hid (Below _ _ w1) := hb1
  clear hb1 H0 H1
  go_wp2
  go_ret
  exact ⟨rfl, (Joins.below_alloc2 _ _ _).trans (HB1.out.mono (by simp; omega))⟩
end Go.Proofs.YtgcgoehmgaokkaaDoor
