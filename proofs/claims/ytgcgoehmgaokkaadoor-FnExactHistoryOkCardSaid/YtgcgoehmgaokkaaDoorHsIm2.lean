import Derived.Test.YtgcgoehmgaokkaaDoorHsIm1
import Derived.RegionTactic
namespace Go.Proofs.YtgcgoehmgaokkaaDoor
open Go.RowKit

/-- 'Its Id is another one.' -/
def isnt (G : Nat → Ft) (id : Int) (j : Nat) : Bool := !decide ((G j).id = id)
theorem found_is (G : Nat → Ft) (id : Int) (i : Nat) : found G id i = !(List.range i).all (isnt G id) := by
  unfold found isnt
  rw [List.not_all_eq_any_not]
  simp

theorem isId_any (G : Nat → Ft) (k : Nat) (no : Option Addr) (cn B : Nat) (id : Int) (x : Bool) (hx : isnt G id k = x) (w : World) (hm : w.cell? ⟨B, 0, none⟩ = some (.int .i64 id)) (hB : B < w.heap.size) :
    Calls Tryd.prog 66 #[.agg #[.int .i64 (G k).id, .int .i64 (G k).kind, .bool (G k).off, .int .i64 (G k).on, .int .i64 (G k).wth, .slice no (G k).n cn], .pointer (some ⟨B, 0, none⟩)] w fun e w' => e = .returned (.bool (!x)) ∧ Below w.heap.size w w' := by
  have hne : B ≠ w.heap.size := Nat.ne_of_lt hB
  have HX : Hid (((G k).id == id) = !x) := by
    unfold Hid
    rw [← hx]
    unfold isnt
    rw [Bool.not_not, Bool.eq_iff_iff]
    simp
  clear hx
  go_enter Tryd.func66, Tryd.ntmps66
  go_wp2
  go_ret
  exact ⟨by rw [← HX.out]; rfl, Joins.below_alloc1 _ _⟩

set_option maxHeartbeats 1000000 in
theorem indexFeat_any (id : Int) (B : Nat) (n cap : Nat) (ao : Option Addr) (G : Nat → Ft) (w : World) (hn : n ≤ 1048576) (hr : Fs w ao n G) (hm : w.cell? ⟨B, 0, none⟩ = some (.int .i64 id)) (hB : B < w.heap.size) :
    Calls Tryd.prog 75 #[.slice ao n cap, .func (Fn.func 66) #[] #[.pointer (some ⟨B, 0, none⟩)]] w fun e w' => (∃ r : Int, e = .returned (.int .i64 r) ∧ ((r = -1 ∧ ∀ j, j < n → isnt G id j = true) ∨ (0 ≤ r ∧ ∃ j, j < n ∧ isnt G id j = false))) ∧ Below w.heap.size w w' := by
  have HV : Hid (Fs w ao n G) := hr
  have HM : Hid (w.cell? ⟨B, 0, none⟩ = some (.int .i64 id)) := hm
  clear hr hm
  go_enter Tryd.func75, Tryd.ntmps75
  go_wp2
  go_loopw [8] (fun i wr => ∃ k : Nat, k ≤ n ∧ i = .int .i64 k ∧ Hid (∀ j, j < k → isnt G id j = true) ∧ Hid (Below w.heap.size w wr)) (fun i _ => n - (intOf i).toNat)
  case atStart => exact ⟨0, Nat.zero_le _, rfl, fun j hj => absurd hj (Nat.not_lt_zero _), Below.refl _ _⟩
  case round =>
    obtain ⟨k, hk, rfl, HK, HB⟩ := hrel
    by_cases hlt : k < n
    · have HV1 : Hid (Fs wr ao n G) := Fs.below HV.out HB.out (Nat.le_refl _)
      obtain ⟨b, off, rfl, hbw, hcell⟩ := HV1.out (by omega)
      obtain ⟨no, cn, ck, hrd⟩ := hcell k hlt
      have c0 : wr.cell? ⟨b, off + k * 6, none⟩ = some (.int .i64 (G k).id) := ck 0 (by omega)
      have c1 : wr.cell? ⟨b, off + k * 6 + 1, none⟩ = some (.int .i64 (G k).kind) := ck 1 (by omega)
      have c2 : wr.cell? ⟨b, off + k * 6 + 2, none⟩ = some (.bool (G k).off) := ck 2 (by omega)
      have c3 : wr.cell? ⟨b, off + k * 6 + 3, none⟩ = some (.int .i64 (G k).on) := ck 3 (by omega)
      have c4 : wr.cell? ⟨b, off + k * 6 + 4, none⟩ = some (.int .i64 (G k).wth) := ck 4 (by omega)
      have c5 : wr.cell? ⟨b, off + k * 6 + 5, none⟩ = some (.slice no (G k).n cn) := ck 5 (by omega)
      clear ck hrd
      have HM0 : Hid (wr.cell? ⟨B, 0, none⟩ = some (.int .i64 id)) := (HB.out.cell (p := ⟨B, 0, none⟩) hB).trans HM.out
      have HBs : Hid (B < wr.heap.size) := Nat.lt_of_lt_of_le hB HB.out.size
      clear hcell HV1
      rcases Bool.eq_false_or_eq_true (isnt G id k) with hvk | hvk
      · have HVK : Hid (isnt G id k = true) := hvk
        clear hvk
        go_wp2_with fail
        refine (isId_any G k no cn B id _ HVK.out _ HM0.out HBs.out).mono ?_
        rintro e w1 ⟨rfl, hb1⟩
        have HB1 : Hid (Below w.heap.size w w1) := HB.out.trans (hb1.mono HB.out.size)
        clear hb1 HB c0 c1 c2 c3 c4 c5
        go_wp2
        go_roundw
        case rel => exact ⟨k + 1, by omega, by simp, all_succ (f := fun j => isnt G id j) HK.out HVK.out, HB1.out⟩
        case measure => simp [intOf]; omega
      · have HVK : Hid (isnt G id k = false) := hvk
        clear hvk
        go_wp2_with fail
        refine (isId_any G k no cn B id _ HVK.out _ HM0.out HBs.out).mono ?_
        rintro e w1 ⟨rfl, hb1⟩
        have HB1 : Hid (Below w.heap.size w w1) := HB.out.trans (hb1.mono HB.out.size)
        clear hb1 HB c0 c1 c2 c3 c4 c5
        go_wp2
        go_ret
        exact ⟨⟨_, rfl, Or.inr ⟨by omega, k, hlt, HVK.out⟩⟩, HB1.out⟩
    · go_wp2
      go_ret
      exact ⟨⟨_, rfl, Or.inl ⟨rfl, fun j hj => HK.out j (by omega)⟩⟩, HB.out⟩

theorem containsFeat_any (id : Int) (B : Nat) (n cap : Nat) (ao : Option Addr) (G : Nat → Ft) (w : World) (hn : n ≤ 1048576) (hr : Fs w ao n G) (hm : w.cell? ⟨B, 0, none⟩ = some (.int .i64 id)) (hB : B < w.heap.size) :
    Calls Tryd.prog 65 #[.slice ao n cap, .func (Fn.func 66) #[] #[.pointer (some ⟨B, 0, none⟩)]] w fun e w' => ((e = .returned (.bool false) ∧ ∀ j, j < n → isnt G id j = true) ∨ (e = .returned (.bool true) ∧ ∃ j, j < n ∧ isnt G id j = false)) ∧ Below w.heap.size w w' := by
  have HV : Hid (Fs w ao n G) := hr
  have HM : Hid (w.cell? ⟨B, 0, none⟩ = some (.int .i64 id)) := hm
  clear hr hm
  go_enter Tryd.func65, Tryd.ntmps65
  go_wp2_with fail
  refine (indexFeat_any id B n cap ao G _ hn HV.out HM.out hB).mono ?_
  rintro e w1 ⟨⟨r, rfl, hr⟩, hb1⟩
  rcases hr with ⟨rfl, hr⟩ | ⟨h0, hr⟩
  · have HR : Hid (∀ j, j < n → isnt G id j = true) := hr
    clear hr
    go_wp2
    go_ret
    exact ⟨Or.inl ⟨rfl, HR.out⟩, hb1⟩
  · have HR : Hid (∃ j, j < n ∧ isnt G id j = false) := hr
    clear hr
    go_wp2
    go_ret
    exact ⟨Or.inr ⟨rfl, HR.out⟩, hb1⟩

set_option maxHeartbeats 1000000 in
/-- Is the Id that of a feature ahead, where one is needed; is it 0, where none is? -/
theorem isMet_any (G : Nat → Ft) (id : Int) (u : Bool) (i ca B : Nat) (fo : Option Addr) (x : Bool) (hx : refok G u id i = x) (w : World) (hi : i ≤ 1048576) (hf : Fs w fo i G) (hm : w.cell? ⟨B, 0, none⟩ = some (.slice fo i ca)) (hB : B < w.heap.size) :
    Calls Tryd.prog 64 #[.int .i64 id, .bool u, .pointer (some ⟨B, 0, none⟩)] w fun e w' => e = .returned (.bool x) ∧ Below w.heap.size w w' := by
  have hmf : ∀ (fn : Fn) (first cap : Array Value) (w : World), (Instr.makeFunc fn first cap).run Tryd.prog w = .ok (.func fn first cap) w := fun _ _ _ _ => rfl
  have hne : B ≠ w.heap.size := Nat.ne_of_lt hB
  have HF : Hid (Fs (w.alloc (.cells #[.int .i64 id] 2)) fo i G) := Fs.below hf (Joins.below_alloc1 _ _) (Nat.le_refl _)
  have HM : Hid ((w.alloc (.cells #[.int .i64 id] 2)).cell? ⟨w.heap.size, 0, none⟩ = some (.int .i64 id)) := by unfold Hid; go_simp
  clear hf
  cases u with
  | true =>
    have HX : Hid (found G id i = x) := hx
    clear hx
    go_enter Tryd.func64, Tryd.ntmps64
    go_wp2_with fail
    refine (containsFeat_any id w.heap.size i ca fo G _ hi HF.out HM.out (by simp)).mono ?_
    rintro e w1 ⟨he, hb1⟩
    have HB1 : Hid (Below w.heap.size w w1) := (Joins.below_alloc1 _ _).trans (hb1.mono (by simp))
    clear hb1
    rcases he with ⟨rfl, hA⟩ | ⟨rfl, hA⟩
    · obtain rfl : x = false := by
        rw [← HX.out, found_is, List.all_eq_true.2 fun j hj => hA j (List.mem_range.1 hj)]
        rfl
      clear hA
      go_wp2
      go_ret
      exact ⟨rfl, HB1.out⟩
    · obtain rfl : x = true := by
        obtain ⟨j, hj, hjf⟩ := hA
        rw [← HX.out, found_is, List.all_eq_false.2 ⟨j, List.mem_range.2 hj, by simp [hjf]⟩]
        rfl
      clear hA
      go_wp2
      go_ret
      exact ⟨rfl, HB1.out⟩
  | false =>
    have HX : Hid ((id == 0) = x) := by
      unfold Hid
      rw [← hx]
      unfold refok
      rw [Bool.eq_iff_iff]
      simp
    clear hx
    go_enter Tryd.func64, Tryd.ntmps64
    go_wp2
    go_ret
    exact ⟨by rw [← HX.out]; rfl, Joins.below_alloc1 _ _⟩
end Go.Proofs.YtgcgoehmgaokkaaDoor
