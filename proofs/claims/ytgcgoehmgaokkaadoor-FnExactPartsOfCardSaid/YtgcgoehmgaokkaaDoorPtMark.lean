import Derived.Test.YtgcgoehmgaokkaaDoorPtEq
namespace Go.Proofs.YtgcgoehmgaokkaaDoor
open Go.RowKit

theorem grown_refl (w : World) (r : Option Nat) : w.grownBy w r := ⟨rfl, rfl, rfl, Nat.le_refl _, fun _ _ _ => rfl⟩
theorem grown_set {w wr : World} {g j : Nat} {v : Value} (h : w.grownBy wr (some g)) : w.grownBy (wr.setCell ⟨g, j, none⟩ v) (some g) :=
  ⟨h.os, h.tape, h.output, by simpa using h.size, fun k hk hne => (heap_setCell_other wr ⟨g, j, none⟩ k v (fun e => hne (by rw [e]))).trans (h.block k hk hne)⟩
/-- Numbers from k0 on. -/
def from_ (k0 : Int) (n : Nat) : List Int := (List.range n).map fun (x : Nat) => k0 + (x : Int)
theorem from_len (k0 : Int) (n : Nat) : (from_ k0 n).length = n := by simp [from_]
theorem from_at (k0 : Int) {n x : Nat} (h : x < n) : (from_ k0 n).getD x 0 = k0 + x := by simp [from_, List.getD_eq_getElem?_getD, h]

set_option maxHeartbeats 2000000 in
theorem markInt64S_any (g c : Nat) (l : List Int) (k0 : Int) (w : World) (hn : l.length ≤ 1048576) (hk0 : 0 ≤ k0 ∧ k0 ≤ 100000000) (hr : Ro w g l) :
    Calls Tryd.prog 37 #[.slice (some ⟨g, 0, none⟩) l.length c, .int .i64 k0] w fun e w' => e = .returned (.int .i64 (k0 + l.length)) ∧ Ro w' g (from_ k0 l.length) ∧ w.grownBy w' (some g) := by
  have HR : Hid (Ro w g l) := hr
  obtain ⟨n, hnl⟩ : ∃ n, n = l.length := ⟨_, rfl⟩
  have HN : Hid (l.length = n) := hnl.symm
  rw [← hnl] at hn ⊢
  clear hr hnl
  go_enter Tryd.func37, Tryd.ntmps37
  go_wp2
  go_loopw [1, 5] (fun kv i wr => ∃ k : Nat, k ≤ n ∧ i = .int .i64 k ∧ kv = .int .i64 (k0 + (k : Int)) ∧ Hid ((∀ x, x < n → wr.cell? ⟨g, x, none⟩ = some (.int .i64 (if x < k then k0 + x else l.getD x 0))) ∧ (∀ x, x < n → wr.frozen? ⟨g, x, none⟩ = false)) ∧ Hid (w.grownBy wr (some g))) (fun _ i _ => n - (intOf i).toNat)
  case atStart => exact ⟨0, Nat.zero_le _, rfl, by simp, ⟨fun x hx => by rw [if_neg (Nat.not_lt_zero _)]; exact HR.out.2.1 x (by rw [HN.out]; exact hx), fun x hx => HR.out.2.2 x (by rw [HN.out]; exact hx)⟩, grown_refl _ _⟩
  case round =>
    obtain ⟨k, hk, rfl, rfl, HC, HG⟩ := hrel
    by_cases hlt : k < n
    · have hkI : (k : Int) < n := by omega
      have c0 := HC.out.1 k hlt
      have z0 := HC.out.2 k hlt
      have HC1 : Hid ((∀ x, x < n → (wr.setCell ⟨g, k, none⟩ (.int .i64 (k0 + (k : Int)))).cell? ⟨g, x, none⟩ = some (.int .i64 (if x < k + 1 then k0 + x else l.getD x 0))) ∧ (∀ x, x < n → (wr.setCell ⟨g, k, none⟩ (.int .i64 (k0 + (k : Int)))).frozen? ⟨g, x, none⟩ = false)) := ⟨fun x hx => by
        by_cases e : x = k
        · subst e
          rw [World.cell?_setCell_same' wr ⟨g, x, none⟩ _ (by rw [c0]; rfl), if_pos (by omega)]
        · have hne : (⟨g, k, none⟩ : Addr) ≠ ⟨g, x, none⟩ := fun e' => e (congrArg Addr.off e').symm
          rw [show (wr.setCell ⟨g, k, none⟩ (.int .i64 (k0 + (k : Int)))).cell? ⟨g, x, none⟩ = wr.cell? ⟨g, x, none⟩ by simp [World.cell?_setCell_other], HC.out.1 x hx]
          by_cases hl : x < k
          · rw [if_pos hl, if_pos (by omega)]
          · rw [if_neg hl, if_neg (by omega)], fun x hx => by rw [World.frozen?_setCell]; exact HC.out.2 x hx⟩
      have HG1 : Hid (w.grownBy (wr.setCell ⟨g, k, none⟩ (.int .i64 (k0 + (k : Int)))) (some g)) := grown_set HG.out
      clear HC HG
      go_wp2
      go_roundw
      case rel => exact ⟨k + 1, by omega, by simp, by go_num, HC1, HG1⟩
      case measure => simp [intOf]; omega
    · have hkn : k = n := by omega
      subst hkn
      go_wp2
      go_ret
      exact ⟨rfl, ⟨Nat.lt_of_lt_of_le HR.out.1 HG.out.size, fun x hx => by rw [from_len] at hx; rw [from_at k0 hx, HC.out.1 x hx, if_pos hx], fun x hx => by rw [from_len] at hx; exact HC.out.2 x hx⟩, HG.out⟩

set_option maxHeartbeats 2000000 in
theorem heldInt64S_any (g c n : Nat) (k0 : Int) (w : World) (hn : n ≤ 1048576) (hk0 : 0 ≤ k0 ∧ k0 ≤ 100000000) (hr : Ro w g (from_ k0 n)) :
    Calls Tryd.prog 38 #[.slice (some ⟨g, 0, none⟩) n c, .int .i64 k0] w fun e w' => e = .returned (.int .i64 (k0 + n)) ∧ w' = w := by
  have HR : Hid (Ro w g (from_ k0 n)) := hr
  clear hr
  go_enter Tryd.func38, Tryd.ntmps38
  go_wp2
  go_loopw [1, 5] (fun kv i wr => ∃ k : Nat, k ≤ n ∧ i = .int .i64 k ∧ kv = .int .i64 (k0 + (k : Int)) ∧ wr = w) (fun _ i _ => n - (intOf i).toNat)
  case atStart => exact ⟨0, Nat.zero_le _, rfl, by simp, rfl⟩
  case round =>
    obtain ⟨k, hk, rfl, rfl, hw⟩ := hrel
    by_cases hlt : k < n
    · have hkI : (k : Int) < n := by omega
      have c0 := HR.out.2.1 k (by rw [from_len]; exact hlt)
      rw [from_at k0 hlt] at c0
      have e1 : ((k0 + (k : Int)) != k0 + (k : Int)) = false := by simp
      go_wp2
      go_roundw
      case rel => exact ⟨k + 1, by omega, by simp, by go_num, by first | rfl | exact hw | trivial⟩
      case measure => simp [intOf]; omega
    · have hkn : k = n := by omega
      subst hkn
      go_wp2
      go_ret
      exact ⟨rfl, by first | rfl | exact hw | trivial⟩

/-- Where the marks of list j begin. -/
def offL (L : Nat → List Int) : Nat → Nat
  | 0 => 0
  | j + 1 => offL L j + (L j).length
def mkL (L : Nat → List Int) (k0 : Int) (j : Nat) : List Int := from_ (k0 + offL L j) (L j).length
theorem offL_le {L : Nat → List Int} {M : Nat} (h : ∀ j, (L j).length ≤ M) : ∀ j, offL L j ≤ j * M
  | 0 => by simp [offL]
  | j + 1 => by
    have := offL_le h j
    have := h j
    show offL L j + (L j).length ≤ (j + 1) * M
    rw [Nat.succ_mul]
    omega

/-- A list's row turned: the others are as they were. -/
theorem LL.mark {w w' : World} {base n b : Nat} {ao : Option Addr} {L : Nat → List Int} {hh : Nat → Nat} (h : LL w base ao n L b hh) (j : Nat) (hj : j < n) (l : List Int) (hl : l.length = (L j).length) (hr : Ro w' (hh j) l) (hg : w.grownBy w' (some (hh j))) : LL w' base ao n (fun i => if i = j then l else L i) b hh := by
  have hk : ∀ k, k < w.heap.size → k ≠ hh j → w'.heap[k]? = w.heap[k]? := fun k hk hne => hg.block k hk (fun e => hne (Option.some.inj e))
  refine ⟨fun h0 => ⟨(h.ad h0).1, (h.ad h0).2.1, Nat.lt_of_lt_of_le (h.ad h0).2.2 hg.size⟩, fun i hi => ?_, fun i hi => ?_, h.dis⟩
  · obtain ⟨c, hc⟩ := h.out i hi
    refine ⟨c, (World.cell?_of_block (a := ⟨b, i, none⟩) (hk b (h.ad (by omega)).2.2 (fun e => (h.rows j hj).2.2.1 e.symm))).trans (hc.trans ?_)⟩
    by_cases e : i = j
    · subst e; simp [hl]
    · simp [e]
  · obtain ⟨h1, h2, h3, h4, h5⟩ := h.rows i hi
    by_cases e : i = j
    · subst e
      simp only [if_true]
      exact ⟨h1, hr.1, h3, hr.2.1, hr.2.2⟩
    · simp only [e, if_false]
      have hki := hk (hh i) h2 (h.dis i j hi hj e)
      exact ⟨h1, Nat.lt_of_lt_of_le h2 hg.size, h3, fun x hx => (World.cell?_of_block (a := ⟨hh i, x, none⟩) hki).trans (h4 x hx), fun x hx => (World.frozen?_of_block (a := ⟨hh i, x, none⟩) hki).trans (h5 x hx)⟩

/-- What marking an answer leaves: its rows are turned, nothing else. -/
def Turned (n : Nat) (hh : Nat → Nat) (w w' : World) : Prop := w'.os = w.os ∧ w'.tape = w.tape ∧ w'.output = w.output ∧ w.heap.size ≤ w'.heap.size ∧ ∀ k, k < w.heap.size → (∀ j, j < n → k ≠ hh j) → w'.heap[k]? = w.heap[k]?

set_option maxHeartbeats 2000000 in
theorem markInt64SS_any (n ca base b : Nat) (ao : Option Addr) (L : Nat → List Int) (hh : Nat → Nat) (w : World) (hn : n ≤ 8) (hL : ∀ j, (L j).length ≤ 8) (hx : LL w base ao n L b hh) :
    Calls Tryd.prog 15 #[.slice ao n ca, .int .i64 1] w fun e w' => e = .returned (.int .i64 (1 + offL L n)) ∧ LL w' base ao n (fun j => if j < n then mkL L 1 j else L j) b hh ∧ Turned n hh w w' := by
  have HX : Hid (LL w base ao n L b hh) := hx
  have HL : Hid (∀ j, (L j).length ≤ 8) := hL
  clear hx hL
  go_enter Tryd.func15, Tryd.ntmps15
  go_wp2
  go_loopw [1, 5] (fun kv i wr => ∃ k : Nat, k ≤ n ∧ i = .int .i64 k ∧ kv = .int .i64 (1 + (offL L k : Int)) ∧ Hid (LL wr base ao n (fun j => if j < k then mkL L 1 j else L j) b hh) ∧ Hid (Turned n hh w wr)) (fun _ i _ => n - (intOf i).toNat)
  case atStart => exact ⟨0, Nat.zero_le _, rfl, by simp [offL], by simpa [Hid] using HX.out, rfl, rfl, rfl, Nat.le_refl _, fun _ _ _ => rfl⟩
  case round =>
    obtain ⟨k, hk, rfl, rfl, HX1, HT⟩ := hrel
    by_cases hlt : k < n
    · have hkI : (k : Int) < n := by omega
      obtain ⟨rfl, _, _⟩ := HX1.out.ad (by omega)
      obtain ⟨c, d⟩ := HX1.out.out k hlt
      have HRo : Hid (Ro wr (hh k) (L k)) := by
        have h := HX1.out.ro hlt
        simp only [Nat.lt_irrefl, if_false] at h
        exact h
      simp only [Nat.lt_irrefl, if_false] at d
      have hof := offL_le HL.out k
      have hlk := HL.out k
      go_wp2_with fail
      refine (markInt64S_any (hh k) c (L k) (1 + (offL L k : Int)) _ (by omega) (by omega) HRo.out).mono ?_
      rintro e w1 ⟨rfl, hr1, hg1⟩
      have HXn : Hid (LL w1 base (some ⟨b, 0, none⟩) n (fun j => if j < k + 1 then mkL L 1 j else L j) b hh) := by
        have h := HX1.out.mark k hlt (mkL L 1 k) (by simp [mkL, from_len]) hr1 hg1
        have e : (fun i => if i = k then mkL L 1 k else if i < k then mkL L 1 i else L i) = fun j => if j < k + 1 then mkL L 1 j else L j := funext fun i => by
          by_cases e1 : i = k
          · subst e1; simp
          · by_cases e2 : i < k
            · rw [if_neg e1, if_pos e2, if_pos (by omega)]
            · rw [if_neg e1, if_neg e2, if_neg (by omega)]
        rw [e] at h
        exact h
      have HTn : Hid (Turned n hh w w1) := by
        obtain ⟨t1, t2, t3, t4, t5⟩ := HT.out
        exact ⟨hg1.os.trans t1, hg1.tape.trans t2, hg1.output.trans t3, Nat.le_trans t4 hg1.size, fun x hx hne => (hg1.block x (Nat.lt_of_lt_of_le hx t4) (fun e => hne k hlt (Option.some.inj e))).trans (t5 x hx hne)⟩
      have eo : (1 + (offL L k : Int)) + ((L k).length : Int) = 1 + (offL L (k + 1) : Int) := by
        show _ = 1 + ((offL L k + (L k).length : Nat) : Int)
        omega
      rw [eo]
      clear hr1 hg1 HX1 HT HRo d eo
      go_wp2
      go_roundw
      case rel => exact ⟨k + 1, by omega, by simp, rfl, HXn, HTn⟩
      case measure => simp [intOf]; omega
    · have hkn : k = n := by omega
      subst hkn
      go_wp2
      go_ret
      exact ⟨rfl, HX1.out, HT.out⟩

set_option maxHeartbeats 2000000 in
theorem heldInt64SS_any (n ca base b : Nat) (ao : Option Addr) (L : Nat → List Int) (hh : Nat → Nat) (w : World) (hn : n ≤ 8) (hL : ∀ j, (L j).length ≤ 8) (hx : LL w base ao n (fun j => if j < n then mkL L 1 j else L j) b hh) :
    Calls Tryd.prog 16 #[.slice ao n ca, .int .i64 1] w fun e w' => e = .returned (.int .i64 (1 + offL L n)) ∧ w' = w := by
  have HX : Hid (LL w base ao n (fun j => if j < n then mkL L 1 j else L j) b hh) := hx
  have HL : Hid (∀ j, (L j).length ≤ 8) := hL
  clear hx hL
  go_enter Tryd.func16, Tryd.ntmps16
  go_wp2
  go_loopw [1, 5] (fun kv i wr => ∃ k : Nat, k ≤ n ∧ i = .int .i64 k ∧ kv = .int .i64 (1 + (offL L k : Int)) ∧ wr = w) (fun _ i _ => n - (intOf i).toNat)
  case atStart => exact ⟨0, Nat.zero_le _, rfl, by simp [offL], rfl⟩
  case round =>
    obtain ⟨k, hk, rfl, rfl, hw⟩ := hrel
    rw [hw]
    clear hw
    by_cases hlt : k < n
    · have hkI : (k : Int) < n := by omega
      obtain ⟨rfl, _, _⟩ := HX.out.ad (by omega)
      obtain ⟨c, d⟩ := HX.out.out k hlt
      have HRo : Hid (Ro w (hh k) (from_ (1 + (offL L k : Int)) (L k).length)) := by
        have h := HX.out.ro hlt
        simp only [hlt, if_true] at h
        exact h
      simp only [hlt, if_true, mkL, from_len] at d
      have hof := offL_le HL.out k
      have hlk := HL.out k
      have hpos : ¬ (1 + (offL L (k + 1) : Int)) < 0 := by omega
      go_wp2_with fail
      refine (heldInt64S_any (hh k) c (L k).length (1 + (offL L k : Int)) _ (by omega) (by omega) HRo.out).mono ?_
      rintro e w1 ⟨rfl, hw1⟩
      rw [hw1]
      have eo : (1 + (offL L k : Int)) + ((L k).length : Int) = 1 + (offL L (k + 1) : Int) := by
        show _ = 1 + ((offL L k + (L k).length : Nat) : Int)
        omega
      rw [eo]
      clear hw1 HRo d eo
      go_wp2
      go_roundw
      case rel => exact ⟨k + 1, by omega, by simp, rfl, by first | rfl | trivial⟩
      case measure => simp [intOf]; omega
    · have hkn : k = n := by omega
      subst hkn
      go_wp2
      go_ret
      exact ⟨rfl, rfl⟩
end Go.Proofs.YtgcgoehmgaokkaaDoor
