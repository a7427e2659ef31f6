import Derived.Test.YtikepklkjbohmaaApp
import Derived.Deep.AppendLies
namespace Go.Proofs.Ytikepklkjbohmaa
open Go.RowKit

/-- One fraction more behind an own row of fractions; where it lies. -/
theorem append59L {ops : Array Oper} {rest : List Oper} {o : Oper} {a : Act} {Q : Exit → Act → World → Prop} (w : World) (hgd : o.guard = none) (s x : Operand)
    (ho : o.op = .call { callee := .builtin .append, args := #[s, x], argTypes := #[70, 70] }) (base gr cap n : Nat) (xs : List Value) (hs : a.eval s = .slice (some ⟨gr, 0, none⟩) n cap)
    (ad c : Nat) (x0 x1 : Int) (hx : a.eval x = .slice (some ⟨ad, 0, none⟩) 1 c) (hown : w.ownsRow base 59 3 (.slice (some ⟨gr, 0, none⟩) n cap) n xs) (hc : w.cell? ⟨ad, 0, none⟩ = some (.int .i64 x0) ∧ w.cell? ⟨ad, 1, none⟩ = some (.int .i64 x1) ∧ w.cell? ⟨ad, 2, none⟩ = some (.slice none 0 0))
    (hn : n ≤ 8) (hbase : base ≤ w.heap.size)
    (h : ∀ g' cap' w', w'.ownsRow base 59 3 (.slice (some ⟨g', 0, none⟩) (n + 1) cap') (n + 1) (xs ++ [.int .i64 x0, .int .i64 x1, .slice none 0 0]) → w.grownBy w' (some gr) → (g' = gr ∨ g' = w.heap.size) → g' < w'.heap.size → wpList Try.prog ops Q rest (a.put o.dst (.slice (some ⟨g', 0, none⟩) (n + 1) cap')) w') : wpList Try.prog ops Q (o :: rest) a w := by
  obtain ⟨h0, h1, h2⟩ := hc
  have hi := info59
  cases hq : Try.prog.info? 59 with
  | none => rw [hq] at hi; simp at hi
  | some i =>
    rw [hq] at hi
    simp only [Option.map_some, Option.some.injEq, Prod.mk.injEq] at hi
    obtain ⟨hz, hsz, hby⟩ := hi
    refine wpList_append_lies w hgd s x 70 ho base 59 i _ 3 40 under70 hq hz hsz hby rfl (by decide) _ n xs hs hown ⟨ad, 0, none⟩ 1 c [.int .i64 x0, .int .i64 x1, .slice none 0 0] hx rfl ?_ ?_ (by decide) (by simp only [maxLen]; omega) (by omega) hbase _ rfl (fun g' cap' w' h2 h3 h4 h5 => h g' cap' w' h2 h3 ?_ h5)
    · intro j u hj
      match j, hj with
      | 0, hj => simp at hj; subst hj; simpa [Addr.add] using h0
      | 1, hj => simp at hj; subst hj; simpa [Addr.add] using h1
      | 2, hj => simp at hj; subst hj; simpa [Addr.add] using h2
      | j + 3, hj => simp at hj
    · intro u hu
      simp at hu
      rcases hu with rfl | rfl | rfl <;> rfl
    · rcases h4 with h4 | h4
      · simp [Value.ownBlock] at h4; exact .inl h4.symm
      · exact .inr h4

theorem own_lt {w : World} {base e size n : Nat} {g cap : Nat} {xs : List Value} (h : w.ownsRow base e size (.slice (some ⟨g, 0, none⟩) n cap) n xs) : base ≤ g ∧ g < w.heap.size := h.lt g rfl
theorem own_same {w w' : World} {base e size n : Nat} {g cap : Nat} {xs : List Value} (h : w.ownsRow base e size (.slice (some ⟨g, 0, none⟩) n cap) n xs) (hk : w'.heap[g]? = w.heap[g]?) : w'.ownsRow base e size (.slice (some ⟨g, 0, none⟩) n cap) n xs := by
  refine ⟨h.1, ?_⟩
  rcases h.2 with ⟨h2, _⟩ | ⟨g', cap', cur, hv, hb, hg, rest⟩
  · simp at h2
  · simp at hv
    obtain ⟨rfl, rfl⟩ := hv
    exact .inr ⟨g, cap, cur, rfl, hb, by rw [hk]; exact hg, rest⟩
theorem own_below {w w' : World} {base e size n : Nat} {g cap : Nat} {xs : List Value} (h : w.ownsRow base e size (.slice (some ⟨g, 0, none⟩) n cap) n xs) (hb : Below w.heap.size w w') : w'.ownsRow base e size (.slice (some ⟨g, 0, none⟩) n cap) n xs :=
  own_same h (hb.block g (own_lt h).2)
theorem below_grown {B : Nat} {w0 w w' : World} {gr : Nat} (h : Below B w0 w) (hg : w.grownBy w' (some gr)) (hB : B ≤ gr) (hs : B ≤ w.heap.size) : Below B w0 w' :=
  ⟨hg.os.trans h.os, hg.tape.trans h.tape, hg.output.trans h.output, Nat.le_trans h.size hg.size, fun k hk => (hg.block k (Nat.lt_of_lt_of_le hk hs) (fun e => by have := Option.some.inj e; omega)).trans (h.block k hk)⟩
theorem SumAt.grown {w w' : World} {b gr : Nat} {p q : Int} {s : Option Addr} {l c : Nat} (h : SumAt w b p q s l c) (hg : w.grownBy w' (some gr)) (hne : b ≠ gr) : SumAt w' b p q s l c := by
  have hk : w'.heap[b]? = w.heap[b]? := hg.block b h.sz (fun e => hne (Option.some.inj e))
  exact ⟨by rw [cell_same hk]; exact h.c0, by rw [cell_same hk]; exact h.c1, by rw [cell_same hk]; exact h.c2, fun j => by rw [World.frozen?_of_block (a := ⟨b, j, none⟩) hk]; exact h.fz j, Nat.lt_of_lt_of_le h.sz hg.size⟩
theorem SumAt.other {w : World} {b m : Nat} {p q : Int} {s : Option Addr} {l c : Nat} (h : SumAt w b p q s l c) (hb : b ≠ m) (u0 u1 u2 : Value) : SumAt (((w.setCell ⟨m, 0, none⟩ u0).setCell ⟨m, 1, none⟩ u1).setCell ⟨m, 2, none⟩ u2) b p q s l c := by
  obtain ⟨c0, c1, c2, fz, sz⟩ := h
  exact ⟨by rw [cell_same (set3_other w m u0 u1 u2 b hb)]; exact c0, by rw [cell_same (set3_other w m u0 u1 u2 b hb)]; exact c1, by rw [cell_same (set3_other w m u0 u1 u2 b hb)]; exact c2, fun j => by have := fz j; go_simp, by simpa using sz⟩
/-- The sum over an append to the row. -/
theorem sum_grown {w w' : World} {v : Value} {x : Nat → Int} {k gr cap base : Nat} (h : RIs w v (dotS x x k) 1) (hk : k < 2) (ho : w.ownsRow base 59 3 (.slice (some ⟨gr, 0, none⟩) k cap) k (rowL x k)) (hg : w.grownBy w' (some gr)) : RIs w' v (dotS x x k) 1 := by
  match k, hk with
  | 0, _ =>
    rcases h with h | ⟨h0, _⟩
    · exact .inl h
    · exact absurd ⟨by simp [dotS], by decide⟩ h0
  | 1, _ =>
    have hc := ho.cells (g := gr) rfl 0 (.int .i64 (x 0)) rfl
    exact h.grown hg (x := x 0) (by simpa [Addr.add] using hc)
theorem heap_new (w : World) (o : Obj) : (w.alloc o).heap[w.heap.size]? = some o := by unfold World.alloc; simp

set_option maxHeartbeats 8000000 in
theorem l2Row_any (g : Nat) (x : Nat → Int) (w : World) (hx : ∀ j, j < 2 → w.cell? ⟨g, j, none⟩ = some (.int .i64 (x j))) (hb : ∀ j, j < 2 → (x j).natAbs ≤ 134217728) :
    Calls Try.prog 41 #[.slice (some ⟨g, 0, none⟩) 2 2, .bool false] w fun e w' => ∃ v, e = .returned v ∧ w'.ownsRow w.heap.size 59 3 v 2 (rowL x 2) ∧ Below w.heap.size w w' := by
  have hg : g < w.heap.size := World.block_lt_of_cell? w _ (hx 0 (by omega))
  have HX : Hid (∀ j, j < 2 → w.cell? ⟨g, j, none⟩ = some (.int .i64 (x j)) ∧ (x j).natAbs ≤ 134217728) := fun j hj => ⟨hx j hj, hb j hj⟩
  clear hx hb
  go_enter Try.func41, Try.ntmps41
  go_wp2_with fail
  refine (l1rInt_small 0 _ (by decide)).mono ?_
  rintro e w1 ⟨rfl, hb⟩
  have hsz : w.heap.size < w1.heap.size := by have := hb.size; simp at this; omega
  have HB : Hid (Below w.heap.size w w1) := (Joins.below_alloc1 w _).trans (hb.mono (by simp))
  have HO : Hid (w1.ownsRow w.heap.size 59 3 (.slice (some ⟨w.heap.size, 0, none⟩) 0 0) 0 []) := by
    refine ⟨rfl, .inr ⟨w.heap.size, 0, #[], rfl, Nat.le_refl _, ?_, Nat.le_refl _, by decide, rfl, rfl⟩⟩
    rw [hb.block _ (by simp)]
    exact heap_new w _
  clear hb
  go_wp2
  go_loopw [5, 7] (fun ov iv wr => ∃ (k : Nat) (gr cap : Nat) (p q : Int) (s : Option Addr) (l c : Nat), k ≤ 2 ∧ iv = .int .i64 k ∧ ov = .slice (some ⟨gr, 0, none⟩) k cap ∧ gr ≠ w1.heap.size ∧ wr.ownsRow w.heap.size 59 3 (.slice (some ⟨gr, 0, none⟩) k cap) k (rowL x k) ∧ SumAt wr w1.heap.size p q s l c ∧ RIs wr (.agg #[.int .i64 p, .int .i64 q, .slice s l c]) (dotS x x k) 1 ∧ Below w.heap.size w wr) (fun _ iv _ => 2 - (intOf iv).toNat)
  case atStart =>
    exact ⟨0, w.heap.size, 0, 0, 1, none, 0, 0, by omega, rfl, rfl, by omega, HO.out.alloc _, ⟨by go_simp, by go_simp, by go_simp, fun j => by go_simp, by simp⟩, by exact .inl ⟨⟨Nat.zero_le _, by decide⟩, rfl⟩, HB.out.trans ((Joins.below_alloc1 _ _).mono HB.out.size)⟩
  case round =>
    obtain ⟨k, gr, cap, p, q, s, l, c, hk, rfl, rfl, hgr, hO, hs, hr, hbel⟩ := hrel
    have HS : Hid (wr.ownsRow w.heap.size 59 3 (.slice (some ⟨gr, 0, none⟩) k cap) k (rowL x k) ∧ SumAt wr w1.heap.size p q s l c ∧ RIs wr (.agg #[.int .i64 p, .int .i64 q, .slice s l c]) (dotS x x k) 1 ∧ Below w.heap.size w wr) := ⟨hO, hs, hr, hbel⟩
    clear HB HO hO hs hr
    by_cases hlt : k < 2
    · have hcell : wr.cell? ⟨g, k, none⟩ = some (.int .i64 (x k)) := by rw [hbel.cell (p := ⟨g, k, none⟩) hg]; exact (HX.out k hlt).1
      have hgw : g < wr.heap.size := Nat.lt_of_lt_of_le hg hbel.size
      clear hbel
      go_wp2_with fail
      refine (l1rInt_small (x k) _ (Nat.le_trans (HX.out k hlt).2 (by decide))).mono ?_
      rintro e w6 ⟨rfl, hb6⟩
      have HB6 : Hid (Below wr.heap.size wr w6) := hb6
      clear hb6 hcell
      have hfit : Hid (((w6.alloc (.cells #[.int .i64 (x k), .int .i64 1, .slice none 0 0] 59)).alloc (.cells #[.int .i64 (x k), .int .i64 1, .slice none 0 0] 59)).ownsRow w.heap.size 59 3 (.slice (some ⟨gr, 0, none⟩) k cap) k (rowL x k)) := (own_below HS.out.1 HB6.out).alloc _ |>.alloc _
      go_wp2_with (refine append59L _ rfl (.tmp 22) (.tmp 24) rfl w.heap.size gr cap k (rowL x k) rfl (w6.heap.size + 1) 1 (x k) 1 rfl ?_ ?_ ?_ ?_ ?_)
      · exact hfit.out
      · exact ⟨by go_simp, by go_simp, by go_simp⟩
      · omega
      · have := HB6.out.size; have := HS.out.2.2.2.size; simp; omega
      intro g' cap' w7 hO7 hG7 hL7 hlt7
      have H7 : Hid (w7.ownsRow w.heap.size 59 3 (.slice (some ⟨g', 0, none⟩) (k + 1) cap') (k + 1) (rowL x (k + 1)) ∧ SumAt w7 w1.heap.size p q s l c ∧ RIs w7 (.agg #[.int .i64 p, .int .i64 q, .slice s l c]) (dotS x x k) 1 ∧ Below w.heap.size w w7 ∧ SumAt w7 w6.heap.size (x k) 1 none 0 0 ∧ g' ≠ w1.heap.size ∧ w1.heap.size < w6.heap.size) := by
        have h1 := HB6.out.size
        have h2 := HS.out.2.2.2.size
        have h3 := HS.out.2.1.sz
        have h4 := own_lt HS.out.1
        have hB2 := Joins.below_alloc2 w6 (.cells #[.int .i64 (x k), .int .i64 1, .slice none 0 0] 59) (.cells #[.int .i64 (x k), .int .i64 1, .slice none 0 0] 59)
        have hB3 := HB6.out.trans (hB2.mono h1)
        refine ⟨hO7, (HS.out.2.1.below hB3).grown hG7 (fun e => hgr e.symm), sum_grown (HS.out.2.2.1.below hB3) hlt hfit.out hG7, below_grown (HS.out.2.2.2.trans (hB3.mono h2)) hG7 h4.1 (by simp; omega), SumAt.grown ⟨by go_simp, by go_simp, by go_simp, fun j => by go_simp, by simp; omega⟩ hG7 (by omega), ?_, by omega⟩
        rcases hL7 with rfl | rfl
        · exact hgr
        · simp; omega
      clear hO7 hG7 hL7 hlt7 hfit HB6 HS hgr
      have HK : Hid ((x k).natAbs ≤ 134217728 ∧ (dotS x x k).natAbs ≤ 4611686018427387904 ∧ (x k * x k).natAbs ≤ 4611686018427387904) := by
        have hbd := (HX.out k hlt).2
        have h1 := dotS_le x x k (fun j hj => (HX.out j (by omega)).2) (fun j hj => (HX.out j (by omega)).2)
        have h2 := mul_le54 hbd hbd
        exact ⟨hbd, by omega, by omega⟩
      obtain ⟨k0, k1, k2, kf, ks⟩ := H7.out.2.1.below (Below.refl _ w7).drew
      obtain ⟨r0, r1, r2, _, rs⟩ := H7.out.2.2.2.2.1.below (Below.refl _ w7).drew
      clear HX hgw hg
      go_wp2_with fail
      go_region_with
        (first
          | (go_at_call 75; refine (l1rMul_small (x k) (x k) _ (Nat.le_trans HK.out.1 (by decide)) (Nat.le_trans HK.out.1 (by decide))).mono ?_; rintro e w8 ⟨p8, q8, s8, l8, c8, rfl, hr8, hb8⟩; have Q8 : Hid (RIs w8 (.agg #[.int .i64 p8, .int .i64 q8, .slice s8 l8 c8]) (x k * x k) 1 ∧ Below w7.heap.size w7 w8) := ⟨hr8, (Below.refl _ _).drew.trans (hb8.mono (Nat.le_refl _))⟩; clear hr8; obtain ⟨k0, k1, k2, kf, ks⟩ := H7.out.2.1.below Q8.out.2; clear r0 r1 r2 rs)
          | (go_at_call 77; refine (l1rAdd_any (dotS x x k) (x k * x k) _ _ _ (H7.out.2.2.1.below Q8.out.2) Q8.out.1 HK.out.2.1 HK.out.2.2).mono ?_; rintro e w9 ⟨p9, q9, s9, l9, c9, rfl, hr9, hb9⟩; have Q9 : Hid (RIs w9 (.agg #[.int .i64 p9, .int .i64 q9, .slice s9 l9 c9]) (dotS x x k + x k * x k) 1 ∧ Below w7.heap.size w7 w9) := ⟨hr9, Q8.out.2.trans (hb9.mono Q8.out.2.size)⟩; clear hr9; obtain ⟨k0, k1, k2, kf, ks⟩ := H7.out.2.1.below Q9.out.2))
      all_goals (
        have HF : Hid (RIs w9 (.agg #[.int .i64 p9, .int .i64 q9, .slice s9 l9 c9]) (dotS x x (k + 1)) 1 ∧ w9.ownsRow w.heap.size 59 3 (.slice (some ⟨g', 0, none⟩) (k + 1) cap') (k + 1) (rowL x (k + 1)) ∧ Below w.heap.size w w9 ∧ SumAt w9 w1.heap.size p q s l c) := ⟨Q9.out.1, own_below H7.out.1 Q9.out.2, H7.out.2.2.2.1.trans (Q9.out.2.mono H7.out.2.2.2.1.size), H7.out.2.1.below Q9.out.2⟩
        go_wp2
        go_roundw
        case rel => exact ⟨k + 1, g', cap', p9, q9, s9, l9, c9, by omega, by go_num, rfl, H7.out.2.2.2.2.2.1, own_same HF.out.2.1 (set3_other _ _ _ _ _ g' H7.out.2.2.2.2.2.1), HF.out.2.2.2.put _ _ _ _ _, HF.out.1.set3 _ _ k0 _ _ _, below_set3 HF.out.2.2.1 (by omega) _ _ _⟩
        case measure => simp [intOf]; omega)
    · have hk2 : k = 2 := by omega
      subst hk2
      clear hbel HX
      go_wp2
      go_ret
      exact ⟨_, rfl, HS.out.1, HS.out.2.2.2⟩
end Go.Proofs.Ytikepklkjbohmaa
