import Derived.Test.YtikepklkjbohmaaDot2
namespace Go.Proofs.Ytikepklkjbohmaa
open Go.RowKit
set_option maxHeartbeats 8000000 in
theorem l2Dot_any (g1 g2 : Nat) (x y : Nat → Int) (w : World) (h1 : ∀ j, j < 3 → w.cell? ⟨g1, j, none⟩ = some (.int .i64 (x j))) (h2 : ∀ j, j < 3 → w.cell? ⟨g2, j, none⟩ = some (.int .i64 (y j))) (hx : ∀ j, j < 3 → (x j).natAbs ≤ 134217728) (hy : ∀ j, j < 3 → (y j).natAbs ≤ 134217728) :
    Calls Try.prog 47 #[.slice (some ⟨g1, 0, none⟩) 3 3, .slice (some ⟨g2, 0, none⟩) 3 3] w fun e w' => ∃ p0 q0 s0 l0 c0, e = .returned (.agg #[.int .i64 p0, .int .i64 q0, .slice s0 l0 c0]) ∧ RIs w' (.agg #[.int .i64 p0, .int .i64 q0, .slice s0 l0 c0]) (dotS x y 3) 1 ∧ Below w.heap.size w w' := by
  have hg1 : g1 < w.heap.size := World.block_lt_of_cell? w _ (h1 0 (by omega))
  have hg2 : g2 < w.heap.size := World.block_lt_of_cell? w _ (h2 0 (by omega))
  have HX : Hid (∀ j, j < 3 → w.cell? ⟨g1, j, none⟩ = some (.int .i64 (x j)) ∧ w.cell? ⟨g2, j, none⟩ = some (.int .i64 (y j)) ∧ (x j).natAbs ≤ 134217728 ∧ (y j).natAbs ≤ 134217728) := fun j hj => ⟨h1 j hj, h2 j hj, hx j hj, hy j hj⟩
  clear h1 h2 hx hy
  go_enter Try.func47, Try.ntmps47
  go_wp2_with fail
  refine (l1rInt_small 0 _ (by decide)).mono ?_
  rintro e w1 ⟨rfl, hb⟩
  have hsz : w.heap.size < w1.heap.size := by have := hb.size; simp at this; omega
  have HB : Hid (Below w.heap.size w w1) := (Joins.below_alloc1 w _).trans (hb.mono (by simp))
  have HR : Hid (ResAt w1 w.heap.size) := by
    refine ResAt.below (w := w.alloc (.cells #[.int .i64 0, .int .i64 0, .slice none 0 0] 59)) ⟨by go_simp, by go_simp, by go_simp, fun j => by go_simp, by simp⟩ hb
  clear hb
  go_wp2
  go_loopw [6] (fun iv wr => ∃ (k : Nat) (p q : Int) (s : Option Addr) (l c : Nat), k ≤ 3 ∧ iv = .int .i64 k ∧ SumAt wr w1.heap.size p q s l c ∧ RIs wr (.agg #[.int .i64 p, .int .i64 q, .slice s l c]) (dotS x y k) 1 ∧ ResAt wr w.heap.size ∧ Below w.heap.size w wr) (fun iv _ => 3 - (intOf iv).toNat)
  case atStart =>
    exact ⟨0, 0, 1, none, 0, 0, by omega, rfl, ⟨by go_simp, by go_simp, by go_simp, fun j => by go_simp, by simp⟩, by exact .inl ⟨⟨Nat.zero_le _, by decide⟩, rfl⟩, HR.out.below (Joins.below_alloc1 _ _), HB.out.trans ((Joins.below_alloc1 _ _).mono HB.out.size)⟩
  case round =>
    obtain ⟨k, p, q, s, l, c, hk, rfl, hs, hr, hres, hbel⟩ := hrel
    have HS : Hid (SumAt wr w1.heap.size p q s l c ∧ RIs wr (.agg #[.int .i64 p, .int .i64 q, .slice s l c]) (dotS x y k) 1 ∧ ResAt wr w.heap.size ∧ Below w.heap.size w wr) := ⟨hs, hr, hres, hbel⟩
    clear HR HB
    by_cases hlt : k < 3
    · have hbd : (x k).natAbs ≤ 134217728 ∧ (y k).natAbs ≤ 134217728 := ⟨(HX.out k hlt).2.2.1, (HX.out k hlt).2.2.2⟩
      have hd : (dotS x y k).natAbs ≤ 4611686018427387904 := by
        have := dotS_le x y k (fun j hj => (HX.out j (by omega)).2.2.1) (fun j hj => (HX.out j (by omega)).2.2.2); omega
      have hm : (x k * y k).natAbs ≤ 4611686018427387904 := by
        have := mul_le54 hbd.1 hbd.2; omega
      have hS : S2c g1 g2 k (.int .i64 (x k)) (.int .i64 (y k)) wr := ⟨by rw [hbel.cell (p := ⟨g1, k, none⟩) hg1]; exact (HX.out k hlt).1, by rw [hbel.cell (p := ⟨g2, k, none⟩) hg2]; exact (HX.out k hlt).2.1, Nat.lt_of_lt_of_le hg1 hbel.size, Nat.lt_of_lt_of_le hg2 hbel.size⟩
      have HK : Hid ((x k).natAbs ≤ 134217728 ∧ (y k).natAbs ≤ 134217728 ∧ (dotS x y k).natAbs ≤ 4611686018427387904 ∧ (x k * y k).natAbs ≤ 4611686018427387904) := ⟨hbd.1, hbd.2, hd, hm⟩
      have HT : Hid (S2c g1 g2 k (.int .i64 (x k)) (.int .i64 (y k)) wr) := hS
      obtain ⟨k0, k1, k2, kf, ks⟩ := hs.below (Below.refl _ wr).drew
      obtain ⟨r1, r2, _, _⟩ := hS.drew
      clear hs hr hres hbel hbd hd hm HX hS
      go_wp2_with fail
      go_region_with
        (first
          | (go_at_call_of 74 (Value.int IntKind.i64 (x k)); refine (l1rInt_small (x k) _ (Nat.le_trans HK.out.1 (by decide))).mono ?_; rintro e w6 ⟨rfl, hb6⟩; have Q6 : Hid (Below wr.heap.size wr w6) := (Below.refl _ _).drew.trans (hb6.mono (Nat.le_refl _)); obtain ⟨k0, k1, k2, kf, ks⟩ := HS.out.1.below Q6.out; obtain ⟨r1, r2, _, _⟩ := HT.out.call Q6.out)
          | (go_at_call_of 74 (Value.int IntKind.i64 (y k)); refine (l1rInt_small (y k) _ (Nat.le_trans HK.out.2.1 (by decide))).mono ?_; rintro e w7 ⟨rfl, hb7⟩; have Q7 : Hid (Below wr.heap.size wr w7) := Q6.out.trans (hb7.mono Q6.out.size); obtain ⟨k0, k1, k2, kf, ks⟩ := HS.out.1.below Q7.out)
          | (go_at_call 75; refine (l1rMul_small (x k) (y k) _ (Nat.le_trans HK.out.1 (by decide)) (Nat.le_trans HK.out.2.1 (by decide))).mono ?_; rintro e w8 ⟨p8, q8, s8, l8, c8, rfl, hr8, hb8⟩; have Q8 : Hid (RIs w8 (.agg #[.int .i64 p8, .int .i64 q8, .slice s8 l8 c8]) (x k * y k) 1 ∧ Below wr.heap.size wr w8) := ⟨hr8, Q7.out.trans (hb8.mono Q7.out.size)⟩; clear hr8; obtain ⟨k0, k1, k2, kf, ks⟩ := HS.out.1.below Q8.out.2)
          | (go_at_call 77; refine (l1rAdd_any (dotS x y k) (x k * y k) _ _ _ (HS.out.2.1.below Q8.out.2) Q8.out.1 HK.out.2.2.1 HK.out.2.2.2).mono ?_; rintro e w9 ⟨p9, q9, s9, l9, c9, rfl, hr9, hb9⟩; have Q9 : Hid (RIs w9 (.agg #[.int .i64 p9, .int .i64 q9, .slice s9 l9 c9]) (dotS x y k + x k * y k) 1 ∧ Below wr.heap.size wr w9) := ⟨hr9, Q8.out.2.trans (hb9.mono Q8.out.2.size)⟩; clear hr9; obtain ⟨k0, k1, k2, kf, ks⟩ := HS.out.1.below Q9.out.2))
      all_goals (
        have HF : Hid (RIs w9 (.agg #[.int .i64 p9, .int .i64 q9, .slice s9 l9 c9]) (dotS x y (k + 1)) 1 ∧ ResAt w9 w.heap.size ∧ Below w.heap.size w w9 ∧ SumAt w9 w1.heap.size p q s l c) := ⟨Q9.out.1, HS.out.2.2.1.below Q9.out.2, HS.out.2.2.2.trans (Q9.out.2.mono HS.out.2.2.2.size), HS.out.1.below Q9.out.2⟩
        go_wp2
        go_roundw
        case rel => exact ⟨k + 1, p9, q9, s9, l9, c9, by omega, by go_num, HF.out.2.2.2.put _ _ _ _ _, HF.out.1.set3 _ _ k0 _ _ _, HF.out.2.1.set3 (by omega) _ _ _, below_set3 HF.out.2.2.1 (by omega) _ _ _⟩
        case measure => simp [intOf]; omega)
    · have hk3 : k = 3 := by omega
      subst hk3
      obtain ⟨k0, k1, k2, kf, ks⟩ := hs
      obtain ⟨j0, j1, j2, jf, js⟩ := hres
      clear hr hbel HX
      go_wp2
      exact bodyPost_ret (v := .agg #[.int .i64 p, .int .i64 q, .slice s l c]) (by simp [results, Try.results47, go_sem, j0, j1, j2]) rfl ⟨_, _, _, _, _, rfl, HS.out.2.1.set3 _ _ j0 _ _ _, below_set3 HS.out.2.2.2 (by omega) _ _ _⟩
end Go.Proofs.Ytikepklkjbohmaa
