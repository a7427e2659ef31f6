import Derived.Test.YtoopipljedoeeaaLv
import Derived.Deep.RegionHeld3
namespace Go.Proofs.Ytoopipljedoeeaa
open Go.RowKit

theorem sgi_ne {n : Int} (h : n ≠ 0) : (sgi n != 0) = true := by
  unfold sgi; rw [bne_iff_ne]; split
  · omega
  · split <;> omega
theorem sgi_zero : sgi 0 = 0 := rfl
theorem S1.drew {M : Nat} {A0 : Array Value} {w' : World} (h : S1 M A0 w') : S1 M A0 w'.drew := h.call (Below.refl _ _).drew
theorem S1.set6 {M : Nat} {A0 : Array Value} {w' : World} (h : S1 M A0 w') {b : Nat} (hb : M ≠ b) {u0 u1 u2 u3 u4 u5 : Value} : S1 M A0 ((((((w'.setCell ⟨b, 0, none⟩ u0).setCell ⟨b, 1, none⟩ u1).setCell ⟨b, 2, none⟩ u2).setCell ⟨b, 3, none⟩ u3).setCell ⟨b, 4, none⟩ u4).setCell ⟨b, 5, none⟩ u5) :=
  ⟨fun j => by rw [cell_same ((set_other (set_other (set_other (set_other (set_other (set_other (fun g _ => rfl) 0 _) 1 _) 2 _) 3 _) 4 _) 5 _) M hb)]; exact h.1 j, by simpa using h.2⟩

set_option maxHeartbeats 1000000 in
theorem axes_0 (a b c d k l m n : Int) (w : World) (hk : k ≠ 0) :
    Calls Try.prog 37 #[.agg #[.int .i64 a, .int .i64 b, .pointer none, .int .i64 c, .int .i64 d, .pointer none, .int .i64 k, .int .i64 l, .pointer none, .int .i64 m, .int .i64 n, .pointer none]] w fun e w' => e = .returned (.tuple #[.int .i64 0, .int .i64 1, .int .i64 2]) ∧ Below w.heap.size w w' := by
  have hs := sgi_ne hk
  clear hk
  go_enter Try.func37, Try.ntmps37
  go_wp2_with fail
  refine (sign_any _ _ _).mono ?_
  rintro e w1 ⟨rfl, hb1⟩
  have HB : Hid _ := hb1
  clear hb1
  go_wp2
  go_ret3
  exact ⟨rfl, (Joins.below_alloc1 _ _).trans (HB.out.mono (by simp))⟩

set_option maxHeartbeats 1000000 in
theorem axes_1 (a b c d l m n : Int) (w : World) (hc : c ≠ 0) :
    Calls Try.prog 37 #[.agg #[.int .i64 a, .int .i64 b, .pointer none, .int .i64 c, .int .i64 d, .pointer none, .int .i64 0, .int .i64 l, .pointer none, .int .i64 m, .int .i64 n, .pointer none]] w fun e w' => e = .returned (.tuple #[.int .i64 0, .int .i64 2, .int .i64 1]) ∧ Below w.heap.size w w' := by
  have hs := sgi_ne hc
  clear hc
  go_enter Try.func37, Try.ntmps37
  go_wp2_with fail
  refine (sign_any _ _ _).mono ?_
  rintro e w1 ⟨rfl, hb1⟩
  rw [sgi_zero]
  obtain ⟨hc1, hf1⟩ := bcell hb1
  have HB1 : Hid _ := hb1
  clear hb1
  go_wp2_with fail
  refine (sign_any _ _ _).mono ?_
  rintro e w2 ⟨rfl, hb2⟩
  have HB : Hid (Below _ _ w2) := HB1.out.trans (hb2.mono HB1.out.size)
  clear hb2 HB1 hc1 hf1
  go_wp2
  go_ret3
  exact ⟨rfl, (Joins.below_alloc1 _ _).trans (HB.out.mono (by simp))⟩

set_option maxHeartbeats 1000000 in
theorem axes_2 (a b d l m n : Int) (w : World)  :
    Calls Try.prog 37 #[.agg #[.int .i64 a, .int .i64 b, .pointer none, .int .i64 0, .int .i64 d, .pointer none, .int .i64 0, .int .i64 l, .pointer none, .int .i64 m, .int .i64 n, .pointer none]] w fun e w' => e = .returned (.tuple #[.int .i64 1, .int .i64 2, .int .i64 0]) ∧ Below w.heap.size w w' := by
  go_enter Try.func37, Try.ntmps37
  go_wp2_with fail
  refine (sign_any _ _ _).mono ?_
  rintro e w1 ⟨rfl, hb1⟩
  rw [sgi_zero]
  obtain ⟨hc1, hf1⟩ := bcell hb1
  have HB1 : Hid _ := hb1
  clear hb1
  go_wp2_with fail
  refine (sign_any _ _ _).mono ?_
  rintro e w2 ⟨rfl, hb2⟩
  have HB : Hid (Below _ _ w2) := HB1.out.trans (hb2.mono HB1.out.size)
  clear hb2 HB1 hc1 hf1
  rw [sgi_zero]
  go_wp2
  go_ret3
  exact ⟨rfl, (Joins.below_alloc1 _ _).trans (HB.out.mono (by simp))⟩

set_option maxHeartbeats 1000000 in
theorem drop_0 (a b c d k l m n p q r s t u : Int) (w : World) (hk : k ≠ 0) :
    Calls Try.prog 25 #[.agg #[.int .i64 a, .int .i64 b, .pointer none, .int .i64 c, .int .i64 d, .pointer none, .int .i64 k, .int .i64 l, .pointer none, .int .i64 m, .int .i64 n, .pointer none], .agg #[.int .i64 p, .int .i64 q, .pointer none, .int .i64 r, .int .i64 s, .pointer none, .int .i64 t, .int .i64 u, .pointer none]] w fun e w' => e = .returned (.agg #[.int .i64 p, .int .i64 q, .pointer none, .int .i64 r, .int .i64 s, .pointer none]) ∧ Below w.heap.size w w' := by
  go_enter Try.func25, Try.ntmps25
  go_wp2_with fail
  refine (axes_0 _ _ _ _ _ _ _ _ _ hk).mono ?_
  rintro e w1 ⟨rfl, hb1⟩
  have hz1 : w.heap.size + 1 + 1 < w1.heap.size := by have := hb1.size; simp at this; omega
  have k0 : w1.cell? ⟨w.heap.size + 1 + 1, 0, none⟩ = some (.int .i64 0) := by rw [hb1.cell (p := ⟨w.heap.size + 1 + 1, 0, none⟩) (by simp)]; go_simp
  have k1 : w1.cell? ⟨w.heap.size + 1 + 1, 1, none⟩ = some (.int .i64 0) := by rw [hb1.cell (p := ⟨w.heap.size + 1 + 1, 1, none⟩) (by simp)]; go_simp
  have k2 : w1.cell? ⟨w.heap.size + 1 + 1, 2, none⟩ = some (.pointer none) := by rw [hb1.cell (p := ⟨w.heap.size + 1 + 1, 2, none⟩) (by simp)]; go_simp
  have k3 : w1.cell? ⟨w.heap.size + 1 + 1, 3, none⟩ = some (.int .i64 0) := by rw [hb1.cell (p := ⟨w.heap.size + 1 + 1, 3, none⟩) (by simp)]; go_simp
  have k4 : w1.cell? ⟨w.heap.size + 1 + 1, 4, none⟩ = some (.int .i64 0) := by rw [hb1.cell (p := ⟨w.heap.size + 1 + 1, 4, none⟩) (by simp)]; go_simp
  have k5 : w1.cell? ⟨w.heap.size + 1 + 1, 5, none⟩ = some (.pointer none) := by rw [hb1.cell (p := ⟨w.heap.size + 1 + 1, 5, none⟩) (by simp)]; go_simp
  have kf : ∀ j, w1.frozen? ⟨w.heap.size + 1 + 1, j, none⟩ = false := fun j => by rw [hb1.frozen (p := ⟨w.heap.size + 1 + 1, j, none⟩) (by simp)]; go_simp
  have HS : Hid (S1 (w.heap.size + 1) #[.int .i64 p, .int .i64 q, .pointer none, .int .i64 r, .int .i64 s, .pointer none, .int .i64 t, .int .i64 u, .pointer none] w1) := by
    refine ⟨fun j => ?_, by omega⟩
    rw [hb1.cell (p := ⟨w.heap.size + 1, j, none⟩) (by simp)]; go_simp
  have HW : Hid (Below w.heap.size w w1) := (Joins.below_alloc3 w _ _ _).trans (hb1.mono (by simp; omega))
  clear hb1
  go_wp2
  go_region_held3 (fun w' => S1 (w.heap.size + 1) #[.int .i64 p, .int .i64 q, .pointer none, .int .i64 r, .int .i64 s, .pointer none, .int .i64 t, .int .i64 u, .pointer none] w') (first | with_reducible exact S1.drew HS.out | with_reducible exact S1.drew (S1.set6 HS.out (by omega))) (fail)
  go_wp2
  exact bodyPost_ret (v := .agg #[.int .i64 p, .int .i64 q, .pointer none, .int .i64 r, .int .i64 s, .pointer none]) (by simp [results, Try.results25, go_sem, k0, k1, k2, k3, k4, k5]) rfl ⟨rfl, ((((((HW.out.setCell (p := ⟨w.heap.size + 1 + 1, 0, none⟩) (by simp; omega) _).setCell (p := ⟨w.heap.size + 1 + 1, 1, none⟩) (by simp; omega) _).setCell (p := ⟨w.heap.size + 1 + 1, 2, none⟩) (by simp; omega) _).setCell (p := ⟨w.heap.size + 1 + 1, 3, none⟩) (by simp; omega) _).setCell (p := ⟨w.heap.size + 1 + 1, 4, none⟩) (by simp; omega) _).setCell (p := ⟨w.heap.size + 1 + 1, 5, none⟩) (by simp; omega) _).drew⟩

set_option maxHeartbeats 1000000 in
theorem drop_1 (a b c d l m n p q r s t u : Int) (w : World) (hc : c ≠ 0) :
    Calls Try.prog 25 #[.agg #[.int .i64 a, .int .i64 b, .pointer none, .int .i64 c, .int .i64 d, .pointer none, .int .i64 0, .int .i64 l, .pointer none, .int .i64 m, .int .i64 n, .pointer none], .agg #[.int .i64 p, .int .i64 q, .pointer none, .int .i64 r, .int .i64 s, .pointer none, .int .i64 t, .int .i64 u, .pointer none]] w fun e w' => e = .returned (.agg #[.int .i64 p, .int .i64 q, .pointer none, .int .i64 t, .int .i64 u, .pointer none]) ∧ Below w.heap.size w w' := by
  go_enter Try.func25, Try.ntmps25
  go_wp2_with fail
  refine (axes_1 _ _ _ _ _ _ _ _ hc).mono ?_
  rintro e w1 ⟨rfl, hb1⟩
  have hz1 : w.heap.size + 1 + 1 < w1.heap.size := by have := hb1.size; simp at this; omega
  have k0 : w1.cell? ⟨w.heap.size + 1 + 1, 0, none⟩ = some (.int .i64 0) := by rw [hb1.cell (p := ⟨w.heap.size + 1 + 1, 0, none⟩) (by simp)]; go_simp
  have k1 : w1.cell? ⟨w.heap.size + 1 + 1, 1, none⟩ = some (.int .i64 0) := by rw [hb1.cell (p := ⟨w.heap.size + 1 + 1, 1, none⟩) (by simp)]; go_simp
  have k2 : w1.cell? ⟨w.heap.size + 1 + 1, 2, none⟩ = some (.pointer none) := by rw [hb1.cell (p := ⟨w.heap.size + 1 + 1, 2, none⟩) (by simp)]; go_simp
  have k3 : w1.cell? ⟨w.heap.size + 1 + 1, 3, none⟩ = some (.int .i64 0) := by rw [hb1.cell (p := ⟨w.heap.size + 1 + 1, 3, none⟩) (by simp)]; go_simp
  have k4 : w1.cell? ⟨w.heap.size + 1 + 1, 4, none⟩ = some (.int .i64 0) := by rw [hb1.cell (p := ⟨w.heap.size + 1 + 1, 4, none⟩) (by simp)]; go_simp
  have k5 : w1.cell? ⟨w.heap.size + 1 + 1, 5, none⟩ = some (.pointer none) := by rw [hb1.cell (p := ⟨w.heap.size + 1 + 1, 5, none⟩) (by simp)]; go_simp
  have kf : ∀ j, w1.frozen? ⟨w.heap.size + 1 + 1, j, none⟩ = false := fun j => by rw [hb1.frozen (p := ⟨w.heap.size + 1 + 1, j, none⟩) (by simp)]; go_simp
  have HS : Hid (S1 (w.heap.size + 1) #[.int .i64 p, .int .i64 q, .pointer none, .int .i64 r, .int .i64 s, .pointer none, .int .i64 t, .int .i64 u, .pointer none] w1) := by
    refine ⟨fun j => ?_, by omega⟩
    rw [hb1.cell (p := ⟨w.heap.size + 1, j, none⟩) (by simp)]; go_simp
  have HW : Hid (Below w.heap.size w w1) := (Joins.below_alloc3 w _ _ _).trans (hb1.mono (by simp; omega))
  clear hb1
  go_wp2
  go_region_held3 (fun w' => S1 (w.heap.size + 1) #[.int .i64 p, .int .i64 q, .pointer none, .int .i64 r, .int .i64 s, .pointer none, .int .i64 t, .int .i64 u, .pointer none] w') (first | with_reducible exact S1.drew HS.out | with_reducible exact S1.drew (S1.set6 HS.out (by omega))) (fail)
  go_wp2
  exact bodyPost_ret (v := .agg #[.int .i64 p, .int .i64 q, .pointer none, .int .i64 t, .int .i64 u, .pointer none]) (by simp [results, Try.results25, go_sem, k0, k1, k2, k3, k4, k5]) rfl ⟨rfl, ((((((HW.out.setCell (p := ⟨w.heap.size + 1 + 1, 0, none⟩) (by simp; omega) _).setCell (p := ⟨w.heap.size + 1 + 1, 1, none⟩) (by simp; omega) _).setCell (p := ⟨w.heap.size + 1 + 1, 2, none⟩) (by simp; omega) _).setCell (p := ⟨w.heap.size + 1 + 1, 3, none⟩) (by simp; omega) _).setCell (p := ⟨w.heap.size + 1 + 1, 4, none⟩) (by simp; omega) _).setCell (p := ⟨w.heap.size + 1 + 1, 5, none⟩) (by simp; omega) _).drew⟩

set_option maxHeartbeats 1000000 in
theorem drop_2 (a b d l m n p q r s t u : Int) (w : World)  :
    Calls Try.prog 25 #[.agg #[.int .i64 a, .int .i64 b, .pointer none, .int .i64 0, .int .i64 d, .pointer none, .int .i64 0, .int .i64 l, .pointer none, .int .i64 m, .int .i64 n, .pointer none], .agg #[.int .i64 p, .int .i64 q, .pointer none, .int .i64 r, .int .i64 s, .pointer none, .int .i64 t, .int .i64 u, .pointer none]] w fun e w' => e = .returned (.agg #[.int .i64 r, .int .i64 s, .pointer none, .int .i64 t, .int .i64 u, .pointer none]) ∧ Below w.heap.size w w' := by
  go_enter Try.func25, Try.ntmps25
  go_wp2_with fail
  refine (axes_2 _ _ _ _ _ _ _).mono ?_
  rintro e w1 ⟨rfl, hb1⟩
  have hz1 : w.heap.size + 1 + 1 < w1.heap.size := by have := hb1.size; simp at this; omega
  have k0 : w1.cell? ⟨w.heap.size + 1 + 1, 0, none⟩ = some (.int .i64 0) := by rw [hb1.cell (p := ⟨w.heap.size + 1 + 1, 0, none⟩) (by simp)]; go_simp
  have k1 : w1.cell? ⟨w.heap.size + 1 + 1, 1, none⟩ = some (.int .i64 0) := by rw [hb1.cell (p := ⟨w.heap.size + 1 + 1, 1, none⟩) (by simp)]; go_simp
  have k2 : w1.cell? ⟨w.heap.size + 1 + 1, 2, none⟩ = some (.pointer none) := by rw [hb1.cell (p := ⟨w.heap.size + 1 + 1, 2, none⟩) (by simp)]; go_simp
  have k3 : w1.cell? ⟨w.heap.size + 1 + 1, 3, none⟩ = some (.int .i64 0) := by rw [hb1.cell (p := ⟨w.heap.size + 1 + 1, 3, none⟩) (by simp)]; go_simp
  have k4 : w1.cell? ⟨w.heap.size + 1 + 1, 4, none⟩ = some (.int .i64 0) := by rw [hb1.cell (p := ⟨w.heap.size + 1 + 1, 4, none⟩) (by simp)]; go_simp
  have k5 : w1.cell? ⟨w.heap.size + 1 + 1, 5, none⟩ = some (.pointer none) := by rw [hb1.cell (p := ⟨w.heap.size + 1 + 1, 5, none⟩) (by simp)]; go_simp
  have kf : ∀ j, w1.frozen? ⟨w.heap.size + 1 + 1, j, none⟩ = false := fun j => by rw [hb1.frozen (p := ⟨w.heap.size + 1 + 1, j, none⟩) (by simp)]; go_simp
  have HS : Hid (S1 (w.heap.size + 1) #[.int .i64 p, .int .i64 q, .pointer none, .int .i64 r, .int .i64 s, .pointer none, .int .i64 t, .int .i64 u, .pointer none] w1) := by
    refine ⟨fun j => ?_, by omega⟩
    rw [hb1.cell (p := ⟨w.heap.size + 1, j, none⟩) (by simp)]; go_simp
  have HW : Hid (Below w.heap.size w w1) := (Joins.below_alloc3 w _ _ _).trans (hb1.mono (by simp; omega))
  clear hb1
  go_wp2
  go_region_held3 (fun w' => S1 (w.heap.size + 1) #[.int .i64 p, .int .i64 q, .pointer none, .int .i64 r, .int .i64 s, .pointer none, .int .i64 t, .int .i64 u, .pointer none] w') (first | with_reducible exact S1.drew HS.out | with_reducible exact S1.drew (S1.set6 HS.out (by omega))) (fail)
  go_wp2
  exact bodyPost_ret (v := .agg #[.int .i64 r, .int .i64 s, .pointer none, .int .i64 t, .int .i64 u, .pointer none]) (by simp [results, Try.results25, go_sem, k0, k1, k2, k3, k4, k5]) rfl ⟨rfl, ((((((HW.out.setCell (p := ⟨w.heap.size + 1 + 1, 0, none⟩) (by simp; omega) _).setCell (p := ⟨w.heap.size + 1 + 1, 1, none⟩) (by simp; omega) _).setCell (p := ⟨w.heap.size + 1 + 1, 2, none⟩) (by simp; omega) _).setCell (p := ⟨w.heap.size + 1 + 1, 3, none⟩) (by simp; omega) _).setCell (p := ⟨w.heap.size + 1 + 1, 4, none⟩) (by simp; omega) _).setCell (p := ⟨w.heap.size + 1 + 1, 5, none⟩) (by simp; omega) _).drew⟩
end Go.Proofs.Ytoopipljedoeeaa
