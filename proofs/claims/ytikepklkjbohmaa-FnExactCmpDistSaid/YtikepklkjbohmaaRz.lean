import Derived.Test.YtikepklkjbohmaaRof
namespace Go.Proofs.Ytikepklkjbohmaa
open Go.RowKit

abbrev S1 (N : Nat) (A0 : Array Value) (w' : World) : Prop := (∀ j, w'.cell? ⟨N, j, none⟩ = A0[j]?) ∧ N < w'.heap.size
theorem S1.call {N : Nat} {A0 : Array Value} {w' w1 : World} (h : S1 N A0 w') (hb : Below w'.heap.size w' w1) : S1 N A0 w1 :=
  ⟨fun j => by rw [← h.1 j]; exact hb.cell (p := ⟨N, j, none⟩) h.2, Nat.lt_of_lt_of_le h.2 hb.size⟩
theorem S1.start3 {w : World} {A0 A1 A2 : Array Value} {t0 t1 t2 : TypeId} : S1 w.heap.size A0 (((w.alloc (.cells A0 t0)).alloc (.cells A1 t1)).alloc (.cells A2 t2)).drew := by
  refine ⟨fun j => ?_, ?_⟩
  · go_simp
  · show w.heap.size < (((w.alloc (.cells A0 t0)).alloc (.cells A1 t1)).alloc (.cells A2 t2)).heap.size
    simp; omega
theorem S1.set {N : Nat} {A0 : Array Value} {w' : World} (h : S1 N A0 w') {b : Nat} (hb : N ≠ b) (u0 u1 : Value) : S1 N A0 ((w'.setCell ⟨b, 0, none⟩ u0).setCell ⟨b, 1, none⟩ u1) :=
  ⟨fun j => by rw [cell_same (set2_other w' b u0 u1 N hb)]; exact h.1 j, by simpa using h.2⟩

theorem l1ZOf_open (x : Int) (w : World) (h1 : -9223372036854775808 ≤ x) (h2 : x ≤ 9223372036854775807) :
    Calls Try.prog 34 #[.int .i64 x] w fun e w' => ∃ a n c f, e = .returned (.agg #[.bool (decide (x < 0)), .slice a n c]) ∧ Mag w' a n c f x.natAbs ∧ Below w.heap.size w w' :=
  (l1ZOf_any x w h1 h2).mono fun e w' ⟨v, he, ⟨a, n, c, f, hv, hm⟩, hb⟩ => ⟨a, n, c, f, by rw [he, hv], hm, hb⟩

/-- Two results of two cells written into their places. -/
theorem res22 {w w2 : World} {a1 a2 : Option Addr} {n1 n2 c1 c2 : Nat} {f1 f2 : Nat → Nat} {m1 m2 : Nat} (h1 : Mag w2 a1 n1 c1 f1 m1) (h2 : Mag w2 a2 n2 c2 f2 m2) {u u' : Bool} (k0 : w2.cell? ⟨w.heap.size + 1, 0, none⟩ = some (.bool u)) (k2 : w2.cell? ⟨w.heap.size + 1 + 1, 0, none⟩ = some (.bool u')) (hb : Below w.heap.size w w2) (x0 x1 x2 x3 : Value) :
    Mag ((((w2.setCell ⟨w.heap.size + 1, 0, none⟩ x0).setCell ⟨w.heap.size + 1, 1, none⟩ x1).setCell ⟨w.heap.size + 1 + 1, 0, none⟩ x2).setCell ⟨w.heap.size + 1 + 1, 1, none⟩ x3) a1 n1 c1 f1 m1 ∧
    Mag ((((w2.setCell ⟨w.heap.size + 1, 0, none⟩ x0).setCell ⟨w.heap.size + 1, 1, none⟩ x1).setCell ⟨w.heap.size + 1 + 1, 0, none⟩ x2).setCell ⟨w.heap.size + 1 + 1, 1, none⟩ x3) a2 n2 c2 f2 m2 ∧
    Below w.heap.size w ((((w2.setCell ⟨w.heap.size + 1, 0, none⟩ x0).setCell ⟨w.heap.size + 1, 1, none⟩ x1).setCell ⟨w.heap.size + 1 + 1, 0, none⟩ x2).setCell ⟨w.heap.size + 1 + 1, 1, none⟩ x3) := by
  have k2' : ((w2.setCell ⟨w.heap.size + 1, 0, none⟩ x0).setCell ⟨w.heap.size + 1, 1, none⟩ x1).cell? ⟨w.heap.size + 1 + 1, 0, none⟩ = some (.bool u') := by
    rw [cell_same (set2_other w2 (w.heap.size + 1) x0 x1 (w.heap.size + 1 + 1) (by omega))]; exact k2
  have p1 := res2 h1 k0 (notG_bool _) hb (by omega) x0 x1
  have p2 := res2 h2 k0 (notG_bool _) hb (by omega) x0 x1
  have q1 := res2 p1.1 k2' (notG_bool _) p1.2 (by omega) x2 x3
  have q2 := res2 p2.1 k2' (notG_bool _) p1.2 (by omega) x2 x3
  exact ⟨q1.1, q2.1, q1.2⟩

set_option maxHeartbeats 1000000 in
theorem l1rZ_small (P : Int) (Q : Nat) (w : World) (h : smallR P Q) :
    Calls Try.prog 65 #[.agg #[.int .i64 P, .int .i64 Q, .slice none 0 0]] w fun e w' => ∃ v1 v2, e = .returned (.tuple #[v1, v2]) ∧ ZIs w' v1 P ∧ ZIs w' v2 Q ∧ Below w.heap.size w w' := by
  obtain ⟨h1, h2⟩ := h
  have hb3 := Joins.below_alloc3 w (.cells #[.int .i64 P, .int .i64 Q, .slice none 0 0] 59) (.cells #[.bool false, .slice none 0 0] 63) (.cells #[.bool false, .slice none 0 0] 63)
  have HB3 : Hid _ := hb3
  clear hb3
  go_enter Try.func65, Try.ntmps65
  go_wp2_with fail
  go_region_held3 (fun w' => S1 w.heap.size #[.int .i64 P, .int .i64 Q, .slice none 0 0] w') (first | with_reducible exact S1.start3 | with_reducible exact S1.call (by assumption) (by assumption) | with_reducible exact S1.set (by assumption) (by omega) _ _)
    (first
      | (go_at_call_of 34 (Value.int IntKind.i64 P); refine (l1ZOf_open _ _ (by omega) (by omega)).mono ?_; rintro e w1 ⟨a1, n1, c1, f1, rfl, hm1, hb1⟩)
      | (go_at_call 34; refine (l1ZOf_open _ _ (by omega) (by omega)).mono ?_; rintro e w2 ⟨a2, n2, c2, f2, rfl, hm2, hb2⟩; have hb12 := hb1.trans (hb2.mono hb1.size); have hz2 : w.heap.size + 1 + 1 < w2.heap.size := (by have := hb12.size; simp at this; omega); have k0 : w2.cell? ⟨w.heap.size + 1, 0, none⟩ = some (.bool false) := (by rw [hb12.cell (p := ⟨w.heap.size + 1, 0, none⟩) (by simp)]; go_simp); have k1 : w2.cell? ⟨w.heap.size + 1, 1, none⟩ = some (.slice none 0 0) := (by rw [hb12.cell (p := ⟨w.heap.size + 1, 1, none⟩) (by simp)]; go_simp); have k2 : w2.cell? ⟨w.heap.size + 1 + 1, 0, none⟩ = some (.bool false) := (by rw [hb12.cell (p := ⟨w.heap.size + 1 + 1, 0, none⟩) (by simp)]; go_simp); have k3 : w2.cell? ⟨w.heap.size + 1 + 1, 1, none⟩ = some (.slice none 0 0) := (by rw [hb12.cell (p := ⟨w.heap.size + 1 + 1, 1, none⟩) (by simp)]; go_simp); have kf : ∀ j, w2.frozen? ⟨w.heap.size + 1, j, none⟩ = false := fun j => (by rw [hb12.frozen (p := ⟨w.heap.size + 1, j, none⟩) (by simp)]; go_simp); have kg : ∀ j, w2.frozen? ⟨w.heap.size + 1 + 1, j, none⟩ = false := fun j => (by rw [hb12.frozen (p := ⟨w.heap.size + 1 + 1, j, none⟩) (by simp)]; go_simp)))
  have HM : Hid _ := res22 (hm1.below hb2) hm2 k0 k2 (HB3.out.trans ((Below.refl _ _).drew.trans (hb12.mono (by simp; omega))))
  clear hm1 hm2 hb1 hb2 hb12
  go_wp2
  refine bodyPost_ret (v := .tuple #[.agg #[.bool (decide (P < 0)), .slice a1 n1 c1], .agg #[.bool (decide ((Q : Int) < 0)), .slice a2 n2 c2]]) (by simp [results, Try.results65, go_sem, k0, k1, k2, k3]) rfl ⟨_, _, rfl, ⟨_, _, _, f1, rfl, (HM.out _ _ _ _).1⟩, ⟨_, _, _, f2, rfl, (HM.out _ _ _ _).2.1⟩, (HM.out _ _ _ _).2.2⟩

abbrev S2z (N g : Nat) (A0 A1 : Array Value) (w' : World) : Prop := S1 N A0 w' ∧ S1 g A1 w'

set_option maxHeartbeats 1000000 in
theorem l1rZ_big (P : Int) (Q : Nat) (g : Nat) (a b : Option Addr) (n m c d : Nat) (f h : Nat → Nat) (w : World) (hc : ∀ j, w.cell? ⟨g, j, none⟩ = #[Value.bool (decide (P < 0)), .slice a n c, .bool false, .slice b m d][j]?) (h1 : Mag w a n c f P.natAbs) (h2 : Mag w b m d h Q) :
    Calls Try.prog 65 #[.agg #[.int .i64 0, .int .i64 0, .slice (some ⟨g, 0, none⟩) 2 2]] w fun e w' => ∃ v1 v2, e = .returned (.tuple #[v1, v2]) ∧ ZIs w' v1 P ∧ ZIs w' v2 Q ∧ Below w.heap.size w w' := by
  have hg : g < w.heap.size := World.block_lt_of_cell? w ⟨g, 0, none⟩ (u := .bool (decide (P < 0))) (hc 0)
  have HS : Hid (∀ o1 o2 o3, S1 g #[Value.bool (decide (P < 0)), .slice a n c, .bool false, .slice b m d] (((w.alloc o1).alloc o2).alloc o3).drew) := fun o1 o2 o3 =>
    ⟨fun j => by rw [((Joins.below_alloc3 w o1 o2 o3).trans (Below.refl _ _).drew).cell (p := ⟨g, j, none⟩) hg]; exact hc j, by show g < (((w.alloc _).alloc _).alloc _).heap.size; simp; omega⟩
  have HM : Hid (∀ o1 o2 o3, Mag (((w.alloc o1).alloc o2).alloc o3).drew a n c f P.natAbs ∧ Mag (((w.alloc o1).alloc o2).alloc o3).drew b m d h Q ∧ Below w.heap.size w (((w.alloc o1).alloc o2).alloc o3).drew) := fun o1 o2 o3 =>
    ⟨h1.below ((Joins.below_alloc3 w o1 o2 o3).trans (Below.refl _ _).drew), h2.below ((Joins.below_alloc3 w o1 o2 o3).trans (Below.refl _ _).drew), (Joins.below_alloc3 w o1 o2 o3).trans (Below.refl _ _).drew⟩
  clear hc h1 h2
  go_enter Try.func65, Try.ntmps65
  go_wp2_with fail
  go_region_held3 (fun w' => S2z w.heap.size g #[.int .i64 0, .int .i64 0, .slice (some ⟨g, 0, none⟩) 2 2] #[Value.bool (decide (P < 0)), .slice a n c, .bool false, .slice b m d] w') (with_reducible exact ⟨S1.start3, HS.out _ _ _⟩) (fail)
  go_wp2
  exact bodyPost_ret (v := .tuple #[.agg #[.bool (decide (P < 0)), .slice a n c], .agg #[.bool false, .slice b m d]]) (by simp [results, Try.results65, go_sem]) rfl ⟨_, _, rfl, ⟨_, _, _, f, rfl, (HM.out _ _ _).1⟩, ⟨_, _, _, h, by rw [show decide ((Q : Int) < 0) = false by simp], (HM.out _ _ _).2.1⟩, (HM.out _ _ _).2.2⟩

theorem l1rZ_any (P : Int) (Q : Nat) (v : Value) (w : World) (h : RIs w v P Q) :
    Calls Try.prog 65 #[v] w fun e w' => ∃ v1 v2, e = .returned (.tuple #[v1, v2]) ∧ ZIs w' v1 P ∧ ZIs w' v2 Q ∧ Below w.heap.size w w' := by
  rcases h with ⟨hs, rfl⟩ | ⟨_, g, a, n, c, f, b, m, d, k, rfl, hc, h1, h2⟩
  · exact l1rZ_small P Q w hs
  · exact l1rZ_big P Q g a b n m c d f k w hc h1 h2
end Go.Proofs.Ytikepklkjbohmaa
