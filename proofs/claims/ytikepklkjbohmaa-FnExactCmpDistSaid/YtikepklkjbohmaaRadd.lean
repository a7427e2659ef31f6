import Derived.Test.YtikepklkjbohmaaRz
namespace Go.Proofs.Ytikepklkjbohmaa
open Go.RowKit

theorem l1rZ_open (P : Int) (v : Value) (w : World) (h : RIs w v P 1) :
    Calls Try.prog 65 #[v] w fun e w' => ∃ a1 n1 c1 f1 a2 n2 c2 f2, e = .returned (.tuple #[.agg #[.bool (decide (P < 0)), .slice a1 n1 c1], .agg #[.bool false, .slice a2 n2 c2]]) ∧ Mag w' a1 n1 c1 f1 P.natAbs ∧ Mag w' a2 n2 c2 f2 1 ∧ Below w.heap.size w w' :=
  (l1rZ_any P 1 v w h).mono fun e w' ⟨v1, v2, he, ⟨a1, n1, c1, f1, e1, h1⟩, ⟨a2, n2, c2, f2, e2, h2⟩, hb⟩ =>
    ⟨a1, n1, c1, f1, a2, n2, c2, f2, by rw [he, e1, e2]; rfl, h1, h2, hb⟩
theorem l1rBig_open (x : Int) (v u : Value) (w : World) (hx : ZIs w v x) (hy : ZIs w u 1) :
    Calls Try.prog 33 #[v, u] w fun e w' => ∃ p0 q0 s0 l0 c0, e = .returned (.agg #[.int .i64 p0, .int .i64 q0, .slice s0 l0 c0]) ∧ RIs w' (.agg #[.int .i64 p0, .int .i64 q0, .slice s0 l0 c0]) x 1 ∧ Below w.heap.size w w' :=
  (l1rBig_one x v u w hx hy).mono fun e w' ⟨r, he, hr, hb⟩ => by
    obtain ⟨p0, q0, s0, l0, c0, hv⟩ := hr.agg
    subst hv
    exact ⟨p0, q0, s0, l0, c0, he, hr, hb⟩
theorem l1rOf_open (x : Int) (w : World) (h1 : -9223372036854775808 < x) (h2 : x ≤ 9223372036854775807) :
    Calls Try.prog 86 #[.int .i64 x, .int .i64 1] w fun e w' => ∃ p0 q0 s0 l0 c0, e = .returned (.agg #[.int .i64 p0, .int .i64 q0, .slice s0 l0 c0]) ∧ RIs w' (.agg #[.int .i64 p0, .int .i64 q0, .slice s0 l0 c0]) x 1 ∧ Below w.heap.size w w' :=
  (l1rOf_one x w h1 h2).mono fun e w' ⟨r, he, hr, hb⟩ => by
    obtain ⟨p0, q0, s0, l0, c0, hv⟩ := hr.agg
    subst hv
    exact ⟨p0, q0, s0, l0, c0, he, hr, hb⟩
theorem l1ZAdd_any (x y : Int) (v u : Value) (w : World) (hx : ZIs w v x) (hy : ZIs w u y) (hxs : x.natAbs < 18446744073709551616) (hys : y.natAbs < 18446744073709551616) :
    Calls Try.prog 87 #[v, u] w fun e w' => ∃ r, e = .returned r ∧ ZIs w' r (x + y) ∧ Below w.heap.size w w' := by
  obtain ⟨a, n, c, f, rfl, ha⟩ := hx
  obtain ⟨b, m, d, g, rfl, hb⟩ := hy
  exact l1ZAdd_core x y a b n m c d f g w ha hb (by have := ha.len2 hxs; omega) (by have := hb.len2 hys; omega)

/-- What is known of the place of a result. -/
structure ResAt (w : World) (b : Nat) : Prop where
  c0 : w.cell? ⟨b, 0, none⟩ = some (.int .i64 0)
  c1 : w.cell? ⟨b, 1, none⟩ = some (.int .i64 0)
  c2 : w.cell? ⟨b, 2, none⟩ = some (.slice none 0 0)
  fz : ∀ j, w.frozen? ⟨b, j, none⟩ = false
  sz : b < w.heap.size
theorem ResAt.below {w w' : World} {b : Nat} (h : ResAt w b) (hb : Below w.heap.size w w') : ResAt w' b :=
  ⟨by rw [hb.cell (p := ⟨b, 0, none⟩) h.sz]; exact h.c0, by rw [hb.cell (p := ⟨b, 1, none⟩) h.sz]; exact h.c1, by rw [hb.cell (p := ⟨b, 2, none⟩) h.sz]; exact h.c2, fun j => by rw [hb.frozen (p := ⟨b, j, none⟩) h.sz]; exact h.fz j, Nat.lt_of_lt_of_le h.sz hb.size⟩
theorem ResAt.new3 (w : World) (o1 o2 : Obj) : ResAt (((w.alloc o1).alloc o2).alloc (.cells #[.int .i64 0, .int .i64 0, .slice none 0 0] 59)) (w.heap.size + 1 + 1) :=
  ⟨by go_simp, by go_simp, by go_simp, fun j => by go_simp, by simp⟩

set_option maxHeartbeats 1000000 in
theorem l1rMul_small (x y : Int) (w : World) (hx : x.natAbs ≤ 2147483647) (hy : y.natAbs ≤ 2147483647) :
    Calls Try.prog 75 #[.agg #[.int .i64 x, .int .i64 1, .slice none 0 0], .agg #[.int .i64 y, .int .i64 1, .slice none 0 0]] w fun e w' => ∃ p0 q0 s0 l0 c0, e = .returned (.agg #[.int .i64 p0, .int .i64 q0, .slice s0 l0 c0]) ∧ RIs w' (.agg #[.int .i64 p0, .int .i64 q0, .slice s0 l0 c0]) (x * y) 1 ∧ Below w.heap.size w w' := by
  have hp : (x * y).natAbs ≤ 4611686014132420609 := by rw [Int.natAbs_mul]; have := Nat.mul_le_mul hx hy; omega
  have hp1 : -4611686014132420609 ≤ x * y := by omega
  have hp2 : x * y ≤ 4611686014132420609 := by omega
  have HR := ResAt.new3 w (.cells #[.int .i64 x, .int .i64 1, .slice none 0 0] 59) (.cells #[.int .i64 y, .int .i64 1, .slice none 0 0] 59)
  have HB3 := Joins.below_alloc3 w (.cells #[.int .i64 x, .int .i64 1, .slice none 0 0] 59) (.cells #[.int .i64 y, .int .i64 1, .slice none 0 0] 59) (.cells #[.int .i64 0, .int .i64 0, .slice none 0 0] 59)
  have HH : Hid (_ ∧ _) := ⟨HR, HB3⟩
  clear HR HB3 hp
  go_enter Try.func75, Try.ntmps75
  go_wp2_with fail
  refine (l1rOf_open _ _ (by omega) (by omega)).mono ?_
  rintro e w1 ⟨p0, q0, s0, l0, c0, rfl, hr, hb⟩
  obtain ⟨k0, k1, k2, kf, ks⟩ := HH.out.1.below hb
  have HF : Hid (RIs w1 (.agg #[.int .i64 p0, .int .i64 q0, .slice s0 l0 c0]) (x * y) 1 ∧ Below w.heap.size w w1) := ⟨hr, HH.out.2.trans (hb.mono HH.out.2.size)⟩
  clear hr hb
  go_wp2
  exact bodyPost_ret (v := .agg #[.int .i64 p0, .int .i64 q0, .slice s0 l0 c0]) (by simp [results, Try.results75, go_sem, k0, k1, k2]) rfl ⟨_, _, _, _, _, rfl, HF.out.1.set3 _ _ k0 _ _ _, below_set3 HF.out.2 (by omega) _ _ _⟩

set_option maxHeartbeats 1000000 in
theorem l1rAdd_small (x y : Int) (w : World) (hx : x.natAbs ≤ 2147483647) (hy : y.natAbs ≤ 2147483647) :
    Calls Try.prog 77 #[.agg #[.int .i64 x, .int .i64 1, .slice none 0 0], .agg #[.int .i64 y, .int .i64 1, .slice none 0 0]] w fun e w' => ∃ p0 q0 s0 l0 c0, e = .returned (.agg #[.int .i64 p0, .int .i64 q0, .slice s0 l0 c0]) ∧ RIs w' (.agg #[.int .i64 p0, .int .i64 q0, .slice s0 l0 c0]) (x + y) 1 ∧ Below w.heap.size w w' := by
  have hx1 : -2147483647 ≤ x ∧ x ≤ 2147483647 := by omega
  have hy1 : -2147483647 ≤ y ∧ y ≤ 2147483647 := by omega
  have HR := ResAt.new3 w (.cells #[.int .i64 x, .int .i64 1, .slice none 0 0] 59) (.cells #[.int .i64 y, .int .i64 1, .slice none 0 0] 59)
  have HB3 := Joins.below_alloc3 w (.cells #[.int .i64 x, .int .i64 1, .slice none 0 0] 59) (.cells #[.int .i64 y, .int .i64 1, .slice none 0 0] 59) (.cells #[.int .i64 0, .int .i64 0, .slice none 0 0] 59)
  have HH : Hid (_ ∧ _) := ⟨HR, HB3⟩
  clear HR HB3
  go_enter Try.func77, Try.ntmps77
  go_wp2_with fail
  refine (l1rOf_open _ _ (by omega) (by omega)).mono ?_
  rintro e w1 ⟨p0, q0, s0, l0, c0, rfl, hr, hb⟩
  obtain ⟨k0, k1, k2, kf, ks⟩ := HH.out.1.below hb
  have HF : Hid (RIs w1 (.agg #[.int .i64 p0, .int .i64 q0, .slice s0 l0 c0]) (x + y) 1 ∧ Below w.heap.size w w1) := ⟨hr, HH.out.2.trans (hb.mono HH.out.2.size)⟩
  clear hr hb
  go_wp2
  exact bodyPost_ret (v := .agg #[.int .i64 p0, .int .i64 q0, .slice s0 l0 c0]) (by simp [results, Try.results77, go_sem, k0, k1, k2]) rfl ⟨_, _, _, _, _, rfl, HF.out.1.set3 _ _ k0 _ _ _, below_set3 HF.out.2 (by omega) _ _ _⟩
end Go.Proofs.Ytikepklkjbohmaa
