import Derived.Test.YtikepklkjbohmaaRq
namespace Go.Proofs.Ytikepklkjbohmaa
open Go.RowKit

set_option maxHeartbeats 1000000 in
theorem l1rQ_big (P : Int) (Q : Nat) (v : Value) (g : Nat) (w : World) (h : RIs w v P Q) (hv : v = .agg #[.int .i64 0, .int .i64 0, .slice (some ⟨g, 0, none⟩) 2 2]) :
    Calls Try.prog 32 #[v] w fun e w' => e = .returned (qres P Q) ∧ Below w.heap.size w w' := by
  subst hv
  have HA : Hid (∀ o1 o2, RIs ((w.alloc o1).alloc o2) (.agg #[.int .i64 0, .int .i64 0, .slice (some ⟨g, 0, none⟩) 2 2]) P Q ∧ Below w.heap.size w ((w.alloc o1).alloc o2)) := fun o1 o2 => ⟨h.below (Joins.below_alloc2 w o1 o2), Joins.below_alloc2 w o1 o2⟩
  have HZ : Hid (∀ o1, At ((w.alloc o1).alloc (.cells #[.int .i64 0, .int .i64 0] 25)) (w.heap.size + 1) #[.int .i64 0, .int .i64 0]) := fun o1 => ⟨fun j => by go_simp, fun j => by go_simp, by simp⟩
  clear h
  go_enter Try.func32, Try.ntmps32
  go_wp2_with fail
  refine (l1rZ_any P Q _ _ (HA.out _ _).1).mono ?_
  rintro e w1 ⟨v1, v2, rfl, ⟨a1, n1, c1, f1, rfl, hm1⟩, ⟨a2, n2, c2, f2, rfl, hm2⟩, hb1⟩
  have H1 : Hid (Mag w1 a1 n1 c1 f1 P.natAbs ∧ Mag w1 a2 n2 c2 f2 Q ∧ Below w.heap.size w w1 ∧ At w1 (w.heap.size + 1) #[.int .i64 0, .int .i64 0]) := ⟨hm1, by simpa using hm2, (HA.out _ _).2.trans (hb1.mono (by simp; omega)), (HZ.out _).below hb1⟩
  clear hm1 hm2 hb1 HA HZ
  go_wp2_with fail
  have hW := Joins.below_alloc2 w1 (.cells #[.bool (decide (P < 0)), .slice a1 n1 c1] 63) (.cells #[.bool (decide ((Q : Int) < 0)), .slice a2 n2 c2] 63)
  have H2 : Hid (Mag ((w1.alloc (.cells #[.bool (decide (P < 0)), .slice a1 n1 c1] 63)).alloc (.cells #[.bool (decide ((Q : Int) < 0)), .slice a2 n2 c2] 63)) a1 n1 c1 f1 P.natAbs ∧ Mag ((w1.alloc (.cells #[.bool (decide (P < 0)), .slice a1 n1 c1] 63)).alloc (.cells #[.bool (decide ((Q : Int) < 0)), .slice a2 n2 c2] 63)) a2 n2 c2 f2 Q ∧ Below w.heap.size w ((w1.alloc (.cells #[.bool (decide (P < 0)), .slice a1 n1 c1] 63)).alloc (.cells #[.bool (decide ((Q : Int) < 0)), .slice a2 n2 c2] 63)) ∧ At ((w1.alloc (.cells #[.bool (decide (P < 0)), .slice a1 n1 c1] 63)).alloc (.cells #[.bool (decide ((Q : Int) < 0)), .slice a2 n2 c2] 63)) (w.heap.size + 1) #[.int .i64 0, .int .i64 0] ∧ At ((w1.alloc (.cells #[.bool (decide (P < 0)), .slice a1 n1 c1] 63)).alloc (.cells #[.bool (decide ((Q : Int) < 0)), .slice a2 n2 c2] 63)) (w1.heap.size + 1) #[.bool (decide ((Q : Int) < 0)), .slice a2 n2 c2]) :=
    ⟨H1.out.1.below hW, H1.out.2.1.below hW, H1.out.2.2.1.trans (hW.mono H1.out.2.2.1.size), H1.out.2.2.2.below hW, ⟨fun j => by go_simp, fun j => by go_simp, by simp⟩⟩
  clear hW H1
  refine (l1ZInt_any _ _ _ _ f1 P.natAbs 1000000000000000000 _ H2.out.1 (by omega)).mono ?_
  rintro e w2 ⟨rfl, hb2⟩
  have H3 : Hid (Mag w2 a2 n2 c2 f2 Q ∧ Below w.heap.size w w2 ∧ At w2 (w.heap.size + 1) #[.int .i64 0, .int .i64 0] ∧ At w2 (w1.heap.size + 1) #[.bool (decide ((Q : Int) < 0)), .slice a2 n2 c2]) :=
    ⟨H2.out.2.1.below hb2, H2.out.2.2.1.trans (hb2.mono H2.out.2.2.1.size), H2.out.2.2.2.1.below hb2, H2.out.2.2.2.2.below hb2⟩
  clear hb2 H2
  obtain ⟨q, qf, qs⟩ := H3.out.2.2.2
  go_wp2_with fail
  refine (l1ZInt_any _ _ _ _ f2 Q 1000000000000000000 _ H3.out.1 (by omega)).mono ?_
  rintro e w3 ⟨rfl, hb3⟩
  have H4 : Hid (Below w.heap.size w w3 ∧ At w3 (w.heap.size + 1) #[.int .i64 0, .int .i64 0]) := ⟨H3.out.2.1.trans (hb3.mono H3.out.2.1.size), H3.out.2.2.1.below hb3⟩
  clear hb3 H3 q qf qs
  obtain ⟨k, kf, ks⟩ := H4.out.2
  have k0 := k 0
  have k1 := k 1
  by_cases h1 : P.natAbs ≤ 1000000000000000000
  · have e1 : zok P.natAbs 1000000000000000000 = true := by unfold zok; simpa using h1
    by_cases h2 : Q ≤ 1000000000000000000
    · have e2 : zok Q 1000000000000000000 = true := by unfold zok; simpa using h2
      have HR : Hid (.tuple #[.agg #[.int .i64 (zi (decide (P < 0)) P.natAbs 1000000000000000000), .int .i64 (zi (decide ((Q : Int) < 0)) Q 1000000000000000000)], .bool true] = qres P Q) := by
        unfold Hid qres
        rw [show qfit P Q = true from by unfold qfit; simp [h1, h2], zi_of P _ h1, show zi (decide ((Q : Int) < 0)) Q 1000000000000000000 = (Q : Int) from by
          rw [show decide ((Q : Int) < 0) = false from by simp]; unfold zi; rw [if_pos h2]; rfl]
        rfl
      clear h1 h2
      go_wp2
      exact bodyPost_ret (v := .tuple #[.agg #[.int .i64 (zi (decide (P < 0)) P.natAbs 1000000000000000000), .int .i64 (zi (decide ((Q : Int) < 0)) Q 1000000000000000000)], .bool true]) (by simp [results, Try.results32, go_sem, k0, k1]) rfl ⟨by rw [HR.out], below_set2 H4.out.1 (by omega) _ _⟩
    · have e2 : zok Q 1000000000000000000 = false := by unfold zok; simpa using h2
      have HR : Hid (.tuple #[.agg #[.int .i64 0, .int .i64 0], .bool false] = qres P Q) := by
        unfold Hid qres
        rw [show qfit P Q = false from by unfold qfit; simp; omega]
        rfl
      clear h1 h2
      go_wp2
      exact bodyPost_ret (v := .tuple #[.agg #[.int .i64 0, .int .i64 0], .bool false]) (by simp [results, Try.results32, go_sem, k0, k1]) rfl ⟨by rw [HR.out], below_set2 H4.out.1 (by omega) _ _⟩
  · have e1 : zok P.natAbs 1000000000000000000 = false := by unfold zok; simpa using h1
    have HR : Hid (.tuple #[.agg #[.int .i64 0, .int .i64 0], .bool false] = qres P Q) := by
      unfold Hid qres
      rw [show qfit P Q = false from by unfold qfit; simp; omega]
      rfl
    clear h1
    go_wp2
    exact bodyPost_ret (v := .tuple #[.agg #[.int .i64 0, .int .i64 0], .bool false]) (by simp [results, Try.results32, go_sem, k0, k1]) rfl ⟨by rw [HR.out], below_set2 H4.out.1 (by omega) _ _⟩

theorem l1rQ_any (P : Int) (Q : Nat) (v : Value) (w : World) (h : RIs w v P Q) (hQ : 0 < Q) (hg : Nat.gcd P.natAbs Q = 1) :
    Calls Try.prog 32 #[v] w fun e w' => e = .returned (qres P Q) ∧ Below w.heap.size w w' := by
  have h' := h
  rcases h with ⟨hs, rfl⟩ | ⟨_, g, a, n, c, f, b, m, d, k, rfl, _⟩
  · exact l1rQ_small P Q w hs hQ hg
  · exact l1rQ_big P Q _ g w h' rfl
end Go.Proofs.Ytikepklkjbohmaa
