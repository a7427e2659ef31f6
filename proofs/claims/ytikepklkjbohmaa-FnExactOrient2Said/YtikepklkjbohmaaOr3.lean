import Derived.Test.YtikepklkjbohmaaOr2
namespace Go.Proofs.Ytikepklkjbohmaa
open Go.RowKit

set_option maxHeartbeats 1000000 in
theorem lawOr_of (a0 a1 b0 b1 c0 c1 k : Int) (w : World)
    (hs : ∀ w, Calls Try.prog 16 #[.agg #[.int .i64 a0, .int .i64 a1], .agg #[.int .i64 b0, .int .i64 b1], .agg #[.int .i64 c0, .int .i64 c1]] w fun e w' => e = .returned (.int .i64 k) ∧ Below w.heap.size w w')
    (hi : ∀ w, Calls Try.prog 18 #[.agg #[.int .i64 a0, .int .i64 a1], .agg #[.int .i64 b0, .int .i64 b1], .agg #[.int .i64 c0, .int .i64 c1]] w fun e w' => e = .returned (.int .i64 k) ∧ Below w.heap.size w w') :
    Calls Try.prog 5 #[.agg #[.int .i64 a0, .int .i64 a1], .agg #[.int .i64 b0, .int .i64 b1], .agg #[.int .i64 c0, .int .i64 c1]] w fun e w' => e = .returned (.bool true) ∧ Below w.heap.size w w' := by
  have HS : Hid (∀ w, Calls Try.prog 16 #[.agg #[.int .i64 a0, .int .i64 a1], .agg #[.int .i64 b0, .int .i64 b1], .agg #[.int .i64 c0, .int .i64 c1]] w fun e w' => e = .returned (.int .i64 k) ∧ Below w.heap.size w w') := hs
  have HI : Hid (∀ w, Calls Try.prog 18 #[.agg #[.int .i64 a0, .int .i64 a1], .agg #[.int .i64 b0, .int .i64 b1], .agg #[.int .i64 c0, .int .i64 c1]] w fun e w' => e = .returned (.int .i64 k) ∧ Below w.heap.size w w') := hi
  clear hs hi
  go_enter Try.func5, Try.ntmps5
  go_wp2_with fail
  have hS : S3p w.heap.size #[.int .i64 a0, .int .i64 a1] #[.int .i64 b0, .int .i64 b1] #[.int .i64 c0, .int .i64 c1] (((w.alloc (.cells #[.int .i64 a0, .int .i64 a1] 33)).alloc (.cells #[.int .i64 b0, .int .i64 b1] 33)).alloc (.cells #[.int .i64 c0, .int .i64 c1] 33)) := S3p.start w _ _ _ 33
  have hB : Below w.heap.size w (((w.alloc (.cells #[.int .i64 a0, .int .i64 a1] 33)).alloc (.cells #[.int .i64 b0, .int .i64 b1] 33)).alloc (.cells #[.int .i64 c0, .int .i64 c1] 33)) := Joins.below_alloc3 _ _ _ _
  go_region_held3 (fun w' => S3p w.heap.size #[.int .i64 a0, .int .i64 a1] #[.int .i64 b0, .int .i64 b1] #[.int .i64 c0, .int .i64 c1] w' ∧ Below w.heap.size w w') (first | with_reducible exact ⟨S3p.drew hS, hB.drew⟩ | (have hh := ‹(S3p w.heap.size #[.int .i64 a0, .int .i64 a1] #[.int .i64 b0, .int .i64 b1] #[.int .i64 c0, .int .i64 c1] _ ∧ Below w.heap.size w _)›; first | with_reducible exact ⟨hh.1.call (by assumption), hh.2.trans (Below.mono (by assumption) hh.2.size)⟩ | with_reducible exact hh))
    (first
      | (go_at_call 17; refine (toP2_any _ _ _).mono ?_; rintro e w' ⟨rfl, hb⟩)
      | (go_at_call 16; refine (HS.out _).mono ?_; rintro e w' ⟨rfl, hb⟩))
  have hh := ‹(S3p w.heap.size #[.int .i64 a0, .int .i64 a1] #[.int .i64 b0, .int .i64 b1] #[.int .i64 c0, .int .i64 c1] _ ∧ Below w.heap.size w _)›
  clear hS hB
  go_wp2_with fail
  go_region_held3 (fun w' => S3p w.heap.size #[.int .i64 a0, .int .i64 a1] #[.int .i64 b0, .int .i64 b1] #[.int .i64 c0, .int .i64 c1] w' ∧ Below w.heap.size w w') (first | with_reducible exact ⟨S3p.drew hh.1, hh.2.drew⟩ | (have hh' := ‹(S3p w.heap.size #[.int .i64 a0, .int .i64 a1] #[.int .i64 b0, .int .i64 b1] #[.int .i64 c0, .int .i64 c1] _ ∧ Below w.heap.size w _)›; first | with_reducible exact ⟨hh'.1.call (by assumption), hh'.2.trans (Below.mono (by assumption) hh'.2.size)⟩ | with_reducible exact hh'))
    (first
      | (go_at_call 17; refine (toP2_any _ _ _).mono ?_; rintro e w' ⟨rfl, hb⟩)
      | (go_at_call 18; refine (HI.out _).mono ?_; rintro e w' ⟨rfl, hb⟩))
  clear hh
  have hh := ‹(S3p w.heap.size #[.int .i64 a0, .int .i64 a1] #[.int .i64 b0, .int .i64 b1] #[.int .i64 c0, .int .i64 c1] _ ∧ Below w.heap.size w _)›
  have HH : Hid _ := hh.2
  clear hh
  go_wp2
  go_ret
  exact ⟨rfl, HH.out⟩

set_option maxHeartbeats 400000 in
theorem l2Sub2_any (a b x y : Int) (w : World) (h1 : -67108864 ≤ a ∧ a ≤ 67108864) (h2 : -67108864 ≤ b ∧ b ≤ 67108864)
    (h4 : -67108864 ≤ x ∧ x ≤ 67108864) (h5 : -67108864 ≤ y ∧ y ≤ 67108864) :
    Calls Try.prog 42 #[V2i a b, V2i x y] w fun e w' => ∃ g, e = .returned (.slice (some ⟨g, 0, none⟩) 2 2) ∧ S1 g #[.int .i64 (a - x), .int .i64 (b - y)] w' ∧ Below w.heap.size w w' := by
  have HS : Hid (∀ o1 o2 t, S1 (w.heap.size + 1 + 1) #[.int .i64 (a - x), .int .i64 (b - y)] (((w.alloc o1).alloc o2).alloc (.cells #[.int .i64 (a - x), .int .i64 (b - y)] t))) := fun o1 o2 t =>
    ⟨fun j => by rw [Joins.cell_alloc_mark_at _ _ _ _ _ _ (by simp)], by simp⟩
  go_enter Try.func42, Try.ntmps42
  go_wp2
  go_ret
  exact ⟨_, rfl, HS.out _ _ _, Joins.below_alloc3 _ _ _ _⟩
end Go.Proofs.Ytikepklkjbohmaa
