import Derived.Test.YtikepklkjbohmaaDi3
import Derived.Test.YtikepklkjbohmaaAlLaw
namespace Go.Proofs.Ytikepklkjbohmaa
open Go.RowKit

set_option maxHeartbeats 1000000 in
theorem lawDist_of (a0 a1 a2 b0 b1 b2 c0 c1 c2 k : Int) (w : World)
    (hs : ∀ w, Calls Try.prog 22 #[.agg #[.int .i64 a0, .int .i64 a1, .int .i64 a2], .agg #[.int .i64 b0, .int .i64 b1, .int .i64 b2], .agg #[.int .i64 c0, .int .i64 c1, .int .i64 c2]] w fun e w' => e = .returned (.int .i64 k) ∧ Below w.heap.size w w')
    (hi : ∀ w, Calls Try.prog 23 #[.agg #[.int .i64 a0, .int .i64 a1, .int .i64 a2], .agg #[.int .i64 b0, .int .i64 b1, .int .i64 b2], .agg #[.int .i64 c0, .int .i64 c1, .int .i64 c2]] w fun e w' => e = .returned (.int .i64 k) ∧ Below w.heap.size w w') :
    Calls Try.prog 7 #[.agg #[.int .i64 a0, .int .i64 a1, .int .i64 a2], .agg #[.int .i64 b0, .int .i64 b1, .int .i64 b2], .agg #[.int .i64 c0, .int .i64 c1, .int .i64 c2]] w fun e w' => e = .returned (.bool true) ∧ Below w.heap.size w w' := by
  have HS : Hid (∀ w, Calls Try.prog 22 #[.agg #[.int .i64 a0, .int .i64 a1, .int .i64 a2], .agg #[.int .i64 b0, .int .i64 b1, .int .i64 b2], .agg #[.int .i64 c0, .int .i64 c1, .int .i64 c2]] w fun e w' => e = .returned (.int .i64 k) ∧ Below w.heap.size w w') := hs
  have HI : Hid (∀ w, Calls Try.prog 23 #[.agg #[.int .i64 a0, .int .i64 a1, .int .i64 a2], .agg #[.int .i64 b0, .int .i64 b1, .int .i64 b2], .agg #[.int .i64 c0, .int .i64 c1, .int .i64 c2]] w fun e w' => e = .returned (.int .i64 k) ∧ Below w.heap.size w w') := hi
  clear hs hi
  go_enter Try.func7, Try.ntmps7
  go_wp2_with fail
  have hS : S3p w.heap.size #[.int .i64 a0, .int .i64 a1, .int .i64 a2] #[.int .i64 b0, .int .i64 b1, .int .i64 b2] #[.int .i64 c0, .int .i64 c1, .int .i64 c2] (((w.alloc (.cells #[.int .i64 a0, .int .i64 a1, .int .i64 a2] 39)).alloc (.cells #[.int .i64 b0, .int .i64 b1, .int .i64 b2] 39)).alloc (.cells #[.int .i64 c0, .int .i64 c1, .int .i64 c2] 39)) := S3p.start w _ _ _ 39
  have hB : Below w.heap.size w (((w.alloc (.cells #[.int .i64 a0, .int .i64 a1, .int .i64 a2] 39)).alloc (.cells #[.int .i64 b0, .int .i64 b1, .int .i64 b2] 39)).alloc (.cells #[.int .i64 c0, .int .i64 c1, .int .i64 c2] 39)) := Joins.below_alloc3 _ _ _ _
  go_region_held3 (fun w' => S3p w.heap.size #[.int .i64 a0, .int .i64 a1, .int .i64 a2] #[.int .i64 b0, .int .i64 b1, .int .i64 b2] #[.int .i64 c0, .int .i64 c1, .int .i64 c2] w' ∧ Below w.heap.size w w') (first | with_reducible exact ⟨S3p.drew hS, hB.drew⟩ | (have hh := ‹(S3p w.heap.size #[.int .i64 a0, .int .i64 a1, .int .i64 a2] #[.int .i64 b0, .int .i64 b1, .int .i64 b2] #[.int .i64 c0, .int .i64 c1, .int .i64 c2] _ ∧ Below w.heap.size w _)›; first | with_reducible exact ⟨hh.1.call (by assumption), hh.2.trans (Below.mono (by assumption) hh.2.size)⟩ | with_reducible exact hh))
    (first
      | (go_at_call 20; refine (toP3_any _ _ _ _).mono ?_; rintro e w' ⟨rfl, hb⟩)
      | (go_at_call 22; refine (HS.out _).mono ?_; rintro e w' ⟨rfl, hb⟩))
  have hh := ‹(S3p w.heap.size #[.int .i64 a0, .int .i64 a1, .int .i64 a2] #[.int .i64 b0, .int .i64 b1, .int .i64 b2] #[.int .i64 c0, .int .i64 c1, .int .i64 c2] _ ∧ Below w.heap.size w _)›
  clear hS hB
  go_wp2_with fail
  go_region_held3 (fun w' => S3p w.heap.size #[.int .i64 a0, .int .i64 a1, .int .i64 a2] #[.int .i64 b0, .int .i64 b1, .int .i64 b2] #[.int .i64 c0, .int .i64 c1, .int .i64 c2] w' ∧ Below w.heap.size w w') (first | with_reducible exact ⟨S3p.drew hh.1, hh.2.drew⟩ | (have hh' := ‹(S3p w.heap.size #[.int .i64 a0, .int .i64 a1, .int .i64 a2] #[.int .i64 b0, .int .i64 b1, .int .i64 b2] #[.int .i64 c0, .int .i64 c1, .int .i64 c2] _ ∧ Below w.heap.size w _)›; first | with_reducible exact ⟨hh'.1.call (by assumption), hh'.2.trans (Below.mono (by assumption) hh'.2.size)⟩ | with_reducible exact hh'))
    (first
      | (go_at_call 20; refine (toP3_any _ _ _ _).mono ?_; rintro e w' ⟨rfl, hb⟩)
      | (go_at_call 23; refine (HI.out _).mono ?_; rintro e w' ⟨rfl, hb⟩))
  clear hh
  have hh := ‹(S3p w.heap.size #[.int .i64 a0, .int .i64 a1, .int .i64 a2] #[.int .i64 b0, .int .i64 b1, .int .i64 b2] #[.int .i64 c0, .int .i64 c1, .int .i64 c2] _ ∧ Below w.heap.size w _)›
  have HH : Hid _ := hh.2
  clear hh
  go_wp2
  go_ret
  exact ⟨rfl, HH.out⟩

theorem lawDist_walk (a0 a1 a2 b0 b1 b2 c0 c1 c2 : Int) (w : World) :
    Calls Try.prog 7 #[.agg #[.int .i64 a0, .int .i64 a1, .int .i64 a2], .agg #[.int .i64 b0, .int .i64 b1, .int .i64 b2], .agg #[.int .i64 c0, .int .i64 c1, .int .i64 c2]] w fun e w' => e = .returned (.bool true) ∧ Below w.heap.size w w' := by
  cases h : (inB3 a0 a1 a2 && inB3 b0 b1 b2 && inB3 c0 c1 c2)
  · exact lawDist_of _ _ _ _ _ _ _ _ _ 2 w (fun w => specDist_wild _ _ _ _ _ _ _ _ _ w h) (fun w => implDist_wild _ _ _ _ _ _ _ _ _ w h)
  · exact lawDist_of _ _ _ _ _ _ _ _ _ _ w (fun w => specDist_tame dotOK _ _ _ _ _ _ _ _ _ w h) (fun w => implDist_tame _ _ _ _ _ _ _ _ _ w h)
end Go.Proofs.Ytikepklkjbohmaa
