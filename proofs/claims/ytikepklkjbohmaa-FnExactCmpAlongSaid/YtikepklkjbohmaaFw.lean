import Derived.Test.YtikepklkjbohmaaFlt
import Derived.Test.YtikepklkjbohmaaQok
import Derived.Deep.RegionHeld3
import Derived.Laws.BitsAllLaws
namespace Go.Proofs.Ytikepklkjbohmaa
open Go.RowKit

theorem bits64 (x : Nat) (w : World) : (callFunc 91 #[.float .f64 x]).run Try.prog w = .ok (.value (.int .u64 x)) w := by kernel_rfl
theorem frombits64 (n : Int) (w : World) : (callFunc 90 #[.int .u64 n]).run Try.prog w = .ok (.value (.float .f64 n.toNat)) w := by kernel_rfl
theorem negf (x : Nat) (w : World) : Sem.run Try.prog (Op.unary .neg (.float .f64 x)) w = .ok (.float .f64 (Op.negFloat .f64 x)) w := by kernel_rfl
theorem ret_f {a b : Nat} (h : a = b) : Ending.returned (.float .f64 a) = .returned (.float .f64 b) := by rw [h]
theorem abs_bits (x : Nat) (h : x < 18446744073709551616) : (bits BinOp.andNot IntKind.u64 (x : Int) 9223372036854775808).toNat = Flt.absN x := by
  have := u64_andNot_nat x 9223372036854775808 h (by omega)
  rw [show ((9223372036854775808 : Nat) : Int) = (9223372036854775808 : Int) from rfl] at this
  rw [this, Int.toNat_natCast]
  unfold Flt.absN
  exact Nat.and_two_pow_sub_one_eq_mod x 63

set_option maxHeartbeats 400000 in
set_option maxRecDepth 100000 in
theorem mathAbs_any (x : Nat) (w : World) (h : x < 18446744073709551616) :
    Calls Try.prog 81 #[.float .f64 x] w fun e w' => e = .returned (.float .f64 (Flt.absN x)) ∧ w' = w := by
  have h1 := bits64 x w
  have h2 := fun n => frombits64 n w
  go_enter Try.func81, Try.ntmps81
  go_wp2_with fail
  go_ret
  exact ⟨ret_f (abs_bits x h), rfl⟩

set_option maxHeartbeats 400000 in
theorem l2Abs_any (x : Nat) (b : Int) (w : World) (h : Flt.F x b) :
    Calls Try.prog 56 #[.float .f64 x] w fun e w' => e = .returned (.float .f64 (Flt.absN x)) ∧ w' = w := by
  rcases Flt.abs_ways h with ⟨h1, h2⟩ | ⟨h1, h2, h4⟩ | ⟨h1, h2, h4⟩
  · have h3 := negf x w
    have H : Hid (Op.negFloat .f64 x = Flt.absN x) := h2
    clear h2
    go_enter Try.func56, Try.ntmps56
    go_wp2
    go_ret
    exact ⟨ret_f H.out, rfl⟩
  · have H : Hid (0 = Flt.absN x) := h4
    clear h4
    go_enter Try.func56, Try.ntmps56
    go_wp2
    go_ret
    exact ⟨ret_f H.out, rfl⟩
  · have H : Hid (x = Flt.absN x) := h4
    clear h4
    go_enter Try.func56, Try.ntmps56
    go_wp2
    go_ret
    exact ⟨ret_f H.out, rfl⟩

/-- What a filter is sure of. -/
def sg (x y : Nat) : Int := if (FloatKind.f64.format.order x y == some Ordering.gt) = true then 1 else if (FloatKind.f64.format.order x (Op.negFloat .f64 y) == some Ordering.lt) = true then -1 else 0

set_option maxHeartbeats 400000 in
theorem sureSign_any (x y : Nat) (w : World) :
    Calls Try.prog 63 #[.float .f64 x, .float .f64 y] w fun e w' => e = .returned (.int .i64 (sg x y)) ∧ w' = w := by
  have h3 := negf y w
  by_cases h1 : (FloatKind.f64.format.order x y == some Ordering.gt) = true
  · have H : Hid (1 = sg x y) := by unfold sg Hid; rw [if_pos h1]
    go_enter Try.func63, Try.ntmps63
    go_wp2
    go_ret
    exact ⟨ret_int H.out, rfl⟩
  · by_cases h2 : (FloatKind.f64.format.order x (Op.negFloat .f64 y) == some Ordering.lt) = true
    · have H : Hid (-1 = sg x y) := by unfold sg Hid; rw [if_neg h1, if_pos h2]
      have h1' : (FloatKind.f64.format.order x y == some Ordering.gt) = false := by simpa using h1
      clear h1
      go_enter Try.func63, Try.ntmps63
      go_wp2
      go_ret
      exact ⟨ret_int H.out, rfl⟩
    · have H : Hid (0 = sg x y) := by unfold sg Hid; rw [if_neg h1, if_neg h2]
      have h1' : (FloatKind.f64.format.order x y == some Ordering.gt) = false := by simpa using h1
      have h2' : (FloatKind.f64.format.order x (Op.negFloat .f64 y) == some Ordering.lt) = false := by simpa using h2
      clear h1 h2
      go_enter Try.func63, Try.ntmps63
      go_wp2
      go_ret
      exact ⟨ret_int H.out, rfl⟩

set_option maxHeartbeats 400000 in
theorem l2Sure_any (x y : Nat) (w : World) :
    Calls Try.prog 58 #[.float .f64 x, .float .f64 y] w fun e w' => e = .returned (.int .i64 (sg x y)) ∧ w' = w := by
  have h3 := negf y w
  by_cases h1 : (FloatKind.f64.format.order x y == some Ordering.gt) = true
  · have H : Hid (1 = sg x y) := by unfold sg Hid; rw [if_pos h1]
    go_enter Try.func58, Try.ntmps58
    go_wp2
    go_ret
    exact ⟨ret_int H.out, rfl⟩
  · by_cases h2 : (FloatKind.f64.format.order x (Op.negFloat .f64 y) == some Ordering.lt) = true
    · have H : Hid (-1 = sg x y) := by unfold sg Hid; rw [if_neg h1, if_pos h2]
      have h1' : (FloatKind.f64.format.order x y == some Ordering.gt) = false := by simpa using h1
      clear h1
      go_enter Try.func58, Try.ntmps58
      go_wp2
      go_ret
      exact ⟨ret_int H.out, rfl⟩
    · have H : Hid (0 = sg x y) := by unfold sg Hid; rw [if_neg h1, if_neg h2]
      have h1' : (FloatKind.f64.format.order x y == some Ordering.gt) = false := by simpa using h1
      have h2' : (FloatKind.f64.format.order x (Op.negFloat .f64 y) == some Ordering.lt) = false := by simpa using h2
      clear h1 h2
      go_enter Try.func58, Try.ntmps58
      go_wp2
      go_ret
      exact ⟨ret_int H.out, rfl⟩

set_option maxHeartbeats 400000 in
theorem minor_any (x y z u s t p q : Nat) (w : World) (h1 : floatBits .mul .f64 x y = some s) (h2 : floatBits .mul .f64 z u = some t)
    (h3 : floatBits .sub .f64 s t = some p) (h4 : floatBits .add .f64 (Flt.absN s) (Flt.absN t) = some q) (hs : s < 18446744073709551616) (ht : t < 18446744073709551616) :
    Calls Try.prog 60 #[.float .f64 x, .float .f64 y, .float .f64 z, .float .f64 u] w fun e w' => e = .returned (.tuple #[.float .f64 p, .float .f64 q]) ∧ w' = w := by
  have r1 := fun w => run_float_arith (P := Try.prog) w .mul 46 .f64 x y s h1
  have r2 := fun w => run_float_arith (P := Try.prog) w .mul 46 .f64 z u t h2
  have r3 := fun w => run_float_arith (P := Try.prog) w .sub 46 .f64 s t p h3
  have r4 := fun w => run_float_arith (P := Try.prog) w .add 46 .f64 _ _ q h4
  have H : Hid (s < 18446744073709551616 ∧ t < 18446744073709551616) := ⟨hs, ht⟩
  clear h1 h2 h3 h4 hs ht
  go_enter Try.func60, Try.ntmps60
  go_wp2_with (go_at_call 81; refine (mathAbs_any _ _ (by first | exact H.out.1 | exact H.out.2)).mono ?_; rintro e w' ⟨rfl, rfl⟩)
  go_ret2
  exact ⟨rfl, rfl⟩

theorem run_store_float {P : Program} {w : World} {a : Addr} {m : Mode} (k : FloatKind) (b : Nat) : (store a (.float k b) m).run P w = stored P w a (.float k b) m := run_store P w a _ m rfl
attribute [local go_sem] run_store_float

abbrev V3f (a b c : Nat) : Value := .agg #[.float .f64 a, .float .f64 b, .float .f64 c]
abbrev V3i (a b c : Int) : Value := .agg #[.int .i64 a, .int .i64 b, .int .i64 c]

set_option maxHeartbeats 400000 in
theorem dot_any (f0 f1 f2 g0 g1 g2 a b c s r : Nat) (w : World) (h1 : floatBits .mul .f64 f0 g0 = some a) (h2 : floatBits .mul .f64 f1 g1 = some b)
    (h3 : floatBits .add .f64 a b = some s) (h4 : floatBits .mul .f64 f2 g2 = some c) (h5 : floatBits .add .f64 s c = some r) :
    Calls Try.prog 61 #[V3f f0 f1 f2, V3f g0 g1 g2] w fun e w' => e = .returned (.float .f64 r) ∧ Below w.heap.size w w' := by
  have r1 := fun w => run_float_arith (P := Try.prog) w .mul 46 .f64 _ _ _ h1
  have r2 := fun w => run_float_arith (P := Try.prog) w .mul 46 .f64 _ _ _ h2
  have r3 := fun w => run_float_arith (P := Try.prog) w .add 46 .f64 _ _ _ h3
  have r4 := fun w => run_float_arith (P := Try.prog) w .mul 46 .f64 _ _ _ h4
  have r5 := fun w => run_float_arith (P := Try.prog) w .add 46 .f64 _ _ _ h5
  clear h1 h2 h3 h4 h5
  go_enter Try.func61, Try.ntmps61
  go_wp2
  go_ret
  exact ⟨rfl, Joins.below_alloc2 _ _ _⟩

set_option maxHeartbeats 400000 in
theorem square_any (f0 f1 f2 a b s : Nat) (w : World) (h1 : floatBits .mul .f64 f0 f0 = some a) (h2 : floatBits .mul .f64 f1 f1 = some b)
    (h3 : floatBits .add .f64 a b = some s) :
    Calls Try.prog 64 #[V3f f0 f1 f2] w fun e w' => e = .returned (.float .f64 s) ∧ Below w.heap.size w w' := by
  have r1 := fun w => run_float_arith (P := Try.prog) w .mul 46 .f64 _ _ _ h1
  have r2 := fun w => run_float_arith (P := Try.prog) w .mul 46 .f64 _ _ _ h2
  have r3 := fun w => run_float_arith (P := Try.prog) w .add 46 .f64 _ _ _ h3
  clear h1 h2 h3
  go_enter Try.func64, Try.ntmps64
  go_wp2
  go_ret
  exact ⟨rfl, Joins.below_alloc1 _ _⟩

set_option maxHeartbeats 400000 in
theorem l2Cross_any (x y z u s t p : Nat) (w : World) (h1 : floatBits .mul .f64 x y = some s) (h2 : floatBits .mul .f64 z u = some t) (h3 : floatBits .sub .f64 s t = some p) :
    Calls Try.prog 54 #[.float .f64 x, .float .f64 y, .float .f64 z, .float .f64 u] w fun e w' => e = .returned (.float .f64 p) ∧ w' = w := by
  have r1 := fun w => run_float_arith (P := Try.prog) w .mul 46 .f64 _ _ _ h1
  have r2 := fun w => run_float_arith (P := Try.prog) w .mul 46 .f64 _ _ _ h2
  have r3 := fun w => run_float_arith (P := Try.prog) w .sub 46 .f64 _ _ _ h3
  clear h1 h2 h3
  go_enter Try.func54, Try.ntmps54
  go_wp2
  go_ret
  exact ⟨rfl, rfl⟩

set_option maxHeartbeats 400000 in
theorem l2Both_any (x y z u s t q : Nat) (b : Int) (w : World) (h1 : floatBits .mul .f64 x y = some s) (h2 : floatBits .mul .f64 z u = some t)
    (h4 : floatBits .add .f64 (Flt.absN s) (Flt.absN t) = some q) (hs : Flt.F s b) (ht : Flt.F t b) :
    Calls Try.prog 57 #[.float .f64 x, .float .f64 y, .float .f64 z, .float .f64 u] w fun e w' => e = .returned (.float .f64 q) ∧ w' = w := by
  have r1 := fun w => run_float_arith (P := Try.prog) w .mul 46 .f64 _ _ _ h1
  have r2 := fun w => run_float_arith (P := Try.prog) w .mul 46 .f64 _ _ _ h2
  have r4 := fun w => run_float_arith (P := Try.prog) w .add 46 .f64 _ _ _ h4
  have H : Hid (Flt.F s b ∧ Flt.F t b) := ⟨hs, ht⟩
  clear h1 h2 h4 hs ht
  go_enter Try.func57, Try.ntmps57
  go_wp2_with fail
  refine (l2Abs_any s b _ H.out.1).mono ?_
  rintro e w' ⟨rfl, rfl⟩
  go_wp2_with fail
  refine (l2Abs_any t b _ H.out.2).mono ?_
  rintro e w' ⟨rfl, rfl⟩
  go_wp2
  go_ret
  exact ⟨rfl, rfl⟩

set_option maxHeartbeats 400000 in
theorem l2Three_any (f0 f1 f2 g0 g1 g2 a b c s r : Nat) (w : World) (h1 : floatBits .mul .f64 f0 g0 = some a) (h2 : floatBits .mul .f64 f1 g1 = some b)
    (h3 : floatBits .add .f64 a b = some s) (h4 : floatBits .mul .f64 f2 g2 = some c) (h5 : floatBits .add .f64 s c = some r) :
    Calls Try.prog 55 #[.float .f64 f0, .float .f64 g0, .float .f64 f1, .float .f64 g1, .float .f64 f2, .float .f64 g2] w fun e w' => e = .returned (.float .f64 r) ∧ w' = w := by
  have r1 := fun w => run_float_arith (P := Try.prog) w .mul 46 .f64 _ _ _ h1
  have r2 := fun w => run_float_arith (P := Try.prog) w .mul 46 .f64 _ _ _ h2
  have r3 := fun w => run_float_arith (P := Try.prog) w .add 46 .f64 _ _ _ h3
  have r4 := fun w => run_float_arith (P := Try.prog) w .mul 46 .f64 _ _ _ h4
  have r5 := fun w => run_float_arith (P := Try.prog) w .add 46 .f64 _ _ _ h5
  clear h1 h2 h3 h4 h5
  go_enter Try.func55, Try.ntmps55
  go_wp2
  go_ret
  exact ⟨rfl, rfl⟩

set_option maxHeartbeats 400000 in
theorem floats_any (a b c : Int) (w : World) :
    Calls Try.prog 59 #[V3i a b c] w fun e w' => e = .returned (V3f (floatOfInt .f64 a) (floatOfInt .f64 b) (floatOfInt .f64 c)) ∧ Below w.heap.size w w' := by
  go_enter Try.func59, Try.ntmps59
  go_wp2
  refine bodyPost_ret (v := V3f (floatOfInt .f64 a) (floatOfInt .f64 b) (floatOfInt .f64 c)) (by simp [results, Try.results59, go_sem]) rfl ⟨rfl, ?_⟩
  exact Joins.below_alloc2 _ _ _

set_option maxHeartbeats 400000 in
theorem less3_any (a b c x y z : Int) (w : World) (h1 : -67108864 ≤ a ∧ a ≤ 67108864) (h2 : -67108864 ≤ b ∧ b ≤ 67108864) (h3 : -67108864 ≤ c ∧ c ≤ 67108864)
    (h4 : -67108864 ≤ x ∧ x ≤ 67108864) (h5 : -67108864 ≤ y ∧ y ≤ 67108864) (h6 : -67108864 ≤ z ∧ z ≤ 67108864) :
    Calls Try.prog 50 #[V3i a b c, V3i x y z] w fun e w' => e = .returned (V3i (a - x) (b - y) (c - z)) ∧ Below w.heap.size w w' := by
  go_enter Try.func50, Try.ntmps50
  go_wp2
  refine bodyPost_ret (v := V3i (a - x) (b - y) (c - z)) (by simp [results, Try.results50, go_sem]) rfl ⟨rfl, ?_⟩
  exact Joins.below_alloc3 _ _ _ _

set_option maxHeartbeats 400000 in
theorem toP3_any (a b c : Int) (w : World) :
    Calls Try.prog 20 #[V3i a b c] w fun e w' => e = .returned (V3i a b c) ∧ Below w.heap.size w w' := by
  go_enter Try.func20, Try.ntmps20
  go_wp2
  refine bodyPost_ret (v := V3i a b c) (by simp [results, Try.results20, go_sem]) rfl ⟨rfl, ?_⟩
  exact Joins.below_alloc3 _ _ _ _

set_option maxHeartbeats 400000 in
theorem sizes_any (a b c : Nat) (w : World) (h1 : a < 18446744073709551616) (h2 : b < 18446744073709551616) (h3 : c < 18446744073709551616) :
    Calls Try.prog 62 #[V3f a b c] w fun e w' => e = .returned (V3f (Flt.absN a) (Flt.absN b) (Flt.absN c)) ∧ Below w.heap.size w w' := by
  have H : Hid (a < 18446744073709551616 ∧ b < 18446744073709551616 ∧ c < 18446744073709551616) := ⟨h1, h2, h3⟩
  clear h1 h2 h3
  go_enter Try.func62, Try.ntmps62
  go_wp2_with fail
  go_region_held3 (fun w' => w'.cell? ⟨w.heap.size, 0, none⟩ = some (.float .f64 a) ∧ w'.cell? ⟨w.heap.size, 1, none⟩ = some (.float .f64 b) ∧ w'.cell? ⟨w.heap.size, 2, none⟩ = some (.float .f64 c)) (go_keep) (first | (go_at_call 81; refine (mathAbs_any _ _ ?_).mono ?_; (first | exact H.out.1 | exact H.out.2.1 | exact H.out.2.2); rintro e w' ⟨rfl, rfl⟩))
  go_wp2
  refine bodyPost_ret (v := V3f (Flt.absN a) (Flt.absN b) (Flt.absN c)) (by simp [results, Try.results62, go_sem]) rfl ⟨rfl, ?_⟩
  exact (Joins.below_alloc2 _ _ _).trans (Joins.below_draws _ _ 1)

/-- Not wild. -/
def inB (x : Int) : Bool := decide (-67108864 ≤ x ∧ x ≤ 67108864)
theorem inB_out {x : Int} (h : inB x = true) : -67108864 ≤ x ∧ x ≤ 67108864 := by unfold inB at h; simpa using h
theorem inB_not {x : Int} (h : inB x = false) : x < -67108864 ∨ 67108864 < x := by unfold inB at h; simp at h; omega

set_option maxHeartbeats 400000 in
theorem l2In_any (x : Int) (w : World) : Calls Try.prog 72 #[.int .i64 x] w fun e w' => e = .returned (.bool (inB x)) ∧ w' = w := by
  cases hx : inB x
  · rcases inB_not hx with h | h
    · clear hx
      go_enter Try.func72, Try.ntmps72
      go_wp2
      go_ret
      exact ⟨ret_bool (by simp <;> omega), rfl⟩
    · clear hx
      go_enter Try.func72, Try.ntmps72
      go_wp2
      go_ret
      exact ⟨ret_bool (by simp <;> omega), rfl⟩
  · have h := inB_out hx
    clear hx
    go_enter Try.func72, Try.ntmps72
    go_wp2
    go_ret
    exact ⟨ret_bool (by simp <;> omega), rfl⟩

set_option maxHeartbeats 400000 in
theorem wildCoord_any (x : Int) (w : World) : Calls Try.prog 78 #[.int .i64 x] w fun e w' => e = .returned (.bool (!inB x)) ∧ w' = w := by
  cases hx : inB x
  · rcases inB_not hx with h | h
    · clear hx
      go_enter Try.func78, Try.ntmps78
      go_wp2
      go_ret
      exact ⟨ret_bool (by simp <;> omega), rfl⟩
    · clear hx
      go_enter Try.func78, Try.ntmps78
      go_wp2
      go_ret
      exact ⟨ret_bool (by simp <;> omega), rfl⟩
  · have h := inB_out hx
    clear hx
    go_enter Try.func78, Try.ntmps78
    go_wp2
    go_ret
    exact ⟨ret_bool (by simp <;> omega), rfl⟩

/-- Of a place of space, of the plane: not wild. -/
def inB3 (x y z : Int) : Bool := inB x && inB y && inB z
def inB2 (x y : Int) : Bool := inB x && inB y

set_option maxHeartbeats 400000 in
theorem wild3_any (x y z : Int) (w : World) : Calls Try.prog 49 #[V3i x y z] w fun e w' => e = .returned (.bool (!inB3 x y z)) ∧ Below w.heap.size w w' := by
  unfold inB3
  cases hx : inB x
  · have hX : (!inB x) = true := by rw [hx]; rfl
    clear hx
    go_enter Try.func49, Try.ntmps49
    go_wp2_with (go_at_call 78; refine (wildCoord_any _ _).mono ?_; rintro e w' ⟨rfl, rfl⟩)
    go_ret
    exact ⟨rfl, Joins.below_alloc1 _ _⟩
  · have hX : (!inB x) = false := by rw [hx]; rfl
    clear hx
    cases hy : inB y
    · have hY : (!inB y) = true := by rw [hy]; rfl
      clear hy
      go_enter Try.func49, Try.ntmps49
      go_wp2_with (go_at_call 78; refine (wildCoord_any _ _).mono ?_; rintro e w' ⟨rfl, rfl⟩)
      go_ret
      exact ⟨rfl, Joins.below_alloc1 _ _⟩
    · have hY : (!inB y) = false := by rw [hy]; rfl
      clear hy
      go_enter Try.func49, Try.ntmps49
      go_wp2_with (go_at_call 78; refine (wildCoord_any _ _).mono ?_; rintro e w' ⟨rfl, rfl⟩)
      go_ret
      exact ⟨rfl, Joins.below_alloc1 _ _⟩

set_option maxHeartbeats 400000 in
theorem wild2_any (x y : Int) (w : World) : Calls Try.prog 43 #[.agg #[.int .i64 x, .int .i64 y]] w fun e w' => e = .returned (.bool (!inB2 x y)) ∧ Below w.heap.size w w' := by
  unfold inB2
  cases hx : inB x
  · have hX : (!inB x) = true := by rw [hx]; rfl
    clear hx
    go_enter Try.func43, Try.ntmps43
    go_wp2_with (go_at_call 78; refine (wildCoord_any _ _).mono ?_; rintro e w' ⟨rfl, rfl⟩)
    go_ret
    exact ⟨rfl, Joins.below_alloc1 _ _⟩
  · have hX : (!inB x) = false := by rw [hx]; rfl
    clear hx
    go_enter Try.func43, Try.ntmps43
    go_wp2_with (go_at_call 78; refine (wildCoord_any _ _).mono ?_; rintro e w' ⟨rfl, rfl⟩)
    go_ret
    exact ⟨rfl, Joins.below_alloc1 _ _⟩

end Go.Proofs.Ytikepklkjbohmaa
