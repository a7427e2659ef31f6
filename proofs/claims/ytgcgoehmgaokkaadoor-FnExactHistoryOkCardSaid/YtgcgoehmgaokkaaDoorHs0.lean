import Derived.Test.YtgcgoehmgaokkaaDoorAt
import Derived.Deep.OwnRows
namespace Go.Proofs.YtgcgoehmgaokkaaDoor
open Go.RowKit

theorem At.setAt {w : World} {b : Nat} {A B : Array Value} (h : At w b A) (i : Nat) (y : Value) (hi : i < A.size) (hB : B = A.setIfInBounds i y) : At (w.setCell ⟨b, i, none⟩ y) b B := by
  subst hB
  refine ⟨fun j => ?_, fun j => by rw [World.frozen?_setCell]; exact h.fz j, by simpa using h.sz⟩
  by_cases e : j = i
  · subst e
    have hc := h.c j
    rw [World.cell?_setCell_same' w ⟨b, j, none⟩ y (by rw [hc]; simp [hi])]
    simp [hi]
  · have hne : (⟨b, i, none⟩ : Addr) ≠ ⟨b, j, none⟩ := fun e' => e (congrArg Addr.off e').symm
    rw [show (w.setCell ⟨b, i, none⟩ y).cell? ⟨b, j, none⟩ = w.cell? ⟨b, j, none⟩ by simp [World.cell?_setCell_other], h.c j]
    simp [Ne.symm e]
theorem At.alloc {w : World} {b : Nat} {A : Array Value} (h : At w b A) (o : Obj) : At (w.alloc o) b A := h.below (Joins.below_alloc1 _ _) h.sz
theorem rowIs_below {w w' : World} {b t n B : Nat} {f : Nat → Value} (h : w.rowIs b t n f) (hb : Below B w w') (hB : b < B) : w'.rowIs b t n f := h.of_block (hb.block b hB)

/-- make of a row of structs that hold numbers alone. -/
theorem run_make_struct (t e : TypeId) (z : Array Value) (bytes size : Nat) (ht : Tryd.prog.underlying t = some (.slice e)) (hinfo : (Tryd.prog.info? e).map (fun i => (i.zero, i.size, i.bytes)) = some (some (.agg z), size, bytes))
    (n : Nat) (hbytes : bytes * n ≤ 281474976710656) (h63 : n ≤ 9223372036854775807) (w : World) :
    (Instr.makeSlice t (.int .i64 (n : Int)) (.int .i64 (n : Int))).run Tryd.prog w = .ok (.slice (some ⟨w.heap.size, 0, none⟩) n n) (w.alloc (.cells (madeCells z (n * size)) e)) := by
  obtain ⟨i, hi, hzz⟩ := Option.map_eq_some_iff.1 hinfo
  simp only [Prod.mk.injEq] at hzz
  obtain ⟨hz, hs, hb⟩ := hzz
  have hb' : (i.bytes : Int) * (n : Int) ≤ 281474976710656 := by
    have h : ((i.bytes * n : Nat) : Int) ≤ 281474976710656 := by rw [hb]; omega
    rwa [Int.natCast_mul] at h
  have hr := run_make (P := Tryd.prog) w t e i (.agg z) ht hi hz .i64 .i64 n n (by omega) (Int.le_refl _) hb' (by omega)
  simp only [Int.toNat_natCast, hs, Value.cells] at hr
  exact hr

theorem rowIs_zeros (w : World) (z : Array Value) (m e : Nat) (hz : 0 < z.size) (h : ∀ i, i < z.size → z[i]! = .int .i64 0) : (w.alloc (.cells (madeCells z m) e)).rowIs w.heap.size e m (fun _ => .int .i64 0) :=
  ⟨_, Deep.blk_alloc_new _ _, size_madeCells _ _, fun i hi => by simp [madeCells, hi]; exact h _ (Nat.mod_lt _ hz)⟩

/-- A slice of n elements of S numbers each, told by one function. -/
def Rd (w : World) (S : Nat) (ao : Option Addr) (n : Nat) (F : Nat → Int) : Prop :=
  0 < n → ∃ b off, ao = some ⟨b, off, none⟩ ∧ b < w.heap.size ∧ ∀ j, j < n * S → w.cell? ⟨b, off + j, none⟩ = some (.int .i64 (F j))
theorem Rd.below {w w' : World} {S n : Nat} {ao : Option Addr} {F : Nat → Int} (h : Rd w S ao n F) {B : Nat} (hb : Below B w w') (hB : w.heap.size ≤ B) : Rd w' S ao n F := fun h0 => by
  obtain ⟨b, off, e, hlt, hc⟩ := h h0
  exact ⟨b, off, e, Nat.lt_of_lt_of_le hlt hb.size, fun j hj => (hb.cell (p := ⟨b, off + j, none⟩) (Nat.lt_of_lt_of_le hlt hB)).trans (hc j hj)⟩
theorem Rd.of_row {w : World} {S n g t : Nat} {F : Nat → Int} (h : w.rowIs g t (n * S) (fun j => .int .i64 (F j))) : Rd w S (some ⟨g, 0, none⟩) n F := fun _ =>
  ⟨g, 0, rfl, h.lt, fun j hj => by rw [Nat.zero_add]; exact h.cell hj⟩

theorem infoQ : (Tryd.prog.info? 54).map (fun i => (i.zero, i.size, i.bytes)) = some (some (.agg #[.int .i64 0, .int .i64 0]), 2, 16) := by kernel_rfl
theorem infoTerm : (Tryd.prog.info? 84).map (fun i => (i.zero, i.size, i.bytes)) = some (some (.agg #[.int .i64 0, .int .i64 0, .int .i64 0, .int .i64 0, .int .i64 0]), 5, 40) := by kernel_rfl

set_option maxHeartbeats 2000000 in
theorem toTerm_any (x0 x1 x2 x3 x4 : Int) (w : World) :
    Calls Tryd.prog 78 #[.agg #[.int .i64 x0, .int .i64 x1, .int .i64 x2, .int .i64 x3, .int .i64 x4]] w fun e w' => e = .returned (.agg #[.int .i64 x0, .int .i64 x1, .int .i64 x2, .int .i64 x3, .int .i64 x4]) ∧ Below w.heap.size w w' := by
  have HB0 : Hid (Below w.heap.size w (((w.alloc (.cells #[.int .i64 x0, .int .i64 x1, .int .i64 x2, .int .i64 x3, .int .i64 x4] 129)).alloc (.cells #[.int .i64 0, .int .i64 0, .int .i64 0, .int .i64 0, .int .i64 0] 84)).alloc (.cells #[.int .i64 x0, .int .i64 0, .int .i64 0, .int .i64 0, .int .i64 0] 84))) := Joins.below_alloc3 _ _ _ _
  have HP0 : Hid (At (((w.alloc (.cells #[.int .i64 x0, .int .i64 x1, .int .i64 x2, .int .i64 x3, .int .i64 x4] 129)).alloc (.cells #[.int .i64 0, .int .i64 0, .int .i64 0, .int .i64 0, .int .i64 0] 84)).alloc (.cells #[.int .i64 x0, .int .i64 0, .int .i64 0, .int .i64 0, .int .i64 0] 84)) w.heap.size #[.int .i64 x0, .int .i64 x1, .int .i64 x2, .int .i64 x3, .int .i64 x4]) := At.alloc (At.alloc ⟨fun j => by go_simp, fun j => by go_simp, by simp⟩ _) _
  have HR0 : Hid (At (((w.alloc (.cells #[.int .i64 x0, .int .i64 x1, .int .i64 x2, .int .i64 x3, .int .i64 x4] 129)).alloc (.cells #[.int .i64 0, .int .i64 0, .int .i64 0, .int .i64 0, .int .i64 0] 84)).alloc (.cells #[.int .i64 x0, .int .i64 0, .int .i64 0, .int .i64 0, .int .i64 0] 84)) (w.heap.size + 1) #[.int .i64 0, .int .i64 0, .int .i64 0, .int .i64 0, .int .i64 0]) := At.alloc ⟨fun j => by go_simp, fun j => by go_simp, by simp⟩ _
  have HO0 : Hid (At (((w.alloc (.cells #[.int .i64 x0, .int .i64 x1, .int .i64 x2, .int .i64 x3, .int .i64 x4] 129)).alloc (.cells #[.int .i64 0, .int .i64 0, .int .i64 0, .int .i64 0, .int .i64 0] 84)).alloc (.cells #[.int .i64 x0, .int .i64 0, .int .i64 0, .int .i64 0, .int .i64 0] 84)) (w.heap.size + 1 + 1) #[.int .i64 x0, .int .i64 0, .int .i64 0, .int .i64 0, .int .i64 0]) := ⟨fun j => by go_simp, fun j => by go_simp, by simp⟩
  go_enter Tryd.func78, Tryd.ntmps78
  go_wp2_with fail
  refine (toQ_any _ _ _).mono ?_
  rintro e w1 ⟨rfl, hb1⟩
  have hz : (((w.alloc (.cells #[.int .i64 x0, .int .i64 x1, .int .i64 x2, .int .i64 x3, .int .i64 x4] 129)).alloc (.cells #[.int .i64 0, .int .i64 0, .int .i64 0, .int .i64 0, .int .i64 0] 84)).alloc (.cells #[.int .i64 x0, .int .i64 0, .int .i64 0, .int .i64 0, .int .i64 0] 84)).heap.size = w.heap.size + 1 + 1 + 1 := by simp
  have HB1 : Hid (Below w.heap.size w w1) := HB0.out.trans (hb1.mono (by omega))
  have HP1 : Hid (At w1 w.heap.size #[.int .i64 x0, .int .i64 x1, .int .i64 x2, .int .i64 x3, .int .i64 x4]) := HP0.out.below hb1 (by omega)
  have HR1 : Hid (At w1 (w.heap.size + 1) #[.int .i64 0, .int .i64 0, .int .i64 0, .int .i64 0, .int .i64 0]) := HR0.out.below hb1 (by omega)
  have hO1 : At w1 (w.heap.size + 1 + 1) #[.int .i64 x0, .int .i64 0, .int .i64 0, .int .i64 0, .int .i64 0] := HO0.out.below hb1 (by omega)
  have HO1 : Hid (At ((w1.setCell ⟨w.heap.size + 1 + 1, 1, none⟩ (.int .i64 x1)).setCell ⟨w.heap.size + 1 + 1, 2, none⟩ (.int .i64 x2)) (w.heap.size + 1 + 1) #[.int .i64 x0, .int .i64 x1, .int .i64 x2, .int .i64 0, .int .i64 0]) := (hO1.setAt 1 (.int .i64 x1) (B := #[.int .i64 x0, .int .i64 x1, .int .i64 0, .int .i64 0, .int .i64 0]) (by simp) (by simp)).setAt 2 _ (by simp) (by simp)
  obtain ⟨p, _, _⟩ := HP1.out
  obtain ⟨o, oz, os⟩ := hO1
  have p7 := p 3
  have p8 := p 4
  have o5 := o 1
  have o6 := o 2
  have z5 := oz 1
  have z6 := oz 2
  clear hb1 HB0 HP0 HR0 HO0 p o oz
  go_wp2_with fail
  refine (toQ_any _ _ _).mono ?_
  rintro e w2 ⟨rfl, hb2⟩
  have hs1 := HR1.out.sz
  have hz2 : ((w1.setCell ⟨w.heap.size + 1 + 1, 1, none⟩ (.int .i64 x1)).setCell ⟨w.heap.size + 1 + 1, 2, none⟩ (.int .i64 x2)).heap.size = w1.heap.size := by simp
  have HB2 : Hid (Below w.heap.size w w2) := ((HB1.out.setCell (p := ⟨w.heap.size + 1 + 1, 1, none⟩) (by show w.heap.size ≤ w.heap.size + 1 + 1; omega) _).setCell (p := ⟨w.heap.size + 1 + 1, 2, none⟩) (by show w.heap.size ≤ w.heap.size + 1 + 1; omega) _).trans (hb2.mono (by have := HB1.out.size; omega))
  have HR2 : Hid (At w2 (w.heap.size + 1) #[.int .i64 0, .int .i64 0, .int .i64 0, .int .i64 0, .int .i64 0]) := ((HR1.out.other (g := w.heap.size + 1 + 1) (by omega) 1 _).other (g := w.heap.size + 1 + 1) (by omega) 2 _).below hb2 (by omega)
  have hO2 : At w2 (w.heap.size + 1 + 1) #[.int .i64 x0, .int .i64 x1, .int .i64 x2, .int .i64 0, .int .i64 0] := HO1.out.below hb2 (by omega)
  have HO2 : Hid (At ((w2.setCell ⟨w.heap.size + 1 + 1, 3, none⟩ (.int .i64 x3)).setCell ⟨w.heap.size + 1 + 1, 4, none⟩ (.int .i64 x4)) (w.heap.size + 1 + 1) #[.int .i64 x0, .int .i64 x1, .int .i64 x2, .int .i64 x3, .int .i64 x4]) := (hO2.setAt 3 (.int .i64 x3) (B := #[.int .i64 x0, .int .i64 x1, .int .i64 x2, .int .i64 x3, .int .i64 0]) (by simp) (by simp)).setAt 4 _ (by simp) (by simp)
  obtain ⟨o, oz, os2⟩ := hO2
  have o7 := o 3
  have o8 := o 4
  have y7 := oz 3
  have y8 := oz 4
  have q := HO2.out.c
  obtain ⟨r, rz, rs⟩ := HR2.out
  clear hb2 HB1 HP1 HR1 HO1 o5 o6 z5 z6 p7 p8
  go_wp2
  refine bodyPost_ret (v := .agg #[.int .i64 x0, .int .i64 x1, .int .i64 x2, .int .i64 x3, .int .i64 x4]) (by simp [results, Tryd.results78, go_sem, r]) rfl ⟨rfl, ?_⟩
  exact (((((((HB2.out.setCell (p := ⟨w.heap.size + 1 + 1, 3, none⟩) (by show w.heap.size ≤ w.heap.size + 1 + 1; omega) _).setCell (p := ⟨w.heap.size + 1 + 1, 4, none⟩) (by show w.heap.size ≤ w.heap.size + 1 + 1; omega) _).setCell (p := ⟨w.heap.size + 1, 0, none⟩) (Nat.le_succ _) _).setCell (p := ⟨w.heap.size + 1, 1, none⟩) (Nat.le_succ _) _).setCell (p := ⟨w.heap.size + 1, 2, none⟩) (Nat.le_succ _) _).setCell (p := ⟨w.heap.size + 1, 3, none⟩) (Nat.le_succ _) _).setCell (p := ⟨w.heap.size + 1, 4, none⟩) (Nat.le_succ _) _)
end Go.Proofs.YtgcgoehmgaokkaaDoor
