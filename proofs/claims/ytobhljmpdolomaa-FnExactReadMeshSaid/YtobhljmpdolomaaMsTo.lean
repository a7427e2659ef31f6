import Derived.Test.YtobhljmpdolomaaMsTri
import Derived.Test.YtobhljmpdolomaaMsV3
namespace Go.Proofs.Ytobhljmpdolomaa
open Go.RowKit

/-- What toMesh lays. -/
def Laid (w w' : World) (v : Value) (nv nt : Nat) (V T : Nat → Int) : Prop :=
  ∃ g h, v = .agg #[.slice (some ⟨g, 0, none⟩) nv nv, .slice (some ⟨h, 0, none⟩) nt nt] ∧ w.heap.size ≤ g ∧ w.heap.size ≤ h ∧
    w'.rowIs g 51 (nv * 6) (fun j => .int .i64 (V j)) ∧ w'.rowIs h 53 (nt * 3) (fun j => .int .i64 (T j))

theorem At.set2_0 {w : World} {b : Nat} {x0 x1 : Value} (h : At w b #[x0, x1]) (y : Value) : At (w.setCell ⟨b, 0, none⟩ y) b #[y, x1] := by
  obtain ⟨c, fz, sz⟩ := h
  have c0 := c 0
  have c1 := c 1
  refine ⟨fun j => ?_, fun j => by have := fz j; go_simp, by simpa using sz⟩
  match j with
  | 0 => go_simp
  | 1 => go_simp
  | j + 2 => have := c (j + 2); go_simp
theorem At.set2_1 {w : World} {b : Nat} {x0 x1 : Value} (h : At w b #[x0, x1]) (y : Value) : At (w.setCell ⟨b, 1, none⟩ y) b #[x0, y] := by
  obtain ⟨c, fz, sz⟩ := h
  have c0 := c 0
  have c1 := c 1
  refine ⟨fun j => ?_, fun j => by have := fz j; go_simp, by simpa using sz⟩
  match j with
  | 0 => go_simp
  | 1 => go_simp
  | j + 2 => have := c (j + 2); go_simp

set_option maxHeartbeats 1000000 in
theorem toMesh_any (nv nt cv ct : Nat) (vo to : Option Addr) (V T : Nat → Int) (w : World) (hnv : nv ≤ 1048576) (hnt : nt ≤ 1048576) (hv : Rd w 6 vo nv V) (ht : Rd w 3 to nt T) :
    Calls Try.prog 8 #[.agg #[.slice vo nv cv, .slice to nt ct]] w fun e w' => ∃ v, e = .returned v ∧ Laid w w' v nv nt V T ∧ Below w.heap.size w w' := by
  have HV : Hid (Rd (((w.alloc (.cells #[.slice vo nv cv, .slice to nt ct] 25)).alloc (.cells #[.slice none 0 0, .slice none 0 0] 31)).alloc (.cells #[.slice none 0 0, .slice none 0 0] 31)) 6 vo nv V) := Rd.below hv (Joins.below_alloc3 _ _ _ _) (Nat.le_refl _)
  have HT : Hid (Rd w 3 to nt T) := ht
  have HA : Hid (At (((w.alloc (.cells #[.slice vo nv cv, .slice to nt ct] 25)).alloc (.cells #[.slice none 0 0, .slice none 0 0] 31)).alloc (.cells #[.slice none 0 0, .slice none 0 0] 31)) (w.heap.size + 1) #[.slice none 0 0, .slice none 0 0] ∧ At (((w.alloc (.cells #[.slice vo nv cv, .slice to nt ct] 25)).alloc (.cells #[.slice none 0 0, .slice none 0 0] 31)).alloc (.cells #[.slice none 0 0, .slice none 0 0] 31)) (w.heap.size + 1 + 1) #[.slice none 0 0, .slice none 0 0] ∧ At (((w.alloc (.cells #[.slice vo nv cv, .slice to nt ct] 25)).alloc (.cells #[.slice none 0 0, .slice none 0 0] 31)).alloc (.cells #[.slice none 0 0, .slice none 0 0] 31)) w.heap.size #[.slice vo nv cv, .slice to nt ct]) := ⟨⟨fun j => by go_simp, fun j => by go_simp, by simp⟩, ⟨fun j => by go_simp, fun j => by go_simp, by simp⟩, ⟨fun j => by go_simp, fun j => by go_simp, by simp; omega⟩⟩
  clear hv ht
  go_enter Try.func8, Try.ntmps8
  go_wp2_with fail
  refine (toV3S_any nv cv vo V _ hnv HV.out).mono ?_
  rintro e w1 ⟨g, rfl, hg, hrow, hb1⟩
  have HG : Hid (w.heap.size + 1 + 1 + 1 ≤ g) := by simp at hg; exact hg
  have HR : Hid (w1.rowIs g 51 (nv * 6) (fun j => .int .i64 (V j))) := hrow
  have HB1 : Hid (Below w.heap.size w w1) := (Joins.below_alloc3 _ _ _ _).trans (hb1.mono (by simp; omega))
  have HA1 : Hid (At w1 (w.heap.size + 1) #[.slice none 0 0, .slice none 0 0] ∧ At w1 (w.heap.size + 1 + 1) #[.slice none 0 0, .slice none 0 0] ∧ At w1 w.heap.size #[.slice vo nv cv, .slice to nt ct]) := ⟨HA.out.1.below hb1 HA.out.1.sz, HA.out.2.1.below hb1 HA.out.2.1.sz, HA.out.2.2.below hb1 HA.out.2.2.sz⟩
  clear hg hrow hb1 HV HA
  have HT1 : Hid (Rd (w1.setCell ⟨w.heap.size + 1 + 1, 0, none⟩ (.slice (some ⟨g, 0, none⟩) nv nv)) 3 to nt T) := Rd.below HT.out (HB1.out.setCell (p := ⟨w.heap.size + 1 + 1, 0, none⟩) (by simp; omega) _) (Nat.le_refl _)
  obtain ⟨p, _, _⟩ := HA1.out.2.2
  obtain ⟨q, qf, qs⟩ := HA1.out.2.1
  go_wp2_with fail
  refine (toTriS_any nt ct to T _ hnt HT1.out).mono ?_
  rintro e w2 ⟨h, rfl, hh, hrow, hb2⟩
  have HH : Hid (w1.heap.size ≤ h) := by simp at hh; exact hh
  have HR2 : Hid (w2.rowIs h 53 (nt * 3) (fun j => .int .i64 (T j))) := hrow
  have HB2 : Hid (Below w.heap.size w w2) := (HB1.out.setCell (p := ⟨w.heap.size + 1 + 1, 0, none⟩) (by simp; omega) _).trans (hb2.mono (by have := HB1.out.size; simpa using this))
  have HRg : Hid (w2.rowIs g 51 (nv * 6) (fun j => .int .i64 (V j))) := rowIs_below (HR.out.setOther (a := ⟨w.heap.size + 1 + 1, 0, none⟩) (by have := HG.out; simp; omega) _) hb2 (by simpa using HR.out.lt)
  have HA2 : Hid (At w2 (w.heap.size + 1) #[.slice none 0 0, .slice none 0 0] ∧ At w2 (w.heap.size + 1 + 1) #[.slice (some ⟨g, 0, none⟩) nv nv, .slice none 0 0]) := by
    have k0 := HA1.out.1.sz
    have k1 := HA1.out.2.1.sz
    exact ⟨(HA1.out.1.other (g := w.heap.size + 1 + 1) (by omega) 0 _).below hb2 (by simpa using k0), (HA1.out.2.1.set2_0 _).below hb2 (by simpa using k1)⟩
  have HS : Hid (w.heap.size + 1 + 1 < w1.heap.size) := HA1.out.2.1.sz
  clear hh hrow hb2 p q qf qs HA1 HT1 HR HB1 HT
  obtain ⟨q, qf, qs⟩ := HA2.out.2
  obtain ⟨r, rf, rs⟩ := HA2.out.1
  go_wp2
  refine bodyPost_ret (v := .agg #[.slice (some ⟨g, 0, none⟩) nv nv, .slice (some ⟨h, 0, none⟩) nt nt]) (by simp [results, Try.results8, go_sem, r]) rfl ⟨_, rfl, ⟨g, h, rfl, ?_, ?_, ?_, ?_⟩, ?_⟩
  · have := HG.out; omega
  · have := HH.out; have := HS.out; omega
  · exact ((HRg.out.setOther (a := ⟨w.heap.size + 1 + 1, 1, none⟩) (by have := HG.out; simp; omega) _).setOther (a := ⟨w.heap.size + 1, 0, none⟩) (by have := HG.out; simp; omega) _).setOther (a := ⟨w.heap.size + 1, 1, none⟩) (by have := HG.out; simp; omega) _
  · exact ((HR2.out.setOther (a := ⟨w.heap.size + 1 + 1, 1, none⟩) (by have := HH.out; have := HS.out; simp; omega) _).setOther (a := ⟨w.heap.size + 1, 0, none⟩) (by have := HH.out; have := HS.out; simp; omega) _).setOther (a := ⟨w.heap.size + 1, 1, none⟩) (by have := HH.out; have := HS.out; simp; omega) _
  · exact ((HB2.out.setCell (p := ⟨w.heap.size + 1 + 1, 1, none⟩) (by simp; omega) _).setCell (p := ⟨w.heap.size + 1, 0, none⟩) (by simp) _).setCell (p := ⟨w.heap.size + 1, 1, none⟩) (by simp) _
end Go.Proofs.Ytobhljmpdolomaa
