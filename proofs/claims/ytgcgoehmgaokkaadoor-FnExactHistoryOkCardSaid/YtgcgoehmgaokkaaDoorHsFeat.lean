import Derived.Test.YtgcgoehmgaokkaaDoorHsTerm
import Derived.Test.YtgcgoehmgaokkaaDoorHsQ
namespace Go.Proofs.YtgcgoehmgaokkaaDoor
open Go.RowKit

/-- A feature, told. -/
structure Ft where
  id : Int
  kind : Int
  off : Bool
  on : Int
  wth : Int
  n : Nat
  T : Nat → Int
/-- Cell c of a feature whose terms lie at s. -/
def Ft.cell (f : Ft) (s : Value) (c : Nat) : Value :=
  (#[.int .i64 f.id, .int .i64 f.kind, .bool f.off, .int .i64 f.on, .int .i64 f.wth, s] : Array Value).getD c (.int .i64 0)
abbrev Ft.agg (f : Ft) (s : Value) : Value := .agg #[.int .i64 f.id, .int .i64 f.kind, .bool f.off, .int .i64 f.on, .int .i64 f.wth, s]
abbrev Ft.terms (f : Ft) (no : Option Addr) (c : Nat) : Value := .slice no f.n c

theorem infoFeat : (Tryd.prog.info? 78).map (fun i => (i.zero, i.size, i.bytes)) = some (some (.agg #[.int .i64 0, .int .i64 0, .bool false, .int .i64 0, .int .i64 0, .slice none 0 0]), 6, 64) := by kernel_rfl

set_option maxHeartbeats 2000000 in
theorem toFeat_any (f : Ft) (no : Option Addr) (c : Nat) (w : World) (hn : f.n ≤ 1048576) (hr : Rd w 5 no f.n f.T) :
    Calls Tryd.prog 62 #[f.agg (f.terms no c)] w fun e w' => ∃ g, e = .returned (f.agg (.slice (some ⟨g, 0, none⟩) f.n f.n)) ∧ w.heap.size ≤ g ∧ w'.rowIs g 84 (f.n * 5) (fun j => .int .i64 (f.T j)) ∧ Below w.heap.size w w' := by
  obtain ⟨id, kind, off, on, wth, n, T⟩ := f
  have hn' : n ≤ 1048576 := hn
  have HV : Hid (Rd (((w.alloc (.cells #[.int .i64 id, .int .i64 kind, .bool off, .int .i64 on, .int .i64 wth, .slice no n c] 109)).alloc (.cells #[.int .i64 0, .int .i64 0, .bool false, .int .i64 0, .int .i64 0, .slice none 0 0] 78)).alloc (.cells #[.int .i64 id, .int .i64 kind, .bool off, .int .i64 on, .int .i64 wth, .slice none 0 0] 78)) 5 no n T) := Rd.below hr (Joins.below_alloc3 _ _ _ _) (Nat.le_refl _)
  have HA : Hid (At (((w.alloc (.cells #[.int .i64 id, .int .i64 kind, .bool off, .int .i64 on, .int .i64 wth, .slice no n c] 109)).alloc (.cells #[.int .i64 0, .int .i64 0, .bool false, .int .i64 0, .int .i64 0, .slice none 0 0] 78)).alloc (.cells #[.int .i64 id, .int .i64 kind, .bool off, .int .i64 on, .int .i64 wth, .slice none 0 0] 78)) (w.heap.size + 1) #[.int .i64 0, .int .i64 0, .bool false, .int .i64 0, .int .i64 0, .slice none 0 0] ∧ At (((w.alloc (.cells #[.int .i64 id, .int .i64 kind, .bool off, .int .i64 on, .int .i64 wth, .slice no n c] 109)).alloc (.cells #[.int .i64 0, .int .i64 0, .bool false, .int .i64 0, .int .i64 0, .slice none 0 0] 78)).alloc (.cells #[.int .i64 id, .int .i64 kind, .bool off, .int .i64 on, .int .i64 wth, .slice none 0 0] 78)) (w.heap.size + 1 + 1) #[.int .i64 id, .int .i64 kind, .bool off, .int .i64 on, .int .i64 wth, .slice none 0 0]) := ⟨At.alloc ⟨fun j => by go_simp, fun j => by go_simp, by simp⟩ _, ⟨fun j => by go_simp, fun j => by go_simp, by simp⟩⟩
  clear hr hn
  go_enter Tryd.func62, Tryd.ntmps62
  go_wp2_with fail
  refine (toTermS_any n c no T _ hn' HV.out).mono ?_
  rintro e w1 ⟨g, rfl, hg, hrow, hb1⟩
  have HG : Hid (w.heap.size + 1 + 1 + 1 ≤ g) := by simp at hg; exact hg
  have HR : Hid (w1.rowIs g 84 (n * 5) (fun j => .int .i64 (T j))) := hrow
  have HB1 : Hid (Below w.heap.size w w1) := (Joins.below_alloc3 _ _ _ _).trans (hb1.mono (by simp; omega))
  have HA1 : Hid (At w1 (w.heap.size + 1) #[.int .i64 0, .int .i64 0, .bool false, .int .i64 0, .int .i64 0, .slice none 0 0] ∧ At w1 (w.heap.size + 1 + 1) #[.int .i64 id, .int .i64 kind, .bool off, .int .i64 on, .int .i64 wth, .slice none 0 0]) := ⟨HA.out.1.below hb1 HA.out.1.sz, HA.out.2.below hb1 HA.out.2.sz⟩
  clear hg hrow hb1 HV HA
  obtain ⟨q, qf, qs⟩ := HA1.out.2
  obtain ⟨r, rf, rs⟩ := HA1.out.1
  go_wp2
  refine bodyPost_ret (v := .agg #[.int .i64 id, .int .i64 kind, .bool off, .int .i64 on, .int .i64 wth, .slice (some ⟨g, 0, none⟩) n n]) (by simp [results, Tryd.results62, go_sem, r]) rfl ⟨g, rfl, ?_, ?_, ?_⟩
  · have := HG.out; omega
  · exact (((((HR.out.setOther (a := ⟨w.heap.size + 1 + 1, 5, none⟩) (by have := HG.out; simp; omega) _).setOther (a := ⟨w.heap.size + 1, 0, none⟩) (by have := HG.out; simp; omega) _).setOther (a := ⟨w.heap.size + 1, 1, none⟩) (by have := HG.out; simp; omega) _).setOther (a := ⟨w.heap.size + 1, 2, none⟩) (by have := HG.out; simp; omega) _).setOther (a := ⟨w.heap.size + 1, 3, none⟩) (by have := HG.out; simp; omega) _).setOther (a := ⟨w.heap.size + 1, 4, none⟩) (by have := HG.out; simp; omega) _ |>.setOther (a := ⟨w.heap.size + 1, 5, none⟩) (by have := HG.out; simp; omega) _
  · exact ((((((HB1.out.setCell (p := ⟨w.heap.size + 1 + 1, 5, none⟩) (by show w.heap.size ≤ w.heap.size + 1 + 1; omega) _).setCell (p := ⟨w.heap.size + 1, 0, none⟩) (Nat.le_succ _) _).setCell (p := ⟨w.heap.size + 1, 1, none⟩) (Nat.le_succ _) _).setCell (p := ⟨w.heap.size + 1, 2, none⟩) (Nat.le_succ _) _).setCell (p := ⟨w.heap.size + 1, 3, none⟩) (Nat.le_succ _) _).setCell (p := ⟨w.heap.size + 1, 4, none⟩) (Nat.le_succ _) _).setCell (p := ⟨w.heap.size + 1, 5, none⟩) (Nat.le_succ _) _
end Go.Proofs.YtgcgoehmgaokkaaDoor
