import Derived.Test.YtikepklkjbohmaaNeg
import Derived.Laws.AppendOwn
namespace Go.Proofs.Ytikepklkjbohmaa
open Go.RowKit

theorem lt_of_cell {w : World} {g j : Nat} {u : Value} (h : w.cell? ⟨g, j, none⟩ = some u) : g < w.heap.size := World.block_lt_of_cell? w ⟨g, j, none⟩ h

/-- A magnitude stays where an own row that holds no groups is appended to. -/
theorem Mag.grown {w w' : World} {a : Option Addr} {n c : Nat} {f : Nat → Nat} {m b : Nat} (h : Mag w a n c f m) (hg : w.grownBy w' (some b)) {u : Value} (hb : w.cell? ⟨b, 0, none⟩ = some u) (hu : NotG u) : Mag w' a n c f m :=
  ⟨⟨h.sl.small, h.sl.cap, h.sl.caps, h.sl.lt, fun hn => by
    obtain ⟨g, e, hc⟩ := h.sl.at_ hn
    have hgb : g ≠ b := by
      rintro rfl
      have := hc 0 hn
      rw [hb] at this
      exact hu _ (Option.some.inj this)
    exact ⟨g, e, fun i hi => by rw [cell_same (hg.block g (lt_of_cell (hc i hi)) (fun k => hgb (Option.some.inj k)))]; exact hc i hi⟩⟩, h.top, h.is⟩

/-- A fraction stays where an own row of fractions is appended to. -/
theorem RIs.grown {w w' : World} {v : Value} {P : Int} {Q : Nat} {b : Nat} (h : RIs w v P Q) (hg : w.grownBy w' (some b)) {x : Int} (hb : w.cell? ⟨b, 0, none⟩ = some (.int .i64 x)) : RIs w' v P Q := by
  rcases h with h | ⟨h0, g, a, n, c, f, b', m, d, k, e, hc, h1, h2⟩
  · exact .inl h
  · have hgb : g ≠ b := by
      rintro rfl
      have := hc 0
      rw [hb] at this
      simp at this
    have hgl : g < w.heap.size := lt_of_cell (j := 0) (u := .bool (decide (P < 0))) (hc 0)
    exact .inr ⟨h0, g, a, n, c, f, b', m, d, k, e, fun j => by rw [cell_same (hg.block g hgl (fun k => hgb (Option.some.inj k)))]; exact hc j, h1.grown hg hb (notG_i64 _), h2.grown hg hb (notG_i64 _)⟩
end Go.Proofs.Ytikepklkjbohmaa
