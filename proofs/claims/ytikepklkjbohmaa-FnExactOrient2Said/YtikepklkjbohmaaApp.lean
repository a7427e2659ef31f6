import Derived.Test.YtikepklkjbohmaaGrow
import Derived.Test.YtikepklkjbohmaaDot2
import Derived.OwnWalk
namespace Go.Proofs.Ytikepklkjbohmaa
open Go.RowKit

def rowL (f : Nat → Int) : Nat → List Value
  | 0 => []
  | k + 1 => rowL f k ++ [.int .i64 (f k), .int .i64 1, .slice none 0 0]

theorem info59 : (Try.prog.info? 59).map (fun i => (i.zero, i.size, i.bytes)) = some (some (.agg #[.int .i64 0, .int .i64 0, .slice none 0 0]), 3, 40) := by kernel_rfl
theorem under70 : Try.prog.underlying 70 = some (.slice 59) := by kernel_rfl

/-- One fraction more behind an own row of fractions. -/
theorem append59 {ops : Array Oper} {rest : List Oper} {o : Oper} {a : Act} {Q : Exit → Act → World → Prop} (w : World) (hgd : o.guard = none) (s x : Operand)
    (ho : o.op = .call { callee := .builtin .append, args := #[s, x], argTypes := #[70, 70] }) (base : Nat) (v : Value) (n : Nat) (xs : List Value) (hs : a.eval s = v) (hown : w.ownsRow base 59 3 v n xs)
    (ad c : Nat) (x0 x1 : Int) (hx : a.eval x = .slice (some ⟨ad, 0, none⟩) 1 c) (h0 : w.cell? ⟨ad, 0, none⟩ = some (.int .i64 x0)) (h1 : w.cell? ⟨ad, 1, none⟩ = some (.int .i64 x1)) (h2 : w.cell? ⟨ad, 2, none⟩ = some (.slice none 0 0))
    (hn : n ≤ 8) (hbase : base ≤ w.heap.size)
    (h : ∀ v' w', w'.ownsRow base 59 3 v' (n + 1) (xs ++ [.int .i64 x0, .int .i64 x1, .slice none 0 0]) → w.grownBy w' v.ownBlock → wpList Try.prog ops Q rest (a.put o.dst v') w') : wpList Try.prog ops Q (o :: rest) a w := by
  have hi := info59
  cases hq : Try.prog.info? 59 with
  | none => rw [hq] at hi; simp at hi
  | some i =>
    rw [hq] at hi
    simp only [Option.map_some, Option.some.injEq, Prod.mk.injEq] at hi
    obtain ⟨hz, hsz, hby⟩ := hi
    refine wpList_append_own w hgd s x 70 ho base 59 i _ 3 40 under70 hq hz hsz hby rfl (by decide) v n xs hs hown ⟨ad, 0, none⟩ 1 c [.int .i64 x0, .int .i64 x1, .slice none 0 0] hx rfl ?_ ?_ (by simp only [maxLen]; omega) (by omega) hbase (fun v' w' h2 h3 _ => h v' w' h2 h3)
    · intro j u hj
      match j, hj with
      | 0, hj => simp at hj; subst hj; simpa [Addr.add] using h0
      | 1, hj => simp at hj; subst hj; simpa [Addr.add] using h1
      | 2, hj => simp at hj; subst hj; simpa [Addr.add] using h2
      | j + 3, hj => simp at hj
    · intro u hu
      simp at hu
      rcases hu with rfl | rfl | rfl <;> rfl
end Go.Proofs.Ytikepklkjbohmaa
