import Derived.Test.YtobhljmpdolomaaRdIm1
namespace Go.Proofs.Ytobhljmpdolomaa
open Go.RowKit

theorem eq_two (d : Nat) (b c x y : Int) (w : World) : (Op.equalIn (d + 1 + 1) 67 (.agg #[.int .u8 b, .int .u8 c]) (.agg #[.int .u8 x, .int .u8 y])).run Try.prog w = .ok (b == x && c == y) w := by
  have hi := infoB
  cases hq : Try.prog.info? 5 with
  | none => rw [hq] at hi; simp at hi
  | some i =>
    rw [hq] at hi
    simp only [Option.map_some, Option.some.injEq, Prod.mk.injEq] at hi
    obtain ⟨hz, hsz, hby⟩ := hi
    have hsize : (sizeOf 5).run Try.prog w = .ok 1 w := by simp [sizeOf, typeInfo, hq, hsz]
    have hp0 : ∀ (u v : Value), (part 5 #[u, v] 0).run Try.prog w = .ok u w := fun u v => by simp [part, isAgg, run_underlying Try.underlying5]
    have hp1 : ∀ (u v : Value), (part 5 #[u, v] 1).run Try.prog w = .ok v w := fun u v => by simp [part, isAgg, run_underlying Try.underlying5]
    have he : ∀ (u v : Int), (Op.equalIn (d + 1) 5 (.int .u8 u) (.int .u8 v)).run Try.prog w = .ok (u == v) w := fun u v => run_equalIn_int (P := Try.prog) w d 5 .u8 .u8 u v Try.underlying5
    rw [Op.equalIn]
    simp only [Sem.run_bind, run_underlying Try.underlying67, Result.andThen_ok, hsize]
    rw [Std.Legacy.Range.forIn_eq_forIn_range']
    simp only [Std.Legacy.Range.size]
    by_cases h1 : b = x
    · by_cases h2 : c = y
      · simp [List.range', List.forIn_cons, Sem.run_bind, hp0, hp1, he, h1, h2]
      · simp [List.range', List.forIn_cons, Sem.run_bind, hp0, hp1, he, h1, h2]
    · simp [List.range', List.forIn_cons, Sem.run_bind, hp0, he, h1]
end Go.Proofs.Ytobhljmpdolomaa
