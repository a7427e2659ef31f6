import Derived.Test.YtoopipljedoeeaaDl
namespace Go.Proofs.Ytoopipljedoeeaa
open Go.RowKit

theorem lawDrop_walk (a b c d k l m n p q r s t u : Int) (w : World) :
    Calls Try.prog 5 #[.agg #[.int .i64 a, .int .i64 b, .int .i64 c, .int .i64 d, .int .i64 k, .int .i64 l, .int .i64 m, .int .i64 n], .agg #[.int .i64 p, .int .i64 q, .int .i64 r, .int .i64 s, .int .i64 t, .int .i64 u]] w fun e w' => e = .returned (.bool true) ∧ Below w.heap.size w w' := by
  rcases Bool.eq_false_or_eq_true (pok a b c d k l m n) with hp | hp
  · rcases Bool.eq_false_or_eq_true (qok p q && qok r s && qok t u) with hv | hv
    · have hv' := hv
      simp only [Bool.and_eq_true] at hv'
      obtain ⟨⟨hq1, hq2⟩, hq3⟩ := hv'
      by_cases hk : k = 0
      · subst hk
        by_cases hc : c = 0
        · subst hc
          exact lawDrop_of a b 0 d 0 l m n p q r s t u r s t u true w (fun w => specDrop_2 a b d l m n p q r s t u w hp hq1 hq2 hq3) (fun w => implDrop_2 a b d l m n p q r s t u w hp hq1 hq2 hq3)
        · exact lawDrop_of a b c d 0 l m n p q r s t u p q t u true w (fun w => specDrop_1 a b c d l m n p q r s t u w hp hq1 hq2 hq3 hc) (fun w => implDrop_1 a b c d l m n p q r s t u w hp hq1 hq2 hq3 hc)
      · exact lawDrop_of a b c d k l m n p q r s t u p q r s true w (fun w => specDrop_0 a b c d k l m n p q r s t u w hp hq1 hq2 hq3 hk) (fun w => implDrop_0 a b c d k l m n p q r s t u w hp hq1 hq2 hq3 hk)
    · exact lawDrop_of a b c d k l m n p q r s t u 0 0 0 0 false w (fun w => specDrop_no1 a b c d k l m n p q r s t u w hp hv) (fun w => implDrop_no1 a b c d k l m n p q r s t u w hp hv)
  · exact lawDrop_of a b c d k l m n p q r s t u 0 0 0 0 false w (fun w => specDrop_no0 a b c d k l m n p q r s t u w hp) (fun w => implDrop_no0 a b c d k l m n p q r s t u w hp)
end Go.Proofs.Ytoopipljedoeeaa
