/-
  NARROWER THAN 'FOR EVERY INPUT', by the rows' own cells (each row's printed sentence says how): FnExactSketchOk: laid · FnExactPartsOf: laid · FnExactHistoryOk: laid.
  DERIVED. THE GIVEN ROWS OF THIS SEAT. 3 by the template 'for every input the law returns true; each argument reads behind the call as it read before'; 0 by the template 'total and deterministic' (their statements: YtgcgoehmgaokkaaDoorTotals.lean).
  GIVEN WITH THE SEED: the statements are not yours to turn. If you find one false, say at which input.
  Laid BY PROGRAM, IN A SANDBOX (cutbox-rows.mjs): the forced cells as the released guide's own fill.sh prints them over the translation 7c4c759792aa2530… (all of the seat's roots in one cut). By AI agents, Wed Nov 11 2026. No macro, syntax, notation, axiom, sorry.
-/
import Derived.Test.YtgcgoehmgaokkaaDoorChecked
import GoSem.Claim
import GoSem.ClaimJoined
import GoSem.ClaimMapViews
import Derived.JoinedTies
import Derived.KernelRfl
namespace Go.Proofs.YtgcgoehmgaokkaaDoor
/- THE CELL 'sum', in the pinned program and in every row, IS THE sha256 OF THE DUMP (.gsa) THAT YtgcgoehmgaokkaaDoorProg.lean LOADS. Nothing in Lean hashes anything: it is a label: what it is worth is what the hold of that sum in a sandbox is worth. -/
noncomputable def Tryd.pinned : Pinned := { name := "ytgcgoehmgaokkaadoor", sum := "7c4c759792aa2530edae8d8f044559e9a70d2397fcd3405902776e1263ac97e4", checked := Tryd.checked }
namespace Rows
def none {H : Type} : Left H := { results := [], args := [] }

/- WHAT THE LISTED PACKAGE-LEVEL VARIABLES READ AS WHEN THE CALL BEGINS. Each datum BY PROGRAM (the guide's laid-datum.mjs) off the statement by which the dump's own 'gosem.cut.vars' lays the variable. In a bare row this is a premise. The card (YtgcgoehmgaokkaaDoorCards.lean) ties it to the program's text. -/
def laid_loop_example_g00022_impl_ruleNames {H : Type} : DataW H := .agg [.agg [.lit (.int .i64 0), .lit (.int .i64 0)], .agg [.lit (.int .i64 1), .lit (.int .i64 2)], .agg [.lit (.int .i64 1), .lit (.int .i64 1)], .agg [.lit (.int .i64 1), .lit (.int .i64 1)], .agg [.lit (.int .i64 2), .lit (.int .i64 2)], .agg [.lit (.int .i64 2), .lit (.int .i64 1)], .agg [.lit (.int .i64 2), .lit (.int .i64 1)], .agg [.lit (.int .i64 2), .lit (.int .i64 0)], .agg [.lit (.int .i64 3), .lit (.int .i64 0)], .agg [.lit (.int .i64 2), .lit (.int .i64 2)], .agg [.lit (.int .i64 4), .lit (.int .i64 0)], .agg [.lit (.int .i64 3), .lit (.int .i64 1)]]
def laid_loop_example_g00022_impl_featNeeds {H : Type} : DataW H := .agg [.agg [.lit (.bool false), .lit (.bool false), .lit (.int .i64 0), .lit (.int .i64 0)], .agg [.lit (.bool false), .lit (.bool false), .lit (.int .i64 6), .lit (.int .i64 6)], .agg [.lit (.bool false), .lit (.bool false), .lit (.int .i64 8), .lit (.int .i64 14)], .agg [.lit (.bool true), .lit (.bool true), .lit (.int .i64 0), .lit (.int .i64 0)], .agg [.lit (.bool true), .lit (.bool true), .lit (.int .i64 0), .lit (.int .i64 0)], .agg [.lit (.bool true), .lit (.bool true), .lit (.int .i64 0), .lit (.int .i64 0)], .agg [.lit (.bool true), .lit (.bool false), .lit (.int .i64 3), .lit (.int .i64 3)], .agg [.lit (.bool true), .lit (.bool false), .lit (.int .i64 4), .lit (.int .i64 4)]]

/-- 'laws.FnExactSketchOk': WHATEVER THE INPUT: true; the input reads as it did. -/
def fnExactSketchOkSpec : ChangeSpec := { name := "fnExactSketchOk", vars := ["loop.example/g00022/impl.ruleNames"], fn := fun _ => fun
  | [d, g1] => { results := [.lit (.bool true)], args := [d], vars := [g1] }
  | _ => none }
def fnExactSketchOkRow : OpenClaim := { program := "ytgcgoehmgaokkaadoor", sum := "7c4c759792aa2530edae8d8f044559e9a70d2397fcd3405902776e1263ac97e4", func := "loop.example/g00022/laws.FnExactSketchOk", spec := "fnExactSketchOk", unfollowed := true, recurses := true, named := ["loop.example/g00022/impl.ruleNames"], apart := false, laid := [("loop.example/g00022/impl.ruleNames", laid_loop_example_g00022_impl_ruleNames)] }
def FnExactSketchOkSaid : Prop := fnExactSketchOkRow.holds Tryd.pinned (OpenSpec.ofChange fnExactSketchOkSpec)

/-- ITS FALSE NEIGHBOUR: 'it returns false'. Refute it at one input. -/
def fnExactSketchOkWrong : ChangeSpec := { name := "fnExactSketchOk", vars := ["loop.example/g00022/impl.ruleNames"], fn := fun _ => fun
  | [d, g1] => { results := [.lit (.bool false)], args := [d], vars := [g1] }
  | _ => none }
def FnExactSketchOkWrongFalsely : Prop := fnExactSketchOkRow.holds Tryd.pinned (OpenSpec.ofChange fnExactSketchOkWrong)

/-- 'laws.FnExactPartsOf': WHATEVER THE INPUT: true; the input reads as it did. -/
def fnExactPartsOfSpec : ChangeSpec := { name := "fnExactPartsOf", vars := ["loop.example/g00022/impl.ruleNames"], fn := fun _ => fun
  | [d, g1] => { results := [.lit (.bool true)], args := [d], vars := [g1] }
  | _ => none }
def fnExactPartsOfRow : OpenClaim := { program := "ytgcgoehmgaokkaadoor", sum := "7c4c759792aa2530edae8d8f044559e9a70d2397fcd3405902776e1263ac97e4", func := "loop.example/g00022/laws.FnExactPartsOf", spec := "fnExactPartsOf", unfollowed := true, recurses := true, named := ["loop.example/g00022/impl.ruleNames"], apart := false, laid := [("loop.example/g00022/impl.ruleNames", laid_loop_example_g00022_impl_ruleNames)] }
def FnExactPartsOfSaid : Prop := fnExactPartsOfRow.holds Tryd.pinned (OpenSpec.ofChange fnExactPartsOfSpec)

/-- ITS FALSE NEIGHBOUR: 'it returns false'. Refute it at one input. -/
def fnExactPartsOfWrong : ChangeSpec := { name := "fnExactPartsOf", vars := ["loop.example/g00022/impl.ruleNames"], fn := fun _ => fun
  | [d, g1] => { results := [.lit (.bool false)], args := [d], vars := [g1] }
  | _ => none }
def FnExactPartsOfWrongFalsely : Prop := fnExactPartsOfRow.holds Tryd.pinned (OpenSpec.ofChange fnExactPartsOfWrong)

/-- 'laws.FnExactHistoryOk': WHATEVER THE INPUT: true; the input reads as it did. -/
def fnExactHistoryOkSpec : ChangeSpec := { name := "fnExactHistoryOk", vars := ["loop.example/g00022/impl.featNeeds"], fn := fun _ => fun
  | [d, g1] => { results := [.lit (.bool true)], args := [d], vars := [g1] }
  | _ => none }
def fnExactHistoryOkRow : OpenClaim := { program := "ytgcgoehmgaokkaadoor", sum := "7c4c759792aa2530edae8d8f044559e9a70d2397fcd3405902776e1263ac97e4", func := "loop.example/g00022/laws.FnExactHistoryOk", spec := "fnExactHistoryOk", unfollowed := true, recurses := true, named := ["loop.example/g00022/impl.featNeeds"], apart := false, laid := [("loop.example/g00022/impl.featNeeds", laid_loop_example_g00022_impl_featNeeds)] }
def FnExactHistoryOkSaid : Prop := fnExactHistoryOkRow.holds Tryd.pinned (OpenSpec.ofChange fnExactHistoryOkSpec)

/-- ITS FALSE NEIGHBOUR: 'it returns false'. Refute it at one input. -/
def fnExactHistoryOkWrong : ChangeSpec := { name := "fnExactHistoryOk", vars := ["loop.example/g00022/impl.featNeeds"], fn := fun _ => fun
  | [d, g1] => { results := [.lit (.bool false)], args := [d], vars := [g1] }
  | _ => none }
def FnExactHistoryOkWrongFalsely : Prop := fnExactHistoryOkRow.holds Tryd.pinned (OpenSpec.ofChange fnExactHistoryOkWrong)

/- THE SECOND FORM. 'bulk': how many values and letters a reading holds, each counted each time it is reached (what is shared counts as often as it is met; a slice's spare places count too). A statement '..UptoSaid' is the law's where the arguments, and the package variables that the reading takes, are together of bulk at most 1048576: NARROWER than '..Said'. Prove '..Said' where nothing that the law and all that it calls make is longer than what came in: it says more and counts as full. Else prove '..UptoSaid'. A law counts once. -/
mutual
def uptoBulk {H : Type} : DataW H → Nat
  | .lit (.string bytes) => bytes.length + 1
  | .lit _ => 1
  | .nil => 1
  | .ptr d => uptoBulk d + 1
  | .slice elems spare => uptoBulkAll elems + uptoBulkAll spare + 1
  | .agg parts => uptoBulkAll parts + 1
  | .iface _ d => uptoBulk d + 1
  | .map entries => uptoBulkEntries entries + 1
  | .held _ => 1
def uptoBulkAll {H : Type} : List (DataW H) → Nat
  | [] => 0
  | d :: r => uptoBulk d + uptoBulkAll r
def uptoBulkEntries {H : Type} : List (Lit × DataW H) → Nat
  | [] => 0
  | x :: r => uptoBulkEntry x + uptoBulkEntries r
def uptoBulkEntry {H : Type} : Lit × DataW H → Nat
  | (.string bytes, d) => bytes.length + uptoBulk d + 1
  | (_, d) => uptoBulk d + 1
 end
def uptoSmall : (H : Type) → List (DataW H) → Bool := fun _ ds => decide (uptoBulkAll ds ≤ 1048576)
def OpenSpec.upto (s : _root_.Go.ChangeSpec) : _root_.Go.OpenSpec := { _root_.Go.OpenSpec.ofChange s with cond := some uptoSmall }

/-- 'laws.FnExactSketchOk', WHERE WHAT IT READS IS OF BULK AT MOST 1048576: true; the input reads as it did. -/
def fnExactSketchOkUptoRow : OpenClaim := { program := "ytgcgoehmgaokkaadoor", sum := "7c4c759792aa2530edae8d8f044559e9a70d2397fcd3405902776e1263ac97e4", func := "loop.example/g00022/laws.FnExactSketchOk", spec := "fnExactSketchOk", unfollowed := true, recurses := true, named := ["loop.example/g00022/impl.ruleNames"], apart := false, laid := [("loop.example/g00022/impl.ruleNames", laid_loop_example_g00022_impl_ruleNames)], narrowed := true }
def FnExactSketchOkUptoSaid : Prop := fnExactSketchOkUptoRow.holds Tryd.pinned (OpenSpec.upto fnExactSketchOkSpec)

/-- 'laws.FnExactPartsOf', WHERE WHAT IT READS IS OF BULK AT MOST 1048576: true; the input reads as it did. -/
def fnExactPartsOfUptoRow : OpenClaim := { program := "ytgcgoehmgaokkaadoor", sum := "7c4c759792aa2530edae8d8f044559e9a70d2397fcd3405902776e1263ac97e4", func := "loop.example/g00022/laws.FnExactPartsOf", spec := "fnExactPartsOf", unfollowed := true, recurses := true, named := ["loop.example/g00022/impl.ruleNames"], apart := false, laid := [("loop.example/g00022/impl.ruleNames", laid_loop_example_g00022_impl_ruleNames)], narrowed := true }
def FnExactPartsOfUptoSaid : Prop := fnExactPartsOfUptoRow.holds Tryd.pinned (OpenSpec.upto fnExactPartsOfSpec)

/-- 'laws.FnExactHistoryOk', WHERE WHAT IT READS IS OF BULK AT MOST 1048576: true; the input reads as it did. -/
def fnExactHistoryOkUptoRow : OpenClaim := { program := "ytgcgoehmgaokkaadoor", sum := "7c4c759792aa2530edae8d8f044559e9a70d2397fcd3405902776e1263ac97e4", func := "loop.example/g00022/laws.FnExactHistoryOk", spec := "fnExactHistoryOk", unfollowed := true, recurses := true, named := ["loop.example/g00022/impl.featNeeds"], apart := false, laid := [("loop.example/g00022/impl.featNeeds", laid_loop_example_g00022_impl_featNeeds)], narrowed := true }
def FnExactHistoryOkUptoSaid : Prop := fnExactHistoryOkUptoRow.holds Tryd.pinned (OpenSpec.upto fnExactHistoryOkSpec)

end Rows
end Go.Proofs.YtgcgoehmgaokkaaDoor
