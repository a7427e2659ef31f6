/-
  No cell of these rows narrows 'for every input' (looked for: loops, veiled, ifaces, maps, wideKeys, modest, calm, conditions, laid).
  DERIVED. THE GIVEN ROWS OF THIS SEAT. 7 by the template 'for every input the law returns true; each argument reads behind the call as it read before'; 0 by the template 'total and deterministic' (their statements: YtikepklkjbohmaaTotals.lean).
  GIVEN WITH THE SEED: the statements are not yours to turn. If you find one false, say at which input.
  Laid BY PROGRAM, IN A SANDBOX (cutbox-rows.mjs): the forced cells as the released guide's own fill.sh prints them over the translation ce38425cf2fcd3da… (all of the seat's roots in one cut). By AI agents, Wed Nov 11 2026. No macro, syntax, notation, axiom, sorry.
-/
import Derived.Test.YtikepklkjbohmaaChecked
import GoSem.Claim
import GoSem.ClaimJoined
import GoSem.ClaimMapViews
import Derived.JoinedTies
import Derived.KernelRfl
namespace Go.Proofs.Ytikepklkjbohmaa
/- THE CELL 'sum', in the pinned program and in every row, IS THE sha256 OF THE DUMP (.gsa) THAT YtikepklkjbohmaaProg.lean LOADS. Nothing in Lean hashes anything: it is a label: what it is worth is what the hold of that sum in a sandbox is worth. -/
noncomputable def Try.pinned : Pinned := { name := "ytikepklkjbohmaa", sum := "ce38425cf2fcd3da37ba1b80c5ab86510e41fc0d0994136776b82e2bb77ef622", checked := Try.checked }
namespace Rows
def none {H : Type} : Left H := { results := [], args := [] }

/-- 'laws.FnExactQOk': WHATEVER THE INPUT: true; the input reads as it did. -/
def fnExactQOkSpec : ChangeSpec := { name := "fnExactQOk", fn := fun _ => fun
  | [d] => { results := [.lit (.bool true)], args := [d] }
  | _ => none }
def fnExactQOkRow : OpenClaim := { program := "ytikepklkjbohmaa", sum := "ce38425cf2fcd3da37ba1b80c5ab86510e41fc0d0994136776b82e2bb77ef622", func := "loop.example/g00022/laws.FnExactQOk", spec := "fnExactQOk", apart := false }
def FnExactQOkSaid : Prop := fnExactQOkRow.holds Try.pinned (OpenSpec.ofChange fnExactQOkSpec)

/-- ITS FALSE NEIGHBOUR: 'it returns false'. Refute it at one input. -/
def fnExactQOkWrong : ChangeSpec := { name := "fnExactQOk", fn := fun _ => fun
  | [d] => { results := [.lit (.bool false)], args := [d] }
  | _ => none }
def FnExactQOkWrongFalsely : Prop := fnExactQOkRow.holds Try.pinned (OpenSpec.ofChange fnExactQOkWrong)

/-- 'laws.FnExactQOf': WHATEVER THE INPUT: true; the input reads as it did. -/
def fnExactQOfSpec : ChangeSpec := { name := "fnExactQOf", fn := fun _ => fun
  | [d1, d2] => { results := [.lit (.bool true)], args := [d1, d2] }
  | _ => none }
def fnExactQOfRow : OpenClaim := { program := "ytikepklkjbohmaa", sum := "ce38425cf2fcd3da37ba1b80c5ab86510e41fc0d0994136776b82e2bb77ef622", func := "loop.example/g00022/laws.FnExactQOf", spec := "fnExactQOf", apart := false }
def FnExactQOfSaid : Prop := fnExactQOfRow.holds Try.pinned (OpenSpec.ofChange fnExactQOfSpec)

/-- ITS FALSE NEIGHBOUR: 'it returns false'. Refute it at one input. -/
def fnExactQOfWrong : ChangeSpec := { name := "fnExactQOf", fn := fun _ => fun
  | [d1, d2] => { results := [.lit (.bool false)], args := [d1, d2] }
  | _ => none }
def FnExactQOfWrongFalsely : Prop := fnExactQOfRow.holds Try.pinned (OpenSpec.ofChange fnExactQOfWrong)

/-- 'laws.FnExactOrient2': WHATEVER THE INPUT: true; the input reads as it did. -/
def fnExactOrient2Spec : ChangeSpec := { name := "fnExactOrient2", fn := fun _ => fun
  | [d1, d2, d3] => { results := [.lit (.bool true)], args := [d1, d2, d3] }
  | _ => none }
def fnExactOrient2Row : OpenClaim := { program := "ytikepklkjbohmaa", sum := "ce38425cf2fcd3da37ba1b80c5ab86510e41fc0d0994136776b82e2bb77ef622", func := "loop.example/g00022/laws.FnExactOrient2", spec := "fnExactOrient2", recurses := true, apart := false }
def FnExactOrient2Said : Prop := fnExactOrient2Row.holds Try.pinned (OpenSpec.ofChange fnExactOrient2Spec)

/-- ITS FALSE NEIGHBOUR: 'it returns false'. Refute it at one input. -/
def fnExactOrient2Wrong : ChangeSpec := { name := "fnExactOrient2", fn := fun _ => fun
  | [d1, d2, d3] => { results := [.lit (.bool false)], args := [d1, d2, d3] }
  | _ => none }
def FnExactOrient2WrongFalsely : Prop := fnExactOrient2Row.holds Try.pinned (OpenSpec.ofChange fnExactOrient2Wrong)

/-- 'laws.FnExactCmpAlong': WHATEVER THE INPUT: true; the input reads as it did. -/
def fnExactCmpAlongSpec : ChangeSpec := { name := "fnExactCmpAlong", fn := fun _ => fun
  | [d1, d2, d3, d4] => { results := [.lit (.bool true)], args := [d1, d2, d3, d4] }
  | _ => none }
def fnExactCmpAlongRow : OpenClaim := { program := "ytikepklkjbohmaa", sum := "ce38425cf2fcd3da37ba1b80c5ab86510e41fc0d0994136776b82e2bb77ef622", func := "loop.example/g00022/laws.FnExactCmpAlong", spec := "fnExactCmpAlong", apart := false }
def FnExactCmpAlongSaid : Prop := fnExactCmpAlongRow.holds Try.pinned (OpenSpec.ofChange fnExactCmpAlongSpec)

/-- ITS FALSE NEIGHBOUR: 'it returns false'. Refute it at one input. -/
def fnExactCmpAlongWrong : ChangeSpec := { name := "fnExactCmpAlong", fn := fun _ => fun
  | [d1, d2, d3, d4] => { results := [.lit (.bool false)], args := [d1, d2, d3, d4] }
  | _ => none }
def FnExactCmpAlongWrongFalsely : Prop := fnExactCmpAlongRow.holds Try.pinned (OpenSpec.ofChange fnExactCmpAlongWrong)

/-- 'laws.FnExactCmpDist': WHATEVER THE INPUT: true; the input reads as it did. -/
def fnExactCmpDistSpec : ChangeSpec := { name := "fnExactCmpDist", fn := fun _ => fun
  | [d1, d2, d3] => { results := [.lit (.bool true)], args := [d1, d2, d3] }
  | _ => none }
def fnExactCmpDistRow : OpenClaim := { program := "ytikepklkjbohmaa", sum := "ce38425cf2fcd3da37ba1b80c5ab86510e41fc0d0994136776b82e2bb77ef622", func := "loop.example/g00022/laws.FnExactCmpDist", spec := "fnExactCmpDist", apart := false }
def FnExactCmpDistSaid : Prop := fnExactCmpDistRow.holds Try.pinned (OpenSpec.ofChange fnExactCmpDistSpec)

/-- ITS FALSE NEIGHBOUR: 'it returns false'. Refute it at one input. -/
def fnExactCmpDistWrong : ChangeSpec := { name := "fnExactCmpDist", fn := fun _ => fun
  | [d1, d2, d3] => { results := [.lit (.bool false)], args := [d1, d2, d3] }
  | _ => none }
def FnExactCmpDistWrongFalsely : Prop := fnExactCmpDistRow.holds Try.pinned (OpenSpec.ofChange fnExactCmpDistWrong)

/-- 'laws.FnExactFOrient3': WHATEVER THE INPUT: true; the input reads as it did. -/
def fnExactFOrient3Spec : ChangeSpec := { name := "fnExactFOrient3", fn := fun _ => fun
  | [d1, d2, d3, d4] => { results := [.lit (.bool true)], args := [d1, d2, d3, d4] }
  | _ => none }
def fnExactFOrient3Row : OpenClaim := { program := "ytikepklkjbohmaa", sum := "ce38425cf2fcd3da37ba1b80c5ab86510e41fc0d0994136776b82e2bb77ef622", func := "loop.example/g00022/laws.FnExactFOrient3", spec := "fnExactFOrient3", inPlace := ["math.Float64bits", "math.Float64frombits"], apart := false }
def FnExactFOrient3Said : Prop := fnExactFOrient3Row.holds Try.pinned (OpenSpec.ofChange fnExactFOrient3Spec)

/-- ITS FALSE NEIGHBOUR: 'it returns false'. Refute it at one input. -/
def fnExactFOrient3Wrong : ChangeSpec := { name := "fnExactFOrient3", fn := fun _ => fun
  | [d1, d2, d3, d4] => { results := [.lit (.bool false)], args := [d1, d2, d3, d4] }
  | _ => none }
def FnExactFOrient3WrongFalsely : Prop := fnExactFOrient3Row.holds Try.pinned (OpenSpec.ofChange fnExactFOrient3Wrong)

/-- 'laws.FnExactFInCircle': WHATEVER THE INPUT: true; the input reads as it did. -/
def fnExactFInCircleSpec : ChangeSpec := { name := "fnExactFInCircle", fn := fun _ => fun
  | [d1, d2, d3, d4] => { results := [.lit (.bool true)], args := [d1, d2, d3, d4] }
  | _ => none }
def fnExactFInCircleRow : OpenClaim := { program := "ytikepklkjbohmaa", sum := "ce38425cf2fcd3da37ba1b80c5ab86510e41fc0d0994136776b82e2bb77ef622", func := "loop.example/g00022/laws.FnExactFInCircle", spec := "fnExactFInCircle", inPlace := ["math.Float64bits", "math.Float64frombits"], apart := false }
def FnExactFInCircleSaid : Prop := fnExactFInCircleRow.holds Try.pinned (OpenSpec.ofChange fnExactFInCircleSpec)

/-- ITS FALSE NEIGHBOUR: 'it returns false'. Refute it at one input. -/
def fnExactFInCircleWrong : ChangeSpec := { name := "fnExactFInCircle", fn := fun _ => fun
  | [d1, d2, d3, d4] => { results := [.lit (.bool false)], args := [d1, d2, d3, d4] }
  | _ => none }
def FnExactFInCircleWrongFalsely : Prop := fnExactFInCircleRow.holds Try.pinned (OpenSpec.ofChange fnExactFInCircleWrong)

/- THE SECOND FORM. 'bulk': how many values and letters a reading holds, each counted each time it is reached (what is shared counts as often as it is met; a slice's spare places count too). A statement '..UptoSaid' is the law's where the arguments, and the package variables that the reading takes, are together of bulk at most 1048576: NARROWER than '..Said'. Prove '..Said' where nothing that the law and all that it calls make is longer than what came in: it says more and counts as full. Else prove '..UptoSaid'. A law counts once. -/
mutual
def uptoBulk {H : Type} : DataW H → Nat
  | .lit (.string bytes) => bytes.length + 1
  | .lit _ => 1
  | .nil => 1
  | .ptr d => uptoBulk d + 1
  | .slice elems spare => uptoBulkAll elems + uptoBulkAll spare + 1
  | .agg parts => uptoBulkAll parts + 1
  | .iface _ d => uptoBulk d + 1
  | .map entries => uptoBulkEntries entries + 1
  | .held _ => 1
def uptoBulkAll {H : Type} : List (DataW H) → Nat
  | [] => 0
  | d :: r => uptoBulk d + uptoBulkAll r
def uptoBulkEntries {H : Type} : List (Lit × DataW H) → Nat
  | [] => 0
  | x :: r => uptoBulkEntry x + uptoBulkEntries r
def uptoBulkEntry {H : Type} : Lit × DataW H → Nat
  | (.string bytes, d) => bytes.length + uptoBulk d + 1
  | (_, d) => uptoBulk d + 1
 end
def uptoSmall : (H : Type) → List (DataW H) → Bool := fun _ ds => decide (uptoBulkAll ds ≤ 1048576)
def OpenSpec.upto (s : _root_.Go.ChangeSpec) : _root_.Go.OpenSpec := { _root_.Go.OpenSpec.ofChange s with cond := some uptoSmall }

/-- 'laws.FnExactQOk', WHERE WHAT IT READS IS OF BULK AT MOST 1048576: true; the input reads as it did. -/
def fnExactQOkUptoRow : OpenClaim := { program := "ytikepklkjbohmaa", sum := "ce38425cf2fcd3da37ba1b80c5ab86510e41fc0d0994136776b82e2bb77ef622", func := "loop.example/g00022/laws.FnExactQOk", spec := "fnExactQOk", apart := false, narrowed := true }
def FnExactQOkUptoSaid : Prop := fnExactQOkUptoRow.holds Try.pinned (OpenSpec.upto fnExactQOkSpec)

/-- 'laws.FnExactQOf', WHERE WHAT IT READS IS OF BULK AT MOST 1048576: true; the input reads as it did. -/
def fnExactQOfUptoRow : OpenClaim := { program := "ytikepklkjbohmaa", sum := "ce38425cf2fcd3da37ba1b80c5ab86510e41fc0d0994136776b82e2bb77ef622", func := "loop.example/g00022/laws.FnExactQOf", spec := "fnExactQOf", apart := false, narrowed := true }
def FnExactQOfUptoSaid : Prop := fnExactQOfUptoRow.holds Try.pinned (OpenSpec.upto fnExactQOfSpec)

/-- 'laws.FnExactOrient2', WHERE WHAT IT READS IS OF BULK AT MOST 1048576: true; the input reads as it did. -/
def fnExactOrient2UptoRow : OpenClaim := { program := "ytikepklkjbohmaa", sum := "ce38425cf2fcd3da37ba1b80c5ab86510e41fc0d0994136776b82e2bb77ef622", func := "loop.example/g00022/laws.FnExactOrient2", spec := "fnExactOrient2", recurses := true, apart := false, narrowed := true }
def FnExactOrient2UptoSaid : Prop := fnExactOrient2UptoRow.holds Try.pinned (OpenSpec.upto fnExactOrient2Spec)

/-- 'laws.FnExactCmpAlong', WHERE WHAT IT READS IS OF BULK AT MOST 1048576: true; the input reads as it did. -/
def fnExactCmpAlongUptoRow : OpenClaim := { program := "ytikepklkjbohmaa", sum := "ce38425cf2fcd3da37ba1b80c5ab86510e41fc0d0994136776b82e2bb77ef622", func := "loop.example/g00022/laws.FnExactCmpAlong", spec := "fnExactCmpAlong", apart := false, narrowed := true }
def FnExactCmpAlongUptoSaid : Prop := fnExactCmpAlongUptoRow.holds Try.pinned (OpenSpec.upto fnExactCmpAlongSpec)

/-- 'laws.FnExactCmpDist', WHERE WHAT IT READS IS OF BULK AT MOST 1048576: true; the input reads as it did. -/
def fnExactCmpDistUptoRow : OpenClaim := { program := "ytikepklkjbohmaa", sum := "ce38425cf2fcd3da37ba1b80c5ab86510e41fc0d0994136776b82e2bb77ef622", func := "loop.example/g00022/laws.FnExactCmpDist", spec := "fnExactCmpDist", apart := false, narrowed := true }
def FnExactCmpDistUptoSaid : Prop := fnExactCmpDistUptoRow.holds Try.pinned (OpenSpec.upto fnExactCmpDistSpec)

/-- 'laws.FnExactFOrient3', WHERE WHAT IT READS IS OF BULK AT MOST 1048576: true; the input reads as it did. -/
def fnExactFOrient3UptoRow : OpenClaim := { program := "ytikepklkjbohmaa", sum := "ce38425cf2fcd3da37ba1b80c5ab86510e41fc0d0994136776b82e2bb77ef622", func := "loop.example/g00022/laws.FnExactFOrient3", spec := "fnExactFOrient3", inPlace := ["math.Float64bits", "math.Float64frombits"], apart := false, narrowed := true }
def FnExactFOrient3UptoSaid : Prop := fnExactFOrient3UptoRow.holds Try.pinned (OpenSpec.upto fnExactFOrient3Spec)

/-- 'laws.FnExactFInCircle', WHERE WHAT IT READS IS OF BULK AT MOST 1048576: true; the input reads as it did. -/
def fnExactFInCircleUptoRow : OpenClaim := { program := "ytikepklkjbohmaa", sum := "ce38425cf2fcd3da37ba1b80c5ab86510e41fc0d0994136776b82e2bb77ef622", func := "loop.example/g00022/laws.FnExactFInCircle", spec := "fnExactFInCircle", inPlace := ["math.Float64bits", "math.Float64frombits"], apart := false, narrowed := true }
def FnExactFInCircleUptoSaid : Prop := fnExactFInCircleUptoRow.holds Try.pinned (OpenSpec.upto fnExactFInCircleSpec)

end Rows
end Go.Proofs.Ytikepklkjbohmaa
