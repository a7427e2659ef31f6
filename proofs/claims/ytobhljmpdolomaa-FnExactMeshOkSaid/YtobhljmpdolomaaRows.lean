/-
  No cell of these rows narrows 'for every input' (looked for: loops, veiled, ifaces, maps, wideKeys, modest, calm, conditions, laid).
  DERIVED. THE GIVEN ROWS OF THIS SEAT. 3 by the template 'for every input the law returns true; each argument reads behind the call as it read before'; 0 by the template 'total and deterministic' (their statements: YtobhljmpdolomaaTotals.lean).
  GIVEN WITH THE SEED: the statements are not yours to turn. If you find one false, say at which input.
  Laid BY PROGRAM, IN A SANDBOX (cutbox-rows.mjs): the forced cells as the released guide's own fill.sh prints them over the translation 83b8c249b765dad2… (all of the seat's roots in one cut). By AI agents, Wed Nov 11 2026. No macro, syntax, notation, axiom, sorry.
-/
import Derived.Test.YtobhljmpdolomaaChecked
import GoSem.Claim
import GoSem.ClaimJoined
import GoSem.ClaimMapViews
import Derived.JoinedTies
import Derived.KernelRfl
namespace Go.Proofs.Ytobhljmpdolomaa
/- THE CELL 'sum', in the pinned program and in every row, IS THE sha256 OF THE DUMP (.gsa) THAT YtobhljmpdolomaaProg.lean LOADS. Nothing in Lean hashes anything: it is a label: what it is worth is what the hold of that sum in a sandbox is worth. -/
noncomputable def Try.pinned : Pinned := { name := "ytobhljmpdolomaa", sum := "83b8c249b765dad293548acf644422dca2134dcb90351fcaf545e0fe833bb720", checked := Try.checked }
namespace Rows
def none {H : Type} : Left H := { results := [], args := [] }

/-- 'laws.FnExactMeshOk': WHATEVER THE INPUT: true; the input reads as it did. -/
def fnExactMeshOkSpec : ChangeSpec := { name := "fnExactMeshOk", fn := fun _ => fun
  | [d] => { results := [.lit (.bool true)], args := [d] }
  | _ => none }
def fnExactMeshOkRow : OpenClaim := { program := "ytobhljmpdolomaa", sum := "83b8c249b765dad293548acf644422dca2134dcb90351fcaf545e0fe833bb720", func := "loop.example/g00022/laws.FnExactMeshOk", spec := "fnExactMeshOk", unfollowed := true, recurses := true, apart := false }
def FnExactMeshOkSaid : Prop := fnExactMeshOkRow.holds Try.pinned (OpenSpec.ofChange fnExactMeshOkSpec)

/-- ITS FALSE NEIGHBOUR: 'it returns false'. Refute it at one input. -/
def fnExactMeshOkWrong : ChangeSpec := { name := "fnExactMeshOk", fn := fun _ => fun
  | [d] => { results := [.lit (.bool false)], args := [d] }
  | _ => none }
def FnExactMeshOkWrongFalsely : Prop := fnExactMeshOkRow.holds Try.pinned (OpenSpec.ofChange fnExactMeshOkWrong)

/-- 'laws.FnExactPackMesh': WHATEVER THE INPUT: true; the input reads as it did. -/
def fnExactPackMeshSpec : ChangeSpec := { name := "fnExactPackMesh", fn := fun _ => fun
  | [d] => { results := [.lit (.bool true)], args := [d] }
  | _ => none }
def fnExactPackMeshRow : OpenClaim := { program := "ytobhljmpdolomaa", sum := "83b8c249b765dad293548acf644422dca2134dcb90351fcaf545e0fe833bb720", func := "loop.example/g00022/laws.FnExactPackMesh", spec := "fnExactPackMesh", unfollowed := true, recurses := true, apart := false }
def FnExactPackMeshSaid : Prop := fnExactPackMeshRow.holds Try.pinned (OpenSpec.ofChange fnExactPackMeshSpec)

/-- ITS FALSE NEIGHBOUR: 'it returns false'. Refute it at one input. -/
def fnExactPackMeshWrong : ChangeSpec := { name := "fnExactPackMesh", fn := fun _ => fun
  | [d] => { results := [.lit (.bool false)], args := [d] }
  | _ => none }
def FnExactPackMeshWrongFalsely : Prop := fnExactPackMeshRow.holds Try.pinned (OpenSpec.ofChange fnExactPackMeshWrong)

/-- 'laws.FnExactReadMesh': WHATEVER THE INPUT: true; the input reads as it did. -/
def fnExactReadMeshSpec : ChangeSpec := { name := "fnExactReadMesh", fn := fun _ => fun
  | [d] => { results := [.lit (.bool true)], args := [d] }
  | _ => none }
def fnExactReadMeshRow : OpenClaim := { program := "ytobhljmpdolomaa", sum := "83b8c249b765dad293548acf644422dca2134dcb90351fcaf545e0fe833bb720", func := "loop.example/g00022/laws.FnExactReadMesh", spec := "fnExactReadMesh", unfollowed := true, recurses := true, apart := false }
def FnExactReadMeshSaid : Prop := fnExactReadMeshRow.holds Try.pinned (OpenSpec.ofChange fnExactReadMeshSpec)

/-- ITS FALSE NEIGHBOUR: 'it returns false'. Refute it at one input. -/
def fnExactReadMeshWrong : ChangeSpec := { name := "fnExactReadMesh", fn := fun _ => fun
  | [d] => { results := [.lit (.bool false)], args := [d] }
  | _ => none }
def FnExactReadMeshWrongFalsely : Prop := fnExactReadMeshRow.holds Try.pinned (OpenSpec.ofChange fnExactReadMeshWrong)

/- THE SECOND FORM. 'bulk': how many values and letters a reading holds, each counted each time it is reached (what is shared counts as often as it is met; a slice's spare places count too). A statement '..UptoSaid' is the law's where the arguments, and the package variables that the reading takes, are together of bulk at most 1048576: NARROWER than '..Said'. Prove '..Said' where nothing that the law and all that it calls make is longer than what came in: it says more and counts as full. Else prove '..UptoSaid'. A law counts once. -/
mutual
def uptoBulk {H : Type} : DataW H → Nat
  | .lit (.string bytes) => bytes.length + 1
  | .lit _ => 1
  | .nil => 1
  | .ptr d => uptoBulk d + 1
  | .slice elems spare => uptoBulkAll elems + uptoBulkAll spare + 1
  | .agg parts => uptoBulkAll parts + 1
  | .iface _ d => uptoBulk d + 1
  | .map entries => uptoBulkEntries entries + 1
  | .held _ => 1
def uptoBulkAll {H : Type} : List (DataW H) → Nat
  | [] => 0
  | d :: r => uptoBulk d + uptoBulkAll r
def uptoBulkEntries {H : Type} : List (Lit × DataW H) → Nat
  | [] => 0
  | x :: r => uptoBulkEntry x + uptoBulkEntries r
def uptoBulkEntry {H : Type} : Lit × DataW H → Nat
  | (.string bytes, d) => bytes.length + uptoBulk d + 1
  | (_, d) => uptoBulk d + 1
 end
def uptoSmall : (H : Type) → List (DataW H) → Bool := fun _ ds => decide (uptoBulkAll ds ≤ 1048576)
def OpenSpec.upto (s : _root_.Go.ChangeSpec) : _root_.Go.OpenSpec := { _root_.Go.OpenSpec.ofChange s with cond := some uptoSmall }

/-- 'laws.FnExactMeshOk', WHERE WHAT IT READS IS OF BULK AT MOST 1048576: true; the input reads as it did. -/
def fnExactMeshOkUptoRow : OpenClaim := { program := "ytobhljmpdolomaa", sum := "83b8c249b765dad293548acf644422dca2134dcb90351fcaf545e0fe833bb720", func := "loop.example/g00022/laws.FnExactMeshOk", spec := "fnExactMeshOk", unfollowed := true, recurses := true, apart := false, narrowed := true }
def FnExactMeshOkUptoSaid : Prop := fnExactMeshOkUptoRow.holds Try.pinned (OpenSpec.upto fnExactMeshOkSpec)

/-- 'laws.FnExactPackMesh', WHERE WHAT IT READS IS OF BULK AT MOST 1048576: true; the input reads as it did. -/
def fnExactPackMeshUptoRow : OpenClaim := { program := "ytobhljmpdolomaa", sum := "83b8c249b765dad293548acf644422dca2134dcb90351fcaf545e0fe833bb720", func := "loop.example/g00022/laws.FnExactPackMesh", spec := "fnExactPackMesh", unfollowed := true, recurses := true, apart := false, narrowed := true }
def FnExactPackMeshUptoSaid : Prop := fnExactPackMeshUptoRow.holds Try.pinned (OpenSpec.upto fnExactPackMeshSpec)

/-- 'laws.FnExactReadMesh', WHERE WHAT IT READS IS OF BULK AT MOST 1048576: true; the input reads as it did. -/
def fnExactReadMeshUptoRow : OpenClaim := { program := "ytobhljmpdolomaa", sum := "83b8c249b765dad293548acf644422dca2134dcb90351fcaf545e0fe833bb720", func := "loop.example/g00022/laws.FnExactReadMesh", spec := "fnExactReadMesh", unfollowed := true, recurses := true, apart := false, narrowed := true }
def FnExactReadMeshUptoSaid : Prop := fnExactReadMeshUptoRow.holds Try.pinned (OpenSpec.upto fnExactReadMeshSpec)

end Rows
end Go.Proofs.Ytobhljmpdolomaa
