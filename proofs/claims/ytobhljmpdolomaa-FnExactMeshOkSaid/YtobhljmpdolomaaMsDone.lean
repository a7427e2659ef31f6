import Derived.Test.YtobhljmpdolomaaMsProof
import Derived.Test.YtobhljmpdolomaaMsIm2
namespace Go.Proofs.Ytobhljmpdolomaa

theorem fnExactMeshOk_holds : Rows.FnExactMeshOkSaid := LawFnExactMeshOk.over implMeshOk
#print axioms fnExactMeshOk_holds
end Go.Proofs.Ytobhljmpdolomaa
