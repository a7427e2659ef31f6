import Derived.Test.YthjjikgmcoogfaaMsProof
import Derived.Test.YthjjikgmcoogfaaMsIm2
namespace Go.Proofs.Ythjjikgmcoogfaa

theorem fnExactMeshOk_holds : Rows.FnExactMeshOkSaid := LawFnExactMeshOk.over implMeshOk
#print axioms fnExactMeshOk_holds
end Go.Proofs.Ythjjikgmcoogfaa
