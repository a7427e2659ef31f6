import Derived.Test.YtjfjnnnehhobhaaMsProof
import Derived.Test.YtjfjnnnehhobhaaMsIm2
namespace Go.Proofs.Ytjfjnnnehhobhaa

theorem fnExactMeshOk_holds : Rows.FnExactMeshOkSaid := LawFnExactMeshOk.over implMeshOk
#print axioms fnExactMeshOk_holds
end Go.Proofs.Ytjfjnnnehhobhaa
