import Derived.Test.YtjclenpbijnbgaaMsProof
import Derived.Test.YtjclenpbijnbgaaMsIm2
namespace Go.Proofs.Ytjclenpbijnbgaa

theorem fnExactMeshOk_holds : Rows.FnExactMeshOkSaid := LawFnExactMeshOk.over implMeshOk
#print axioms fnExactMeshOk_holds
end Go.Proofs.Ytjclenpbijnbgaa
