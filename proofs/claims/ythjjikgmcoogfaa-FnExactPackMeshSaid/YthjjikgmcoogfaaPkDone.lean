import Derived.Test.YthjjikgmcoogfaaPkProof
import Derived.Test.YthjjikgmcoogfaaPkIm3
namespace Go.Proofs.Ythjjikgmcoogfaa

theorem fnExactPackMesh_holds : Rows.FnExactPackMeshSaid := LawFnExactPackMesh.over implPack
#print axioms fnExactPackMesh_holds
end Go.Proofs.Ythjjikgmcoogfaa
