import Derived.Test.YtjfjnnnehhobhaaPkProof
import Derived.Test.YtjfjnnnehhobhaaPkIm3
namespace Go.Proofs.Ytjfjnnnehhobhaa

theorem fnExactPackMesh_holds : Rows.FnExactPackMeshSaid := LawFnExactPackMesh.over implPack
#print axioms fnExactPackMesh_holds
end Go.Proofs.Ytjfjnnnehhobhaa
