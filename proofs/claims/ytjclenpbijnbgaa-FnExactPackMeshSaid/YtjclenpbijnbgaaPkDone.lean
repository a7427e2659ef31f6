import Derived.Test.YtjclenpbijnbgaaPkProof
import Derived.Test.YtjclenpbijnbgaaPkIm3
namespace Go.Proofs.Ytjclenpbijnbgaa

theorem fnExactPackMesh_holds : Rows.FnExactPackMeshSaid := LawFnExactPackMesh.over implPack
#print axioms fnExactPackMesh_holds
end Go.Proofs.Ytjclenpbijnbgaa
