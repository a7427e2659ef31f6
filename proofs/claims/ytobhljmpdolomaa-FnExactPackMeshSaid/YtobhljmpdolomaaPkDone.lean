import Derived.Test.YtobhljmpdolomaaPkProof
import Derived.Test.YtobhljmpdolomaaPkIm3
namespace Go.Proofs.Ytobhljmpdolomaa

theorem fnExactPackMesh_holds : Rows.FnExactPackMeshSaid := LawFnExactPackMesh.over implPack
#print axioms fnExactPackMesh_holds
end Go.Proofs.Ytobhljmpdolomaa
