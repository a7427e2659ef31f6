import Derived.Test.YthkngnakfkknoaaPkProof
import Derived.Test.YthkngnakfkknoaaPkIm3
namespace Go.Proofs.Ythkngnakfkknoaa

theorem fnExactPackMesh_holds : Rows.FnExactPackMeshSaid := LawFnExactPackMesh.over implPack
#print axioms fnExactPackMesh_holds
end Go.Proofs.Ythkngnakfkknoaa
