import Derived.Test.YthkngnakfkknoaaMsProof
import Derived.Test.YthkngnakfkknoaaMsIm2
namespace Go.Proofs.Ythkngnakfkknoaa

theorem fnExactMeshOk_holds : Rows.FnExactMeshOkSaid := LawFnExactMeshOk.over implMeshOk
#print axioms fnExactMeshOk_holds
end Go.Proofs.Ythkngnakfkknoaa
