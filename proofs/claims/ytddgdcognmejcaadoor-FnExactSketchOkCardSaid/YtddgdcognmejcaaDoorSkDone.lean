import Derived.Test.YtddgdcognmejcaaDoorSkProof
import Derived.Test.YtddgdcognmejcaaDoorSkIm
namespace Go.Proofs.YtddgdcognmejcaaDoor

theorem fnExactSketchOk_holds : Rows.FnExactSketchOkSaid := LawFnExactSketchOk.over implSketchOk
theorem fnExactSketchOkCard_holds : Rows.FnExactSketchOkCardSaid := LawFnExactSketchOk.card fnExactSketchOk_holds
#print axioms fnExactSketchOkCard_holds
end Go.Proofs.YtddgdcognmejcaaDoor
