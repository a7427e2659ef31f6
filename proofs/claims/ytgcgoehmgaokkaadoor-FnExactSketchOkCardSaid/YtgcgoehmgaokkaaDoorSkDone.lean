import Derived.Test.YtgcgoehmgaokkaaDoorSkProof
import Derived.Test.YtgcgoehmgaokkaaDoorSkIm
namespace Go.Proofs.YtgcgoehmgaokkaaDoor

theorem fnExactSketchOk_holds : Rows.FnExactSketchOkSaid := LawFnExactSketchOk.over implSketchOk
theorem fnExactSketchOkCard_holds : Rows.FnExactSketchOkCardSaid := LawFnExactSketchOk.card fnExactSketchOk_holds
#print axioms fnExactSketchOkCard_holds
end Go.Proofs.YtgcgoehmgaokkaaDoor
