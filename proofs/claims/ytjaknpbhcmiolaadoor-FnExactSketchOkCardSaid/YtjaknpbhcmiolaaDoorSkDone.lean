import Derived.Test.YtjaknpbhcmiolaaDoorSkProof
import Derived.Test.YtjaknpbhcmiolaaDoorSkIm
namespace Go.Proofs.YtjaknpbhcmiolaaDoor

theorem fnExactSketchOk_holds : Rows.FnExactSketchOkSaid := LawFnExactSketchOk.over implSketchOk
theorem fnExactSketchOkCard_holds : Rows.FnExactSketchOkCardSaid := LawFnExactSketchOk.card fnExactSketchOk_holds
#print axioms fnExactSketchOkCard_holds
end Go.Proofs.YtjaknpbhcmiolaaDoor
