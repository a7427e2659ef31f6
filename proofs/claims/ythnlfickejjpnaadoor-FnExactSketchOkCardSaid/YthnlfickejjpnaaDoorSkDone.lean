import Derived.Test.YthnlfickejjpnaaDoorSkProof
import Derived.Test.YthnlfickejjpnaaDoorSkIm
namespace Go.Proofs.YthnlfickejjpnaaDoor

theorem fnExactSketchOk_holds : Rows.FnExactSketchOkSaid := LawFnExactSketchOk.over implSketchOk
theorem fnExactSketchOkCard_holds : Rows.FnExactSketchOkCardSaid := LawFnExactSketchOk.card fnExactSketchOk_holds
#print axioms fnExactSketchOkCard_holds
end Go.Proofs.YthnlfickejjpnaaDoor
