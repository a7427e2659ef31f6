import Derived.Test.YtddgdcognmejcaaDoorHsProof
import Derived.Test.YtddgdcognmejcaaDoorHsSpec
import Derived.Test.YtddgdcognmejcaaDoorHsIm5
namespace Go.Proofs.YtddgdcognmejcaaDoor

theorem fnExactHistoryOk_holds : Rows.FnExactHistoryOkSaid := LawFnExactHistoryOk.over specHistoryOk_any implHistoryOk
theorem fnExactHistoryOkCard_holds : Rows.FnExactHistoryOkCardSaid := LawFnExactHistoryOk.card fnExactHistoryOk_holds
#print axioms fnExactHistoryOkCard_holds
end Go.Proofs.YtddgdcognmejcaaDoor
