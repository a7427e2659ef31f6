import Derived.Test.YtjaknpbhcmiolaaDoorHsProof
import Derived.Test.YtjaknpbhcmiolaaDoorHsSpec
import Derived.Test.YtjaknpbhcmiolaaDoorHsIm5
namespace Go.Proofs.YtjaknpbhcmiolaaDoor

theorem fnExactHistoryOk_holds : Rows.FnExactHistoryOkSaid := LawFnExactHistoryOk.over specHistoryOk_any implHistoryOk
theorem fnExactHistoryOkCard_holds : Rows.FnExactHistoryOkCardSaid := LawFnExactHistoryOk.card fnExactHistoryOk_holds
#print axioms fnExactHistoryOkCard_holds
end Go.Proofs.YtjaknpbhcmiolaaDoor
