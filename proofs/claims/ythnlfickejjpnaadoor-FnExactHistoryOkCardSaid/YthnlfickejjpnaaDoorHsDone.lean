import Derived.Test.YthnlfickejjpnaaDoorHsProof
import Derived.Test.YthnlfickejjpnaaDoorHsSpec
import Derived.Test.YthnlfickejjpnaaDoorHsIm5
namespace Go.Proofs.YthnlfickejjpnaaDoor

theorem fnExactHistoryOk_holds : Rows.FnExactHistoryOkSaid := LawFnExactHistoryOk.over specHistoryOk_any implHistoryOk
theorem fnExactHistoryOkCard_holds : Rows.FnExactHistoryOkCardSaid := LawFnExactHistoryOk.card fnExactHistoryOk_holds
#print axioms fnExactHistoryOkCard_holds
end Go.Proofs.YthnlfickejjpnaaDoor
