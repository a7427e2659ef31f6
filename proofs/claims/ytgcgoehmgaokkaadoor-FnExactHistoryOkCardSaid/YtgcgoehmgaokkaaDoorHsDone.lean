import Derived.Test.YtgcgoehmgaokkaaDoorHsProof
import Derived.Test.YtgcgoehmgaokkaaDoorHsSpec
import Derived.Test.YtgcgoehmgaokkaaDoorHsIm5
namespace Go.Proofs.YtgcgoehmgaokkaaDoor

theorem fnExactHistoryOk_holds : Rows.FnExactHistoryOkSaid := LawFnExactHistoryOk.over specHistoryOk_any implHistoryOk
theorem fnExactHistoryOkCard_holds : Rows.FnExactHistoryOkCardSaid := LawFnExactHistoryOk.card fnExactHistoryOk_holds
#print axioms fnExactHistoryOkCard_holds
end Go.Proofs.YtgcgoehmgaokkaaDoor
