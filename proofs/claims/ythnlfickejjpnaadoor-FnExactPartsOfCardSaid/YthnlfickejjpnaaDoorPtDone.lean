import Derived.Test.YthnlfickejjpnaaDoorPtProof
namespace Go.Proofs.YthnlfickejjpnaaDoor

theorem fnExactPartsOf_holds : Rows.FnExactPartsOfSaid := LawFnExactPartsOf.over
theorem fnExactPartsOfCard_holds : Rows.FnExactPartsOfCardSaid := LawFnExactPartsOf.card fnExactPartsOf_holds
#print axioms fnExactPartsOfCard_holds
end Go.Proofs.YthnlfickejjpnaaDoor
