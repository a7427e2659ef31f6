import Derived.Test.YtgcgoehmgaokkaaDoorPtProof
namespace Go.Proofs.YtgcgoehmgaokkaaDoor

theorem fnExactPartsOf_holds : Rows.FnExactPartsOfSaid := LawFnExactPartsOf.over
theorem fnExactPartsOfCard_holds : Rows.FnExactPartsOfCardSaid := LawFnExactPartsOf.card fnExactPartsOf_holds
#print axioms fnExactPartsOfCard_holds
end Go.Proofs.YtgcgoehmgaokkaaDoor
