import Derived.Test.YtgcgoehmgaokkaaDoorHsTo
namespace Go.Proofs.YtgcgoehmgaokkaaDoor
open Go.RowKit

def qk (P : Nat → Int) (i : Nat) : Bool := qok (P (i * 2)) (P (i * 2 + 1))
/-- Term k of a feature, among np parameters. -/
def tk (np : Nat) (T : Nat → Int) (k : Nat) : Bool :=
  decide (-1 ≤ T (k * 5) ∧ T (k * 5) < np) && qok (T (k * 5 + 1)) (T (k * 5 + 2)) && qok (T (k * 5 + 3)) (T (k * 5 + 4)) && !decide (T (k * 5) = -1 ∧ T (k * 5 + 1) ≠ 0)
/-- The number of terms that a kind has. -/
def cnt (k : Int) (n : Nat) : Bool :=
  if k = 1 then decide (n = 6) else if k = 2 then decide (n = 8 ∨ n = 10 ∨ n = 12 ∨ n = 14) else if k = 3 ∨ k = 4 ∨ k = 5 then decide (n = 0) else if k = 6 then decide (n = 3) else if k = 7 then decide (n = 4) else false
def usesOn (k : Int) : Bool := decide (k = 3 ∨ k = 4 ∨ k = 5 ∨ k = 6 ∨ k = 7)
def usesWith (k : Int) : Bool := decide (k = 3 ∨ k = 4 ∨ k = 5)
def found (G : Nat → Ft) (id : Int) (i : Nat) : Bool := (List.range i).any fun j => decide ((G j).id = id)
def refok (G : Nat → Ft) (u : Bool) (id : Int) (i : Nat) : Bool := if u then found G id i else decide (id = 0)
def fok (np : Nat) (G : Nat → Ft) (i : Nat) : Bool :=
  decide (1 ≤ (G i).id ∧ (G i).id ≤ 1000) && (decide (i = 0) || decide ((G (i - 1)).id < (G i).id)) && cnt (G i).kind (G i).n && refok G (usesOn (G i).kind) (G i).on i && refok G (usesWith (G i).kind) (G i).wth i && (List.range (G i).n).all (tk np (G i).T)
def hok (np nf : Nat) (P : Nat → Int) (G : Nat → Ft) : Bool := decide (np ≤ 6 ∧ nf ≤ 8) && (List.range np).all (qk P) && (List.range nf).all (fok np G)

/-- What is asked of a HistoryOk, the program's and the specification's. -/
def OkAt (f : FuncId) : Prop := ∀ (np nf cp cf : Nat) (po fo : Option Addr) (P : Nat → Int) (G : Nat → Ft) (w : World), np ≤ 1048576 → nf ≤ 1048576 → (∀ i, i < nf → (G i).n ≤ 1048576) → Rd w 2 po np P → Fs w fo nf G →
    Calls Tryd.prog f #[.agg #[.slice po np cp, .slice fo nf cf]] w fun e w' => e = .returned (.bool (hok np nf P G)) ∧ Below w.heap.size w w'
end Go.Proofs.YtgcgoehmgaokkaaDoor
