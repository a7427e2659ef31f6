import Derived.Test.YtgcgoehmgaokkaaDoorHsDef
namespace Go.Proofs.YtgcgoehmgaokkaaDoor
open Go.RowKit

def leastN (k : Nat) : Int := [0, 6, 8, 0, 0, 0, 3, 4].getD k 0
def mostN (k : Nat) : Int := [0, 6, 14, 0, 0, 0, 3, 4].getD k 0
/-- The table of what a kind of feature needs stands. -/
structure FTab (w : World) : Prop where
  lt : 1 < w.heap.size
  c : ∀ k : Nat, k < 8 → w.cell? ⟨1, k * 4, none⟩ = some (.bool (usesOn k)) ∧ w.cell? ⟨1, k * 4 + 1, none⟩ = some (.bool (usesWith k)) ∧ w.cell? ⟨1, k * 4 + 2, none⟩ = some (.int .i64 (leastN k)) ∧ w.cell? ⟨1, k * 4 + 3, none⟩ = some (.int .i64 (mostN k))
theorem FTab.below {w w' : World} (h : FTab w) (hb : Below w.heap.size w w') : FTab w' :=
  ⟨Nat.lt_of_lt_of_le h.lt hb.size, fun k hk => by
    obtain ⟨c0, c1, c2, c3⟩ := h.c k hk
    exact ⟨(hb.cell (p := ⟨1, k * 4, none⟩) h.lt).trans c0, (hb.cell (p := ⟨1, k * 4 + 1, none⟩) h.lt).trans c1, (hb.cell (p := ⟨1, k * 4 + 2, none⟩) h.lt).trans c2, (hb.cell (p := ⟨1, k * 4 + 3, none⟩) h.lt).trans c3⟩⟩
/-- As many terms as a kind has, by the table. -/
theorem cnt_tab {k : Nat} (n : Nat) (h1 : 1 ≤ k) (h2 : k ≤ 7) : cnt (k : Int) n = decide (¬ (n : Int) < leastN k ∧ ¬ mostN k < (n : Int) ∧ ((n : Int) - leastN k) % 2 = 0) := by
  have hk : k = 1 ∨ k = 2 ∨ k = 3 ∨ k = 4 ∨ k = 5 ∨ k = 6 ∨ k = 7 := by omega
  rcases hk with rfl | rfl | rfl | rfl | rfl | rfl | rfl <;> rw [Bool.eq_iff_iff] <;> simp [cnt, leastN, mostN] <;> omega

/-- What is asked of the program's own HistoryOk. -/
def OkAtI (f : FuncId) : Prop := ∀ (np nf cp cf : Nat) (po fo : Option Addr) (P : Nat → Int) (G : Nat → Ft) (w : World), np ≤ 1048576 → nf ≤ 1048576 → nf ≤ cf → (∀ i, i < nf → (G i).n ≤ 1048576) → Rd w 2 po np P → Fs w fo nf G → FTab w →
    Calls Tryd.prog f #[.agg #[.slice po np cp, .slice fo nf cf]] w fun e w' => e = .returned (.bool (hok np nf P G)) ∧ Below w.heap.size w w'

theorem hok_q {np nf : Nat} {P : Nat → Int} {G : Nat → Ft} {k : Nat} (hk : k < np) (h : qk P k = false) : hok np nf P G = false := by
  have : (List.range np).all (qk P) = false := by rw [List.all_eq_false]; exact ⟨k, List.mem_range.2 hk, by simp [h]⟩
  simp [hok, this]
theorem hok_f {np nf : Nat} {P : Nat → Int} {G : Nat → Ft} {k : Nat} (hk : k < nf) (h : fok np G k = false) : hok np nf P G = false := by
  have : (List.range nf).all (fok np G) = false := by rw [List.all_eq_false]; exact ⟨k, List.mem_range.2 hk, by simp [h]⟩
  simp [hok, this]
theorem hok_yes {np nf : Nat} {P : Nat → Int} {G : Nat → Ft} (h1 : np ≤ 6) (h2 : nf ≤ 8) (h3 : ∀ j, j < np → qk P j = true) (h4 : ∀ j, j < nf → fok np G j = true) : hok np nf P G = true := by
  simp only [hok, Bool.and_eq_true, decide_eq_true_eq, List.all_eq_true, List.mem_range]
  exact ⟨⟨⟨h1, h2⟩, h3⟩, h4⟩
theorem all_succ {f : Nat → Bool} {k : Nat} (h : ∀ j, j < k → f j = true) (hk : f k = true) : ∀ j, j < k + 1 → f j = true := fun j hj => by
  by_cases e : j = k
  · subst e; exact hk
  · exact h j (by omega)
/-- A feature by itself and behind those ahead, and its terms. -/
def fhead (G : Nat → Ft) (i : Nat) : Bool := decide (1 ≤ (G i).id ∧ (G i).id ≤ 1000) && (decide (i = 0) || decide ((G (i - 1)).id < (G i).id)) && decide (1 ≤ (G i).kind ∧ (G i).kind ≤ 7) && refok G (usesOn (G i).kind) (G i).on i && refok G (usesWith (G i).kind) (G i).wth i
def fterms (np : Nat) (G : Nat → Ft) (i : Nat) : Bool := cnt (G i).kind (G i).n && (List.range (G i).n).all (tk np (G i).T)
theorem cnt_kind {k : Int} {n : Nat} (h : ¬ (1 ≤ k ∧ k ≤ 7)) : cnt k n = false := by
  unfold cnt
  rw [if_neg (by omega), if_neg (by omega), if_neg (by omega), if_neg (by omega), if_neg (by omega)]
theorem fok_eq (np : Nat) (G : Nat → Ft) (i : Nat) : fok np G i = (fhead G i && fterms np G i) := by
  unfold fok fhead fterms
  by_cases hk : 1 ≤ (G i).kind ∧ (G i).kind ≤ 7
  · rw [decide_eq_true hk]
    cases decide (1 ≤ (G i).id ∧ (G i).id ≤ 1000) <;> cases (decide (i = 0) || decide ((G (i - 1)).id < (G i).id)) <;> cases cnt (G i).kind (G i).n <;> cases refok G (usesOn (G i).kind) (G i).on i <;> cases refok G (usesWith (G i).kind) (G i).wth i <;> simp
  · rw [cnt_kind hk, decide_eq_false hk]
    simp
end Go.Proofs.YtgcgoehmgaokkaaDoor
