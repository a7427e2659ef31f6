import Derived.Test.YtobhljmpdolomaaRdQ
import Derived.Test.YtobhljmpdolomaaMsSpec
namespace Go.Proofs.Ytobhljmpdolomaa
open Go.RowKit

/-- The reader's code and place behind j numbers. -/
def rdAt (L : List Int) (p : Nat) (c : Int) : Nat → Int × Nat
  | 0 => (c, p)
  | j + 1 => ((rdNum L (rdAt L p c j).2 (rdAt L p c j).1).1, (rdNum L (rdAt L p c j).2 (rdAt L p c j).1).2.2)
/-- The number j behind that place. -/
def rdVal (L : List Int) (p : Nat) (c : Int) (j : Nat) : Int := (rdNum L (rdAt L p c j).2 (rdAt L p c j).1).2.1
theorem rdAt_step {L : List Int} {p : Nat} {c : Int} {j p1 p2 : Nat} {c1 c2 v : Int} (h : rdAt L p c j = (c1, p1)) (hn : rdNum L p1 c1 = (c2, v, p2)) : rdAt L p c (j + 1) = (c2, p2) ∧ rdVal L p c j = v := by
  constructor
  · rw [rdAt, h]; simp only [hn]
  · rw [rdVal, h]; simp only [hn]
/-- Elements of S numbers of the call's own. -/
def OwnI (w : World) (base t S : Nat) (v : Value) (n : Nat) (F : Nat → Int) : Prop := w.ownsRow base t S v n ((List.range (n * S)).map fun j => Value.int .i64 (F j))
theorem range_six (F : Nat → Int) (n : Nat) : (List.range ((n + 1) * 6)).map (fun j => Value.int .i64 (F j)) = (List.range (n * 6)).map (fun j => Value.int .i64 (F j)) ++ [.int .i64 (F (n * 6)), .int .i64 (F (n * 6 + 1)), .int .i64 (F (n * 6 + 2)), .int .i64 (F (n * 6 + 3)), .int .i64 (F (n * 6 + 4)), .int .i64 (F (n * 6 + 5))] := by
  rw [show (n + 1) * 6 = n * 6 + 1 + 1 + 1 + 1 + 1 + 1 by omega]
  simp [List.range_succ]
theorem range_three (F : Nat → Int) (n : Nat) : (List.range ((n + 1) * 3)).map (fun j => Value.int .i64 (F j)) = (List.range (n * 3)).map (fun j => Value.int .i64 (F j)) ++ [.int .i64 (F (n * 3)), .int .i64 (F (n * 3 + 1)), .int .i64 (F (n * 3 + 2))] := by
  rw [show (n + 1) * 3 = n * 3 + 1 + 1 + 1 by omega]
  simp [List.range_succ]
/-- What ReadMesh answers: a code, how many places and triangles, their numbers. -/
structure Told where
  code : Int
  nv : Nat
  nt : Nat
  V : Nat → Int
  T : Nat → Int
def readL (L : List Int) : Told :=
  if L.length < 3 ∨ L.getD 0 0 ≠ 83 ∨ L.getD 1 0 ≠ 77 ∨ L.getD 2 0 ≠ 1 then ⟨1, 0, 0, fun _ => 0, fun _ => 0⟩
  else
    let a := rdCount L 3 0 200
    let b := rdAt L a.2.2 a.1 (a.2.1.toNat * 6)
    let d := rdCount L b.2 b.1 300
    let e := rdAt L d.2.2 d.1 (d.2.1.toNat * 3)
    if e.1 ≠ 0 then ⟨e.1, 0, 0, fun _ => 0, fun _ => 0⟩
    else if L.length < e.2 + 2 then ⟨2, 0, 0, fun _ => 0, fun _ => 0⟩
    else if e.2 + 2 < L.length ∨ meshok a.2.1.toNat d.2.1.toNat (rdVal L a.2.2 a.1) (rdVal L d.2.2 d.1) = false then ⟨3, 0, 0, fun _ => 0, fun _ => 0⟩
    else if sumTo (L.take e.2) 0 ≠ L.getD e.2 0 + 256 * L.getD (e.2 + 1) 0 then ⟨4, 0, 0, fun _ => 0, fun _ => 0⟩
    else ⟨0, a.2.1.toNat, d.2.1.toNat, rdVal L a.2.2 a.1, rdVal L d.2.2 d.1⟩
theorem rdCount_le (L : List Int) (p : Nat) (c most : Int) (hm : 0 ≤ most) : 0 ≤ (rdCount L p c most).2.1 ∧ (rdCount L p c most).2.1 ≤ most := by
  unfold rdCount
  split
  · split
    · exact ⟨Int.le_refl _, hm⟩
    · rename_i h; exact ⟨by show 0 ≤ (rdNum L p c).2.1; omega, by show (rdNum L p c).2.1 ≤ most; omega⟩
  · exact ⟨Int.le_refl _, hm⟩

set_option maxRecDepth 8000 in
set_option maxHeartbeats 4000000 in
theorem specReadMesh_magic (N cap : Nat) (ao : Option Addr) (L : List Int) (w : World) (hlen : L.length = N) (hN : N ≤ 1048576) (hrd : RdB w ao N L) (hm : L.length < 3 ∨ L.getD 0 0 ≠ 83 ∨ L.getD 1 0 ≠ 77 ∨ L.getD 2 0 ≠ 1) :
    Calls Try.prog 17 #[.slice ao N cap] w fun e w' => e = .returned (.tuple #[.agg #[.slice none 0 0, .slice none 0 0], .int .i64 1]) ∧ Below w.heap.size w w' := by
  have HM : Hid (L.length < 3 ∨ L.getD 0 0 ≠ 83 ∨ L.getD 1 0 ≠ 77 ∨ L.getD 2 0 ≠ 1) := hm
  have HL : Hid (L.length = N) := hlen
  clear hm hlen
  by_cases h3 : N < 3
  · clear hrd
    go_enter Try.func17, Try.ntmps17
    go_wp2
    exact bodyPost_ret (v := .tuple #[.agg #[.slice none 0 0, .slice none 0 0], .int .i64 1]) (by simp [results, Try.results17, go_sem]) rfl ⟨rfl, Joins.below_alloc1 _ _⟩
  · obtain ⟨g, c, f, rfl, hr, hc, hf⟩ := hrd (by omega)
    obtain ⟨b0, e0⟩ : ∃ b, b = L.getD 0 0 := ⟨_, rfl⟩
    obtain ⟨b1, e1⟩ : ∃ b, b = L.getD 1 0 := ⟨_, rfl⟩
    obtain ⟨b2, e2⟩ : ∃ b, b = L.getD 2 0 := ⟨_, rfl⟩
    have c0 : ∀ o, (w.alloc o).cell? ⟨g, 0, none⟩ = some (.int .u8 b0) := fun o => ((hr.alloc o).cell (by omega)).trans (by rw [hf 0 (by omega), e0])
    have c1 : ∀ o, (w.alloc o).cell? ⟨g, 1, none⟩ = some (.int .u8 b1) := fun o => ((hr.alloc o).cell (by omega)).trans (by rw [hf 1 (by omega), e1])
    have c2 : ∀ o, (w.alloc o).cell? ⟨g, 2, none⟩ = some (.int .u8 b2) := fun o => ((hr.alloc o).cell (by omega)).trans (by rw [hf 2 (by omega), e2])
    have hM2 : b0 ≠ 83 ∨ b1 ≠ 77 ∨ b2 ≠ 1 := by
      rcases HM.out with h | h
      · have := HL.out; omega
      · rw [e0, e1, e2]; exact h
    have n0 : 0 < N := by omega
    have n1 : 1 < N := by omega
    have n2 : 2 < N := by omega
    clear hr hf e0 e1 e2 hrd HM HL
    by_cases k0 : b0 = 83
    · subst k0
      by_cases k1 : b1 = 77
      · subst k1
        have k2 : ¬ b2 = 1 := by rcases hM2 with h | h | h; exact absurd rfl h; exact absurd rfl h; exact h
        have x2 : (b2 != 1) = true := by rw [bne_iff_ne]; exact k2
        clear hM2
        go_enter Try.func17, Try.ntmps17
        go_wp2
        exact bodyPost_ret (v := .tuple #[.agg #[.slice none 0 0, .slice none 0 0], .int .i64 1]) (by simp [results, Try.results17, go_sem]) rfl ⟨rfl, Joins.below_alloc1 _ _⟩
      · have x1 : (b1 != 77) = true := by rw [bne_iff_ne]; exact k1
        clear hM2
        go_enter Try.func17, Try.ntmps17
        go_wp2
        exact bodyPost_ret (v := .tuple #[.agg #[.slice none 0 0, .slice none 0 0], .int .i64 1]) (by simp [results, Try.results17, go_sem]) rfl ⟨rfl, Joins.below_alloc1 _ _⟩
    · have x0 : (b0 != 83) = true := by rw [bne_iff_ne]; exact k0
      clear hM2
      go_enter Try.func17, Try.ntmps17
      go_wp2
      exact bodyPost_ret (v := .tuple #[.agg #[.slice none 0 0, .slice none 0 0], .int .i64 1]) (by simp [results, Try.results17, go_sem]) rfl ⟨rfl, Joins.below_alloc1 _ _⟩
end Go.Proofs.Ytobhljmpdolomaa
