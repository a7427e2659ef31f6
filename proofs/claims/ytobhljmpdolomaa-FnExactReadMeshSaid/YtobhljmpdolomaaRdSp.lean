import Derived.Test.YtobhljmpdolomaaRdIm6
namespace Go.Proofs.Ytobhljmpdolomaa
open Go.RowKit

/-- The specification's reader reads a fraction. -/
theorem q_at (R N cap p0 j : Nat) (c0 : Int) (pa : Nat) (ca : Int) (ao : Option Addr) (L : List Int) (w : World) (hlen : L.length = N) (hN : N ≤ 1048576) (hby : ∀ b ∈ L, 0 ≤ b ∧ b < 256) (hr : Rdr w R N cap p0 c0 ao L) (h : rdAt L pa ca j = (c0, p0)) {v0 v1 : Int} (h0 : rdVal L pa ca j = v0) (h1 : rdVal L pa ca (j + 1) = v1) :
    Calls Try.prog 42 #[.pointer (some ⟨R, 0, none⟩)] w fun e w' => e = .returned (.agg #[.int .i64 v0, .int .i64 v1]) ∧ (∃ c p, rdAt L pa ca (j + 2) = (c, p) ∧ Rdr w' R N cap p c ao L) ∧ w.grownBy w' (some R) := by
  refine (q_any R N cap p0 c0 ao L w hlen hN hby hr).mono ?_
  rintro e w' ⟨c1, v1', p1, c2, v2', p2, e1, e2, he, hr', hg⟩
  have s1 := rdAt_step h e1
  have s2 := rdAt_step s1.1 e2
  rw [s1.2] at h0
  rw [s2.2] at h1
  subst h0 h1
  exact ⟨he, ⟨c2, p2, s2.1, hr'⟩, hg⟩
theorem number_at (R N cap p0 j : Nat) (c0 : Int) (pa : Nat) (ca : Int) (ao : Option Addr) (L : List Int) (w : World) (hlen : L.length = N) (hN : N ≤ 1048576) (hby : ∀ b ∈ L, 0 ≤ b ∧ b < 256) (hr : Rdr w R N cap p0 c0 ao L) (h : rdAt L pa ca j = (c0, p0)) {v0 : Int} (h0 : rdVal L pa ca j = v0) :
    Calls Try.prog 43 #[.pointer (some ⟨R, 0, none⟩)] w fun e w' => e = .returned (.int .i64 v0) ∧ (∃ c p, rdAt L pa ca (j + 1) = (c, p) ∧ Rdr w' R N cap p c ao L) ∧ w.grownBy w' (some R) := by
  refine (number_r R N cap p0 c0 ao L w hlen hN hby hr).mono ?_
  rintro e w' ⟨c1, v1', p1, e1, he, hr', hg⟩
  have s1 := rdAt_step h e1
  rw [s1.2] at h0
  subst h0
  exact ⟨he, ⟨c1, p1, s1.1, hr'⟩, hg⟩
theorem count_at (R N cap p0 : Nat) (c0 most : Int) (ao : Option Addr) (L : List Int) (w : World) (hlen : L.length = N) (hN : N ≤ 1048576) (hby : ∀ b ∈ L, 0 ≤ b ∧ b < 256) (hr : Rdr w R N cap p0 c0 ao L) {c v : Int} {p : Nat} (h : rdCount L p0 c0 most = (c, v, p)) :
    Calls Try.prog 41 #[.pointer (some ⟨R, 0, none⟩), .int .i64 most] w fun e w' => e = .returned (.int .i64 v) ∧ Rdr w' R N cap p c ao L ∧ w.grownBy w' (some R) := by
  refine (count_any R N cap p0 c0 most ao L w hlen hN hby hr).mono ?_
  rintro e w' ⟨c1, v1', p1, e1, he, hr', hg⟩
  rw [h] at e1
  simp only [Prod.mk.injEq] at e1
  obtain ⟨rfl, rfl, rfl⟩ := e1
  exact ⟨he, hr', hg⟩
theorem Rdr.of {w w' : World} {R N cap p g : Nat} {code : Int} {L : List Int} (h : Rdr w R N cap p code (some ⟨g, 0, none⟩) L) (hR : w'.heap[R]? = w.heap[R]?) (hg : w'.heap[g]? = w.heap[g]?) (hs : w.heap.size ≤ w'.heap.size) : Rdr w' R N cap p code (some ⟨g, 0, none⟩) L :=
  h.keep (fun b _ hb => by
    rcases hb with rfl | ⟨q, e, _, rfl⟩
    · exact hR
    · simp only [Option.some.injEq, Addr.mk.injEq] at e
      obtain ⟨rfl, _⟩ := e
      exact hg) hs
theorem Rdr.drew {w : World} {R N cap p g : Nat} {code : Int} {L : List Int} (h : Rdr w R N cap p code (some ⟨g, 0, none⟩) L) : Rdr w.drew R N cap p code (some ⟨g, 0, none⟩) L := h.of rfl rfl (Nat.le_refl _)
theorem Tw.drew {B C : Nat} {a b c d : Int} {w' : World} (k : Tw B C a b c d w') : Tw B C a b c d w'.drew := k
theorem Tw.alloc {B C : Nat} {a b c d : Int} {w' : World} (k : Tw B C a b c d w') {o : Obj} : Tw B C a b c d (w'.alloc o) := k.same (Deep.blk_alloc_lt _ _ _ k.2.1) (Deep.blk_alloc_lt _ _ _ k.2.2) (by simp)
theorem Tw.callO {B C : Nat} {r : Option Nat} {a b c d : Int} {w' w1 : World} (k : Tw B C a b c d w') (hg : w'.grownBy w1 r) (hB : some B ≠ r) (hC : some C ≠ r) : Tw B C a b c d w1 := k.same (hg.block B k.2.1 hB) (hg.block C k.2.2 hC) hg.size
theorem Tw.set1 {B C X j : Nat} {a b c d : Int} {w' : World} (k : Tw B C a b c d w') (hB : B ≠ X) (hC : C ≠ X) {u : Value} : Tw B C a b c d (w'.setCell ⟨X, j, none⟩ u) := k.same (Deep.blk_setCell_other _ _ _ _ hB) (Deep.blk_setCell_other _ _ _ _ hC) (by simp)
theorem Tw.at_ {B C : Nat} {a b c d : Int} {w : World} (hB : At w B #[.int .i64 a, .int .i64 b]) (hC : At w C #[.int .i64 c, .int .i64 d]) : Tw B C a b c d w := ⟨⟨hB.c 0, hB.c 1, hC.c 0, hC.c 1⟩, hB.sz, hC.sz⟩

set_option maxHeartbeats 1000000 in
theorem l16SumR_any (g cap n : Nat) (L : List Int) (t : Int) (w : World) (hn : n ≤ 1048576) (hlen : L.length = n) (hby : ∀ b ∈ L, 0 ≤ b ∧ b < 256) (hrd : RdB w (some ⟨g, 0, none⟩) n L) (ht : sumTo L 0 = t) :
    Calls Try.prog 35 #[.slice (some ⟨g, 0, none⟩) n cap] w fun e w' => e = .returned (.int .i64 t) ∧ w' = w := by
  have HO : Hid (RdB w (some ⟨g, 0, none⟩) n L) := hrd
  have HY : Hid (∀ b ∈ L, 0 ≤ b ∧ b < 256) := hby
  have HL : Hid (L.length = n) := hlen
  have HX : Hid (sumTo L 0 = t) := ht
  clear hrd hby hlen ht
  go_enter Try.func35, Try.ntmps35
  go_wp2
  go_loopw [3, 4] (fun sv i wr => ∃ (k : Nat) (s : Int), k ≤ n ∧ i = .int .i64 k ∧ sv = .int .i64 s ∧ Hid (s = sumTo (L.take k) 0) ∧ 0 ≤ s ∧ s < 65521 ∧ wr = w) (fun _ i _ => n - (intOf i).toNat)
  case atStart => exact ⟨0, 0, Nat.zero_le _, rfl, rfl, rfl, by omega, by omega, rfl⟩
  case round =>
    obtain ⟨k, s, hk, rfl, rfl, HS, hs0, hs1, rfl⟩ := hrel
    by_cases hlt : k < n
    · obtain ⟨g', e', _, c0⟩ := HO.out.cell hlt
      simp only [Option.some.injEq, Addr.mk.injEq] at e'
      obtain ⟨rfl, _⟩ := e'
      have hl := HL.out
      obtain ⟨b, hb⟩ : ∃ b, b = L.getD k 0 := ⟨_, rfl⟩
      rw [← hb] at c0
      have hb2 : 0 ≤ b ∧ b < 256 := HY.out b (hb ▸ getD_mem (by omega))
      have HN : Hid ((s + b) % 65521 = sumTo (L.take (k + 1)) 0) := by rw [sumTo_take (by omega), ← HS.out, ← hb]; exact rfl
      have htm : (s + b).tmod 65521 = (s + b) % 65521 := Int.tmod_eq_emod_of_nonneg (by omega)
      clear hb hl
      go_wp2
      go_roundw
      case rel => exact ⟨k + 1, _, by omega, by simp, rfl, HN.out, by omega, by omega, by first | rfl | trivial⟩
      case measure => simp [intOf]; omega
    · have HE : Hid (s = t) := by rw [HS.out, List.take_of_length_le (by have := HL.out; omega)]; exact HX.out
      go_wp2
      go_ret
      exact ⟨by rw [HE.out]; rfl, rfl⟩
end Go.Proofs.Ytobhljmpdolomaa
