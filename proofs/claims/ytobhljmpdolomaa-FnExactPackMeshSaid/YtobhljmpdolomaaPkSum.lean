import Derived.Test.YtobhljmpdolomaaPkNum
namespace Go.Proofs.Ytobhljmpdolomaa
open Go.RowKit

theorem OwnB.cell {w : World} {base g cap n : Nat} {L : List Int} (h : OwnB w base g cap n L) {i : Nat} (hi : i < n) : w.cell? ⟨g, i, none⟩ = some (.int .u8 (L.getD i 0)) := by
  have hl := h.len
  rcases h.2 with ⟨h1, _⟩ | ⟨g', cap', cur, hv, _, hb, _, _, hs, ht⟩
  · cases h1
  · simp only [Value.slice.injEq, Option.some.injEq, Addr.mk.injEq] at hv
    obtain ⟨⟨rfl, _, _⟩, _, rfl⟩ := hv
    have e : (L.map (Value.int .u8))[i]? = some (.int .u8 (L.getD i 0)) := by simp [List.getD, show i < L.length by omega]
    rw [← ht, List.getElem?_take, if_pos (by omega)] at e
    simp [World.cell?, hb]
    simpa using e

theorem getD_mem {L : List Int} {k : Nat} (hk : k < L.length) : L.getD k 0 ∈ L := by
  have : L.getD k 0 = L[k] := by simp [List.getD, hk]
  rw [this]; exact List.getElem_mem _
theorem sumTo_take {L : List Int} {k : Nat} (hk : k < L.length) : sumTo (L.take (k + 1)) 0 = (sumTo (L.take k) 0 + L.getD k 0) % 65521 := by
  rw [List.take_add_one, sumTo_append]
  simp [List.getD, hk, sumTo]

set_option maxHeartbeats 1000000 in
theorem l16Sum_any (g cap base n : Nat) (L : List Int) (w : World) (hn : n ≤ 1000000) (hb : ∀ b ∈ L, 0 ≤ b ∧ b < 256) (hown : OwnB w base g cap n L) :
    Calls Try.prog 35 #[.slice (some ⟨g, 0, none⟩) n cap] w fun e w' => e = .returned (.int .i64 (sumTo L 0)) ∧ w' = w := by
  have HO : Hid (OwnB w base g cap n L) := hown
  have HY : Hid (∀ b ∈ L, 0 ≤ b ∧ b < 256) := hb
  clear hown hb
  go_enter Try.func35, Try.ntmps35
  go_wp2
  go_loopw [3, 4] (fun sv i wr => ∃ (k : Nat) (s : Int), k ≤ n ∧ i = .int .i64 k ∧ sv = .int .i64 s ∧ Hid (s = sumTo (L.take k) 0) ∧ 0 ≤ s ∧ s < 65521 ∧ wr = w) (fun _ i _ => n - (intOf i).toNat)
  case atStart => exact ⟨0, 0, Nat.zero_le _, rfl, rfl, rfl, by omega, by omega, rfl⟩
  case round =>
    obtain ⟨k, s, hk, rfl, rfl, HS, hs0, hs1, rfl⟩ := hrel
    by_cases hlt : k < n
    · have c0 := HO.out.cell hlt
      have hl := HO.out.len
      obtain ⟨b, hb⟩ : ∃ b, b = L.getD k 0 := ⟨_, rfl⟩
      rw [← hb] at c0
      have hb2 : 0 ≤ b ∧ b < 256 := HY.out b (hb ▸ getD_mem (by omega))
      have HN : Hid ((s + b) % 65521 = sumTo (L.take (k + 1)) 0) := by rw [sumTo_take (by omega), ← HS.out, ← hb]; exact rfl
      have htm : (s + b).tmod 65521 = (s + b) % 65521 := Int.tmod_eq_emod_of_nonneg (by omega)
      clear hb hl
      go_wp2
      go_roundw
      case rel => exact ⟨k + 1, _, by omega, by simp, rfl, HN.out, by omega, by omega, by first | rfl | trivial⟩
      case measure => simp [intOf]; omega
    · have HE : Hid (s = sumTo L 0) := by rw [HS.out, List.take_of_length_le (by have := HO.out.len; omega)]; exact rfl
      go_wp2
      go_ret
      exact ⟨by rw [HE.out]; rfl, rfl⟩
end Go.Proofs.Ytobhljmpdolomaa
