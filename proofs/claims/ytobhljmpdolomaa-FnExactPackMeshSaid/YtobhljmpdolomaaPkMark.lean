import Derived.Test.YtobhljmpdolomaaPkBytes
namespace Go.Proofs.Ytobhljmpdolomaa
open Go.RowKit

set_option maxHeartbeats 2000000 in
theorem markTriS_any (n g : Nat) (k0 : Int) (f : Nat → Value) (w : World) (hn : n ≤ 1048576) (hk0 : 0 ≤ k0 ∧ k0 ≤ 100000000) (hr : w.rowIs g 53 (n * 3) f) :
    Calls Try.prog 40 #[.slice (some ⟨g, 0, none⟩) n n, .int .i64 k0] w fun e w' => e = .returned (.int .i64 (k0 + 3 * n)) ∧ (∃ f', w'.rowIs g 53 (n * 3) f') ∧ w.grownBy w' (some g) := by
  have HR : Hid (w.rowIs g 53 (n * 3) f) := hr
  clear hr
  go_enter Try.func40, Try.ntmps40
  go_wp2
  go_loopw [1, 5] (fun kv i wr => ∃ k : Nat, k ≤ n ∧ i = .int .i64 k ∧ kv = .int .i64 (k0 + 3 * k) ∧ Hid (∃ f, wr.rowIs g 53 (n * 3) f) ∧ Hid (w.grownBy wr (some g))) (fun _ i _ => n - (intOf i).toNat)
  case atStart => exact ⟨0, Nat.zero_le _, rfl, by go_num, ⟨f, HR.out⟩, grownBy_refl _ _⟩
  case round =>
    obtain ⟨k, hk, rfl, rfl, HF, HG⟩ := hrel
    by_cases hlt : k < n
    · obtain ⟨f1, hr1⟩ := HF.out
      have c0 := hr1.cell (i := k * 3) (by omega)
      have z0 := hr1.frozen (k * 3)
      have c1 := hr1.cell (i := k * 3 + 1) (by omega)
      have z1 := hr1.frozen (k * 3 + 1)
      have c2 := hr1.cell (i := k * 3 + 2) (by omega)
      have z2 := hr1.frozen (k * 3 + 2)
      have HR1 : Hid (wr.rowIs g 53 (n * 3) f1) := hr1
      clear hr1 HF HR
      go_wp2
      go_roundw
      case rel => exact ⟨k + 1, by omega, by simp, by go_num, ⟨_, (((HR1.out.set (k * 3) _).set (k * 3 + 1) _).set (k * 3 + 2) _)⟩, (grown_set (grown_set (grown_set HG.out (Or.inl rfl)) (Or.inl rfl)) (Or.inl rfl))⟩
      case measure => simp [intOf]; omega
    · have hkn : k = n := by omega
      subst hkn
      clear HR
      go_wp2
      go_ret
      exact ⟨rfl, HF.out, HG.out⟩

set_option maxHeartbeats 2000000 in
theorem markV3S_any (n g : Nat) (k0 : Int) (f : Nat → Value) (w : World) (hn : n ≤ 1048576) (hk0 : 0 ≤ k0 ∧ k0 ≤ 100000000) (hr : w.rowIs g 51 (n * 6) f) :
    Calls Try.prog 39 #[.slice (some ⟨g, 0, none⟩) n n, .int .i64 k0] w fun e w' => e = .returned (.int .i64 (k0 + 6 * n)) ∧ (∃ f', w'.rowIs g 51 (n * 6) f') ∧ w.grownBy w' (some g) := by
  have HR : Hid (w.rowIs g 51 (n * 6) f) := hr
  clear hr
  go_enter Try.func39, Try.ntmps39
  go_wp2
  go_loopw [1, 5] (fun kv i wr => ∃ k : Nat, k ≤ n ∧ i = .int .i64 k ∧ kv = .int .i64 (k0 + 6 * k) ∧ Hid (∃ f, wr.rowIs g 51 (n * 6) f) ∧ Hid (w.grownBy wr (some g))) (fun _ i _ => n - (intOf i).toNat)
  case atStart => exact ⟨0, Nat.zero_le _, rfl, by go_num, ⟨f, HR.out⟩, grownBy_refl _ _⟩
  case round =>
    obtain ⟨k, hk, rfl, rfl, HF, HG⟩ := hrel
    by_cases hlt : k < n
    · obtain ⟨f1, hr1⟩ := HF.out
      have c0 := hr1.cell (i := k * 6) (by omega)
      have z0 := hr1.frozen (k * 6)
      have c1 := hr1.cell (i := k * 6 + 1) (by omega)
      have z1 := hr1.frozen (k * 6 + 1)
      have c2 := hr1.cell (i := k * 6 + 2) (by omega)
      have z2 := hr1.frozen (k * 6 + 2)
      have c3 := hr1.cell (i := k * 6 + 3) (by omega)
      have z3 := hr1.frozen (k * 6 + 3)
      have c4 := hr1.cell (i := k * 6 + 4) (by omega)
      have z4 := hr1.frozen (k * 6 + 4)
      have c5 := hr1.cell (i := k * 6 + 5) (by omega)
      have z5 := hr1.frozen (k * 6 + 5)
      have HR1 : Hid (wr.rowIs g 51 (n * 6) f1) := hr1
      clear hr1 HF HR
      go_wp2
      go_roundw
      case rel => exact ⟨k + 1, by omega, by simp, by go_num, ⟨_, ((((((HR1.out.set (k * 6) _).set (k * 6 + 1) _).set (k * 6 + 2) _).set (k * 6 + 3) _).set (k * 6 + 4) _).set (k * 6 + 5) _)⟩, (grown_set (grown_set (grown_set (grown_set (grown_set (grown_set HG.out (Or.inl rfl)) (Or.inl rfl)) (Or.inl rfl)) (Or.inl rfl)) (Or.inl rfl)) (Or.inl rfl))⟩
      case measure => simp [intOf]; omega
    · have hkn : k = n := by omega
      subst hkn
      clear HR
      go_wp2
      go_ret
      exact ⟨rfl, HF.out, HG.out⟩

/-- markMesh writes into the two rows alone. -/
theorem markMesh_any (nv nt g h : Nat) (fv ft : Nat → Value) (w : World) (hnv : nv ≤ 1048576) (hnt : nt ≤ 1048576) (hg : w.rowIs g 51 (nv * 6) fv) (hh : w.rowIs h 53 (nt * 3) ft) (hne : g ≠ h) :
    Calls Try.prog 14 #[.agg #[.slice (some ⟨g, 0, none⟩) nv nv, .slice (some ⟨h, 0, none⟩) nt nt], .int .i64 1] w fun e w' => e = .returned (.int .i64 (1 + 6 * nv + 3 * nt)) ∧ w.heap.size ≤ w'.heap.size ∧ w'.os = w.os ∧ w'.tape = w.tape ∧ w'.output = w.output ∧ ∀ b, b < w.heap.size → b ≠ g → b ≠ h → w'.heap[b]? = w.heap[b]? := by
  have HG : Hid ((w.alloc (.cells #[.slice (some ⟨g, 0, none⟩) nv nv, .slice (some ⟨h, 0, none⟩) nt nt] 31)).rowIs g 51 (nv * 6) fv) := hg.alloc _
  have HH : Hid ((w.alloc (.cells #[.slice (some ⟨g, 0, none⟩) nv nv, .slice (some ⟨h, 0, none⟩) nt nt] 31)).rowIs h 53 (nt * 3) ft) := hh.alloc _
  have HL : Hid (g < w.heap.size ∧ h < w.heap.size ∧ g ≠ h) := ⟨hg.lt, hh.lt, hne⟩
  clear hg hh hne
  go_enter Try.func14, Try.ntmps14
  go_wp2_with fail
  refine (markV3S_any nv g 1 fv _ hnv (by omega) HG.out).mono ?_
  rintro e w1 ⟨rfl, ⟨f1, hr1⟩, hg1⟩
  have HR1 : Hid (w1.rowIs h 53 (nt * 3) ft) := HH.out.of_block (hg1.block h HH.out.lt (by have := HL.out.2.2; simp; omega))
  have HG1 : Hid ((w.alloc (.cells #[.slice (some ⟨g, 0, none⟩) nv nv, .slice (some ⟨h, 0, none⟩) nt nt] 31)).grownBy w1 (some g)) := hg1
  have q1 : w1.cell? ⟨w.heap.size, 1, none⟩ = some (.slice (some ⟨h, 0, none⟩) nt nt) := by
    rw [World.cell?_of_block (a := ⟨w.heap.size, 1, none⟩) (w := w.alloc (.cells #[.slice (some ⟨g, 0, none⟩) nv nv, .slice (some ⟨h, 0, none⟩) nt nt] 31)) (hg1.block w.heap.size (by simp) (by have := HL.out.1; simp; omega))]
    go_simp
  clear hr1 hg1 HG HH
  go_wp2_with fail
  refine (markTriS_any nt h _ ft _ hnt (by omega) HR1.out).mono ?_
  rintro e w2 ⟨rfl, _, hg2⟩
  have HB : Hid (w.heap.size ≤ w2.heap.size ∧ w2.os = w.os ∧ w2.tape = w.tape ∧ w2.output = w.output ∧ ∀ b, b < w.heap.size → b ≠ g → b ≠ h → w2.heap[b]? = w.heap[b]?) := by
    have hs1 := HG1.out.size
    have hs2 := hg2.size
    refine ⟨by simp at hs1; omega, hg2.os.trans HG1.out.os, hg2.tape.trans HG1.out.tape, hg2.output.trans HG1.out.output, fun b hb n1 n2 => ?_⟩
    rw [hg2.block b (by simp at hs1; omega) (by simp; omega), HG1.out.block b (by simp; omega) (by simp; omega), Deep.blk_alloc_lt _ _ _ hb]
  clear hg2 HG1 HR1 q1
  go_wp2
  go_ret
  exact ⟨rfl, HB.out⟩
end Go.Proofs.Ytobhljmpdolomaa
