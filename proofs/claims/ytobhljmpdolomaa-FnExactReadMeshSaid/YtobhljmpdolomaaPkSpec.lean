import Derived.Test.YtobhljmpdolomaaPkNum2
import Derived.Test.YtobhljmpdolomaaPkSum
import Derived.Test.YtobhljmpdolomaaMsSpec
import Derived.Deep.RegionHeld3
namespace Go.Proofs.Ytobhljmpdolomaa
open Go.RowKit

theorem qok_bounds {n d : Int} (h : qok n d = true) : (-1000000000000000000 ≤ n ∧ n ≤ 1000000000000000000) ∧ (-1000000000000000000 ≤ d ∧ d ≤ 1000000000000000000) := by
  unfold qok at h
  split at h
  · rename_i h1; omega
  · cases h
theorem vok_bounds {V : Nat → Int} {i : Nat} (h : vok V i = true) {q : Nat} (hq : q < 6) : -1000000000000000000 ≤ V (i * 6 + q) ∧ V (i * 6 + q) ≤ 1000000000000000000 := by
  simp only [vok, Bool.and_eq_true] at h
  have h1 := qok_bounds h.1.1
  have h2 := qok_bounds h.1.2
  have h3 := qok_bounds h.2
  match q, hq with
  | 0, _ => exact h1.1
  | 1, _ => exact h1.2
  | 2, _ => exact h2.1
  | 3, _ => exact h2.2
  | 4, _ => exact h3.1
  | 5, _ => exact h3.2
structure Fine (nv nt : Nat) (V T : Nat → Int) : Prop where
  nv200 : nv ≤ 200
  nt300 : nt ≤ 300
  vb : ∀ i q, i < nv → q < 6 → -1000000000000000000 ≤ V (i * 6 + q) ∧ V (i * 6 + q) ≤ 1000000000000000000
  tb : ∀ i q, i < nt → q < 3 → -1000000000000000000 ≤ T (i * 3 + q) ∧ T (i * 3 + q) ≤ 1000000000000000000
theorem fine_of {nv nt : Nat} {V T : Nat → Int} (h : meshok nv nt V T = true) : Fine nv nt V T := by
  simp only [meshok, Bool.and_eq_true, decide_eq_true_eq, List.all_eq_true, List.mem_range] at h
  obtain ⟨⟨⟨h1, h2⟩, h3⟩, h4⟩ := h
  refine ⟨h1, h2, fun i q hi hq => vok_bounds (h3 i hi) hq, fun i q hi hq => ?_⟩
  have := of_decide_eq_true (h4 i hi)
  match q, hq with
  | 0, _ => rw [Nat.add_zero]; omega
  | 1, _ => omega
  | 2, _ => omega

theorem six_at (V : Nat → Int) (k q : Nat) (hq : q < 6) : (#[Value.int .i64 (V (k * 6)), .int .i64 (V (k * 6 + 1)), .int .i64 (V (k * 6 + 2)), .int .i64 (V (k * 6 + 3)), .int .i64 (V (k * 6 + 4)), .int .i64 (V (k * 6 + 5))] : Array Value)[q]? = some (.int .i64 (V (k * 6 + q))) := by
  match q, hq with
  | 0, _ => rfl
  | 1, _ => rfl
  | 2, _ => rfl
  | 3, _ => rfl
  | 4, _ => rfl
  | 5, _ => rfl
theorem two_at {wr : World} {A B : Array Value} {t u : Nat} : At ((wr.alloc (.cells B t)).alloc (.cells A u)) (wr.heap.size + 1) A :=
  ⟨fun j => by go_simp, fun j => by go_simp, by simp⟩

abbrev Tr3 (X : Nat) (a b c : Int) (w' : World) : Prop := (w'.cell? ⟨X, 0, none⟩ = some (.int .i64 a) ∧ w'.cell? ⟨X, 1, none⟩ = some (.int .i64 b) ∧ w'.cell? ⟨X, 2, none⟩ = some (.int .i64 c)) ∧ X < w'.heap.size
theorem Tr3.start {wr : World} {a b c : Int} {t : Nat} : Tr3 wr.heap.size a b c (wr.alloc (.cells #[.int .i64 a, .int .i64 b, .int .i64 c] t)).drew := by
  refine ⟨⟨?_, ?_, ?_⟩, ?_⟩
  · go_simp
  · go_simp
  · go_simp
  · show wr.heap.size < (wr.alloc (.cells #[.int .i64 a, .int .i64 b, .int .i64 c] t)).heap.size
    simp
theorem Tr3.call {X g : Nat} {a b c : Int} {w' w1 : World} (k : Tr3 X a b c w') (hg : w'.grownBy w1 (some g)) (hne : X ≠ g) : Tr3 X a b c w1 := by
  have hb : w1.heap[X]? = w'.heap[X]? := hg.block X k.2 (by simpa using hne)
  exact ⟨⟨(World.cell?_of_block (a := ⟨X, 0, none⟩) (w := w') hb).trans k.1.1, (World.cell?_of_block (a := ⟨X, 1, none⟩) (w := w') hb).trans k.1.2.1, (World.cell?_of_block (a := ⟨X, 2, none⟩) (w := w') hb).trans k.1.2.2⟩, Nat.lt_of_lt_of_le k.2 hg.size⟩
theorem nums_three (T : Nat → Int) (k : Nat) : nums T (k * 3) ++ num (T (k * 3)) ++ num (T (k * 3 + 1)) ++ num (T (k * 3 + 2)) = nums T ((k + 1) * 3) := by
  rw [show (k + 1) * 3 = k * 3 + 1 + 1 + 1 by omega, nums_succ, nums_succ, nums_succ]

set_option maxHeartbeats 4000000 in
theorem specPackMesh_any (nv nt cv ct : Nat) (vo to : Option Addr) (V T : Nat → Int) (w : World) (hnv : nv ≤ 1048576) (hnt : nt ≤ 1048576) (hv : Rd w 6 vo nv V) (ht : Rd w 3 to nt T) (hok : meshok nv nt V T = true) :
    Calls Try.prog 11 #[.agg #[.slice vo nv cv, .slice to nt ct]] w fun e w' => ∃ g cap n, e = .returned (.tuple #[.slice (some ⟨g, 0, none⟩) n cap, .bool true]) ∧ n ≤ 999000 ∧ OwnB w' (w.heap.size + 1) g cap n (pack nv nt V T) ∧ Below w.heap.size w w' := by
  have HV : Hid (Rd (w.alloc (.cells #[.slice vo nv cv, .slice to nt ct] 31)) 6 vo nv V) := Rd.below hv (Joins.below_alloc1 _ _) (Nat.le_refl _)
  have HT : Hid (Rd (w.alloc (.cells #[.slice vo nv cv, .slice to nt ct] 31)) 3 to nt T) := Rd.below ht (Joins.below_alloc1 _ _) (Nat.le_refl _)
  have HF : Hid (Fine nv nt V T) := fine_of hok
  have hnv2 : nv ≤ 200 := HF.out.nv200
  have hnt3 : nt ≤ 300 := HF.out.nt300
  have HK : Hid (meshok nv nt V T = true) := hok
  clear hv ht hok
  go_enter Try.func11, Try.ntmps11
  go_wp2_with fail
  refine (specMeshOk_any nv nt cv ct vo to V T _ hnv hnt HV.out HT.out).mono ?_
  rintro e w1 ⟨rfl, hb1⟩
  rw [HK.out]
  obtain ⟨m0, m1⟩ := mesh_cells hb1
  have HB1 : Hid (Below (w.alloc (.cells #[.slice vo nv cv, .slice to nt ct] 31)).heap.size (w.alloc (.cells #[.slice vo nv cv, .slice to nt ct] 31)) w1) := hb1
  have hs1 : w.heap.size + 1 ≤ w1.heap.size := by have := hb1.size; simpa using this
  clear hb1
  have HB1' : Hid (Below (w.alloc (.cells #[.slice vo nv cv, .slice to nt ct] 31)).heap.size (w.alloc (.cells #[.slice vo nv cv, .slice to nt ct] 31)) (w1.alloc (.cells #[.int .u8 83, .int .u8 77, .int .u8 1] 5))) := HB1.out.alloc (by simpa using hs1) _
  have HO1 : Hid (OwnB (w1.alloc (.cells #[.int .u8 83, .int .u8 77, .int .u8 1] 5)) (w.heap.size + 1) w1.heap.size 3 3 [83, 77, 1]) :=
    ⟨by simp, Or.inr ⟨w1.heap.size, 3, _, rfl, hs1, Deep.blk_alloc_new _ _, Nat.le_refl _, by simp [maxLen], by simp, by simp⟩⟩
  obtain ⟨n0, n1⟩ := mesh_cells HB1'.out
  go_wp2_with fail
  refine (l16Number_any (nv : Int) _ 3 (w.heap.size + 1) 3 [83, 77, 1] _ (by omega) (by omega) (by simp; omega) HO1.out).mono ?_
  rintro e w2 ⟨g2, cap2, n2, rfl, hn2, ho2, hg2, hl2⟩
  have HO2 : Hid (OwnB w2 (w.heap.size + 1) g2 cap2 n2 ([83, 77, 1] ++ num nv)) := ho2
  have HB2 : Hid (Below (w.alloc (.cells #[.slice vo nv cv, .slice to nt ct] 31)).heap.size (w.alloc (.cells #[.slice vo nv cv, .slice to nt ct] 31)) w2) := HB1'.out.trans (grown_below hg2 (by simp; omega) (by simpa using hs1))
  clear ho2 hg2 hl2 HO1 HB1' HB1 m0 m1 n0 n1
  go_wp2
  go_loopw [4, 5] (fun b i wr => ∃ (k g cap n : Nat), k ≤ nv ∧ i = .int .i64 k ∧ b = .slice (some ⟨g, 0, none⟩) n cap ∧ n ≤ 13 + 60 * k ∧ Hid (OwnB wr (w.heap.size + 1) g cap n ([83, 77, 1] ++ num nv ++ nums V (k * 6))) ∧ Hid (Below (w.alloc (.cells #[.slice vo nv cv, .slice to nt ct] 31)).heap.size (w.alloc (.cells #[.slice vo nv cv, .slice to nt ct] 31)) wr)) (fun _ i _ => nv - (intOf i).toNat)
  case atStart => exact ⟨0, g2, cap2, n2, Nat.zero_le _, rfl, rfl, by omega, by rw [Nat.zero_mul, nums_zero, List.append_nil]; exact HO2.out, HB2.out⟩
  case round =>
    clear HO2 HB2
    obtain ⟨k, g, cap, n, hk, rfl, rfl, hn, HO, HB⟩ := hrel
    obtain ⟨m0, m1⟩ := mesh_cells HB.out
    have hsz : w.heap.size + 1 ≤ wr.heap.size := by have := HB.out.size; simpa using this
    by_cases hlt : k < nv
    · have HV1 : Hid (Rd wr 6 vo nv V) := Rd.below HV.out HB.out (Nat.le_refl _)
      obtain ⟨b, off, rfl, hbw, hcell⟩ := HV1.out (by omega)
      have c0 : wr.cell? ⟨b, off + k * 6, none⟩ = some (.int .i64 (V (k * 6))) := hcell (k * 6) (by omega)
      have c1 : wr.cell? ⟨b, off + k * 6 + 1, none⟩ = some (.int .i64 (V (k * 6 + 1))) := hcell (k * 6 + 1) (by omega)
      have c2 : wr.cell? ⟨b, off + k * 6 + 2, none⟩ = some (.int .i64 (V (k * 6 + 2))) := hcell (k * 6 + 2) (by omega)
      have c3 : wr.cell? ⟨b, off + k * 6 + 3, none⟩ = some (.int .i64 (V (k * 6 + 3))) := hcell (k * 6 + 3) (by omega)
      have c4 : wr.cell? ⟨b, off + k * 6 + 4, none⟩ = some (.int .i64 (V (k * 6 + 4))) := hcell (k * 6 + 4) (by omega)
      have c5 : wr.cell? ⟨b, off + k * 6 + 5, none⟩ = some (.int .i64 (V (k * 6 + 5))) := hcell (k * 6 + 5) (by omega)
      clear hcell HV1
      have HA : Hid (At ((wr.alloc (.cells #[.int .i64 (V (k * 6)), .int .i64 (V (k * 6 + 1)), .int .i64 (V (k * 6 + 2)), .int .i64 (V (k * 6 + 3)), .int .i64 (V (k * 6 + 4)), .int .i64 (V (k * 6 + 5))] 51)).alloc (.cells #[.int .i64 (V (k * 6)), .int .i64 (V (k * 6 + 1)), .int .i64 (V (k * 6 + 2)), .int .i64 (V (k * 6 + 3)), .int .i64 (V (k * 6 + 4)), .int .i64 (V (k * 6 + 5))] 2)) (wr.heap.size + 1) #[.int .i64 (V (k * 6)), .int .i64 (V (k * 6 + 1)), .int .i64 (V (k * 6 + 2)), .int .i64 (V (k * 6 + 3)), .int .i64 (V (k * 6 + 4)), .int .i64 (V (k * 6 + 5))]) := two_at
      have HOb : Hid (OwnB ((wr.alloc (.cells #[.int .i64 (V (k * 6)), .int .i64 (V (k * 6 + 1)), .int .i64 (V (k * 6 + 2)), .int .i64 (V (k * 6 + 3)), .int .i64 (V (k * 6 + 4)), .int .i64 (V (k * 6 + 5))] 51)).alloc (.cells #[.int .i64 (V (k * 6)), .int .i64 (V (k * 6 + 1)), .int .i64 (V (k * 6 + 2)), .int .i64 (V (k * 6 + 3)), .int .i64 (V (k * 6 + 4)), .int .i64 (V (k * 6 + 5))] 2)) (w.heap.size + 1) g cap n ([83, 77, 1] ++ num nv ++ nums V (k * 6 + 0))) := World.ownsRow.alloc (World.ownsRow.alloc HO.out _) _
      have HBb : Hid (Below (w.alloc (.cells #[.slice (some ⟨b, off, none⟩) nv cv, .slice to nt ct] 31)).heap.size (w.alloc (.cells #[.slice (some ⟨b, off, none⟩) nv cv, .slice to nt ct] 31)) ((wr.alloc (.cells #[.int .i64 (V (k * 6)), .int .i64 (V (k * 6 + 1)), .int .i64 (V (k * 6 + 2)), .int .i64 (V (k * 6 + 3)), .int .i64 (V (k * 6 + 4)), .int .i64 (V (k * 6 + 5))] 51)).alloc (.cells #[.int .i64 (V (k * 6)), .int .i64 (V (k * 6 + 1)), .int .i64 (V (k * 6 + 2)), .int .i64 (V (k * 6 + 3)), .int .i64 (V (k * 6 + 4)), .int .i64 (V (k * 6 + 5))] 2))) := (HB.out.alloc (by simpa using hsz) _).alloc (by simp; omega) _
      have HNe : Hid (g ≠ wr.heap.size + 1) := (show g ≠ wr.heap.size + 1 by have := HO.out.lt; omega)
      clear HO HB
      go_wp2
      go_loopw [4, 8] (fun bv i wq => ∃ (q g cap n : Nat), q ≤ 6 ∧ i = .int .i64 q ∧ bv = .slice (some ⟨g, 0, none⟩) n cap ∧ n ≤ 13 + 60 * k + 10 * q ∧ Hid (OwnB wq (w.heap.size + 1) g cap n ([83, 77, 1] ++ num nv ++ nums V (k * 6 + q))) ∧ Hid (g ≠ wr.heap.size + 1) ∧ Hid (At wq (wr.heap.size + 1) #[.int .i64 (V (k * 6)), .int .i64 (V (k * 6 + 1)), .int .i64 (V (k * 6 + 2)), .int .i64 (V (k * 6 + 3)), .int .i64 (V (k * 6 + 4)), .int .i64 (V (k * 6 + 5))]) ∧ Hid (Below (w.alloc (.cells #[.slice (some ⟨b, off, none⟩) nv cv, .slice to nt ct] 31)).heap.size (w.alloc (.cells #[.slice (some ⟨b, off, none⟩) nv cv, .slice to nt ct] 31)) wq)) (fun _ i _ => 6 - (intOf i).toNat)
      case atStart => exact ⟨0, g, cap, n, by omega, rfl, rfl, by omega, HOb.out, HNe.out, HA.out, HBb.out⟩
      case round =>
        clear HOb HNe HA HBb m0 m1 c0 c1 c2 c3 c4 c5
        rename World => wq
        obtain ⟨q, g, cap, n, hq, rfl, rfl, hn, HO, HNe, HA, HB⟩ := hrel
        have hsq : w.heap.size + 1 ≤ wq.heap.size := by have := HB.out.size; simpa using this
        by_cases hq6 : q < 6
        · have cq : wq.cell? ⟨wr.heap.size + 1, q, none⟩ = some (.int .i64 (V (k * 6 + q))) := by rw [HA.out.c q]; exact six_at V k q hq6
          have hx := HF.out.vb k q hlt hq6
          go_wp2_with fail
          refine (l16Number_any (V (k * 6 + q)) g cap (w.heap.size + 1) n _ _ hx (by omega) hsq HO.out).mono ?_
          rintro e w3 ⟨g3, cap3, n3, rfl, hn3, ho3, hg3, hl3⟩
          have HO3 : Hid (OwnB w3 (w.heap.size + 1) g3 cap3 n3 ([83, 77, 1] ++ num nv ++ nums V (k * 6 + (q + 1)))) := by rw [← Nat.add_assoc, nums_succ, ← List.append_assoc]; exact ho3
          have HA3 : Hid (At w3 (wr.heap.size + 1) #[.int .i64 (V (k * 6)), .int .i64 (V (k * 6 + 1)), .int .i64 (V (k * 6 + 2)), .int .i64 (V (k * 6 + 3)), .int .i64 (V (k * 6 + 4)), .int .i64 (V (k * 6 + 5))]) := HA.out.grown hg3 (Ne.symm HNe.out)
          have HN3 : Hid (g3 ≠ wr.heap.size + 1) := (show g3 ≠ wr.heap.size + 1 by have h1 := HNe.out; have h2 := HA.out.sz; omega)
          have HB3 : Hid (Below (w.alloc (.cells #[.slice (some ⟨b, off, none⟩) nv cv, .slice to nt ct] 31)).heap.size (w.alloc (.cells #[.slice (some ⟨b, off, none⟩) nv cv, .slice to nt ct] 31)) w3) := HB.out.trans (grown_below hg3 (by simpa using hsq) (by have := HO.out.lt.1; simpa using this))
          clear ho3 hg3 hl3 HO HA HNe HB cq
          go_wp2
          go_roundw
          case rel => exact ⟨q + 1, g3, cap3, n3, by omega, by simp, rfl, by omega, HO3.out, HN3.out, HA3.out, HB3.out⟩
          case measure => simp [intOf]; omega
        · have HO6 : Hid (OwnB wq (w.heap.size + 1) g cap n ([83, 77, 1] ++ num nv ++ nums V ((k + 1) * 6))) := by have e : (k + 1) * 6 = k * 6 + q := (by omega); rw [e]; exact HO.out
          clear HO HA HNe
          go_wp2
          go_roundw
          case rel => exact ⟨k + 1, g, cap, n, by omega, by simp, rfl, by omega, HO6.out, HB.out⟩
          case measure => simp [intOf]; omega
    · have HOv : Hid (OwnB wr (w.heap.size + 1) g cap n ([83, 77, 1] ++ num nv ++ nums V (nv * 6))) := by have e : nv * 6 = k * 6 := (by omega); rw [e]; exact HO.out
      clear HO HV
      go_wp2_with fail
      refine (l16Number_any (nt : Int) g cap (w.heap.size + 1) n _ _ (by omega) (by omega) hsz HOv.out).mono ?_
      rintro e w3 ⟨g3, cap3, n3, rfl, hn3, ho3, hg3, hl3⟩
      have HO3 : Hid (OwnB w3 (w.heap.size + 1) g3 cap3 n3 ([83, 77, 1] ++ num nv ++ nums V (nv * 6) ++ num nt)) := ho3
      have HB3 : Hid (Below (w.alloc (.cells #[.slice vo nv cv, .slice to nt ct] 31)).heap.size (w.alloc (.cells #[.slice vo nv cv, .slice to nt ct] 31)) w3) := HB.out.trans (grown_below hg3 (by simpa using hsz) (by have := HOv.out.lt.1; simpa using this))
      clear ho3 hg3 hl3 HOv HB m0 m1
      go_wp2
      go_loopw [4, 9] (fun b i wr => ∃ (k g cap n : Nat), k ≤ nt ∧ i = .int .i64 k ∧ b = .slice (some ⟨g, 0, none⟩) n cap ∧ n ≤ 13 + 60 * nv + 10 + 30 * k ∧ Hid (OwnB wr (w.heap.size + 1) g cap n ([83, 77, 1] ++ num nv ++ nums V (nv * 6) ++ num nt ++ nums T (k * 3))) ∧ Hid (Below (w.alloc (.cells #[.slice vo nv cv, .slice to nt ct] 31)).heap.size (w.alloc (.cells #[.slice vo nv cv, .slice to nt ct] 31)) wr)) (fun _ i _ => nt - (intOf i).toNat)
      case atStart => exact ⟨0, g3, cap3, n3, Nat.zero_le _, rfl, rfl, by omega, by rw [Nat.zero_mul, nums_zero, List.append_nil]; exact HO3.out, HB3.out⟩
      case round =>
        clear HO3 HB3
        rename World => wr
        obtain ⟨k, g, cap, n, hk, rfl, rfl, hn, HO, HB⟩ := hrel
        obtain ⟨m0, m1⟩ := mesh_cells HB.out
        have hsz : w.heap.size + 1 ≤ wr.heap.size := by have := HB.out.size; simpa using this
        by_cases hlt : k < nt
        · have HT1 : Hid (Rd wr 3 to nt T) := Rd.below HT.out HB.out (Nat.le_refl _)
          obtain ⟨b, off, rfl, hbw, hcell⟩ := HT1.out (by omega)
          have c0 : wr.cell? ⟨b, off + k * 3, none⟩ = some (.int .i64 (T (k * 3))) := hcell (k * 3) (by omega)
          have c1 : wr.cell? ⟨b, off + k * 3 + 1, none⟩ = some (.int .i64 (T (k * 3 + 1))) := hcell (k * 3 + 1) (by omega)
          have c2 : wr.cell? ⟨b, off + k * 3 + 2, none⟩ = some (.int .i64 (T (k * 3 + 2))) := hcell (k * 3 + 2) (by omega)
          obtain ⟨x0, e0⟩ : ∃ x, x = T (k * 3) := ⟨_, rfl⟩
          obtain ⟨x1, e1⟩ : ∃ x, x = T (k * 3 + 1) := ⟨_, rfl⟩
          obtain ⟨x2, e2⟩ : ∃ x, x = T (k * 3 + 2) := ⟨_, rfl⟩
          rw [← e0] at c0
          rw [← e1] at c1
          rw [← e2] at c2
          have HE : Hid (x0 = T (k * 3) ∧ x1 = T (k * 3 + 1) ∧ x2 = T (k * 3 + 2)) := ⟨e0, e1, e2⟩
          have HX0 : Hid (-1000000000000000000 ≤ x0 ∧ x0 ≤ 1000000000000000000) := e0 ▸ HF.out.tb k 0 hlt (by omega)
          have HX1 : Hid (-1000000000000000000 ≤ x1 ∧ x1 ≤ 1000000000000000000) := e1 ▸ HF.out.tb k 1 hlt (by omega)
          have HX2 : Hid (-1000000000000000000 ≤ x2 ∧ x2 ≤ 1000000000000000000) := e2 ▸ HF.out.tb k 2 hlt (by omega)
          have HOd : Hid (OwnB (wr.alloc (.cells #[.int .i64 x0, .int .i64 x1, .int .i64 x2] 53)).drew (w.heap.size + 1) g cap n ([83, 77, 1] ++ num nv ++ nums V (nv * 6) ++ num nt ++ nums T (k * 3))) := World.ownsRow.alloc HO.out _
          have HBd : Hid (Below (w.alloc (.cells #[.slice vo nv cv, .slice (some ⟨b, off, none⟩) nt ct] 31)).heap.size (w.alloc (.cells #[.slice vo nv cv, .slice (some ⟨b, off, none⟩) nt ct] 31)) (wr.alloc (.cells #[.int .i64 x0, .int .i64 x1, .int .i64 x2] 53)).drew) := (HB.out.alloc (by simpa using hsz) _).drew
          have hng : wr.heap.size ≠ g := by have := HO.out.lt; omega
          have HSd : Hid (w.heap.size + 1 ≤ (wr.alloc (.cells #[.int .i64 x0, .int .i64 x1, .int .i64 x2] 53)).drew.heap.size) := (show w.heap.size + 1 ≤ (wr.alloc (.cells #[.int .i64 x0, .int .i64 x1, .int .i64 x2] 53)).drew.heap.size by have := HBd.out.size; simpa using this)
          have HZ : Hid (wr.heap.size < (wr.alloc (.cells #[.int .i64 x0, .int .i64 x1, .int .i64 x2] 53)).drew.heap.size) := (Tr3.start (wr := wr) (a := x0) (b := x1) (c := x2) (t := 53)).2
          clear hcell HT1 HO HB e0 e1 e2
          go_wp2_with fail
          go_region_held3 (fun w' => Tr3 wr.heap.size x0 x1 x2 w') (first | with_reducible exact Tr3.start | with_reducible exact Tr3.call (by assumption) (by assumption) (by assumption))
            (first
              | (go_at_call_of 34 (Value.int IntKind.i64 x0); refine (l16Number_any x0 g cap (w.heap.size + 1) n _ _ HX0.out (by omega) HSd.out HOd.out).mono ?_; rintro e wa ⟨ga, capa, na, rfl, hna, hoa, hga, hla⟩; have hnea : wr.heap.size ≠ ga := (by have := HZ.out; omega); have hsa := Nat.le_trans HSd.out hga.size)
              | (go_at_call_of 34 (Value.int IntKind.i64 x1); refine (l16Number_any x1 ga capa (w.heap.size + 1) na _ _ HX1.out (by omega) hsa hoa).mono ?_; rintro e wb ⟨gb, capb, nb, rfl, hnb, hob, hgb, hlb⟩; have hneb : wr.heap.size ≠ gb := (by have := HZ.out; have := hga.size; omega); have hsb := Nat.le_trans hsa hgb.size)
              | (go_at_call_of 34 (Value.int IntKind.i64 x2); refine (l16Number_any x2 gb capb (w.heap.size + 1) nb _ _ HX2.out (by omega) hsb hob).mono ?_; rintro e wc ⟨gc, capc, nc, rfl, hnc, hoc, hgc, hlc⟩; have hnec : wr.heap.size ≠ gc := (by have := HZ.out; have := hga.size; have := hgb.size; omega)))
          have HOc : Hid (OwnB wc (w.heap.size + 1) gc capc nc ([83, 77, 1] ++ num nv ++ nums V (nv * 6) ++ num nt ++ nums T ((k + 1) * 3))) := by
            rw [← nums_three, ← HE.out.1, ← HE.out.2.1, ← HE.out.2.2, ← List.append_assoc, ← List.append_assoc, ← List.append_assoc]
            exact hoc
          have HBc : Hid (Below (w.alloc (.cells #[.slice vo nv cv, .slice (some ⟨b, off, none⟩) nt ct] 31)).heap.size (w.alloc (.cells #[.slice vo nv cv, .slice (some ⟨b, off, none⟩) nt ct] 31)) wc) := ((HBd.out.trans (grown_below hga (by simpa using HSd.out) (by have := HOd.out.lt.1; simpa using this))).trans (grown_below hgb (by simpa using hsa) (by have := hoa.lt.1; simpa using this))).trans (grown_below hgc (by simpa using hsb) (by have := hob.lt.1; simpa using this))
          clear hoa hob hoc hga hgb hgc hla hlb hlc hnea hneb hnec hsa hsb HOd HBd HZ HSd m0 m1 c0 c1 c2 HX0 HX1 HX2 HE
          go_wp2
          go_roundw
          case rel => exact ⟨k + 1, gc, capc, nc, by omega, by simp, rfl, by omega, HOc.out, HBc.out⟩
          case measure => simp [intOf]; omega
        · have HOt : Hid (OwnB wr (w.heap.size + 1) g cap n (body nv nt V T)) := by have e : nt * 3 = k * 3 := (by omega); unfold body; rw [e]; exact HO.out
          clear HO HT
          go_wp2_with fail
          refine (l16Sum_any g cap (w.heap.size + 1) n (body nv nt V T) _ (by omega) (body_byte nv nt V T) HOt.out).mono ?_
          rintro e w4 ⟨rfl, rfl⟩
          obtain ⟨s, hs⟩ : ∃ s, s = sumTo (body nv nt V T) 0 := ⟨_, rfl⟩
          have hsr : 0 ≤ s ∧ s < 65521 := by rw [hs]; exact sumTo_range _ _ (by omega)
          have HP : Hid (pack nv nt V T = body nv nt V T ++ [s % 256, s / 256]) := by unfold pack; rw [← hs]; exact rfl
          rw [← hs]
          have hm1 : s.tmod 256 = s % 256 := Int.tmod_eq_emod_of_nonneg hsr.1
          have hd1 : s.tdiv 256 = s / 256 := Int.tdiv_eq_ediv_of_nonneg hsr.1
          clear hs
          go_wp2_with (first | (at_builtin; refine append_two _ rfl (.tmp 92) (.tmp 99) rfl (w.heap.size + 1) g cap n (body nv nt V T) _ _ rfl rfl HOt.out hsz (by omega) ?_; intro g5 cap5 w5 ho5 hg5 hl5))
          have HO5 : Hid (OwnB w5 (w.heap.size + 1) g5 cap5 (n + 2) (pack nv nt V T)) := by rw [HP.out]; exact ho5
          have HB5 : Hid (Below w.heap.size w w5) := (Joins.below_alloc1 _ _).trans ((HB.out.trans (grown_below hg5 (by simpa using hsz) (by have := HOt.out.lt.1; simpa using this))).mono (by simp))
          clear ho5 hg5 hl5 HOt HB HP
          go_ret2
          exact ⟨g5, cap5, n + 2, rfl, by omega, HO5.out, HB5.out⟩
end Go.Proofs.Ytobhljmpdolomaa
