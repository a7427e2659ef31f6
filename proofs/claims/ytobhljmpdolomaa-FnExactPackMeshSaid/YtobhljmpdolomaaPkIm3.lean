import Derived.Test.YtobhljmpdolomaaPkIm2
import Derived.Test.YtobhljmpdolomaaMsIm2
namespace Go.Proofs.Ytobhljmpdolomaa
open Go.RowKit

/-- append of two bytes that lie somewhere. -/
theorem append_pair {ops : Array Oper} {rst : List Oper} {o : Oper} {a : Act} {Q : Exit → Act → World → Prop} (w : World) (hgd : o.guard = none) (s x : Operand)
    (ho : o.op = .call { callee := .builtin .append, args := #[s, x], argTypes := #[35, 35] })
    (base g cap n X : Nat) (L : List Int) (b c : Int) (hs : a.eval s = .slice (some ⟨g, 0, none⟩) n cap) (hx : a.eval x = .slice (some ⟨X, 0, none⟩) 2 2)
    (h0 : w.cell? ⟨X, 0, none⟩ = some (.int .u8 b)) (h1 : w.cell? ⟨X, 1, none⟩ = some (.int .u8 c)) (hown : OwnB w base g cap n L) (hbase : base ≤ w.heap.size) (hL : n ≤ 1000000)
    (h : ∀ g' cap' w', OwnB w' base g' cap' (n + 2) (L ++ [b, c]) → w.grownBy w' (some g) → (g' = g ∨ w.heap.size ≤ g') → wpList Try.prog ops Q rst (a.put o.dst (.slice (some ⟨g', 0, none⟩) (n + 2) cap')) w') :
    wpList Try.prog ops Q (o :: rst) a w := by
  have hi := infoB
  cases hq : Try.prog.info? 5 with
  | none => rw [hq] at hi; simp at hi
  | some i =>
    rw [hq] at hi
    simp only [Option.map_some, Option.some.injEq, Prod.mk.injEq] at hi
    obtain ⟨hz, hsz, hby⟩ := hi
    refine wpList_append_lies _ hgd s x 35 ho base 5 i _ 1 1 Try.underlying35 hq hz hsz hby rfl (by decide) _ n (L.map (Value.int .u8)) hs hown ⟨X, 0, none⟩ 2 2 [.int .u8 b, .int .u8 c] hx rfl ?_ ?_ (by decide) (by simp only [maxLen]; omega) (by omega) hbase _ rfl (fun g' cap' w' h2 h3 h4 h5 => ?_)
    · intro j u hj
      match j, hj with
      | 0, hj => simp at hj; subst hj; simpa [Addr.add] using h0
      | 1, hj => simp at hj; subst hj; simpa [Addr.add] using h1
      | j + 2, hj => simp at hj
    · intro u hu
      simp at hu
      rcases hu with rfl | rfl <;> rfl
    · refine h g' cap' w' ?_ h3 ?_
      · unfold OwnB
        rw [List.map_append]
        exact h2
      · rcases h4 with h4 | h4
        · left; have h6 : some g = some g' := h4; exact (Option.some.inj h6).symm
        · right; rw [h4]; exact Nat.le_refl _

theorem sum_take {L : List Int} {k : Nat} (hk : k < L.length) : (L.take (k + 1)).sum = (L.take k).sum + L.getD k 0 := by
  rw [List.take_add_one, List.sum_append]
  simp [List.getD, hk]
theorem RdB.cell {w : World} {ao : Option Addr} {n : Nat} {L : List Int} (h : RdB w ao n L) {i : Nat} (hi : i < n) : ∃ g, ao = some ⟨g, 0, none⟩ ∧ g < w.heap.size ∧ w.cell? ⟨g, i, none⟩ = some (.int .u8 (L.getD i 0)) := by
  obtain ⟨g, c, f, e, hr, hc, hf⟩ := h (by omega)
  exact ⟨g, e, hr.lt, (hr.cell (by omega)).trans (by rw [hf i hi])⟩

set_option maxHeartbeats 2000000 in
theorem sumOf_any (n cap : Nat) (ao : Option Addr) (L : List Int) (w : World) (hn : n ≤ 1048576) (hlen : L.length = n) (hby : ∀ b ∈ L, 0 ≤ b ∧ b < 256) (hrd : RdB w ao n L) (t : Int) (ht : sumTo L 0 = t) :
    Calls Try.prog 38 #[.slice ao n cap] w fun e w' => e = .returned (.agg #[.int .u8 (t % 256), .int .u8 (t / 256)]) ∧ Below w.heap.size w w' := by
  have HR : Hid (RdB (w.alloc (.cells #[.int .u8 0, .int .u8 0] 67)) ao n L) := hrd.below (Joins.below_alloc1 _ _) (Nat.le_refl _)
  have HY : Hid (∀ b ∈ L, 0 ≤ b ∧ b < 256) := hby
  have HL : Hid (L.length = n) := hlen
  have HX : Hid (sumTo L 0 = t) := ht
  clear hrd hby hlen ht
  go_enter Try.func38, Try.ntmps38
  go_wp2
  go_loopw [3, 8] (fun sv i wr => ∃ (k : Nat) (s : Int), k ≤ n ∧ i = .int .i64 k ∧ sv = .int .i64 s ∧ Hid (s = (L.take k).sum) ∧ 0 ≤ s ∧ s ≤ 255 * k ∧ wr = w.alloc (.cells #[.int .u8 0, .int .u8 0] 67)) (fun _ i _ => n - (intOf i).toNat)
  case atStart => exact ⟨0, 0, Nat.zero_le _, rfl, rfl, rfl, by omega, by omega, rfl⟩
  case round =>
    obtain ⟨k, s, hk, rfl, rfl, HS, hs0, hs1, rfl⟩ := hrel
    by_cases hlt : k < n
    · obtain ⟨g, rfl, hg, c0⟩ := HR.out.cell hlt
      have hl := HL.out
      obtain ⟨b, hb⟩ : ∃ b, b = L.getD k 0 := ⟨_, rfl⟩
      rw [← hb] at c0
      have hb2 : 0 ≤ b ∧ b < 256 := HY.out b (hb ▸ getD_mem (by omega))
      have HN : Hid (s + b = (L.take (k + 1)).sum) := by rw [sum_take (by omega), ← HS.out, ← hb]; exact rfl
      clear hb hl
      go_wp2
      go_roundw
      case rel => exact ⟨k + 1, s + b, by omega, by simp, by go_num, HN.out, by omega, by omega, by first | rfl | trivial⟩
      case measure => simp [intOf]; omega
    · have hm : s.tmod 65521 = t := by
        rw [Int.tmod_eq_emod_of_nonneg hs0, ← HX.out, sumTo_sum _ _ (by omega), HS.out, List.take_of_length_le (by have := HL.out; omega), Int.zero_add]
      have htr : 0 ≤ t ∧ t < 65521 := by rw [← HX.out]; exact sumTo_range _ _ (by omega)
      clear HS
      go_wp2
      refine bodyPost_ret (v := .agg #[.int .u8 (t % 256), .int .u8 (t / 256)]) (by simp [results, Try.results38, go_sem]) rfl ⟨rfl, ?_⟩
      exact Joins.below_alloc1 _ _

/-- Numbers that lie in a row. -/
structure NumsAt (w : World) (g n : Nat) (L : List Int) : Prop where
  lt : g < w.heap.size
  c : ∀ j, j < n → w.cell? ⟨g, j, none⟩ = some (.int .i64 (L.getD j 0))
theorem NumsAt.grown {w w' : World} {g n b : Nat} {L : List Int} (h : NumsAt w g n L) (hg : w.grownBy w' (some b)) (hne : g ≠ b) : NumsAt w' g n L :=
  ⟨Nat.lt_of_lt_of_le h.lt hg.size, fun j hj => (World.cell?_of_block (a := ⟨g, j, none⟩) (w := w) (hg.block g h.lt (by simpa using hne))).trans (h.c j hj)⟩
theorem OwnL.at_ {w : World} {base g cap n : Nat} {L : List Int} (h : OwnL w base g cap n L) : NumsAt w g n L := ⟨h.lt.2, fun _ hj => h.cell hj⟩
theorem flat_take {L : List Int} {k : Nat} (hk : k < L.length) : (L.take (k + 1)).flatMap num = (L.take k).flatMap num ++ num (L.getD k 0) := by
  rw [List.take_add_one, List.flatMap_append]
  simp [List.getD, hk]
theorem body_flat (nv nt : Nat) (V T : Nat → Int) : [83, 77, 1] ++ (numsL nv nt V T).flatMap num = body nv nt V T := by
  simp [body, numsL, ints, nums, List.flatMap_append, List.flatMap_map]
theorem numsL_len (nv nt : Nat) (V T : Nat → Int) : (numsL nv nt V T).length = 1 + nv * 6 + 1 + nt * 3 := by simp [numsL, ints]; omega
theorem numsL_bounds {nv nt : Nat} {V T : Nat → Int} (h : Fine nv nt V T) : ∀ x ∈ numsL nv nt V T, -1000000000000000000 ≤ x ∧ x ≤ 1000000000000000000 := by
  intro x hx
  have h1 := h.nv200
  have h2 := h.nt300
  simp only [numsL, ints, List.mem_append, List.mem_map, List.mem_range, List.mem_singleton] at hx
  rcases hx with ((rfl | ⟨j, hj, rfl⟩) | rfl) | ⟨j, hj, rfl⟩
  · omega
  · have := h.vb (j / 6) (j % 6) (by omega) (by omega)
    rwa [show j / 6 * 6 + j % 6 = j by omega] at this
  · omega
  · have := h.tb (j / 3) (j % 3) (by omega) (by omega)
    rwa [show j / 3 * 3 + j % 3 = j by omega] at this
theorem FullB.keep {w w' : World} {base g cap n : Nat} {L : List Int} (h : FullB w base g cap n L) (hb : w'.heap[g]? = w.heap[g]?) (hs : w.heap.size ≤ w'.heap.size) : FullB w' base g cap n L :=
  ⟨h.full, h.len, h.le, Nat.lt_of_lt_of_le h.lt hs, fun j hj => (World.cell?_of_block (a := ⟨g, j, none⟩) (w := w) hb).trans (h.c j hj)⟩
theorem full_head {w1 : World} {base : Nat} {m : Nat × Nat} (h : base ≤ w1.heap.size) : FullB (w1.alloc (.cells #[.int .u8 83, .int .u8 77, .int .u8 1] 5 m)) base w1.heap.size 3 3 [83, 77, 1] := by
  refine ⟨rfl, rfl, h, by simp, fun j hj => ?_⟩
  rw [World.cell?_alloc_mark]
  match j, hj with
  | 0, _ => rfl
  | 1, _ => rfl
  | 2, _ => rfl
theorem OwnB.keep {w w' : World} {base g cap n : Nat} {L : List Int} (h : OwnB w base g cap n L) (hb : w'.heap[g]? = w.heap[g]?) : OwnB w' base g cap n L := by
  refine ⟨h.1, ?_⟩
  rcases h.2 with ⟨h1, _⟩ | ⟨g', cap', cur, hv, h2, h3, h4⟩
  · cases h1
  · have hv' := hv
    simp only [Value.slice.injEq, Option.some.injEq, Addr.mk.injEq] at hv'
    obtain ⟨⟨rfl, _, _⟩, _, rfl⟩ := hv'
    exact Or.inr ⟨g, cap, cur, hv, h2, hb.trans h3, h4⟩

set_option maxRecDepth 8000 in
set_option maxHeartbeats 4000000 in
theorem implPackMesh_yes (nv nt cv ct : Nat) (vo to : Option Addr) (V T : Nat → Int) (w : World) (hnv : nv ≤ 1048576) (hnt : nt ≤ 1048576) (hv : Rd w 6 vo nv V) (ht : Rd w 3 to nt T) (hok : meshok nv nt V T = true) :
    Calls Try.prog 12 #[.agg #[.slice vo nv cv, .slice to nt ct]] w fun e w' => ∃ g cap n, e = .returned (.tuple #[.slice (some ⟨g, 0, none⟩) n cap, .bool true]) ∧ n ≤ 999000 ∧ OwnB w' (w.heap.size + 1) g cap n (pack nv nt V T) ∧ Below w.heap.size w w' := by
  have HV : Hid (Rd (w.alloc (.cells #[.slice vo nv cv, .slice to nt ct] 31)) 6 vo nv V) := Rd.below hv (Joins.below_alloc1 _ _) (Nat.le_refl _)
  have HT : Hid (Rd (w.alloc (.cells #[.slice vo nv cv, .slice to nt ct] 31)) 3 to nt T) := Rd.below ht (Joins.below_alloc1 _ _) (Nat.le_refl _)
  have HF : Hid (Fine nv nt V T) := fine_of hok
  have hnv2 : nv ≤ 200 := HF.out.nv200
  have hnt3 : nt ≤ 300 := HF.out.nt300
  have HK : Hid (meshok nv nt V T = true) := hok
  clear hv ht hok
  go_enter Try.func12, Try.ntmps12
  go_wp2_with fail
  refine (implMeshOk nv nt cv ct vo to V T _ hnv hnt HV.out HT.out).mono ?_
  rintro e w1 ⟨rfl, hb1⟩
  rw [HK.out]
  obtain ⟨m0, m1⟩ := mesh_cells hb1
  have HB1 : Hid (Below (w.alloc (.cells #[.slice vo nv cv, .slice to nt ct] 31)).heap.size (w.alloc (.cells #[.slice vo nv cv, .slice to nt ct] 31)) w1) := hb1
  have hs1 : w.heap.size + 1 ≤ w1.heap.size := by have := hb1.size; simpa using this
  clear hb1
  have HB1' : Hid (Below (w.alloc (.cells #[.slice vo nv cv, .slice to nt ct] 31)).heap.size (w.alloc (.cells #[.slice vo nv cv, .slice to nt ct] 31)) (w1.alloc (.cells #[.int .u8 83, .int .u8 77, .int .u8 1] 5 (3, 4)))) := HB1.out.alloc (by simpa using hs1) _
  have HO1 : Hid (FullB (w1.alloc (.cells #[.int .u8 83, .int .u8 77, .int .u8 1] 5 (3, 4))) (w.heap.size + 1) w1.heap.size 3 3 [83, 77, 1]) := full_head hs1
  have hcv : (convert 35 35 (.slice (some ⟨w1.heap.size, 0, none⟩) 3 3)).run Try.prog (w1.alloc (.cells #[.int .u8 83, .int .u8 77, .int .u8 1] 5)) = .ok (.slice (some ⟨w1.heap.size, 0, none⟩) 3 3) (w1.alloc (.cells #[.int .u8 83, .int .u8 77, .int .u8 1] 5 (3, 4))) := Lib.run_convert_bytes_const w1 35 5 _ 3 3 Try.underlying35 Try.underlying5
  obtain ⟨n0, n1⟩ := mesh_cells HB1'.out
  go_wp2_with fail
  refine (numbers_any nv nt cv ct vo to V T _ hnv2 hnt3 (Rd.below HV.out HB1'.out (Nat.le_refl _)) (Rd.below HT.out HB1'.out (Nat.le_refl _))).mono ?_
  rintro e w2 ⟨gn, capn, n, rfl, hn, ho2, hb2⟩
  have HN2 : Hid (NumsAt w2 gn n (numsL nv nt V T)) := ho2.at_
  have HO2 : Hid (FullB w2 (w.heap.size + 1) w1.heap.size 3 3 [83, 77, 1]) := HO1.out.keep (hb2.block _ (by simp)) hb2.size
  have HB2 : Hid (Below (w.alloc (.cells #[.slice vo nv cv, .slice to nt ct] 31)).heap.size (w.alloc (.cells #[.slice vo nv cv, .slice to nt ct] 31)) w2) := HB1'.out.trans (hb2.mono (by simp; omega))
  have HNe : Hid (gn ≠ w1.heap.size) := (show gn ≠ w1.heap.size by have := ho2.lt.1; simp at this; omega)
  have HLn : Hid ((numsL nv nt V T).length = n) := by rw [numsL_len]; exact hn.symm
  have hn2 : n ≤ 2102 ∧ 0 < n := by omega
  clear ho2 hb2 HO1 HB1 HB1' m0 m1 n0 n1 hn
  go_wp2
  go_loopw [4, 16] (fun b i wr => ∃ (k g cap m : Nat), k ≤ n ∧ i = .int .i64 k ∧ b = .slice (some ⟨g, 0, none⟩) m cap ∧ m ≤ 3 + 10 * k ∧ Hid (OwnX wr (w.heap.size + 1) g cap m ([83, 77, 1] ++ ((numsL nv nt V T).take k).flatMap num)) ∧ Hid (0 < k → OwnB wr (w.heap.size + 1) g cap m ([83, 77, 1] ++ ((numsL nv nt V T).take k).flatMap num)) ∧ Hid (NumsAt wr gn n (numsL nv nt V T)) ∧ Hid (gn ≠ g) ∧ Hid (Below (w.alloc (.cells #[.slice vo nv cv, .slice to nt ct] 31)).heap.size (w.alloc (.cells #[.slice vo nv cv, .slice to nt ct] 31)) wr)) (fun _ i _ => n - (intOf i).toNat)
  case atStart => exact ⟨0, _, 3, 3, Nat.zero_le _, rfl, rfl, by omega, by rw [List.take_zero, List.flatMap_nil, List.append_nil]; exact Or.inr HO2.out, fun h => absurd h (Nat.lt_irrefl _), HN2.out, HNe.out, HB2.out⟩
  case round =>
    clear HO2 HN2 HNe HB2
    obtain ⟨k, g, cap, m, hk, rfl, rfl, hm, HO, HOO, HN, HNe, HB⟩ := hrel
    have hsz : w.heap.size + 1 ≤ wr.heap.size := by have := HB.out.size; simpa using this
    by_cases hlt : k < n
    · obtain ⟨x, hx⟩ : ∃ x, x = (numsL nv nt V T).getD k 0 := ⟨_, rfl⟩
      have c0 : wr.cell? ⟨gn, k, none⟩ = some (.int .i64 x) := by rw [hx]; exact HN.out.c k hlt
      have HX : Hid (-1000000000000000000 ≤ x ∧ x ≤ 1000000000000000000) := by rw [hx]; exact numsL_bounds HF.out _ (getD_mem (by rw [HLn.out]; exact hlt))
      have HE : Hid (((numsL nv nt V T).take (k + 1)).flatMap num = ((numsL nv nt V T).take k).flatMap num ++ num x) := by rw [hx]; exact flat_take (by rw [HLn.out]; exact hlt)
      clear hx
      go_wp2_with fail
      refine (appendNumber_any x g cap (w.heap.size + 1) m _ _ HX.out (by omega) hsz HO.out).mono ?_
      rintro e w3 ⟨g3, cap3, n3, rfl, hn3, ho3, hg3, hl3⟩
      have HO3 : Hid (OwnB w3 (w.heap.size + 1) g3 cap3 n3 ([83, 77, 1] ++ ((numsL nv nt V T).take (k + 1)).flatMap num)) := by rw [HE.out, ← List.append_assoc]; exact ho3
      have HN3 : Hid (NumsAt w3 gn n (numsL nv nt V T)) := HN.out.grown hg3 HNe.out
      have HNe3 : Hid (gn ≠ g3) := (show gn ≠ g3 by have h1 := HNe.out; have h2 := HN.out.lt; omega)
      have HB3 : Hid (Below (w.alloc (.cells #[.slice vo nv cv, .slice to nt ct] 31)).heap.size (w.alloc (.cells #[.slice vo nv cv, .slice to nt ct] 31)) w3) := HB.out.trans (grown_below hg3 (by simpa using hsz) (by have := HO.out.lt.1; simpa using this))
      clear ho3 hg3 hl3 HO HOO HN HNe HB c0 HX HE
      go_wp2
      go_roundw
      case rel => exact ⟨k + 1, g3, cap3, n3, by omega, by simp, rfl, by omega, Or.inl HO3.out, fun _ => HO3.out, HN3.out, HNe3.out, HB3.out⟩
      case measure => simp [intOf]; omega
    · have HOb : Hid (OwnB wr (w.heap.size + 1) g cap m (body nv nt V T)) := by rw [← body_flat]; have h := HOO.out (by omega); rwa [List.take_of_length_le (by rw [HLn.out]; omega)] at h
      clear HO HOO HN HNe HV HT HLn
      obtain ⟨t, ht⟩ : ∃ t, t = sumTo (body nv nt V T) 0 := ⟨_, rfl⟩
      have HX : Hid (sumTo (body nv nt V T) 0 = t) := ht.symm
      have HP : Hid (pack nv nt V T = body nv nt V T ++ [t % 256, t / 256]) := by unfold pack; rw [← ht]; exact rfl
      clear ht
      go_wp2_with fail
      refine (sumOf_any m cap _ (body nv nt V T) _ (by omega) HOb.out.len (body_byte nv nt V T) HOb.out.rd t HX.out).mono ?_
      rintro e w4 ⟨rfl, hb4⟩
      have hs4 : w.heap.size + 1 ≤ w4.heap.size := Nat.le_trans hsz hb4.size
      have HO4 : Hid (OwnB (w4.alloc (.cells #[.int .u8 (t % 256), .int .u8 (t / 256)] 67)) (w.heap.size + 1) g cap m (body nv nt V T)) := World.ownsRow.alloc (HOb.out.keep (hb4.block g HOb.out.lt.2)) _
      have HB4 : Hid (Below (w.alloc (.cells #[.slice vo nv cv, .slice to nt ct] 31)).heap.size (w.alloc (.cells #[.slice vo nv cv, .slice to nt ct] 31)) (w4.alloc (.cells #[.int .u8 (t % 256), .int .u8 (t / 256)] 67))) := (HB.out.trans (hb4.mono (by have := HB.out.size; exact this))).alloc (by simpa using hs4) _
      clear hb4 HOb HB
      go_wp2_with (first | (at_builtin; refine append_pair _ rfl (.tmp 26) (.tmp 27) rfl (w.heap.size + 1) g cap m w4.heap.size (body nv nt V T) (t % 256) (t / 256) rfl (by simp [Act.eval]) (by go_simp) (by go_simp) HO4.out (by simp; omega) (by omega) ?_; intro g5 cap5 w5 ho5 hg5 hl5))
      have HO5 : Hid (OwnB w5 (w.heap.size + 1) g5 cap5 (m + 2) (pack nv nt V T)) := by rw [HP.out]; exact ho5
      have HB5 : Hid (Below w.heap.size w w5) := (Joins.below_alloc1 _ _).trans ((HB4.out.trans (grown_below hg5 (by simp; omega) (by have := HO4.out.lt.1; simpa using this))).mono (by simp))
      clear ho5 hg5 hl5 HO4 HB4 HP HX
      go_ret2
      exact ⟨g5, cap5, m + 2, rfl, by omega, HO5.out, HB5.out⟩

set_option maxHeartbeats 1000000 in
theorem implPackMesh_no (nv nt cv ct : Nat) (vo to : Option Addr) (V T : Nat → Int) (w : World) (hnv : nv ≤ 1048576) (hnt : nt ≤ 1048576) (hv : Rd w 6 vo nv V) (ht : Rd w 3 to nt T) (hok : meshok nv nt V T = false) :
    Calls Try.prog 12 #[.agg #[.slice vo nv cv, .slice to nt ct]] w fun e w' => ∃ ao cap, e = .returned (.tuple #[.slice ao 0 cap, .bool false]) ∧ Below w.heap.size w w' := by
  have HV : Hid (Rd (w.alloc (.cells #[.slice vo nv cv, .slice to nt ct] 31)) 6 vo nv V) := Rd.below hv (Joins.below_alloc1 _ _) (Nat.le_refl _)
  have HT : Hid (Rd (w.alloc (.cells #[.slice vo nv cv, .slice to nt ct] 31)) 3 to nt T) := Rd.below ht (Joins.below_alloc1 _ _) (Nat.le_refl _)
  have HK : Hid (meshok nv nt V T = false) := hok
  clear hv ht hok
  go_enter Try.func12, Try.ntmps12
  go_wp2_with fail
  refine (implMeshOk nv nt cv ct vo to V T _ hnv hnt HV.out HT.out).mono ?_
  rintro e w1 ⟨rfl, hb1⟩
  rw [HK.out]
  have HB1 : Hid (Below w.heap.size w w1) := (Joins.below_alloc1 _ _).trans (hb1.mono (by simp))
  clear hb1
  go_wp2
  go_ret2
  exact ⟨_, _, rfl, HB1.out⟩

theorem implPack : PackAns 12 := by
  intro nv nt cv ct N vo to V T w hnv hnt hv ht hN
  rcases Bool.eq_false_or_eq_true (meshok nv nt V T) with hok | hok
  · have e : packZ nv nt V T = pack nv nt V T := by unfold packZ; rw [if_pos hok]
    rw [e] at hN ⊢
    refine (implPackMesh_yes nv nt cv ct vo to V T w hnv hnt hv ht hok).mono ?_
    rintro e w' ⟨g, cap, n, rfl, _, ho, hb⟩
    have hn : n = N := by rw [← hN]; exact ho.len.symm
    subst hn
    rw [hok]
    exact ⟨_, cap, rfl, ho.rd, fun g' e' _ => by simp only [Option.some.injEq, Addr.mk.injEq] at e'; have := ho.lt.1; omega, hb⟩
  · have e : packZ nv nt V T = [] := by unfold packZ; rw [if_neg (by rw [hok]; simp)]
    rw [e] at hN ⊢
    simp at hN
    subst hN
    refine (implPackMesh_no nv nt cv ct vo to V T w hnv hnt hv ht hok).mono ?_
    rintro e w' ⟨ao, cap, rfl, hb⟩
    rw [hok]
    exact ⟨ao, cap, rfl, fun h => absurd h (Nat.lt_irrefl _), fun _ _ h => absurd h (Nat.lt_irrefl _), hb⟩
end Go.Proofs.Ytobhljmpdolomaa
