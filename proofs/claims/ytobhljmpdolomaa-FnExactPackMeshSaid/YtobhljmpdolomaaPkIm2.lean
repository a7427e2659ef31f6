import Derived.Test.YtobhljmpdolomaaPkIm
import Derived.Test.YtobhljmpdolomaaPkAns
namespace Go.Proofs.Ytobhljmpdolomaa
open Go.RowKit

theorem infoI : (Try.prog.info? 2).map (fun i => (i.zero, i.size, i.bytes)) = some (some (.int .i64 0), 1, 8) := by kernel_rfl
/-- A row of numbers of the call's own. -/
def OwnL (w : World) (base g cap n : Nat) (L : List Int) : Prop := w.ownsRow base 2 1 (.slice (some ⟨g, 0, none⟩) n cap) n (L.map (Value.int .i64))
theorem OwnL.len {w : World} {base g cap n : Nat} {L : List Int} (h : OwnL w base g cap n L) : L.length = n := by have := h.1; simpa using this
theorem OwnL.lt {w : World} {base g cap n : Nat} {L : List Int} (h : OwnL w base g cap n L) : base ≤ g ∧ g < w.heap.size := World.ownsRow.lt h g rfl
theorem OwnL.cell {w : World} {base g cap n : Nat} {L : List Int} (h : OwnL w base g cap n L) {i : Nat} (hi : i < n) : w.cell? ⟨g, i, none⟩ = some (.int .i64 (L.getD i 0)) := by
  have hl := h.len
  rcases h.2 with ⟨h1, _⟩ | ⟨g', cap', cur, hv, _, hb, _, _, hs, ht⟩
  · cases h1
  · simp only [Value.slice.injEq, Option.some.injEq, Addr.mk.injEq] at hv
    obtain ⟨⟨rfl, _, _⟩, _, rfl⟩ := hv
    have e : (L.map (Value.int .i64))[i]? = some (.int .i64 (L.getD i 0)) := by simp [List.getD, show i < L.length by omega]
    rw [← ht, List.getElem?_take, if_pos (by omega)] at e
    simp [World.cell?, hb]
    simpa using e
/-- append of numbers. -/
theorem append_ints {ops : Array Oper} {rst : List Oper} {o : Oper} {a : Act} {Q : Exit → Act → World → Prop} (w : World) (hgd : o.guard = none) (s x : Operand)
    (ho : o.op = .call { callee := .builtin .append, args := #[s, x], argTypes := #[64, 64] })
    (base g cap n m : Nat) (L X : List Int) (A : Array Value) (hA : A = (X.map (Value.int .i64)).toArray) (hm : X.length = m) (hm0 : 0 < m ∧ m ≤ 6) (hs : a.eval s = .slice (some ⟨g, 0, none⟩) n cap) (hx : a.eval x = .slice (some ⟨w.heap.size, 0, none⟩) m m)
    (hown : OwnL w base g cap n L) (hbase : base ≤ w.heap.size) (hL : n ≤ 1000000)
    (h : ∀ g' cap' w', OwnL w' base g' cap' (n + m) (L ++ X) → w.grownBy w' (some g) → (g' = g ∨ w.heap.size ≤ g') → wpList Try.prog ops Q rst (a.put o.dst (.slice (some ⟨g', 0, none⟩) (n + m) cap')) w') :
    wpList Try.prog ops Q (o :: rst) a (w.alloc (.cells A 2)) := by
  have hi := infoI
  cases hq : Try.prog.info? 2 with
  | none => rw [hq] at hi; simp at hi
  | some i =>
    rw [hq] at hi
    simp only [Option.map_some, Option.some.injEq, Prod.mk.injEq] at hi
    obtain ⟨hz, hsz, hby⟩ := hi
    subst hA
    refine wpList_append_lies _ hgd s x 64 ho base 2 i _ 1 8 Try.underlying64 hq hz hsz hby rfl (by decide) _ n (L.map (Value.int .i64)) hs (World.ownsRow.alloc hown _) ⟨w.heap.size, 0, none⟩ m m (X.map (Value.int .i64)) hx (by simp [hm]) ?_ ?_ hm0.1 (by simp only [maxLen]; omega) (by omega) (by simp; omega) _ rfl (fun g' cap' w' h2 h3 h4 h5 => ?_)
    · intro j u hj
      have hb := Deep.blk_alloc_new w (.cells (X.map (Value.int .i64)).toArray 2)
      have e : (⟨w.heap.size, 0, none⟩ : Addr).add j = ⟨w.heap.size, j, none⟩ := by
        unfold Addr.add
        split
        · rename_i h0; rw [h0]
        · simp
      rw [e]
      simp only [World.cell?, hb]
      simpa using hj
    · intro u hu
      simp only [List.mem_map] at hu
      obtain ⟨_, _, rfl⟩ := hu
      rfl
    · refine h g' cap' w' ?_ ?_ ?_
      · unfold OwnL
        rw [List.map_append]
        exact h2
      · exact grown_trans (grown_alloc (grownBy_refl w (some g)) _) h3 (fun k e => Or.inl e.symm)
      · rcases h4 with h4 | h4
        · left; have h6 : some g = some g' := h4; exact (Option.some.inj h6).symm
        · right; rw [h4]; simp
/-- The numbers of a packed mesh. -/
def ints (V : Nat → Int) (k : Nat) : List Int := (List.range k).map V
def numsL (nv nt : Nat) (V T : Nat → Int) : List Int := [(nv : Int)] ++ ints V (nv * 6) ++ [(nt : Int)] ++ ints T (nt * 3)
theorem ints_six (V : Nat → Int) (n : Nat) : ints V (n * 6) ++ [V (n * 6), V (n * 6 + 1), V (n * 6 + 2), V (n * 6 + 3), V (n * 6 + 4), V (n * 6 + 5)] = ints V ((n + 1) * 6) := by
  unfold ints
  rw [show (n + 1) * 6 = n * 6 + 1 + 1 + 1 + 1 + 1 + 1 by omega]
  simp [List.range_succ]
theorem ints_three (V : Nat → Int) (n : Nat) : ints V (n * 3) ++ [V (n * 3), V (n * 3 + 1), V (n * 3 + 2)] = ints V ((n + 1) * 3) := by
  unfold ints
  rw [show (n + 1) * 3 = n * 3 + 1 + 1 + 1 by omega]
  simp [List.range_succ]

theorem own_new (W : World) (base : Nat) (x : Int) (hb : base ≤ W.heap.size) : OwnL (W.alloc (.cells #[.int .i64 x] 2)) base W.heap.size 1 1 [x] :=
  ⟨by simp, Or.inr ⟨_, 1, _, rfl, hb, Deep.blk_alloc_new _ _, Nat.le_refl _, by simp [maxLen], by simp, by simp⟩⟩

set_option maxRecDepth 8000 in
set_option maxHeartbeats 4000000 in
theorem numbers_any (nv nt cv ct : Nat) (vo to : Option Addr) (V T : Nat → Int) (w : World) (hnv : nv ≤ 200) (hnt : nt ≤ 300) (hv : Rd w 6 vo nv V) (ht : Rd w 3 to nt T) :
    Calls Try.prog 36 #[.agg #[.slice vo nv cv, .slice to nt ct]] w fun e w' => ∃ g cap n, e = .returned (.slice (some ⟨g, 0, none⟩) n cap) ∧ n = 1 + nv * 6 + 1 + nt * 3 ∧ OwnL w' (w.heap.size + 1) g cap n (numsL nv nt V T) ∧ Below w.heap.size w w' := by
  have HV : Hid (Rd (w.alloc (.cells #[.slice vo nv cv, .slice to nt ct] 31)) 6 vo nv V) := Rd.below hv (Joins.below_alloc1 _ _) (Nat.le_refl _)
  have HT : Hid (Rd (w.alloc (.cells #[.slice vo nv cv, .slice to nt ct] 31)) 3 to nt T) := Rd.below ht (Joins.below_alloc1 _ _) (Nat.le_refl _)
  clear hv ht
  go_enter Try.func36, Try.ntmps36
  go_wp2
  go_loopw [3, 15] (fun b i wr => ∃ (k g cap n : Nat), k ≤ nv ∧ i = .int .i64 k ∧ b = .slice (some ⟨g, 0, none⟩) n cap ∧ n = 1 + k * 6 ∧ Hid (OwnL wr (w.heap.size + 1) g cap n ([(nv : Int)] ++ ints V (k * 6))) ∧ Hid (Below (w.alloc (.cells #[.slice vo nv cv, .slice to nt ct] 31)).heap.size (w.alloc (.cells #[.slice vo nv cv, .slice to nt ct] 31)) wr)) (fun _ i _ => nv - (intOf i).toNat)
  case atStart =>
    refine ⟨0, _, 1, 1, Nat.zero_le _, rfl, rfl, rfl, ?_, ?_⟩
    · have h := own_new (w.alloc (.cells #[.slice vo nv cv, .slice to nt ct] 31)) (w.heap.size + 1) (nv : Int) (by simp)
      simpa [ints, Hid] using h
    · exact (Below.refl _ _).alloc (Nat.le_refl _) _
  case round =>
    obtain ⟨k, g, cap, n, hk, rfl, rfl, hn, HO, HB⟩ := hrel
    obtain ⟨m0, m1⟩ := mesh_cells HB.out
    have hsz : w.heap.size + 1 ≤ wr.heap.size := by have := HB.out.size; simpa using this
    by_cases hlt : k < nv
    · have HV1 : Hid (Rd wr 6 vo nv V) := Rd.below HV.out HB.out (Nat.le_refl _)
      obtain ⟨b, off, rfl, hbw, hcell⟩ := HV1.out (by omega)
      have c0 : wr.cell? ⟨b, off + k * 6, none⟩ = some (.int .i64 (V (k * 6))) := hcell (k * 6) (by omega)
      have c1 : wr.cell? ⟨b, off + k * 6 + 1, none⟩ = some (.int .i64 (V (k * 6 + 1))) := hcell (k * 6 + 1) (by omega)
      have c2 : wr.cell? ⟨b, off + k * 6 + 2, none⟩ = some (.int .i64 (V (k * 6 + 2))) := hcell (k * 6 + 2) (by omega)
      have c3 : wr.cell? ⟨b, off + k * 6 + 3, none⟩ = some (.int .i64 (V (k * 6 + 3))) := hcell (k * 6 + 3) (by omega)
      have c4 : wr.cell? ⟨b, off + k * 6 + 4, none⟩ = some (.int .i64 (V (k * 6 + 4))) := hcell (k * 6 + 4) (by omega)
      have c5 : wr.cell? ⟨b, off + k * 6 + 5, none⟩ = some (.int .i64 (V (k * 6 + 5))) := hcell (k * 6 + 5) (by omega)
      clear hcell HV1
      go_wp2_with (first | (at_builtin; refine append_ints (wr.alloc (.cells #[.int .i64 (V (k * 6)), .int .i64 (V (k * 6 + 1)), .int .i64 (V (k * 6 + 2)), .int .i64 (V (k * 6 + 3)), .int .i64 (V (k * 6 + 4)), .int .i64 (V (k * 6 + 5))] 51)) rfl (.tmp 19) (.tmp 38) rfl (w.heap.size + 1) g cap n 6 ([(nv : Int)] ++ ints V (k * 6)) [V (k * 6), V (k * 6 + 1), V (k * 6 + 2), V (k * 6 + 3), V (k * 6 + 4), V (k * 6 + 5)] _ rfl rfl (by omega) rfl (by simp [Act.eval]) (World.ownsRow.alloc HO.out _) (by simp; omega) (by omega) ?_; intro g2 cap2 w1 ho1 hg1 hl1))
      have HO1 : Hid (OwnL w1 (w.heap.size + 1) g2 cap2 (n + 6) ([(nv : Int)] ++ ints V ((k + 1) * 6))) := by rw [← ints_six, ← List.append_assoc]; exact ho1
      have HB1 : Hid (Below (w.alloc (.cells #[.slice (some ⟨b, off, none⟩) nv cv, .slice to nt ct] 31)).heap.size (w.alloc (.cells #[.slice (some ⟨b, off, none⟩) nv cv, .slice to nt ct] 31)) w1) := (HB.out.alloc (by simpa using hsz) _).trans (grown_below hg1 (by simp; omega) (by have := HO.out.lt.1; simpa using this))
      clear ho1 hg1 hl1 HO HB
      go_roundw
      case rel => exact ⟨k + 1, g2, cap2, n + 6, by omega, by simp, by rw [hn], by omega, HO1.out, HB1.out⟩
      case measure => simp [intOf]; omega
    · have HOv : Hid (OwnL wr (w.heap.size + 1) g cap n ([(nv : Int)] ++ ints V (nv * 6))) := by have e : nv * 6 = k * 6 := (by omega); rw [e]; exact HO.out
      clear HO HV
      go_wp2_with (first | (at_builtin; refine append_ints wr rfl (.tmp 41) (.tmp 45) rfl (w.heap.size + 1) g cap n 1 ([(nv : Int)] ++ ints V (nv * 6)) [(nt : Int)] _ rfl rfl (by omega) rfl (by simp [Act.eval]) HOv.out hsz (by omega) ?_; intro g2 cap2 w1 ho1 hg1 hl1; have HO1 : Hid (OwnL w1 (w.heap.size + 1) g2 cap2 (n + 1) ([(nv : Int)] ++ ints V (nv * 6) ++ [(nt : Int)])) := ho1; have HB1 : Hid (Below (w.alloc (.cells #[.slice vo nv cv, .slice to nt ct] 31)).heap.size (w.alloc (.cells #[.slice vo nv cv, .slice to nt ct] 31)) w1) := HB.out.trans (grown_below hg1 (by simpa using hsz) (by have := HOv.out.lt.1; simpa using this)); clear ho1 hg1 hl1 HOv HB; obtain ⟨n0, n1⟩ := mesh_cells HB1.out))
      go_loopw [3, 50] (fun b i wr => ∃ (k g cap n : Nat), k ≤ nt ∧ i = .int .i64 k ∧ b = .slice (some ⟨g, 0, none⟩) n cap ∧ n = 1 + nv * 6 + 1 + k * 3 ∧ Hid (OwnL wr (w.heap.size + 1) g cap n ([(nv : Int)] ++ ints V (nv * 6) ++ [(nt : Int)] ++ ints T (k * 3))) ∧ Hid (Below (w.alloc (.cells #[.slice vo nv cv, .slice to nt ct] 31)).heap.size (w.alloc (.cells #[.slice vo nv cv, .slice to nt ct] 31)) wr)) (fun _ i _ => nt - (intOf i).toNat)
      case atStart => exact ⟨0, g2, cap2, n + 1, Nat.zero_le _, rfl, by rw [hn], by omega, by rw [show ints T (0 * 3) = [] from rfl, List.append_nil]; exact HO1.out, HB1.out⟩
      case round =>
        clear HO1 HB1 n0 n1 m0 m1
        rename World => wr
        obtain ⟨k, g, cap, n, hk, rfl, rfl, hn, HO, HB⟩ := hrel
        obtain ⟨m0, m1⟩ := mesh_cells HB.out
        have hsz : w.heap.size + 1 ≤ wr.heap.size := by have := HB.out.size; simpa using this
        by_cases hlt : k < nt
        · have HT1 : Hid (Rd wr 3 to nt T) := Rd.below HT.out HB.out (Nat.le_refl _)
          obtain ⟨b, off, rfl, hbw, hcell⟩ := HT1.out (by omega)
          have c0 : wr.cell? ⟨b, off + k * 3, none⟩ = some (.int .i64 (T (k * 3))) := hcell (k * 3) (by omega)
          have c1 : wr.cell? ⟨b, off + k * 3 + 1, none⟩ = some (.int .i64 (T (k * 3 + 1))) := hcell (k * 3 + 1) (by omega)
          have c2 : wr.cell? ⟨b, off + k * 3 + 2, none⟩ = some (.int .i64 (T (k * 3 + 2))) := hcell (k * 3 + 2) (by omega)
          clear hcell HT1
          go_wp2_with (first | (at_builtin; refine append_ints (wr.alloc (.cells #[.int .i64 (T (k * 3)), .int .i64 (T (k * 3 + 1)), .int .i64 (T (k * 3 + 2))] 53)) rfl (.tmp 54) (.tmp 61) rfl (w.heap.size + 1) g cap n 3 ([(nv : Int)] ++ ints V (nv * 6) ++ [(nt : Int)] ++ ints T (k * 3)) [T (k * 3), T (k * 3 + 1), T (k * 3 + 2)] _ rfl rfl (by omega) rfl (by simp [Act.eval]) (World.ownsRow.alloc HO.out _) (by simp; omega) (by omega) ?_; intro g2 cap2 w1 ho1 hg1 hl1))
          have HO1 : Hid (OwnL w1 (w.heap.size + 1) g2 cap2 (n + 3) ([(nv : Int)] ++ ints V (nv * 6) ++ [(nt : Int)] ++ ints T ((k + 1) * 3))) := by rw [← ints_three, ← List.append_assoc]; exact ho1
          have HB1 : Hid (Below (w.alloc (.cells #[.slice vo nv cv, .slice (some ⟨b, off, none⟩) nt ct] 31)).heap.size (w.alloc (.cells #[.slice vo nv cv, .slice (some ⟨b, off, none⟩) nt ct] 31)) w1) := (HB.out.alloc (by simpa using hsz) _).trans (grown_below hg1 (by simp; omega) (by have := HO.out.lt.1; simpa using this))
          clear ho1 hg1 hl1 HO HB
          go_roundw
          case rel => exact ⟨k + 1, g2, cap2, n + 3, by omega, by simp, by rw [hn], by omega, HO1.out, HB1.out⟩
          case measure => simp [intOf]; omega
        · have HOt : Hid (OwnL wr (w.heap.size + 1) g cap n (numsL nv nt V T)) := by have e : nt * 3 = k * 3 := (by omega); unfold numsL; rw [e]; exact HO.out
          have HW : Hid (Below w.heap.size w wr) := (Joins.below_alloc1 _ _).trans (HB.out.mono (by simp))
          clear HO HT HB
          go_wp2
          go_ret
          exact ⟨g, cap, n, rfl, by omega, HOt.out, HW.out⟩
end Go.Proofs.Ytobhljmpdolomaa
