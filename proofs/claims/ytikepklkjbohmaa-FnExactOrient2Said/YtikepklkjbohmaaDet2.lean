import Derived.Test.YtikepklkjbohmaaDet
namespace Go.Proofs.Ytikepklkjbohmaa
open Go.RowKit

theorem info70 : (Try.prog.info? 70).map (fun i => (i.zero, i.size, i.bytes)) = some (some (.slice none 0 0), 1, 24) := by kernel_rfl
theorem under74 : Try.prog.underlying 74 = some (.slice 70) := by kernel_rfl

/-- One row more behind own rows; where they lie. -/
theorem append70L {ops : Array Oper} {rest : List Oper} {o : Oper} {a : Act} {Q : Exit → Act → World → Prop} (w : World) (hgd : o.guard = none) (s x : Operand)
    (ho : o.op = .call { callee := .builtin .append, args := #[s, x], argTypes := #[74, 74] }) (base gr cap n : Nat) (xs : List Value) (hs : a.eval s = .slice (some ⟨gr, 0, none⟩) n cap)
    (ad c : Nat) (u : Value) (hx : a.eval x = .slice (some ⟨ad, 0, none⟩) 1 c) (hown : w.ownsRow base 70 1 (.slice (some ⟨gr, 0, none⟩) n cap) n xs) (hc : w.cell? ⟨ad, 0, none⟩ = some u) (hu : u.oneCell' = true)
    (hn : n ≤ 8) (hbase : base ≤ w.heap.size)
    (h : ∀ g' cap' w', w'.ownsRow base 70 1 (.slice (some ⟨g', 0, none⟩) (n + 1) cap') (n + 1) (xs ++ [u]) → w.grownBy w' (some gr) → wpList Try.prog ops Q rest (a.put o.dst (.slice (some ⟨g', 0, none⟩) (n + 1) cap')) w') : wpList Try.prog ops Q (o :: rest) a w := by
  have hi := info70
  cases hq : Try.prog.info? 70 with
  | none => rw [hq] at hi; simp at hi
  | some i =>
    rw [hq] at hi
    simp only [Option.map_some, Option.some.injEq, Prod.mk.injEq] at hi
    obtain ⟨hz, hsz, hby⟩ := hi
    refine wpList_append_lies w hgd s x 74 ho base 70 i _ 1 24 under74 hq hz hsz hby rfl (by decide) _ n xs hs hown ⟨ad, 0, none⟩ 1 c [u] hx rfl ?_ ?_ (by decide) (by simp only [maxLen]; omega) (by omega) hbase _ rfl (fun g' cap' w' h2 h3 _ _ => h g' cap' w' h2 h3)
    · intro j v hj
      match j, hj with
      | 0, hj => simp at hj; subst hj; simpa [Addr.add] using hc
      | j + 1, hj => simp at hj
    · intro v hv
      simp at hv
      rw [hv]; exact hu

/-- The sum of the first products. -/
def detS (A B : Nat → Int) : Nat → Int
  | 0 => 0
  | k + 1 => if k % 2 = 1 then detS A B k + -(A k * B (1 - k)) else detS A B k + A k * B (1 - k)
theorem detS_succ (A B : Nat → Int) (k : Nat) : detS A B (k + 1) = if k % 2 = 1 then detS A B k + -(A k * B (1 - k)) else detS A B k + A k * B (1 - k) := rfl
theorem detS_zero (A B : Nat → Int) (k : Nat) (h : A k = 0) : detS A B (k + 1) = detS A B k := by
  rw [detS_succ, h]; split <;> simp
/-- What the rest holds behind k rows looked at, of which the i-th is left out. -/
def restN (i k : Nat) : Nat := if 1 - i < k then 1 else 0
def restL (g cc : Nat → Nat) (i k : Nat) : List Value := if 1 - i < k then [.slice (some ⟨g (1 - i), 3, none⟩) 1 (cc (1 - i) - 1)] else []
/-- The rows of the matrix. -/
def MatAt (w : World) (M : Nat) (g cc : Nat → Nat) (A B : Nat → Int) : Prop :=
  M < w.heap.size ∧ ∀ i, i < 2 → w.cell? ⟨M, i, none⟩ = some (.slice (some ⟨g i, 0, none⟩) 2 (cc i)) ∧ RowAt w (g i) (A i) (B i) ∧ 2 ≤ cc i ∧ cc i ≤ maxLen
theorem MatAt.below {w w' : World} {M : Nat} {g cc : Nat → Nat} {A B : Nat → Int} (h : MatAt w M g cc A B) (hb : Below w.heap.size w w') : MatAt w' M g cc A B :=
  ⟨Nat.lt_of_lt_of_le h.1 hb.size, fun i hi => ⟨by rw [cell_same (hb.block M h.1)]; exact (h.2 i hi).1, (h.2 i hi).2.1.call hb, (h.2 i hi).2.2⟩⟩
theorem rest_same (g cc : Nat → Nat) (i : Nat) (hi : i < 2) : restN i (i + 1) = restN i i ∧ restL g cc i (i + 1) = restL g cc i i := by
  unfold restN restL
  match i, hi with
  | 0, _ => simp
  | 1, _ => simp
theorem rest_more (g cc : Nat → Nat) (i k : Nat) (hi : i < 2) (hk : k < 2) (h : k ≠ i) : restN i (k + 1) = restN i k + 1 ∧ restL g cc i (k + 1) = restL g cc i k ++ [.slice (some ⟨g k, 3, none⟩) 1 (cc k - 1)] := by
  unfold restN restL
  match i, hi, k, hk, h with
  | 0, _, 0, _, h => exact absurd rfl h
  | 0, _, 1, _, _ => simp
  | 1, _, 0, _, _ => simp
  | 1, _, 1, _, h => exact absurd rfl h
theorem restN_le (i k : Nat) : restN i k ≤ 1 := by unfold restN; split <;> omega
theorem det_lift {wi X : World} {gr cap i M : Nat} {g cc : Nat → Nat} {A B : Nat → Int} (hM : MatAt wi M g cc A B) (hi : i < 2) (hr : wi.cell? ⟨gr, 0, none⟩ = some (.slice (some ⟨g (1 - i), 3, none⟩) 1 (cc (1 - i) - 1))) (hX : Below wi.heap.size wi X) :
    Calls Try.prog 40 #[.slice (some ⟨gr, 0, none⟩) 1 cap] X fun e w' => e = .returned (.agg #[.int .i64 (B (1 - i)), .int .i64 1, .slice none 0 0]) ∧ Below X.heap.size X w' := by
  have hm := (hM.below hX).2 (1 - i) (by omega)
  exact l2Det_one gr (g (1 - i)) cap (cc (1 - i) - 1) _ X (by rw [cell_same (hX.block gr (lt_of_cell hr))]; exact hr) hm.2.1.2.2.2.1 hm.2.1.2.2.2.2.1 hm.2.1.2.2.2.2.2
/-- What the round keeps. -/
def Kept (w w' : World) (b1 M : Nat) (g cc : Nat → Nat) (A B : Nat → Int) (p q : Int) (s : Option Addr) (l c i : Nat) : Prop :=
  SumAt w' b1 p q s l c ∧ RIs w' (.agg #[.int .i64 p, .int .i64 q, .slice s l c]) (detS A B i) 1 ∧ ResAt w' w.heap.size ∧ Below w.heap.size w w' ∧ MatAt w' M g cc A B
theorem Kept.below {w w' w2 : World} {b1 M : Nat} {g cc : Nat → Nat} {A B : Nat → Int} {p q : Int} {s : Option Addr} {l c i : Nat} (h : Kept w w' b1 M g cc A B p q s l c i) (hb : Below w'.heap.size w' w2) : Kept w w2 b1 M g cc A B p q s l c i :=
  ⟨h.1.below hb, h.2.1.below hb, h.2.2.1.below hb, h.2.2.2.1.trans (hb.mono h.2.2.2.1.size), h.2.2.2.2.below hb⟩
theorem rest_two (g cc : Nat → Nat) (i : Nat) (hi : i < 2) : restN i 2 = 1 ∧ restL g cc i 2 = [.slice (some ⟨g (1 - i), 3, none⟩) 1 (cc (1 - i) - 1)] := by
  unfold restN restL
  have h : 1 - i < 2 := by omega
  simp [h]
theorem ResAt.new1 (w : World) : ResAt (w.alloc (.cells #[.int .i64 0, .int .i64 0, .slice none 0 0] 59)) w.heap.size := ⟨by go_simp, by go_simp, by go_simp, fun j => by go_simp, by simp⟩
theorem ResAt.drew {w : World} {b : Nat} (h : ResAt w b) : ResAt w.drew b := h.below (Below.refl _ _).drew
theorem MatAt.other {w w' : World} {M b : Nat} {g cc : Nat → Nat} {A B : Nat → Int} (h : MatAt w M g cc A B) (hs : w.heap.size ≤ w'.heap.size) (hk : ∀ x, x ≠ b → w'.heap[x]? = w.heap[x]?) (hM : M ≠ b) (hg : ∀ i, i < 2 → g i ≠ b) : MatAt w' M g cc A B :=
  ⟨Nat.lt_of_lt_of_le h.1 hs, fun i hi => by
    obtain ⟨h1, ⟨r0, r1, r2, r3, r4, r5⟩, h2⟩ := h.2 i hi
    have k := fun j => cell_same (hk (g i) (hg i hi)) j
    exact ⟨by rw [cell_same (hk M hM)]; exact h1, ⟨by rw [k]; exact r0, by rw [k]; exact r1, by rw [k]; exact r2, by rw [k]; exact r3, by rw [k]; exact r4, by rw [k]; exact r5⟩, h2⟩⟩
/-- What stands behind the product. -/
def TailF (w W : World) (b1 M : Nat) (g cc : Nat → Nat) (A B : Nat → Int) (p q : Int) (s : Option Addr) (l c i tb : Nat) (p9 q9 : Int) (s9 : Option Addr) (l9 c9 : Nat) : Prop :=
  SumAt W tb p9 q9 s9 l9 c9 ∧ RIs W (.agg #[.int .i64 p9, .int .i64 q9, .slice s9 l9 c9]) (A i * B (1 - i)) 1 ∧ Kept w W b1 M g cc A B p q s l c i ∧ b1 < tb ∧ w.heap.size < b1
theorem tail_alloc {w wr w9 : World} {b1 M : Nat} {g cc : Nat → Nat} {A B : Nat → Int} {p q : Int} {s : Option Addr} {l c i : Nat} {p9 q9 : Int} {s9 : Option Addr} {l9 c9 : Nat} (h : Kept w wr b1 M g cc A B p q s l c i) (hw : w.heap.size < b1) (hb : Below wr.heap.size wr w9)
    (hr : RIs w9 (.agg #[.int .i64 p9, .int .i64 q9, .slice s9 l9 c9]) (A i * B (1 - i)) 1) : TailF w (w9.alloc (.cells #[.int .i64 p9, .int .i64 q9, .slice s9 l9 c9] 59)) b1 M g cc A B p q s l c i w9.heap.size p9 q9 s9 l9 c9 :=
  ⟨⟨by go_simp, by go_simp, by go_simp, fun j => by go_simp, by simp⟩, hr.below (Joins.below_alloc1 _ _), (h.below hb).below (Joins.below_alloc1 _ _), (h.1.below hb).sz, hw⟩
theorem tail_set {w wr w9 : World} {b1 M : Nat} {g cc : Nat → Nat} {A B : Nat → Int} {p q : Int} {s : Option Addr} {l c i tb : Nat} {p9 q9 : Int} {s9 : Option Addr} {l9 c9 : Nat} (h : Kept w wr b1 M g cc A B p q s l c i) (hw : w.heap.size < b1) (hb : Below wr.heap.size wr w9)
    (hr : RIs w9 (.agg #[.int .i64 p9, .int .i64 q9, .slice s9 l9 c9]) (A i * B (1 - i)) 1) (htb : wr.heap.size ≤ tb) (ht : ResAt w9 tb) : TailF w (((w9.setCell ⟨tb, 0, none⟩ (.int .i64 p9)).setCell ⟨tb, 1, none⟩ (.int .i64 q9)).setCell ⟨tb, 2, none⟩ (.slice s9 l9 c9)) b1 M g cc A B p q s l c i tb p9 q9 s9 l9 c9 := by
  have hs := h.1.sz
  have hw2 := h.2.2.1.sz
  have hM := h.2.2.2.2.1
  have hk := h.below hb
  refine ⟨SumAt.put ⟨ht.c0, ht.c1, ht.c2, ht.fz, ht.sz⟩ _ _ _ _ _, hr.set3 _ _ ht.c0 _ _ _, ⟨hk.1.other (by omega) _ _ _, hk.2.1.set3 _ _ ht.c0 _ _ _, hk.2.2.1.set3 (by omega) _ _ _, below_set3 hk.2.2.2.1 (by omega) _ _ _, hk.2.2.2.2.other (by simp) (fun x hx => set3_other _ _ _ _ _ x hx) (by omega) (fun j hj => ?_)⟩, by omega, hw⟩
  have := (h.2.2.2.2.2 j hj).2.1.lt
  omega
theorem detS_le (A B : Nat → Int) (hN : ∀ i, i < 2 → (A i).natAbs ≤ 134217728 ∧ (B i).natAbs ≤ 134217728) : ∀ i, i < 2 → (detS A B i).natAbs ≤ 18014398509481984
  | 0, _ => by simp [detS]
  | 1, _ => by
    have := mul_le54 (hN 0 (by omega)).1 (hN 1 (by omega)).2
    show (0 + A 0 * B 1).natAbs ≤ _
    rw [Int.zero_add]; exact this

set_option maxHeartbeats 8000000 in
theorem l2Det_two (M : Nat) (g cc : Nat → Nat) (A B : Nat → Int) (w : World) (hM : MatAt w M g cc A B) (hN : ∀ i, i < 2 → (A i).natAbs ≤ 134217728 ∧ (B i).natAbs ≤ 134217728) :
    Calls Try.prog 40 #[.slice (some ⟨M, 0, none⟩) 2 2] w fun e w' => ∃ p0 q0 s0 l0 c0, e = .returned (.agg #[.int .i64 p0, .int .i64 q0, .slice s0 l0 c0]) ∧ RIs w' (.agg #[.int .i64 p0, .int .i64 q0, .slice s0 l0 c0]) (detS A B 2) 1 ∧ Below w.heap.size w w' := by
  have HM : Hid (MatAt w M g cc A B ∧ ∀ i, i < 2 → (A i).natAbs ≤ 134217728 ∧ (B i).natAbs ≤ 134217728) := ⟨hM, hN⟩
  clear hM hN
  go_enter Try.func40, Try.ntmps40
  go_wp2_with fail
  refine (l1rInt_small 0 _ (by decide)).mono ?_
  rintro e w1 ⟨rfl, hb⟩
  have hsz : w.heap.size < w1.heap.size := by have := hb.size; simp at this; omega
  have HB : Hid (Below w.heap.size w w1) := (Joins.below_alloc1 w _).trans (hb.mono (by simp))
  have HR : Hid (ResAt w1 w.heap.size) := by
    refine ResAt.below (w := w.alloc (.cells #[.int .i64 0, .int .i64 0, .slice none 0 0] 59)) ⟨by go_simp, by go_simp, by go_simp, fun j => by go_simp, by simp⟩ hb
  clear hb
  go_wp2
  go_loopw [4] (fun iv wr => ∃ (k : Nat) (p q : Int) (s : Option Addr) (l c : Nat), k ≤ 2 ∧ iv = .int .i64 k ∧ SumAt wr w1.heap.size p q s l c ∧ RIs wr (.agg #[.int .i64 p, .int .i64 q, .slice s l c]) (detS A B k) 1 ∧ ResAt wr w.heap.size ∧ Below w.heap.size w wr) (fun iv _ => 2 - (intOf iv).toNat)
  case atStart =>
    exact ⟨0, 0, 1, none, 0, 0, by omega, rfl, ⟨by go_simp, by go_simp, by go_simp, fun j => by go_simp, by simp⟩, by exact .inl ⟨⟨Nat.zero_le _, by decide⟩, rfl⟩, HR.out.below (Joins.below_alloc1 _ _), HB.out.trans ((Joins.below_alloc1 _ _).mono HB.out.size)⟩
  case round =>
    obtain ⟨i, p, q, s, l, c, hk, rfl, hs, hr, hres, hbel⟩ := hrel
    have HS : Hid (SumAt wr w1.heap.size p q s l c ∧ RIs wr (.agg #[.int .i64 p, .int .i64 q, .slice s l c]) (detS A B i) 1 ∧ ResAt wr w.heap.size ∧ Below w.heap.size w wr) := ⟨hs, hr, hres, hbel⟩
    clear HR HB
    by_cases hlt : i < 2
    · have HMr : Hid (MatAt wr M g cc A B) := HM.out.1.below hbel
      obtain ⟨m0, ⟨r0, r1, r2, _, _, _⟩, c2, c3⟩ := HMr.out.2 i hlt
      clear hs hr hres hbel
      go_wp2_with fail
      refine (l1rSign_any (A i) 1 _ _ (.inl ⟨⟨Nat.le_trans (HM.out.2 i hlt).1 (by decide), by decide⟩, rfl⟩)).mono ?_
      rintro e w2 ⟨rfl, hb2⟩
      have HB2 : Hid (Below wr.heap.size wr w2) := hb2
      clear m0 r0 r1 r2 hb2
      by_cases hA : A i = 0
      · have hsg : sg3 (A i) = 0 := by rw [hA]; rfl
        have HF : Hid (SumAt w2 w1.heap.size p q s l c ∧ RIs w2 (.agg #[.int .i64 p, .int .i64 q, .slice s l c]) (detS A B (i + 1)) 1 ∧ ResAt w2 w.heap.size ∧ Below w.heap.size w w2) := ⟨HS.out.1.below HB2.out, by rw [detS_zero A B i hA]; exact HS.out.2.1.below HB2.out, HS.out.2.2.1.below HB2.out, HS.out.2.2.2.trans (HB2.out.mono HS.out.2.2.2.size)⟩
        clear hA
        go_wp2
        go_roundw
        case rel => exact ⟨i + 1, p, q, s, l, c, by omega, by go_num, HF.out⟩
        case measure => simp [intOf]; omega
      · have hsg : (sg3 (A i) == 0) = false := by unfold sg3; split <;> (try split) <;> simp_all <;> omega
        clear hA
        go_wp2
        go_loopw [5, 6] (fun rv kv wi => ∃ (k gr cap : Nat), k ≤ 2 ∧ kv = .int .i64 k ∧ rv = .slice (some ⟨gr, 0, none⟩) (restN i k) cap ∧ wi.ownsRow w2.heap.size 70 1 (.slice (some ⟨gr, 0, none⟩) (restN i k) cap) (restN i k) (restL g cc i k) ∧ Below w2.heap.size w2 wi) (fun _ kv _ => 2 - (intOf kv).toNat)
        case atStart =>
          refine ⟨0, w2.heap.size, 0, by omega, rfl, rfl, ⟨rfl, .inr ⟨w2.heap.size, 0, #[], rfl, Nat.le_refl _, heap_new _ _, Nat.le_refl _, by decide, rfl, rfl⟩⟩, Joins.below_alloc1 _ _⟩
        case round =>
          obtain ⟨k, gr, cap, hk', rfl, rfl, hO, hbi⟩ := hrel
          have HI : Hid (wr.ownsRow w2.heap.size 70 1 (.slice (some ⟨gr, 0, none⟩) (restN i k) cap) (restN i k) (restL g cc i k) ∧ Below w2.heap.size w2 wr) := ⟨hO, hbi⟩
          clear hO
          by_cases hlk : k < 2
          · by_cases hki : k = i
            · subst hki
              clear hbi
              go_wp2
              go_roundw
              case rel => exact ⟨k + 1, gr, cap, by omega, by go_num, by rw [(rest_same g cc k hlk).1], by rw [(rest_same g cc k hlk).1, (rest_same g cc k hlk).2]; exact HI.out.1, HI.out.2⟩
              case measure => simp [intOf]; omega
            · have hne : ((k : Int) == (i : Int)) = false := by simp; omega
              have hne2 : ((k : Int) != (i : Int)) = true := by simp; omega
              have hMi : MatAt wr M g cc A B := (HMr.out.below HB2.out).below hbi
              obtain ⟨m0, _, d2, d3⟩ := hMi.2 k hlk
              have hMs := hMi.1
              have HI2 : Hid ((wr.alloc (.cells #[.slice (some ⟨g k, 3, none⟩) 1 (cc k - 1)] 70)).ownsRow w2.heap.size 70 1 (.slice (some ⟨gr, 0, none⟩) (restN i k) cap) (restN i k) (restL g cc i k) ∧ w2.heap.size ≤ wr.heap.size ∧ w2.heap.size ≤ gr) := ⟨HI.out.1.alloc _, hbi.size, (own_lt HI.out.1).1⟩
              clear hbi hMi
              go_wp2_with (refine append70L _ rfl (.tmp 41) (.tmp 47) rfl w2.heap.size gr cap (restN i k) (restL g cc i k) rfl wr.heap.size 1 (.slice (some ⟨g k, 3, none⟩) 1 (cc k - 1)) rfl ?_ ?_ ?_ ?_ ?_ ?_)
              · exact HI2.out.1
              · go_simp
              · rfl
              · have := restN_le i k; omega
              · have := HI2.out.2.1; simp; omega
              intro g' cap' w7 hO7 hG7
              have H7 : Hid (w7.ownsRow w2.heap.size 70 1 (.slice (some ⟨g', 0, none⟩) (restN i (k + 1)) cap') (restN i (k + 1)) (restL g cc i (k + 1)) ∧ Below w2.heap.size w2 w7) := by
                rw [(rest_more g cc i k hlt hlk hki).1, (rest_more g cc i k hlt hlk hki).2]
                exact ⟨hO7, below_grown (HI.out.2.trans ((Joins.below_alloc1 _ _).mono HI2.out.2.1)) hG7 HI2.out.2.2 (by have := HI2.out.2.1; simp; omega)⟩
              clear hO7 hG7 HI2 HI
              go_wp2
              go_roundw
              case rel => exact ⟨k + 1, g', cap', by omega, by go_num, by rw [(rest_more g cc i k hlt hlk hki).1], H7.out.1, H7.out.2⟩
              case measure => simp [intOf]; omega
          · have hk2 : k = 2 := by omega
            subst hk2
            have HW : Hid (Kept w wr w1.heap.size M g cc A B p q s l c i ∧ wr.cell? ⟨gr, 0, none⟩ = some (.slice (some ⟨g (1 - i), 3, none⟩) 1 (cc (1 - i) - 1)) ∧ ((A i).natAbs ≤ 134217728 ∧ (B (1 - i)).natAbs ≤ 134217728)) := by
              have hb := HB2.out.trans (HI.out.2.mono HB2.out.size)
              refine ⟨Kept.below ⟨HS.out.1, HS.out.2.1, HS.out.2.2.1, HS.out.2.2.2, HMr.out⟩ hb, ?_, (HM.out.2 i hlt).1, (HM.out.2 (1 - i) (by omega)).2⟩
              have hc := HI.out.1.cells (g := gr) rfl 0 (.slice (some ⟨g (1 - i), 3, none⟩) 1 (cc (1 - i) - 1)) (by rw [(rest_two g cc i hlt).2]; rfl)
              simpa [Addr.add] using hc
            clear hbi HI HS HMr HB2
            rw [(rest_two g cc i hlt).1]
            have hms := HW.out.1.2.2.2.2.1
            obtain ⟨m0, ⟨r0, r1, r2, _, _, _⟩, c2, c3⟩ := (HW.out.1.2.2.2.2.below (Below.refl _ wr).drew).2 i hlt
            have hgs : g i < wr.heap.size := lt_of_cell r0
            obtain ⟨n0, ⟨s0, s1, s2, _, _, _⟩, _, _⟩ := HW.out.1.2.2.2.2.2 i hlt
            go_wp2_with fail
            generalize hQQ : Exit.then _ (Exit.inBlock 1 _) = QQ
            suffices hT : ∀ (tb : Nat) (W : World) (p9 q9 : Int) (s9 : Option Addr) (l9 c9 : Nat), TailF w W w1.heap.size M g cc A B p q s l c i tb p9 q9 s9 l9 c9 → QQ Exit.normal ⟨#[.slice (some ⟨M, 0, none⟩) 2 2, undef, .pointer (some ⟨w.heap.size, 0, none⟩), .pointer (some ⟨w1.heap.size, 0, none⟩), .int .i64 i, .slice (some ⟨gr, 0, none⟩) 1 cap, .int .i64 2, .pointer (some ⟨tb, 0, none⟩), .slice (some ⟨M, 0, none⟩) 2 2, .int .i64 2, .bool false, undef, undef, undef, undef, undef, .agg #[.int .i64 0, .int .i64 1, .slice none 0 0], .int .i64 i, .slice (some ⟨M, 0, none⟩) 2 2, .int .i64 2, .bool true, u21, u22, .slice (some ⟨M, 0, none⟩) 2 2, .int .i64 i, .pointer (some ⟨M, i, none⟩), .slice (some ⟨g i, 0, none⟩) 2 (cc i), .pointer (some ⟨g i, 0, none⟩), .agg #[.int .i64 (A i), .int .i64 1, .slice none 0 0], .int .i64 (sg3 (A i)), .bool false, .slice (some ⟨w2.heap.size, 0, none⟩) 0 0, .int .i64 2, .slice (some ⟨M, 0, none⟩) 2 2, .int .i64 2, .bool false, u36, u37, u38, u39, u40, u41, u42, u43, u44, u45, u46, u47, u48, .slice (some ⟨M, 0, none⟩) 2 2, .int .i64 i, .pointer (some ⟨M, i, none⟩), .slice (some ⟨g i, 0, none⟩) 2 (cc i), .pointer (some ⟨g i, 0, none⟩), .agg #[.int .i64 (A i), .int .i64 1, .slice none 0 0], .slice (some ⟨gr, 0, none⟩) 1 cap, .agg #[.int .i64 (B (1 - i)), .int .i64 1, .slice none 0 0], .agg #[.int .i64 p9, .int .i64 q9, .slice s9 l9 c9], u58, u59, u60, u61, u62, u63, u64, u65, undef], []⟩ W by
              subst hQQ
              have HT : Hid _ := hT
              clear hT
              go_region_with
                (first
                  | (go_at_call 40; refine (det_lift (i := i) HW.out.1.2.2.2.2 hlt HW.out.2.1 (by first | exact (Below.refl _ _).drew | exact ((Below.refl _ _).alloc (Nat.le_refl _) _).drew)).mono ?_; rintro e w8 ⟨rfl, hb8⟩; have Q8 : Hid (Below wr.heap.size wr w8) := (by first | exact (Below.refl _ _).drew.trans (hb8.mono (Nat.le_refl _)) | exact ((Below.refl _ _).alloc (Nat.le_refl _) _).drew.trans (hb8.mono (by simp))); (first | (have T8 : ResAt w8 wr.heap.size := ResAt.below (ResAt.new1 wr).drew hb8) | skip); obtain ⟨m0, ⟨r0, r1, r2, _, _, _⟩, _, _⟩ := (HW.out.1.2.2.2.2.below Q8.out).2 i hlt; have hm8 := Nat.lt_of_lt_of_le hms Q8.out.size; have hg8 := Nat.lt_of_lt_of_le hgs Q8.out.size; clear hb8)
                  | (go_at_call 75; refine (l1rMul_small (A i) (B (1 - i)) _ (Nat.le_trans HW.out.2.2.1 (by decide)) (Nat.le_trans HW.out.2.2.2 (by decide))).mono ?_; rintro e w9 ⟨p9, q9, s9, l9, c9, rfl, hr9, hb9⟩; have Q9 : Hid (RIs w9 (.agg #[.int .i64 p9, .int .i64 q9, .slice s9 l9 c9]) (A i * B (1 - i)) 1 ∧ Below wr.heap.size wr w9) := ⟨hr9, (by first | exact Q8.out.trans (hb9.mono Q8.out.size) | exact (Q8.out.alloc Q8.out.size _).trans (hb9.mono (by have := Q8.out.size; simp; omega)))⟩; (first | (have T9 := T8.below hb9; obtain ⟨t0, t1, t2, tf, ts⟩ := T9) | (have T9 := ResAt.below (ResAt.new1 w8) hb9; obtain ⟨t0, t1, t2, tf, ts⟩ := T9) | skip); clear hr9))
              all_goals (first | exact HT.out _ _ _ _ _ _ _ (tail_alloc HW.out.1 hsz Q9.out.2 Q9.out.1) | exact HT.out _ _ _ _ _ _ _ (tail_set HW.out.1 hsz Q9.out.2 Q9.out.1 (Nat.le_refl _) ⟨t0, t1, t2, tf, ts⟩) | exact HT.out _ _ _ _ _ _ _ (tail_set HW.out.1 hsz Q9.out.2 Q9.out.1 Q8.out.size ⟨t0, t1, t2, tf, ts⟩))
            intro tb W p9 q9 s9 l9 c9 hF
            rw [← hQQ]
            clear hQQ m0 r0 r1 r2 n0 s0 s1 s2 hms hgs c2 c3
            have HF : Hid (TailF w W w1.heap.size M g cc A B p q s l c i tb p9 q9 s9 l9 c9) := hF
            have hne : w1.heap.size ≠ tb := by have := hF.2.2.2.1; omega
            have hne2 : tb ≠ w1.heap.size := by omega
            have hwt : w.heap.size < tb := by have := hF.2.2.2.1; omega
            have hwW : w.heap.size < W.heap.size := hF.2.2.1.2.2.1.sz
            have HK0 : Hid ((detS A B i).natAbs ≤ 4611686018427387904 ∧ (A i * B (1 - i)).natAbs ≤ 4611686018427387904) := by
              have h1 := detS_le A B HM.out.2 i hlt
              have h2 := mul_le54 HW.out.2.2.1 HW.out.2.2.2
              exact ⟨by omega, by omega⟩
            clear hF HW HM
            obtain ⟨t0, t1, t2, tf, ts⟩ := HF.out.1
            obtain ⟨k0, k1, k2, kf, ks⟩ := HF.out.2.2.1.1
            rcases (show i = 0 ∨ i = 1 by omega) with rfl | rfl
            · have HK : Hid ((detS A B 0).natAbs ≤ 4611686018427387904 ∧ (A 0 * B 1).natAbs ≤ 4611686018427387904) := HK0.out
              clear HK0
              · skip
                go_wp2_with fail
                refine (l1rAdd_any (detS A B 0) (A 0 * B 1) _ _ _ HF.out.2.2.1.2.1 HF.out.2.1 HK.out.1 HK.out.2).mono ?_
                rintro e w10 ⟨p0, q0, s0, l0, c0, rfl, hr0, hb0⟩
                have HG : Hid (RIs w10 (.agg #[.int .i64 p0, .int .i64 q0, .slice s0 l0 c0]) (detS A B (0 + 1)) 1 ∧ SumAt w10 w1.heap.size p q s l c ∧ ResAt w10 w.heap.size ∧ Below w.heap.size w w10) := ⟨hr0, HF.out.2.2.1.1.below hb0, HF.out.2.2.1.2.2.1.below hb0, HF.out.2.2.1.2.2.2.1.trans (hb0.mono HF.out.2.2.1.2.2.2.1.size)⟩
                clear hr0 hb0 t0 t1 t2 tf ts k0 k1 k2 kf ks
                obtain ⟨k0, k1, k2, kf, ks⟩ := HG.out.2.1
                go_wp2
                go_roundw
                case rel => exact ⟨0 + 1, p0, q0, s0, l0, c0, by omega, by go_num, HG.out.2.1.put _ _ _ _ _, HG.out.1.set3 _ _ k0 _ _ _, HG.out.2.2.1.set3 (by omega) _ _ _, below_set3 HG.out.2.2.2 (by omega) _ _ _⟩
                case measure => simp [intOf]
            · have HK : Hid ((detS A B 1).natAbs ≤ 4611686018427387904 ∧ (-(A 1 * B 0)).natAbs ≤ 4611686018427387904) := ⟨HK0.out.1, by rw [Int.natAbs_neg]; exact HK0.out.2⟩
              clear HK0
              · skip
                go_wp2_with fail
                refine (l1rNeg_any _ _ _ HF.out.2.1).mono ?_
                rintro e wn ⟨p5, q5, s5, l5, c5, rfl, hr5, hb5⟩
                have HN5 : Hid (SumAt wn tb p9 q9 s9 l9 c9 ∧ RIs wn (.agg #[.int .i64 p5, .int .i64 q5, .slice s5 l5 c5]) (-(A 1 * B 0)) 1 ∧ SumAt wn w1.heap.size p q s l c ∧ RIs wn (.agg #[.int .i64 p, .int .i64 q, .slice s l c]) (detS A B 1) 1 ∧ ResAt wn w.heap.size ∧ Below w.heap.size w wn) := ⟨HF.out.1.below hb5, hr5, HF.out.2.2.1.1.below hb5, HF.out.2.2.1.2.1.below hb5, HF.out.2.2.1.2.2.1.below hb5, HF.out.2.2.1.2.2.2.1.trans (hb5.mono HF.out.2.2.1.2.2.2.1.size)⟩
                clear hr5 hb5 t0 t1 t2 tf ts k0 k1 k2 kf ks
                obtain ⟨t0, t1, t2, tf, ts⟩ := HN5.out.1
                obtain ⟨k0, k1, k2, kf, ks⟩ := HN5.out.2.2.1
                have HN6 : Hid (RIs (((wn.setCell ⟨tb, 0, none⟩ (.int .i64 p5)).setCell ⟨tb, 1, none⟩ (.int .i64 q5)).setCell ⟨tb, 2, none⟩ (.slice s5 l5 c5)) (.agg #[.int .i64 p5, .int .i64 q5, .slice s5 l5 c5]) (-(A 1 * B 0)) 1 ∧ SumAt (((wn.setCell ⟨tb, 0, none⟩ (.int .i64 p5)).setCell ⟨tb, 1, none⟩ (.int .i64 q5)).setCell ⟨tb, 2, none⟩ (.slice s5 l5 c5)) w1.heap.size p q s l c ∧ RIs (((wn.setCell ⟨tb, 0, none⟩ (.int .i64 p5)).setCell ⟨tb, 1, none⟩ (.int .i64 q5)).setCell ⟨tb, 2, none⟩ (.slice s5 l5 c5)) (.agg #[.int .i64 p, .int .i64 q, .slice s l c]) (detS A B 1) 1 ∧ ResAt (((wn.setCell ⟨tb, 0, none⟩ (.int .i64 p5)).setCell ⟨tb, 1, none⟩ (.int .i64 q5)).setCell ⟨tb, 2, none⟩ (.slice s5 l5 c5)) w.heap.size ∧ Below w.heap.size w (((wn.setCell ⟨tb, 0, none⟩ (.int .i64 p5)).setCell ⟨tb, 1, none⟩ (.int .i64 q5)).setCell ⟨tb, 2, none⟩ (.slice s5 l5 c5))) :=
                  ⟨HN5.out.2.1.set3 _ _ t0 _ _ _, HN5.out.2.2.1.other hne _ _ _, HN5.out.2.2.2.1.set3 _ _ t0 _ _ _, HN5.out.2.2.2.2.1.set3 (by omega) _ _ _, below_set3 HN5.out.2.2.2.2.2 (by omega) _ _ _⟩
                go_wp2_with fail
                refine (l1rAdd_any (detS A B 1) (-(A 1 * B 0)) _ _ _ HN6.out.2.2.1 HN6.out.1 HK.out.1 HK.out.2).mono ?_
                rintro e w10 ⟨p0, q0, s0, l0, c0, rfl, hr0, hb0⟩
                have HG : Hid (RIs w10 (.agg #[.int .i64 p0, .int .i64 q0, .slice s0 l0 c0]) (detS A B (1 + 1)) 1 ∧ SumAt w10 w1.heap.size p q s l c ∧ ResAt w10 w.heap.size ∧ Below w.heap.size w w10) := ⟨hr0, HN6.out.2.1.below hb0, HN6.out.2.2.2.1.below hb0, HN6.out.2.2.2.2.trans (hb0.mono HN6.out.2.2.2.2.size)⟩
                clear hr0 hb0 t0 t1 t2 tf ts k0 k1 k2 kf ks
                obtain ⟨k0, k1, k2, kf, ks⟩ := HG.out.2.1
                go_wp2
                go_roundw
                case rel => exact ⟨1 + 1, p0, q0, s0, l0, c0, by omega, by go_num, HG.out.2.1.put _ _ _ _ _, HG.out.1.set3 _ _ k0 _ _ _, HG.out.2.2.1.set3 (by omega) _ _ _, below_set3 HG.out.2.2.2 (by omega) _ _ _⟩
                case measure => simp [intOf]
    · have hk2 : i = 2 := by omega
      subst hk2
      obtain ⟨k0, k1, k2, kf, ks⟩ := hs
      obtain ⟨j0, j1, j2, jf, js⟩ := hres
      clear hr hbel HM
      go_wp2
      exact bodyPost_ret (v := .agg #[.int .i64 p, .int .i64 q, .slice s l c]) (by simp [results, Try.results40, go_sem, j0, j1, j2]) rfl ⟨_, _, _, _, _, rfl, HS.out.2.1.set3 _ _ j0 _ _ _, below_set3 HS.out.2.2.2 (by omega) _ _ _⟩
end Go.Proofs.Ytikepklkjbohmaa
