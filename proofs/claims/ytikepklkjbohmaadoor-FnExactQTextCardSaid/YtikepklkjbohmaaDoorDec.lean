import Derived.Test.YtikepklkjbohmaaDoorQok
import Derived.Test.YtikepklkjbohmaaDoorShelf
import Derived.Laws.BytesArg
import Derived.Deep.AppendLies
namespace Go.Proofs.YtikepklkjbohmaaDoor
open Go.RowKit

/-- Bytes as cells. -/
def bc (l : List UInt8) : List Value := l.map fun b => .int .u8 (b.toNat : Int)
theorem bc_len (l : List UInt8) : (bc l).length = l.length := by simp [bc]
theorem bc_get (l : List UInt8) (j : Nat) (v : Value) (h : (bc l)[j]? = some v) : ∃ b, l[j]? = some b ∧ v = .int .u8 (b.toNat : Int) := by
  simp [bc] at h
  obtain ⟨b, h1, rfl⟩ := h
  exact ⟨b, h1, rfl⟩
theorem bc_one (l : List UInt8) : ∀ u ∈ bc l, u.oneCell' = true := by
  intro u hu
  simp [bc] at hu
  obtain ⟨b, _, rfl⟩ := hu
  rfl
theorem bc_str (l : List UInt8) : strOfNums (l.map fun b => (b.toNat : Int)) = ⟨l.toArray⟩ := by
  unfold strOfNums
  rw [List.map_map, show ((fun n : Int => UInt8.ofNat n.toNat) ∘ fun b : UInt8 => (b.toNat : Int)) = id from by funext b; simp, List.map_id]
/-- The digits that are still to come, and those that are there. -/
def decInv (X k u : Nat) (l : List UInt8) : Prop := if k = 0 then u = X ∧ l = [] else (if u = 0 then l else Lib.decDigits u ++ l) = Lib.decDigits X
theorem dec_step (X k u : Nat) (l : List UInt8) (h : decInv X k u l) (hu : k = 0 ∨ 0 < u) : decInv X (k + 1) (u / 10) (UInt8.ofNat (48 + u % 10) :: l) := by
  have e : (if u / 10 = 0 then UInt8.ofNat (48 + u % 10) :: l else Lib.decDigits (u / 10) ++ UInt8.ofNat (48 + u % 10) :: l) = Lib.decDigits u ++ l := by
    rw [Lib.decDigits.eq_def u]
    by_cases h10 : u < 10
    · rw [if_pos (by omega), dif_pos h10, show u % 10 = u from Nat.mod_eq_of_lt h10]; rfl
    · rw [if_neg (by omega), dif_neg h10]; simp
  unfold decInv at h ⊢
  rw [if_neg (by omega), e]
  by_cases hk : k = 0
  · rw [if_pos hk] at h
    rw [h.1, h.2]; simp
  · rw [if_neg hk, if_neg (by omega)] at h
    exact h
theorem dec_end (X k : Nat) (l : List UInt8) (h : decInv X k 0 l) (hk : 0 < k) : l = Lib.decDigits X := by
  unfold decInv at h
  rw [if_neg (by omega), if_pos rfl] at h
  exact h
theorem under35 : Tryd.prog.underlying 35 = some (.slice 5) := by kernel_rfl
theorem under5 : Tryd.prog.underlying 5 = some (.int .u8) := by kernel_rfl
theorem info5 : (Tryd.prog.info? 5).map (fun i => (i.zero, i.size, i.bytes)) = some (some (.int .u8 0), 1, 1) := by kernel_rfl

/-- Bytes behind an own byte. -/
theorem append5L {ops : Array Oper} {rest : List Oper} {o : Oper} {a : Act} {Q : Exit → Act → World → Prop} (w : World) (hgd : o.guard = none) (s x : Operand)
    (ho : o.op = .call { callee := .builtin .append, args := #[s, x], argTypes := #[35, 35] }) (base g1 : Nat) (d : UInt8) (hs : a.eval s = .slice (some ⟨g1, 0, none⟩) 1 1)
    (gr cap : Nat) (l : List UInt8) (hx : a.eval x = .slice (some ⟨gr, 0, none⟩) l.length cap) (hown : w.ownsRow base 5 1 (.slice (some ⟨g1, 0, none⟩) 1 1) 1 (bc [d])) (hc : ∀ j v, (bc l)[j]? = some v → w.cell? ((⟨gr, 0, none⟩ : Addr).add j) = some v)
    (hn : l.length ≤ 20) (hbase : base ≤ w.heap.size)
    (h : ∀ g' cap' w', w'.ownsRow base 5 1 (.slice (some ⟨g', 0, none⟩) (d :: l).length cap') (d :: l).length (bc (d :: l)) → w.grownBy w' (some g1) → wpList Tryd.prog ops Q rest (a.put o.dst (.slice (some ⟨g', 0, none⟩) (d :: l).length cap')) w') : wpList Tryd.prog ops Q (o :: rest) a w := by
  have hi := info5
  cases hq : Tryd.prog.info? 5 with
  | none => rw [hq] at hi; simp at hi
  | some i =>
    rw [hq] at hi
    simp only [Option.map_some, Option.some.injEq, Prod.mk.injEq] at hi
    obtain ⟨hz, hsz, hby⟩ := hi
    refine wpList_append_own w hgd s x 35 ho base 5 i _ 1 1 under35 hq hz hsz hby rfl (by decide) _ 1 (bc [d]) hs hown ⟨gr, 0, none⟩ l.length cap (bc l) hx (by rw [bc_len, Nat.mul_one]) hc (bc_one l) (by simp only [maxLen]; omega) (by omega) hbase (fun v' w' h2 h3 _ => ?_)
    have e1 : 1 + l.length = (d :: l).length := by simp; omega
    rw [e1, show bc [d] ++ bc l = bc (d :: l) from rfl] at h2
    obtain ⟨g', cap', rfl, _, _⟩ := h2.form (by simp)
    exact h g' cap' w' h2 h3
theorem grown_below {B : Nat} {w0 w w' : World} {gr : Nat} (h : Below B w0 w) (hg : w.grownBy w' (some gr)) (hB : B ≤ gr) (hs : B ≤ w.heap.size) : Below B w0 w' :=
  ⟨hg.os.trans h.os, hg.tape.trans h.tape, hg.output.trans h.output, Nat.le_trans h.size hg.size, fun k hk => (hg.block k (Nat.lt_of_lt_of_le hk hs) (fun e => by have := Option.some.inj e; omega)).trans (h.block k hk)⟩
theorem digit_cell (u : Nat) : ((UInt8.ofNat (48 + u % 10)).toNat : Int) = 48 + (u : Int) % 10 := by
  rw [UInt8.toNat_ofNat']; omega
theorem itoa_neg (x : Int) (h : x < 0) : Lib.itoa x = 45 :: Lib.decDigits x.natAbs := by unfold Lib.itoa; rw [if_pos h]
theorem itoa_pos (x : Int) (h : ¬ x < 0) : Lib.itoa x = Lib.decDigits x.natAbs := by unfold Lib.itoa; rw [if_neg h, show x.toNat = x.natAbs by omega]

set_option maxRecDepth 100000 in
set_option maxHeartbeats 2000000 in
theorem l1Dec_any (x : Int) (w : World) (h1 : -9223372036854775808 ≤ x) (h2 : x ≤ 9223372036854775807) :
    Calls Tryd.prog 8 #[.int .i64 x] w fun e w' => e = .returned (.string ⟨(Lib.itoa x).toArray⟩) ∧ Below w.heap.size w w' := by
  go_enter Tryd.func8, Tryd.ntmps8
  go_wp2_with fail
  refine (l1Abs_any x _ h1 h2).mono ?_
  rintro e w1 ⟨rfl, hw⟩
  rw [hw]
  clear hw w1
  go_wp2
  go_loopw [3, 4, 5] (fun uv ov nv wr => ∃ (k u : Nat) (l : List UInt8) (gr cap : Nat), k ≤ 20 ∧ uv = .int .u64 u ∧ nv = .int .i64 k ∧ ov = .slice (some ⟨gr, 0, none⟩) l.length cap ∧ wr.ownsRow w.heap.size 5 1 (.slice (some ⟨gr, 0, none⟩) l.length cap) l.length (bc l) ∧ l.length = k ∧ u < 10 ^ (20 - k) ∧ u ≤ x.natAbs ∧ decInv x.natAbs k u l ∧ Below w.heap.size w wr) (fun _ _ nv _ => 20 - (intOf nv).toNat)
  case atStart =>
    refine ⟨0, x.natAbs, [], w.heap.size, 0, by omega, rfl, rfl, rfl, ⟨rfl, .inr ⟨w.heap.size, 0, #[], rfl, Nat.le_refl _, ?_, Nat.le_refl _, by decide, rfl, rfl⟩⟩, rfl, by show x.natAbs < 10 ^ 20; omega, Nat.le_refl _, ?_, Joins.below_alloc1 _ _⟩
    · unfold World.alloc; simp
    · unfold decInv; rw [if_pos rfl]; exact ⟨rfl, rfl⟩
  case round =>
    obtain ⟨k, u, l, gr, cap, hk, rfl, rfl, rfl, hO, hlk, hu, hux, hinv, hbel⟩ := hrel
    have HI : Hid (wr.ownsRow w.heap.size 5 1 (.slice (some ⟨gr, 0, none⟩) l.length cap) l.length (bc l) ∧ l.length = k ∧ u < 10 ^ (20 - k) ∧ u ≤ x.natAbs ∧ decInv x.natAbs k u l ∧ Below w.heap.size w wr) := ⟨hO, hlk, hu, hux, hinv, hbel⟩
    have hu64 : u ≤ 9223372036854775808 := by omega
    clear hO hu hinv hbel hlk hux
    by_cases hgo : k < 20 ∧ (k = 0 ∨ 0 < u)
    · have t1 : decide ((k : Int) < 20) = true := by simp; omega
      rcases Nat.eq_zero_or_pos k with hk0 | hk0
      · have t2 : ((k : Int) == 0) = true := by simp; omega
        obtain ⟨dg, hdg⟩ : ∃ dg, dg = UInt8.ofNat (48 + u % 10) := ⟨_, rfl⟩
        have HDG : Hid (dg = UInt8.ofNat (48 + u % 10) ∧ (dg.toNat : Int) = 48 + (u : Int) % 10) := ⟨hdg, by rw [hdg]; exact digit_cell u⟩
        clear hdg
        have HO : Hid ((wr.alloc (.cells #[.int .u8 (48 + (u : Int) % 10)] 5)).ownsRow w.heap.size 5 1 (.slice (some ⟨wr.heap.size, 0, none⟩) 1 1) 1 (bc [dg])) := by
          refine ⟨rfl, .inr ⟨wr.heap.size, 1, #[.int .u8 (48 + (u : Int) % 10)], rfl, HI.out.2.2.2.2.2.size, ?_, Nat.le_refl _, by decide, rfl, ?_⟩⟩
          · unfold World.alloc; simp
          · unfold bc; rw [List.map_cons, HDG.out.2]; rfl
        have HC : Hid (∀ j v, (bc l)[j]? = some v → (wr.alloc (.cells #[.int .u8 (48 + (u : Int) % 10)] 5)).cell? ((⟨gr, 0, none⟩ : Addr).add j) = some v) := fun j v hj => (HI.out.1.alloc _).cells (g := gr) rfl j v hj
        go_wp2_with (refine append5L _ rfl (.tmp 25) (.tmp 26) rfl w.heap.size wr.heap.size dg rfl gr cap l rfl ?_ ?_ ?_ ?_ ?_)
        · exact HO.out
        · exact HC.out
        · have := HI.out.2.1; omega
        · have := HI.out.2.2.2.2.2.size; simp; omega
        intro g' cap' w7 hO7 hG7
        have H7 : Hid (w7.ownsRow w.heap.size 5 1 (.slice (some ⟨g', 0, none⟩) (l.length + 1) cap') (l.length + 1) (bc (dg :: l)) ∧ Below w.heap.size w w7) := ⟨hO7, grown_below (HI.out.2.2.2.2.2.alloc HI.out.2.2.2.2.2.size _) hG7 HI.out.2.2.2.2.2.size (by have := HI.out.2.2.2.2.2.size; simp; omega)⟩
        clear hO7 hG7 HO HC
        go_wp2
        refine ⟨⟨k + 1, u / 10, dg :: l, g', cap', by omega, by go_num, by go_num, rfl, H7.out.1, by have := HI.out.2.1; simp; omega, ?_, Nat.le_trans (Nat.div_le_self _ _) HI.out.2.2.2.1, ?_, H7.out.2⟩, by simp [intOf]; omega⟩
        · apply Nat.div_lt_of_lt_mul
          have := HI.out.2.2.1
          rw [show 20 - k = (20 - (k + 1)) + 1 by omega, Nat.pow_succ, Nat.mul_comm] at this
          exact this
        · rw [HDG.out.1]; exact dec_step x.natAbs k u l HI.out.2.2.2.2.1 hgo.2
      · have t2 : ((k : Int) == 0) = false := by simp; omega
        have t3 : decide ((0 : Int) < (u : Int)) = true := by simp; omega
        have t4 : decide (0 < u) = true := by simp; omega
        obtain ⟨dg, hdg⟩ : ∃ dg, dg = UInt8.ofNat (48 + u % 10) := ⟨_, rfl⟩
        have HDG : Hid (dg = UInt8.ofNat (48 + u % 10) ∧ (dg.toNat : Int) = 48 + (u : Int) % 10) := ⟨hdg, by rw [hdg]; exact digit_cell u⟩
        clear hdg
        have HO : Hid ((wr.alloc (.cells #[.int .u8 (48 + (u : Int) % 10)] 5)).ownsRow w.heap.size 5 1 (.slice (some ⟨wr.heap.size, 0, none⟩) 1 1) 1 (bc [dg])) := by
          refine ⟨rfl, .inr ⟨wr.heap.size, 1, #[.int .u8 (48 + (u : Int) % 10)], rfl, HI.out.2.2.2.2.2.size, ?_, Nat.le_refl _, by decide, rfl, ?_⟩⟩
          · unfold World.alloc; simp
          · unfold bc; rw [List.map_cons, HDG.out.2]; rfl
        have HC : Hid (∀ j v, (bc l)[j]? = some v → (wr.alloc (.cells #[.int .u8 (48 + (u : Int) % 10)] 5)).cell? ((⟨gr, 0, none⟩ : Addr).add j) = some v) := fun j v hj => (HI.out.1.alloc _).cells (g := gr) rfl j v hj
        go_wp2_with (refine append5L _ rfl (.tmp 25) (.tmp 26) rfl w.heap.size wr.heap.size dg rfl gr cap l rfl ?_ ?_ ?_ ?_ ?_)
        · exact HO.out
        · exact HC.out
        · have := HI.out.2.1; omega
        · have := HI.out.2.2.2.2.2.size; simp; omega
        intro g' cap' w7 hO7 hG7
        have H7 : Hid (w7.ownsRow w.heap.size 5 1 (.slice (some ⟨g', 0, none⟩) (l.length + 1) cap') (l.length + 1) (bc (dg :: l)) ∧ Below w.heap.size w w7) := ⟨hO7, grown_below (HI.out.2.2.2.2.2.alloc HI.out.2.2.2.2.2.size _) hG7 HI.out.2.2.2.2.2.size (by have := HI.out.2.2.2.2.2.size; simp; omega)⟩
        clear hO7 hG7 HO HC
        go_wp2
        refine ⟨⟨k + 1, u / 10, dg :: l, g', cap', by omega, by go_num, by go_num, rfl, H7.out.1, by have := HI.out.2.1; simp; omega, ?_, Nat.le_trans (Nat.div_le_self _ _) HI.out.2.2.2.1, ?_, H7.out.2⟩, by simp [intOf]; omega⟩
        · apply Nat.div_lt_of_lt_mul
          have := HI.out.2.2.1
          rw [show 20 - k = (20 - (k + 1)) + 1 by omega, Nat.pow_succ, Nat.mul_comm] at this
          exact this
        · rw [HDG.out.1]; exact dec_step x.natAbs k u l HI.out.2.2.2.2.1 hgo.2
    · have hu0 : u = 0 := by
        by_cases h20 : k < 20
        · omega
        · have := HI.out.2.2.1
          rw [show 20 - k = 0 by omega] at this
          simpa using this
      have hk1 : 0 < k := by omega
      subst hu0
      have hl : l = Lib.decDigits x.natAbs := dec_end _ k l HI.out.2.2.2.2.1 hk1
      have hcv : (convert 35 9 (.slice (some ⟨gr, 0, none⟩) l.length cap)).run Tryd.prog wr = .ok (.string ⟨(Lib.decDigits x.natAbs).toArray⟩) wr := by
        rw [run_convert_bytes_arg wr 35 5 under35 under5 gr 0 l.length cap (l.map fun b => (b.toNat : Int)) (by simp) (fun i hi => ?_) 9 (by kernel_rfl), bc_str, hl]
        have := HI.out.1.cells (g := gr) rfl i (.int .u8 (l[i].toNat : Int)) (by unfold bc; simp [hi])
        rw [show (⟨gr, 0, none⟩ : Addr).add i = ⟨gr, 0 + i, none⟩ from by unfold Addr.add; split <;> simp_all] at this
        rw [this]
        simp [List.getD, hi]
      have t2 : ((k : Int) == 0) = false := by simp; omega
      have hlen : (Lib.decDigits x.natAbs).length ≤ 20 := by rw [← hl]; have := HI.out.2.1; omega
      clear hgo hl
      by_cases h20 : k < 20
      · have t1 : decide ((k : Int) < 20) = true := by simp; omega
        clear h20
        by_cases hx : x < 0
        · have e1 := itoa_neg x hx
          have tx : decide (x < 0) = true := by simpa using hx
          go_wp2
          go_ret
          exact ⟨by rw [e1]; simp [ByteArray.ext_iff], HI.out.2.2.2.2.2⟩
        · have e1 := itoa_pos x hx
          have tx : decide (x < 0) = false := by simpa using hx
          go_wp2
          go_ret
          exact ⟨rfl, HI.out.2.2.2.2.2⟩
      · have t1 : decide ((k : Int) < 20) = false := by simp; omega
        clear h20
        by_cases hx : x < 0
        · have e1 := itoa_neg x hx
          have tx : decide (x < 0) = true := by simpa using hx
          go_wp2
          go_ret
          exact ⟨by rw [e1]; simp [ByteArray.ext_iff], HI.out.2.2.2.2.2⟩
        · have e1 := itoa_pos x hx
          have tx : decide (x < 0) = false := by simpa using hx
          go_wp2
          go_ret
          exact ⟨rfl, HI.out.2.2.2.2.2⟩
end Go.Proofs.YtikepklkjbohmaaDoor
