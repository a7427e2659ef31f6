import Derived.Test.YtgcgoehmgaokkaaDoorHsIm2
import Derived.BigRegion
import Derived.Deep.CutRange
import Derived.Deep.LoopGhost
namespace Go.Proofs.YtgcgoehmgaokkaaDoor
open Go.RowKit

theorem At.drew1 {w : World} {b : Nat} {A : Array Value} (h : At w b A) : At w.drew b A := h.below (n := w.heap.size) (Below.refl w.heap.size w).drew h.sz
theorem Rd.drew1 {w : World} {S n : Nat} {ao : Option Addr} {F : Nat → Int} (h : Rd w S ao n F) : Rd w.drew S ao n F := Rd.below h (B := w.heap.size) (Below.refl w.heap.size w).drew (Nat.le_refl _)

set_option maxRecDepth 20000 in
set_option maxHeartbeats 4000000 in
/-- As many terms as the kind wants, and each of them such as there can be. -/
theorem areTerms_any (np : Nat) (id : Int) (k : Nat) (off : Bool) (on wth : Int) (n cn : Nat) (no : Option Addr) (T : Nat → Int) (w : World) (h1 : 1 ≤ k) (h7 : k ≤ 7) (hn : n ≤ 1048576) (hr : Rd w 5 no n T) (ht : FTab w) (x : Bool) (hx : (cnt (k : Int) n && (List.range n).all (tk np T)) = x) :
    Calls Tryd.prog 49 #[.agg #[.int .i64 id, .int .i64 (k : Int), .bool off, .int .i64 on, .int .i64 wth, .slice no n cn], .int .i64 (np : Int)] w fun e w' => e = .returned (.bool x) ∧ Below w.heap.size w w' := by
  have hmf : ∀ (fn : Fn) (first cap : Array Value) (w : World), (Instr.makeFunc fn first cap).run Tryd.prog w = .ok (.func fn first cap) w := fun _ _ _ _ => rfl
  have HR : Hid (Rd ((w.alloc (.cells #[.int .i64 id, .int .i64 (k : Int), .bool off, .int .i64 on, .int .i64 wth, .slice no n cn] 78)).alloc (.cells #[.int .i64 (np : Int)] 3)) 5 no n T) := Rd.below hr (Joins.below_alloc2 _ _ _) (Nat.le_refl _)
  have HT : Hid (FTab ((w.alloc (.cells #[.int .i64 id, .int .i64 (k : Int), .bool off, .int .i64 on, .int .i64 wth, .slice no n cn] 78)).alloc (.cells #[.int .i64 (np : Int)] 3))) := ht.below (Joins.below_alloc2 _ _ _)
  have HBw : Hid (Below w.heap.size w ((w.alloc (.cells #[.int .i64 id, .int .i64 (k : Int), .bool off, .int .i64 on, .int .i64 wth, .slice no n cn] 78)).alloc (.cells #[.int .i64 (np : Int)] 3))) := Joins.below_alloc2 _ _ _
  have HA1 : Hid (At ((w.alloc (.cells #[.int .i64 id, .int .i64 (k : Int), .bool off, .int .i64 on, .int .i64 wth, .slice no n cn] 78)).alloc (.cells #[.int .i64 (np : Int)] 3)) w.heap.size #[.int .i64 id, .int .i64 (k : Int), .bool off, .int .i64 on, .int .i64 wth, .slice no n cn]) := At.alloc ⟨fun j => by go_simp, fun j => by go_simp, by simp⟩ _
  have HA2 : Hid (At ((w.alloc (.cells #[.int .i64 id, .int .i64 (k : Int), .bool off, .int .i64 on, .int .i64 wth, .slice no n cn] 78)).alloc (.cells #[.int .i64 (np : Int)] 3)) (w.heap.size + 1) #[.int .i64 (np : Int)]) := ⟨fun j => by go_simp, fun j => by go_simp, by simp⟩
  have hk8 : (k : Int) < 8 := by omega
  have hk0 : (0 : Int) ≤ k := by omega
  obtain ⟨le, hle⟩ : ∃ l, l = leastN k := ⟨_, rfl⟩
  obtain ⟨mo, hmo⟩ : ∃ l, l = mostN k := ⟨_, rfl⟩
  have HC : Hid (cnt (k : Int) n = decide (¬ (n : Int) < le ∧ ¬ mo < (n : Int) ∧ ((n : Int) - le) % 2 = 0)) := by
    unfold Hid
    rw [hle, hmo]
    exact cnt_tab n h1 h7
  have hle0 : 0 ≤ le ∧ le ≤ 8 := by
    rw [hle]
    have hk : k = 1 ∨ k = 2 ∨ k = 3 ∨ k = 4 ∨ k = 5 ∨ k = 6 ∨ k = 7 := by omega
    rcases hk with rfl | rfl | rfl | rfl | rfl | rfl | rfl <;> decide
  have HX : Hid ((cnt (k : Int) n && (List.range n).all (tk np T)) = x) := hx
  obtain ⟨u1, hu1⟩ : ∃ u, u = usesOn k := ⟨_, rfl⟩
  obtain ⟨u2, hu2⟩ : ∃ u, u = usesWith k := ⟨_, rfl⟩
  have HTc : Hid (∀ o : Obj, (((w.alloc (.cells #[.int .i64 id, .int .i64 (k : Int), .bool off, .int .i64 on, .int .i64 wth, .slice no n cn] 78)).alloc (.cells #[.int .i64 (np : Int)] 3)).cell? ⟨1, k * 4, none⟩ = some (.bool u1) ∧ ((w.alloc (.cells #[.int .i64 id, .int .i64 (k : Int), .bool off, .int .i64 on, .int .i64 wth, .slice no n cn] 78)).alloc (.cells #[.int .i64 (np : Int)] 3)).cell? ⟨1, k * 4 + 1, none⟩ = some (.bool u2) ∧ ((w.alloc (.cells #[.int .i64 id, .int .i64 (k : Int), .bool off, .int .i64 on, .int .i64 wth, .slice no n cn] 78)).alloc (.cells #[.int .i64 (np : Int)] 3)).cell? ⟨1, k * 4 + 2, none⟩ = some (.int .i64 le) ∧ ((w.alloc (.cells #[.int .i64 id, .int .i64 (k : Int), .bool off, .int .i64 on, .int .i64 wth, .slice no n cn] 78)).alloc (.cells #[.int .i64 (np : Int)] 3)).cell? ⟨1, k * 4 + 3, none⟩ = some (.int .i64 mo)) ∧
      ((((w.alloc (.cells #[.int .i64 id, .int .i64 (k : Int), .bool off, .int .i64 on, .int .i64 wth, .slice no n cn] 78)).alloc (.cells #[.int .i64 (np : Int)] 3)).alloc o).cell? ⟨1, k * 4, none⟩ = some (.bool u1) ∧ (((w.alloc (.cells #[.int .i64 id, .int .i64 (k : Int), .bool off, .int .i64 on, .int .i64 wth, .slice no n cn] 78)).alloc (.cells #[.int .i64 (np : Int)] 3)).alloc o).cell? ⟨1, k * 4 + 1, none⟩ = some (.bool u2) ∧ (((w.alloc (.cells #[.int .i64 id, .int .i64 (k : Int), .bool off, .int .i64 on, .int .i64 wth, .slice no n cn] 78)).alloc (.cells #[.int .i64 (np : Int)] 3)).alloc o).cell? ⟨1, k * 4 + 2, none⟩ = some (.int .i64 le) ∧ (((w.alloc (.cells #[.int .i64 id, .int .i64 (k : Int), .bool off, .int .i64 on, .int .i64 wth, .slice no n cn] 78)).alloc (.cells #[.int .i64 (np : Int)] 3)).alloc o).cell? ⟨1, k * 4 + 3, none⟩ = some (.int .i64 mo))) := by
    intro o
    rw [hu1, hu2, hle, hmo]
    exact ⟨HT.out.c k (by omega), (HT.out.below (Joins.below_alloc1 _ o)).c k (by omega)⟩
  clear hr ht hx hle hmo hu1 hu2
  go_enter Tryd.func49, Tryd.ntmps49
  go_wp2_with fail
  generalize hw2 : ((w.alloc (.cells #[.int .i64 id, .int .i64 (k : Int), .bool off, .int .i64 on, .int .i64 wth, .slice no n cn] 78)).alloc (.cells #[.int .i64 (np : Int)] 3)) = w2 at HR HT HBw HA1 HA2 HTc ⊢
  clear hw2
  obtain ⟨q, _, qs⟩ := HA1.out
  have c1 := q 1
  have c5 := q 5
  have t0 := (HTc.out (.cells #[] 0)).1.1
  have t1 := (HTc.out (.cells #[] 0)).1.2.1
  have t2 := (HTc.out (.cells #[] 0)).1.2.2.1
  have t3 := (HTc.out (.cells #[] 0)).1.2.2.2
  have s0 := fun o => (HTc.out o).2.1
  have s1 := fun o => (HTc.out o).2.2.1
  have s2 := fun o => (HTc.out o).2.2.2.1
  have s3 := fun o => (HTc.out o).2.2.2.2
  have d1 : ∀ o, (w2.alloc o).cell? ⟨w.heap.size, 1, none⟩ = some (.int .i64 (k : Int)) := fun o => (HA1.out.alloc o).c 1
  have d5 : ∀ o, (w2.alloc o).cell? ⟨w.heap.size, 5, none⟩ = some (.slice no n cn) := fun o => (HA1.out.alloc o).c 5
  go_region
  have HB3 : Hid (Below w.heap.size w ((w2.alloc (.cells #[.bool u1, .bool u2, .int .i64 le, .int .i64 mo] 116)).drew)) := (HBw.out.alloc HBw.out.size _).drew
  have HC2 : Hid (At ((w2.alloc (.cells #[.bool u1, .bool u2, .int .i64 le, .int .i64 mo] 116)).drew) (w.heap.size + 1) #[.int .i64 (np : Int)]) := (HA2.out.alloc _).drew1
  have HC1 : Hid (At ((w2.alloc (.cells #[.bool u1, .bool u2, .int .i64 le, .int .i64 mo] 116)).drew) w.heap.size #[.int .i64 id, .int .i64 (k : Int), .bool off, .int .i64 on, .int .i64 wth, .slice no n cn]) := (HA1.out.alloc _).drew1
  have HC3 : Hid (At ((w2.alloc (.cells #[.bool u1, .bool u2, .int .i64 le, .int .i64 mo] 116)).drew) w2.heap.size #[.bool u1, .bool u2, .int .i64 le, .int .i64 mo]) := At.drew1 (w := w2.alloc (.cells #[.bool u1, .bool u2, .int .i64 le, .int .i64 mo] 116)) ⟨fun j => by go_simp, fun j => by go_simp, by simp⟩
  have HR3 : Hid (Rd ((w2.alloc (.cells #[.bool u1, .bool u2, .int .i64 le, .int .i64 mo] 116)).drew) 5 no n T) := (Rd.below HR.out (Joins.below_alloc1 _ _) (Nat.le_refl _)).drew1
  clear q qs c1 c5 t0 t1 t2 t3 s0 s1 s2 s3 d1 d5 HA1 HA2 HTc HT HR HBw
  generalize hw3 : (w2.alloc (.cells #[.bool u1, .bool u2, .int .i64 le, .int .i64 mo] 116)).drew = w3 at HB3 HC1 HC2 HC3 HR3 ⊢
  generalize hg2 : w2.heap.size = g2 at HC3 ⊢
  clear hw3 hg2
  obtain ⟨q, _, _⟩ := HC3.out
  have c2 := q 2
  have c3 := q 3
  clear q
  have c5 := HC1.out.c 5
  have hw : IntKind.i64.wrap ((n : Int) - le) = (n : Int) - le := by
    rw [IntKind.wrap_i64]
    omega
  by_cases a1 : (n : Int) < le
  · obtain rfl : x = false := by
      rw [← HX.out, HC.out, decide_eq_false (by omega)]
      rfl
    go_wp2
    go_ret
    exact ⟨rfl, HB3.out⟩
  by_cases a2 : mo < (n : Int)
  · obtain rfl : x = false := by
      rw [← HX.out, HC.out, decide_eq_false (by omega)]
      rfl
    go_wp2
    go_ret
    exact ⟨rfl, HB3.out⟩
  by_cases a3 : ((n : Int) - le) % 2 = 0
  · have HX2 : Hid ((List.range n).all (tk np T) = x) := by
      unfold Hid
      rw [← HX.out, HC.out, decide_eq_true (by omega), Bool.true_and]
    have e3 : (((n : Int) - le) % 2 != 0) = false := by rw [a3]; rfl
    clear a3 HX HC
    go_wp2_with fail
    refine (containsTerm_any np (w.heap.size + 1) n cn no T _ hn HR3.out (HC2.out.c 0) HC2.out.sz).mono ?_
    rintro e w4 ⟨he, hb4⟩
    have HB4 : Hid (Below w.heap.size w w4) := HB3.out.trans (hb4.mono HB3.out.size)
    clear hb4
    rcases he with ⟨rfl, hA⟩ | ⟨rfl, hA⟩
    · obtain rfl : x = true := by
        rw [← HX2.out, List.all_eq_true]
        exact fun j hj => hA j (List.mem_range.1 hj)
      clear hA
      go_wp2
      go_ret
      exact ⟨rfl, HB4.out⟩
    · obtain rfl : x = false := by
        obtain ⟨j, hj, hjf⟩ := hA
        rw [← HX2.out, List.all_eq_false]
        exact ⟨j, List.mem_range.2 hj, by simp [hjf]⟩
      clear hA
      go_wp2
      go_ret
      exact ⟨rfl, HB4.out⟩
  · obtain rfl : x = false := by
      rw [← HX.out, HC.out, decide_eq_false (by omega)]
      rfl
    have e3 : (((n : Int) - le) % 2 != 0) = true := by simpa using a3
    clear a3 HX HC
    go_wp2
    go_ret
    exact ⟨rfl, HB3.out⟩
end Go.Proofs.YtgcgoehmgaokkaaDoor
