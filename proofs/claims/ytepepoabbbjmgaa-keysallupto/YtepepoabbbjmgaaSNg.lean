/- Halves that stand alone: the closures; rows that are whole; mending. Which grids may be, by their cells and their rows. Cells and styles that may be, as the grid asks. -/
import Derived.Test.YtepepoabbbjmgaaSNf
import Derived.Test.YtepepoabbbjmgaaSRb
import Derived.Test.YtepepoabbbjmgaaSGw
import Derived.Test.YtepepoabbbjmgaaSEq
namespace Go.Proofs.Ytepepoabbbjmgaa.Sc
open Go.RowKit Go.BigFrame
set_option linter.unusedVariables false
set_option linter.unusedSimpArgs false
set_option maxRecDepth 100000
set_option maxHeartbeats 16000000
theorem pair_any (p b x n c : Nat) (r : List Cl) (i : Int) (h1 : -2 < i) (h2 : i < 1000000) (w : World) (hn : n ≤ 1000000) (hr : RowM w p b x n c r) :
  Calls Try.prog 58 #[.int .i64 i, .pointer (some ⟨p, 0, none⟩)] w fun e w' => e = .returned (.bool (prF r i)) ∧ Below w.heap.size w w' := by
 by_cases h : 0 ≤ i ∧ i + 1 < (n : Int)
 ·obtain ⟨k, rfl⟩ : ∃ k : Nat, i = (k : Int) := ⟨i.toNat, by omega⟩
  have e : prF r (k : Int) = (decide ((cat r k).wd = 2) && (decide ((cat r (k + 1)).wd = 0) && stB (cat r k).st (cat r (k + 1)).st)) := by
   unfold prF
   rw [hr.len, decide_eq_true h, Int.toNat_natCast, Bool.true_and]
  rw [e]
  exact pair_in p b x n c r k (by omega) w hn hr
 ·have e : prF r i = false := by
   unfold prF
   rw [hr.len, decide_eq_false h, Bool.false_and]
  rw [e]
  exact pair_out p b x n c r i h h1 h2 w hn hr
/-- The closure that tells which place of a row has half a character alone. -/
structure LnM (w : World) (p q b x n c : Nat) (r : List Cl) : Prop where
 row : RowM w p b x n c r
 fn : Row w q 60 #[.func (.func 58) #[] #[.pointer (some ⟨p, 0, none⟩)]]
theorem LnM.below {w w' : World} {p q b x n c : Nat} {r : List Cl} (h : LnM w p q b x n c r) (hb : Below w.heap.size w w') : LnM w' p q b x n c r := ⟨h.row.below hb, h.fn.below hb h.fn.lt⟩
theorem lone_any (p q b x n c : Nat) (r : List Cl) (i : Nat) (hi : i < n) (w : World) (hn : n ≤ 1000000) (h : LnM w p q b x n c r) :
  Calls Try.prog 59 #[.int .i64 (i : Int), .pointer (some ⟨p, 0, none⟩), .pointer (some ⟨q, 0, none⟩)] w fun e w' => e = .returned (.bool (bad r i)) ∧ Below w.heap.size w w' := by
 have c0 : w.cell? ⟨p, 0, none⟩ = some (.slice (some ⟨b, x, none⟩) n c) := h.row.box.cell 0
 have d0 : w.cell? ⟨q, 0, none⟩ = some (.func (.func 58) #[] #[.pointer (some ⟨p, 0, none⟩)]) := h.fn.cell 0
 have e4 := h.row.wide i hi
 have E := Box'.mk (bad_pr r i (by rw [h.row.len]; exact hi))
 have P0 := Box'.mk (pair_any p b x n c r (i : Int) (by omega) (by omega) w hn h.row)
 have P1 := Box'.mk (pair_any p b x n c r ((i : Int) - 1) (by omega) (by omega) w hn h.row)
 clear h
 by_cases h2 : ((cat r i).wd : Int) = 2
 ·have E2 : Box' (bad r i = !prF r (i : Int)) := ⟨by rw [E.out, if_pos (by omega)]⟩
  rw [h2] at e4
  clear E P1 h2
  generalize prF r (i : Int) = v at *
  go_enter Try.func59, Try.ntmps59
  go_wp2_with fail
  refine P0.out.mono ?_
  rintro e w2 ⟨rfl, hb2⟩
  have B2 := Box'.mk hb2
  clear hb2
  go_wp2_with fail
  go_ret
  exact ⟨by rw [E2.out]; rfl, B2.out⟩
 ·by_cases h0 : ((cat r i).wd : Int) = 0
  ·have E2 : Box' (bad r i = !prF r ((i : Int) - 1)) := ⟨by rw [E.out, if_neg (by omega), if_pos (by omega)]⟩
   rw [h0] at e4
   clear E P0 h2 h0
   generalize prF r ((i : Int) - 1) = v at *
   go_enter Try.func59, Try.ntmps59
   go_wp2_with fail
   refine P1.out.mono ?_
   rintro e w2 ⟨rfl, hb2⟩
   have B2 := Box'.mk hb2
   clear hb2
   go_wp2_with fail
   go_ret
   exact ⟨by rw [E2.out]; rfl, B2.out⟩
  ·have E2 : Box' (bad r i = false) := ⟨by rw [E.out, if_neg (by omega), if_neg (by omega)]⟩
   generalize ((cat r i).wd : Int) = z at *
   clear E P0 P1
   go_enter Try.func59, Try.ntmps59
   go_wp2_with fail
   go_ret
   exact ⟨by rw [E2.out]; rfl, Below.refl _ _⟩
theorem loneIn_any (b x n c : Nat) (w : World) : Calls Try.prog 49 #[.slice (some ⟨b, x, none⟩) n c] w fun e w' => ∃ p q, e = .returned (.func (.func 59) #[] #[.pointer (some ⟨p, 0, none⟩), .pointer (some ⟨q, 0, none⟩)]) ∧ w.heap.size ≤ p ∧ w.heap.size ≤ q ∧
   Row w' p 37 #[.slice (some ⟨b, x, none⟩) n c] ∧ Row w' q 60 #[.func (.func 58) #[] #[.pointer (some ⟨p, 0, none⟩)]] ∧ Below w.heap.size w w' := by
 have hmf : ∀ (fn : Fn) (first cap : Array Value) (w : World), (Instr.makeFunc fn first cap).run Try.prog w = .ok (.func fn first cap) w := fun _ _ _ _ => rfl
 have R2 : Row ((w.alloc (.cells #[.slice (some ⟨b, x, none⟩) n c] 37)).alloc (.cells #[.nilFunc] 60)) (w.heap.size + 1) 60 #[.nilFunc] := Row.made _ _ _ _ _ rfl (by simp)
 have R1 : Row ((w.alloc (.cells #[.slice (some ⟨b, x, none⟩) n c] 37)).alloc (.cells #[.nilFunc] 60)) w.heap.size 37 #[.slice (some ⟨b, x, none⟩) n c] := (Row.new _ _ _).alloc _
 have B2 : Below w.heap.size w ((w.alloc (.cells #[.slice (some ⟨b, x, none⟩) n c] 37)).alloc (.cells #[.nilFunc] 60)) := ((Below.refl w.heap.size w).alloc (Nat.le_refl _) _).alloc (by simp) _
 have hst : (store ⟨w.heap.size + 1, 0, none⟩ (.func (.func 58) #[] #[.pointer (some ⟨w.heap.size, 0, none⟩)])).run Try.prog ((w.alloc (.cells #[.slice (some ⟨b, x, none⟩) n c] 37)).alloc (.cells #[.nilFunc] 60)) = .ok () (((w.alloc (.cells #[.slice (some ⟨b, x, none⟩) n c] 37)).alloc (.cells #[.nilFunc] 60)).setCell ⟨w.heap.size + 1, 0, none⟩ (.func (.func 58) #[] #[.pointer (some ⟨w.heap.size, 0, none⟩)])) := by
  have hc : ((w.alloc (.cells #[.slice (some ⟨b, x, none⟩) n c] 37)).alloc (.cells #[.nilFunc] 60)).cell? ⟨w.heap.size + 1, 0, none⟩ = some .nilFunc := R2.cell 0
  have hf : ((w.alloc (.cells #[.slice (some ⟨b, x, none⟩) n c] 37)).alloc (.cells #[.nilFunc] 60)).frozen? ⟨w.heap.size + 1, 0, none⟩ = false := R2.frozen 0
  rw [run_store Try.prog _ _ _ _ rfl, hc, hf]
  rfl
 clear R1 B2 R2
 go_enter Try.func49, Try.ntmps49
 go_wp2_with fail
 go_ret
 exact ⟨_, _, rfl, Nat.le_refl _, Nat.le_succ _, (Row.new _ _ _).alloc _, Row.made _ _ _ _ _ rfl (by simp), ((Below.refl w.heap.size w).alloc (Nat.le_refl _) _).alloc (by simp) _⟩
/-- Does no half stand alone in a row? -/
def whF (r : List Cl) : Bool := (List.range r.length).all fun i => !bad r i
theorem isWhole_any (b x n c : Nat) (r : List Cl) (w : World) (hn : n ≤ 1000000) (hnc : n ≤ c) (hlen : r.length = n) (hb : b < w.heap.size) (hcl : ∀ k, k < n → ∀ j, j < 15 → w.cell? ⟨b, x + k * 15 + j, none⟩ = (cA (cat r k))[j]?) :
  Calls Try.prog 38 #[.slice (some ⟨b, x, none⟩) n c] w fun e w' => e = .returned (.bool (whF r)) ∧ Below w.heap.size w w' := by
 have LI := Box'.mk (loneIn_any b x n c w)
 have WT : Box' ((∀ i, i < n → bad r i = false) → whF r = true) := ⟨fun h => by
  unfold whF
  rw [List.all_eq_true]
  intro i hi
  rw [List.mem_range, hlen] at hi
  rw [h i hi]
  rfl⟩
 have WF : Box' (∀ i, i < n → bad r i = true → whF r = false) := ⟨fun i hi h => by
  unfold whF
  rw [List.all_eq_false]
  exact ⟨i, by rw [List.mem_range, hlen]; exact hi, by rw [h]; simp⟩⟩
 have LM : Box' (∀ wx p q, Below w.heap.size w wx → Row wx p 37 #[.slice (some ⟨b, x, none⟩) n c] → Row wx q 60 #[.func (.func 58) #[] #[.pointer (some ⟨p, 0, none⟩)]] → LnM wx p q b x n c r) := ⟨fun wx p q hbe h1 h2 => ⟨⟨h1, hlen, fun k hk j hj => by rw [hbe.cell (p := ⟨b, x + k * 15 + j, none⟩) hb]; exact hcl k hk j hj, Nat.lt_of_lt_of_le hb hbe.size⟩, h2⟩⟩
 have LO : Box' (∀ wx p q i, i < n → LnM wx p q b x n c r → Calls Try.prog 59 #[.int .i64 (i : Int), .pointer (some ⟨p, 0, none⟩), .pointer (some ⟨q, 0, none⟩)] wx fun e w' => e = .returned (.bool (bad r i)) ∧ Below wx.heap.size wx w') := ⟨fun wx p q i hi h => lone_any p q b x n c r i hi wx hn h⟩
 clear hcl hlen
 go_enter Try.func38, Try.ntmps38
 go_wp2_with fail
 refine LI.out.mono ?_
 rintro e w1 ⟨p, q, rfl, hp, hq, rp, rq, hb1⟩
 have L1 := Box'.mk (LM.out w1 p q hb1 rp rq)
 have B1 := Box'.mk hb1
 clear rp rq hb1 LI LM hp hq
 go_wp2_with fail
 go_loopw [9] (fun i wr => ∃ k : Nat, k ≤ n ∧ i = .int .i64 (k : Int) ∧ Box' (∀ i, i < k → bad r i = false) ∧ Box' (LnM wr p q b x n c r) ∧ Box' (Below w.heap.size w wr)) (fun i _ => n - (intOf i).toNat)
 case atStart => exact ⟨0, by omega, rfl, ⟨fun i hi => by omega⟩, L1, B1⟩
 case round =>
  obtain ⟨k, hk, rfl, OK, LL, BB⟩ := hrel
  clear L1 B1
  by_cases hlt : k < n
  case neg =>
   obtain rfl : k = n := by omega
   have E := Box'.mk (WT.out OK.out)
   go_wp2_with fail
   go_ret
   exact ⟨by rw [E.out]; rfl, BB.out⟩
  case pos =>
   have CA := Box'.mk (LO.out wr p q k hlt LL.out)
   cases hbd : bad r k with
   | true =>
    have E := Box'.mk (WF.out k hlt hbd)
    rw [hbd] at CA
    clear hbd
    go_wp2_with fail
    refine CA.out.mono ?_
    rintro e w2 ⟨rfl, hb2⟩
    have B2 := Box'.mk (BB.out.trans (hb2.mono BB.out.size))
    clear hb2
    go_wp2_with fail
    go_ret
    exact ⟨by rw [E.out]; rfl, B2.out⟩
   | false =>
    have OK2 : Box' (∀ i, i < k + 1 → bad r i = false) := ⟨fun i hi => by
     rcases Nat.lt_or_ge i k with q | q
     ·exact OK.out i q
     ·rw [show i = k by omega]; exact hbd⟩
    rw [hbd] at CA
    clear hbd
    go_wp2_with fail
    refine CA.out.mono ?_
    rintro e w2 ⟨rfl, hb2⟩
    have B2 := Box'.mk (BB.out.trans (hb2.mono BB.out.size))
    have L2 := Box'.mk (LL.out.below hb2)
    clear hb2
    go_wp2_with fail
    exact ⟨⟨k + 1, by omega, by go_num, OK2, L2, B2⟩, by simp [intOf]; omega⟩
theorem ok_row (r : List Cl) : (∀ j, j < r.length → okAt r.length r j = true) ↔ (∀ j, j < r.length → mayC (cat r j) = true) ∧ (∀ j, j < r.length → bad r j = false) := by
 have hfe : ∀ j, j < r.length → hfAt r.length r j = (decide (0 < j) && decide ((cat r (j - 1)).wd = 2)) := fun j hj => by
  unfold hfAt; rw [Nat.mod_eq_of_lt hj]
 have oke : ∀ j, j < r.length → okAt r.length r j = true → mayC (cat r j) = true ∧ ((cat r j).wd = 0 ↔ 0 < j ∧ (cat r (j - 1)).wd = 2) ∧ ((0 < j ∧ (cat r (j - 1)).wd = 2) → (cat r j).st = (cat r (j - 1)).st) ∧ ¬ ((cat r j).wd = 2 ∧ j = r.length - 1) := fun j hj h => by
  unfold okAt at h
  rw [hfe j hj, Nat.mod_eq_of_lt hj] at h
  simp only [Bool.and_eq_true, Bool.or_eq_true, Bool.not_eq_true', Bool.and_eq_false_iff, decide_eq_true_eq, decide_eq_false_iff_not, beq_iff_eq] at h
  obtain ⟨⟨⟨h1, h2⟩, h3⟩, h4⟩ := h
  refine ⟨h1, ⟨fun h => ?_, fun h => ?_⟩, fun h => ?_, fun h => ?_⟩
  ·rw [decide_eq_true h] at h2
   have := h2.symm
   simp only [Bool.and_eq_true, decide_eq_true_eq] at this
   exact this
  ·have e : (decide (0 < j) && decide ((cat r (j - 1)).wd = 2)) = true := by simp [h.1, h.2]
   rw [e] at h2
   exact of_decide_eq_true h2
  ·rcases h3 with (h3 | h3) | h3
   ·exact absurd h.1 h3
   ·exact absurd h.2 h3
   ·exact (stB_iff _ _).1 h3
  ·rcases h4 with h4 | h4
   ·exact h4 h.1
   ·exact h4 h.2
 have okm : ∀ j, j < r.length → mayC (cat r j) = true → ((cat r j).wd = 0 ↔ 0 < j ∧ (cat r (j - 1)).wd = 2) → ((0 < j ∧ (cat r (j - 1)).wd = 2) → (cat r j).st = (cat r (j - 1)).st) → ¬ ((cat r j).wd = 2 ∧ j = r.length - 1) → okAt r.length r j = true := fun j hj h1 h2 h3 h4 => by
  unfold okAt
  rw [hfe j hj, Nat.mod_eq_of_lt hj, h1]
  by_cases hp : 0 < j ∧ (cat r (j - 1)).wd = 2
  ·have e : (decide (0 < j) && decide ((cat r (j - 1)).wd = 2)) = true := by simp [hp.1, hp.2]
   have hw := h2.2 hp
   rw [e, decide_eq_true hw, stB_yes (h3 hp), hw]
   simp
  ·have e : (decide (0 < j) && decide ((cat r (j - 1)).wd = 2)) = false := by
    by_cases a : 0 < j
    ·have : ¬ (cat r (j - 1)).wd = 2 := fun q => hp ⟨a, q⟩
     simp [this]
    ·simp [a]
   have hw : ¬ (cat r j).wd = 0 := fun q => hp (h2.1 q)
   rw [e, decide_eq_false hw]
   by_cases a : (cat r j).wd = 2
   ·have : ¬ j = r.length - 1 := fun q => h4 ⟨a, q⟩
    simp [this]
   ·simp [a]
 have bde : ∀ j, bad r j = false ↔ ((cat r j).wd = 2 → j + 1 < r.length ∧ (cat r (j + 1)).wd = 0 ∧ (cat r (j + 1)).st = (cat r j).st) ∧ ((cat r j).wd = 0 → 0 < j ∧ (cat r (j - 1)).wd = 2 ∧ (cat r (j - 1)).st = (cat r j).st) := fun j => by
  unfold bad
  by_cases a : (cat r j).wd = 2
  ·have hz : ¬ (cat r j).wd = 0 := by omega
   simp only [a, decide_true, Bool.true_and, show ¬ (2 : Nat) = 0 by decide, decide_false, Bool.false_and, Bool.or_false, Bool.or_eq_false_iff, decide_eq_false_iff_not, Bool.not_eq_false', stB_iff, false_implies, and_true, forall_const, Decidable.not_not, Nat.not_le, and_assoc]
  ·by_cases hz : (cat r j).wd = 0
   ·simp only [hz, show ¬ (0 : Nat) = 2 by decide, decide_true, Bool.true_and, decide_false, Bool.false_and, Bool.false_or, Bool.or_eq_false_iff, decide_eq_false_iff_not, Bool.not_eq_false', stB_iff, false_implies, true_and, forall_const, Decidable.not_not, and_assoc, Nat.pos_iff_ne_zero, ne_eq]
   ·simp [a, hz]
 constructor
 ·intro h
  refine ⟨fun j hj => (oke j hj (h j hj)).1, fun j hj => (bde j).2 ⟨fun h2 => ?_, fun h0 => ?_⟩⟩
  ·have h1 := oke j hj (h j hj)
   have hl : j + 1 < r.length := by
    have := h1.2.2.2
    rcases Nat.lt_or_ge (j + 1) r.length with q | q
    ·exact q
    ·exact absurd ⟨h2, by omega⟩ this
   have h3 := oke (j + 1) hl (h (j + 1) hl)
   rw [Nat.add_sub_cancel] at h3
   exact ⟨hl, h3.2.1.2 ⟨by omega, h2⟩, h3.2.2.1 ⟨by omega, h2⟩⟩
  ·have h1 := oke j hj (h j hj)
   have h2 := h1.2.1.1 h0
   exact ⟨h2.1, h2.2, (h1.2.2.1 h2).symm⟩
 ·rintro ⟨hm, hb⟩ j hj
  refine okm j hj (hm j hj) ⟨fun h0 => ?_, fun hp => ?_⟩ (fun hp => ?_) (fun hp => ?_)
  ·have := ((bde j).1 (hb j hj)).2 h0
   exact ⟨this.1, this.2.1⟩
  ·have := ((bde (j - 1)).1 (hb (j - 1) (by omega))).1 hp.2
   rw [show j - 1 + 1 = j by omega] at this
   exact this.2.1
  ·have := ((bde (j - 1)).1 (hb (j - 1) (by omega))).1 hp.2
   rw [show j - 1 + 1 = j by omega] at this
   exact this.2.2
  ·have := (((bde j).1 (hb j hj)).1 hp.1).1
   omega
theorem row_mem (c : List Cl) (cols rows : Nat) (hc : 1 ≤ cols) (hl : c.length = cols * rows) (i : Nat) (hi : i < c.length) : i / cols < rows ∧ i % cols < cols ∧ cat c i = cat (rowF c cols (i / cols)) (i % cols) := by
 have hm : i % cols < cols := Nat.mod_lt _ (by omega)
 refine ⟨Nat.div_lt_of_lt_mul (by omega), hm, ?_⟩
 rw [cat_row c cols _ _ hm, Nat.mul_comm, Nat.div_add_mod]
theorem cat_all (l : List Cl) (f : Cl → Bool) : l.all f = true ↔ ∀ i, i < l.length → f (cat l i) = true := by
 rw [List.all_eq_true]
 constructor
 ·intro h i hi
  exact h _ (cat_mem hi)
 ·intro h x hx
  obtain ⟨i, hi, rfl⟩ := List.mem_iff_getElem.1 hx
  have := h i hi
  unfold cat at this
  rwa [List.getD_eq_getElem?_getD, List.getElem?_eq_getElem hi] at this
/-- A grid may be, just where all its cells may and no half stands alone in a row. -/
theorem may_whole (cols rows : Nat) (c : List Cl) (hc : 1 ≤ cols) (hc2 : cols ≤ 512) (hr : 1 ≤ rows) (hr2 : rows ≤ 512) (hl : c.length = cols * rows) :
  mayG (cols : Int) (rows : Int) c = (c.all mayC && (List.range rows).all fun n => whF (rowF c cols n)) := by
 have hrl : ∀ n, n < rows → (rowF c cols n).length = cols := fun n hn => rowF_len c cols n (by rw [hl]; exact fits hn)
 have key : mayG (cols : Int) (rows : Int) c = true ↔ (c.all mayC && (List.range rows).all fun n => whF (rowF c cols n)) = true := by
  rw [mayG_rows cols rows c hc hc2 hr hr2 hl, Bool.and_eq_true, cat_all, List.all_eq_true]
  constructor
  ·intro h
   have h2 : ∀ n, n < rows → (∀ j, j < cols → mayC (cat (rowF c cols n) j) = true) ∧ (∀ j, j < cols → bad (rowF c cols n) j = false) := fun n hn => by
    have := (ok_row (rowF c cols n)).1 (by rw [hrl n hn]; exact h n hn)
    rwa [hrl n hn] at this
   refine ⟨fun i hi => ?_, fun n hn => ?_⟩
   ·obtain ⟨a, b, e⟩ := row_mem c cols rows hc hl i hi
    rw [e]
    exact (h2 _ a).1 _ b
   ·rw [List.mem_range] at hn
    unfold whF
    rw [List.all_eq_true, hrl n hn]
    intro j hj
    rw [List.mem_range] at hj
    rw [(h2 n hn).2 j hj]
    rfl
  ·rintro ⟨h1, h2⟩ n hn
   have h3 := h2 n (List.mem_range.2 hn)
   unfold whF at h3
   rw [List.all_eq_true, hrl n hn] at h3
   have := (ok_row (rowF c cols n)).2 ⟨fun j hj => ?_, fun j hj => ?_⟩
   ·rwa [hrl n hn] at this
   ·rw [hrl n hn] at hj
    rw [cat_row c cols n j hj]
    have hf := fits (cols := cols) hn
    exact h1 _ (by omega)
   ·rw [hrl n hn] at hj
    have := h3 j (List.mem_range.2 hj)
    cases hb : bad (rowF c cols n) j with
    | false => rfl
    | true => rw [hb] at this; cases this
 cases h1 : mayG (cols : Int) (rows : Int) c with
 | true => exact (key.1 h1).symm
 | false =>
  cases h2 : (c.all mayC && (List.range rows).all fun n => whF (rowF c cols n)) with
  | false => rfl
  | true => rw [key.2 h2] at h1; cases h1
theorem mayCells_any (v : Value) (l : List Cl) (hl : l.length ≤ 140737488355328) (w : World) (h : Cls w.heap.size w v l) :
  Calls Try.prog 37 #[v] w fun e w' => e = .returned (.bool (l.all mayC)) ∧ Below w.heap.size w w' := by
 obtain ⟨a, c, rfl, hc, h3⟩ := h
 have HCL : Box' (∀ k, k < l.length → ∃ b o, a = some ⟨b, o, none⟩ ∧ ∀ k, k < l.length → ∀ wx, Below w.heap.size w wx → wx.rangeAt b (o + k * 15) (cA (cat l k)).toList) := ⟨fun k hk => by
  rcases h3 with rfl | ⟨b, o, rfl, h5, h6⟩
  ·simp at hk
  ·refine ⟨b, o, rfl, fun k hk wx hb => ?_⟩
   intro j v hv
   have hj : j < 15 := by have := (List.getElem?_eq_some_iff.1 hv).1; rwa [cA_len] at this
   rw [hb.cell (p := ⟨b, o + k * 15 + j, none⟩) h5, h6 k hk j hj]
   simpa [cat] using hv⟩
 have WT : Box' ((∀ i, i < l.length → mayC (cat l i) = true) → l.all mayC = true) := ⟨fun h => (cat_all l mayC).2 h⟩
 have WF : Box' (∀ i, i < l.length → mayC (cat l i) = false → l.all mayC = false) := ⟨fun i hi h => by
  cases e : l.all mayC with
  | false => rfl
  | true => rw [(cat_all l mayC).1 e i hi] at h; cases h⟩
 have MF := Box'.mk mayF_any
 generalize hn : l.length = n at *
 clear h3 hn
 go_enter Try.func37, Try.ntmps37
 go_wp2_with fail
 go_loopw [6] (fun i wr => ∃ k : Nat, k ≤ n ∧ i = .int .i64 (k : Int) ∧ Box' (∀ i, i < k → mayC (cat l i) = true) ∧ Box' (Below w.heap.size w wr)) (fun i _ => n - (intOf i).toNat)
 case atStart => exact ⟨0, by omega, rfl, ⟨fun i hi => by omega⟩, ⟨Below.refl _ _⟩⟩
 case round =>
  obtain ⟨k, hk, rfl, OK, BB⟩ := hrel
  by_cases hlt : k < n
  case neg =>
   obtain rfl : k = n := by omega
   have E := Box'.mk (WT.out OK.out)
   clear HCL
   go_wp2_with fail
   go_ret
   exact ⟨by rw [E.out]; rfl, BB.out⟩
  case pos =>
   obtain ⟨b, o, rfl, HC0⟩ := HCL.out k hlt
   have HX := Box'.mk (HC0 k hlt)
   have HY := Box'.mk (fun h => HC0 (k - 1) (by omega) h)
   have MY := Box'.mk (MF.out (cat l k))
   clear HCL HC0 MF
   go_wp2_with fail
   by_cases hz : k = 0
   case pos =>
    subst hz
    cases hm : mayC (cat l 0) with
    | false =>
     have MZ := Box'.mk MY.out
     rw [hm] at MZ
     refine wp_region_lex (fun wa => Below w.heap.size w wa) (by kernel_rfl) (by kernel_rfl) (BB.out.drew) ?_
     (go_big_quiet_want; go_big_quiet_op; first | go_big_quiet_on | (refine ⟨_, fun _ _ => rfl, ?_⟩; go_big_quiet_on) | (refine ⟨_, fun _ _ _ => rfl, ?_⟩; go_big_quiet_on))
     (go_big_quiet_want; refine qC_of (.bool true) (fun wq hC => by unfold execOp; simp [go_sem] <;> first | assumption | omega) ?_; simp only [Act.put, siB, stS, stZ]; go_big_quiet_on)
     (go_big_quiet_want; go_big_quiet_op; first | go_big_quiet_on | (refine ⟨_, fun _ _ => rfl, ?_⟩; go_big_quiet_on) | (refine ⟨_, fun _ _ _ => rfl, ?_⟩; go_big_quiet_on))
     iterate 10 go_big_quiet_skip
     iterate 5 (go_big_quiet_want; go_big_quiet_op; first | go_big_quiet_on | (refine ⟨_, fun _ _ => rfl, ?_⟩; go_big_quiet_on) | (refine ⟨_, fun _ _ _ => rfl, ?_⟩; go_big_quiet_on))
     (go_big_quiet_want; refine qC_mid 72 (.tmp 26) rfl b (o) (cA (cat l 0)) _ Try.underlying72 rfl s26 rfl (fun wq hC => (by have := HX.out wq hC; simpa using this)) ?_; simp only [Act.put, siB, stS, stZ]; go_big_quiet_on)
     (go_big_quiet_want; refine qC_call 34 #[.agg (cA (cat l 0))] (.bool false) (fun w => by simp [go_sem]) (fun wq hC => (MZ.out wq).mono fun e w' h => ⟨h.1, hC.trans (h.2.mono hC.size)⟩) ?_; simp only [Act.put, siB, stS, stZ]; go_big_quiet_on)
     iterate 2 (go_big_quiet_want; go_big_quiet_op; first | go_big_quiet_on | (refine ⟨_, fun _ _ => rfl, ?_⟩; go_big_quiet_on) | (refine ⟨_, fun _ _ _ => rfl, ?_⟩; go_big_quiet_on))
     refine wpQuiet_nil ?_
     intro wz hC
     have E := Box'.mk (WF.out 0 hlt hm)
     have B2 := Box'.mk hC
     clear hC
     go_wp2_with fail
     go_ret
     exact ⟨by rw [E.out]; rfl, B2.out⟩
    | true =>
     have MZ := Box'.mk MY.out
     rw [hm] at MZ
     have OK2 : Box' (∀ i, i < 0 + 1 → mayC (cat l i) = true) := ⟨fun i hi => by
      rcases Nat.lt_or_ge i 0 with q | q
      ·exact OK.out i q
      ·rw [show i = 0 by omega]; exact hm⟩
     refine wp_region_lex (fun wa => Below w.heap.size w wa) (by kernel_rfl) (by kernel_rfl) (BB.out.drew) ?_
     (go_big_quiet_want; go_big_quiet_op; first | go_big_quiet_on | (refine ⟨_, fun _ _ => rfl, ?_⟩; go_big_quiet_on) | (refine ⟨_, fun _ _ _ => rfl, ?_⟩; go_big_quiet_on))
     (go_big_quiet_want; refine qC_of (.bool true) (fun wq hC => by unfold execOp; simp [go_sem] <;> first | assumption | omega) ?_; simp only [Act.put, siB, stS, stZ]; go_big_quiet_on)
     (go_big_quiet_want; go_big_quiet_op; first | go_big_quiet_on | (refine ⟨_, fun _ _ => rfl, ?_⟩; go_big_quiet_on) | (refine ⟨_, fun _ _ _ => rfl, ?_⟩; go_big_quiet_on))
     iterate 10 go_big_quiet_skip
     iterate 5 (go_big_quiet_want; go_big_quiet_op; first | go_big_quiet_on | (refine ⟨_, fun _ _ => rfl, ?_⟩; go_big_quiet_on) | (refine ⟨_, fun _ _ _ => rfl, ?_⟩; go_big_quiet_on))
     (go_big_quiet_want; refine qC_mid 72 (.tmp 26) rfl b (o) (cA (cat l 0)) _ Try.underlying72 rfl s26 rfl (fun wq hC => (by have := HX.out wq hC; simpa using this)) ?_; simp only [Act.put, siB, stS, stZ]; go_big_quiet_on)
     (go_big_quiet_want; refine qC_call 34 #[.agg (cA (cat l 0))] (.bool true) (fun w => by simp [go_sem]) (fun wq hC => (MZ.out wq).mono fun e w' h => ⟨h.1, hC.trans (h.2.mono hC.size)⟩) ?_; simp only [Act.put, siB, stS, stZ]; go_big_quiet_on)
     iterate 2 (go_big_quiet_want; go_big_quiet_op; first | go_big_quiet_on | (refine ⟨_, fun _ _ => rfl, ?_⟩; go_big_quiet_on) | (refine ⟨_, fun _ _ _ => rfl, ?_⟩; go_big_quiet_on))
     refine wpQuiet_nil ?_
     intro wz hC
     have B2 := Box'.mk hC
     clear hC
     go_wp2_with fail
     exact ⟨⟨0 + 1, by omega, by go_num, OK2, B2⟩, by simp [intOf]; omega⟩
   case neg =>
    by_cases he : cat l k = cat l (k - 1)
    case pos =>
     have hm : mayC (cat l k) = true := by rw [he]; exact OK.out (k - 1) (by omega)
     have EQ : Box' ((!clB (cat l k) (cat l (k - 1))) = false) := ⟨by rw [clB_yes he]; rfl⟩
     have OK2 : Box' (∀ i, i < k + 1 → mayC (cat l i) = true) := ⟨fun i hi => by
      rcases Nat.lt_or_ge i k with q | q
      ·exact OK.out i q
      ·rw [show i = k by omega]; exact hm⟩
     clear he hm
     refine wp_region_lex (fun wa => Below w.heap.size w wa) (by kernel_rfl) (by kernel_rfl) (BB.out.drew) ?_
     (go_big_quiet_want; go_big_quiet_op; first | go_big_quiet_on | (refine ⟨_, fun _ _ => rfl, ?_⟩; go_big_quiet_on) | (refine ⟨_, fun _ _ _ => rfl, ?_⟩; go_big_quiet_on))
     (go_big_quiet_want; refine qC_of (.bool false) (fun wq hC => by unfold execOp; simp [go_sem] <;> first | assumption | omega) ?_; simp only [Act.put, siB, stS, stZ]; go_big_quiet_on)
     iterate 4 (go_big_quiet_want; go_big_quiet_op; first | go_big_quiet_on | (refine ⟨_, fun _ _ => rfl, ?_⟩; go_big_quiet_on) | (refine ⟨_, fun _ _ _ => rfl, ?_⟩; go_big_quiet_on))
     (go_big_quiet_want; refine qC_mid 72 (.tmp 14) rfl b (o + k * 15) (cA (cat l k)) _ Try.underlying72 rfl s26 rfl (fun wq hC => (HX.out wq hC)) ?_; simp only [Act.put, siB, stS, stZ]; go_big_quiet_on)
     iterate 3 (go_big_quiet_want; go_big_quiet_op; first | go_big_quiet_on | (refine ⟨_, fun _ _ => rfl, ?_⟩; go_big_quiet_on) | (refine ⟨_, fun _ _ _ => rfl, ?_⟩; go_big_quiet_on))
     (go_big_quiet_want; refine qC_of (.pointer (some ⟨b, o + (k - 1) * 15, none⟩)) (fun wq hC => by unfold execOp; simp [go_sem] <;> omega) ?_; simp only [Act.put, siB, stS, stZ]; go_big_quiet_on)
     (go_big_quiet_want; refine qC_mid 72 (.tmp 19) rfl b (o + (k - 1) * 15) (cA (cat l (k - 1))) _ Try.underlying72 rfl s26 rfl (fun wq hC => (HY.out wq hC)) ?_; simp only [Act.put, siB, stS, stZ]; go_big_quiet_on)
     (go_big_quiet_want; refine qC_of (.bool false) (fun wq hC => (run_neq_cell_op 72 (.tmp 15) (.tmp 20) rfl (cat l k) (cat l (k - 1)) rfl rfl _ EQ.out wq)) ?_; simp only [Act.put, siB, stS, stZ]; go_big_quiet_on)
     iterate 2 (go_big_quiet_want; go_big_quiet_op; first | go_big_quiet_on | (refine ⟨_, fun _ _ => rfl, ?_⟩; go_big_quiet_on) | (refine ⟨_, fun _ _ _ => rfl, ?_⟩; go_big_quiet_on))
     iterate 6 go_big_quiet_skip
     (go_big_quiet_want; go_big_quiet_op; first | go_big_quiet_on | (refine ⟨_, fun _ _ => rfl, ?_⟩; go_big_quiet_on) | (refine ⟨_, fun _ _ _ => rfl, ?_⟩; go_big_quiet_on))
     refine wpQuiet_nil ?_
     intro wz hC
     have B2 := Box'.mk hC
     clear hC
     go_wp2_with fail
     exact ⟨⟨k + 1, by omega, by go_num, OK2, B2⟩, by simp [intOf]; omega⟩
    case neg =>
     have EQ : Box' ((!clB (cat l k) (cat l (k - 1))) = true) := ⟨by rw [clB_no he]; rfl⟩
     clear he
     cases hm : mayC (cat l k) with
     | false =>
      have MZ := Box'.mk MY.out
      rw [hm] at MZ
      refine wp_region_lex (fun wa => Below w.heap.size w wa) (by kernel_rfl) (by kernel_rfl) (BB.out.drew) ?_
      (go_big_quiet_want; go_big_quiet_op; first | go_big_quiet_on | (refine ⟨_, fun _ _ => rfl, ?_⟩; go_big_quiet_on) | (refine ⟨_, fun _ _ _ => rfl, ?_⟩; go_big_quiet_on))
      (go_big_quiet_want; refine qC_of (.bool false) (fun wq hC => by unfold execOp; simp [go_sem] <;> first | assumption | omega) ?_; simp only [Act.put, siB, stS, stZ]; go_big_quiet_on)
      iterate 4 (go_big_quiet_want; go_big_quiet_op; first | go_big_quiet_on | (refine ⟨_, fun _ _ => rfl, ?_⟩; go_big_quiet_on) | (refine ⟨_, fun _ _ _ => rfl, ?_⟩; go_big_quiet_on))
      (go_big_quiet_want; refine qC_mid 72 (.tmp 14) rfl b (o + k * 15) (cA (cat l k)) _ Try.underlying72 rfl s26 rfl (fun wq hC => (HX.out wq hC)) ?_; simp only [Act.put, siB, stS, stZ]; go_big_quiet_on)
      iterate 3 (go_big_quiet_want; go_big_quiet_op; first | go_big_quiet_on | (refine ⟨_, fun _ _ => rfl, ?_⟩; go_big_quiet_on) | (refine ⟨_, fun _ _ _ => rfl, ?_⟩; go_big_quiet_on))
      (go_big_quiet_want; refine qC_of (.pointer (some ⟨b, o + (k - 1) * 15, none⟩)) (fun wq hC => by unfold execOp; simp [go_sem] <;> omega) ?_; simp only [Act.put, siB, stS, stZ]; go_big_quiet_on)
      (go_big_quiet_want; refine qC_mid 72 (.tmp 19) rfl b (o + (k - 1) * 15) (cA (cat l (k - 1))) _ Try.underlying72 rfl s26 rfl (fun wq hC => (HY.out wq hC)) ?_; simp only [Act.put, siB, stS, stZ]; go_big_quiet_on)
      (go_big_quiet_want; refine qC_of (.bool true) (fun wq hC => (run_neq_cell_op 72 (.tmp 15) (.tmp 20) rfl (cat l k) (cat l (k - 1)) rfl rfl _ EQ.out wq)) ?_; simp only [Act.put, siB, stS, stZ]; go_big_quiet_on)
      iterate 5 (go_big_quiet_want; go_big_quiet_op; first | go_big_quiet_on | (refine ⟨_, fun _ _ => rfl, ?_⟩; go_big_quiet_on) | (refine ⟨_, fun _ _ _ => rfl, ?_⟩; go_big_quiet_on))
      (go_big_quiet_want; refine qC_mid 72 (.tmp 26) rfl b (o + k * 15) (cA (cat l k)) _ Try.underlying72 rfl s26 rfl (fun wq hC => (HX.out wq hC)) ?_; simp only [Act.put, siB, stS, stZ]; go_big_quiet_on)
      (go_big_quiet_want; refine qC_call 34 #[.agg (cA (cat l k))] (.bool false) (fun w => by simp [go_sem]) (fun wq hC => (MZ.out wq).mono fun e w' h => ⟨h.1, hC.trans (h.2.mono hC.size)⟩) ?_; simp only [Act.put, siB, stS, stZ]; go_big_quiet_on)
      iterate 2 (go_big_quiet_want; go_big_quiet_op; first | go_big_quiet_on | (refine ⟨_, fun _ _ => rfl, ?_⟩; go_big_quiet_on) | (refine ⟨_, fun _ _ _ => rfl, ?_⟩; go_big_quiet_on))
      refine wpQuiet_nil ?_
      intro wz hC
      have E := Box'.mk (WF.out k hlt hm)
      have B2 := Box'.mk hC
      clear hC
      go_wp2_with fail
      go_ret
      exact ⟨by rw [E.out]; rfl, B2.out⟩
     | true =>
      have MZ := Box'.mk MY.out
      rw [hm] at MZ
      have OK2 : Box' (∀ i, i < k + 1 → mayC (cat l i) = true) := ⟨fun i hi => by
       rcases Nat.lt_or_ge i k with q | q
       ·exact OK.out i q
       ·rw [show i = k by omega]; exact hm⟩
      refine wp_region_lex (fun wa => Below w.heap.size w wa) (by kernel_rfl) (by kernel_rfl) (BB.out.drew) ?_
      (go_big_quiet_want; go_big_quiet_op; first | go_big_quiet_on | (refine ⟨_, fun _ _ => rfl, ?_⟩; go_big_quiet_on) | (refine ⟨_, fun _ _ _ => rfl, ?_⟩; go_big_quiet_on))
      (go_big_quiet_want; refine qC_of (.bool false) (fun wq hC => by unfold execOp; simp [go_sem] <;> first | assumption | omega) ?_; simp only [Act.put, siB, stS, stZ]; go_big_quiet_on)
      iterate 4 (go_big_quiet_want; go_big_quiet_op; first | go_big_quiet_on | (refine ⟨_, fun _ _ => rfl, ?_⟩; go_big_quiet_on) | (refine ⟨_, fun _ _ _ => rfl, ?_⟩; go_big_quiet_on))
      (go_big_quiet_want; refine qC_mid 72 (.tmp 14) rfl b (o + k * 15) (cA (cat l k)) _ Try.underlying72 rfl s26 rfl (fun wq hC => (HX.out wq hC)) ?_; simp only [Act.put, siB, stS, stZ]; go_big_quiet_on)
      iterate 3 (go_big_quiet_want; go_big_quiet_op; first | go_big_quiet_on | (refine ⟨_, fun _ _ => rfl, ?_⟩; go_big_quiet_on) | (refine ⟨_, fun _ _ _ => rfl, ?_⟩; go_big_quiet_on))
      (go_big_quiet_want; refine qC_of (.pointer (some ⟨b, o + (k - 1) * 15, none⟩)) (fun wq hC => by unfold execOp; simp [go_sem] <;> omega) ?_; simp only [Act.put, siB, stS, stZ]; go_big_quiet_on)
      (go_big_quiet_want; refine qC_mid 72 (.tmp 19) rfl b (o + (k - 1) * 15) (cA (cat l (k - 1))) _ Try.underlying72 rfl s26 rfl (fun wq hC => (HY.out wq hC)) ?_; simp only [Act.put, siB, stS, stZ]; go_big_quiet_on)
      (go_big_quiet_want; refine qC_of (.bool true) (fun wq hC => (run_neq_cell_op 72 (.tmp 15) (.tmp 20) rfl (cat l k) (cat l (k - 1)) rfl rfl _ EQ.out wq)) ?_; simp only [Act.put, siB, stS, stZ]; go_big_quiet_on)
      iterate 5 (go_big_quiet_want; go_big_quiet_op; first | go_big_quiet_on | (refine ⟨_, fun _ _ => rfl, ?_⟩; go_big_quiet_on) | (refine ⟨_, fun _ _ _ => rfl, ?_⟩; go_big_quiet_on))
      (go_big_quiet_want; refine qC_mid 72 (.tmp 26) rfl b (o + k * 15) (cA (cat l k)) _ Try.underlying72 rfl s26 rfl (fun wq hC => (HX.out wq hC)) ?_; simp only [Act.put, siB, stS, stZ]; go_big_quiet_on)
      (go_big_quiet_want; refine qC_call 34 #[.agg (cA (cat l k))] (.bool true) (fun w => by simp [go_sem]) (fun wq hC => (MZ.out wq).mono fun e w' h => ⟨h.1, hC.trans (h.2.mono hC.size)⟩) ?_; simp only [Act.put, siB, stS, stZ]; go_big_quiet_on)
      iterate 2 (go_big_quiet_want; go_big_quiet_op; first | go_big_quiet_on | (refine ⟨_, fun _ _ => rfl, ?_⟩; go_big_quiet_on) | (refine ⟨_, fun _ _ _ => rfl, ?_⟩; go_big_quiet_on))
      refine wpQuiet_nil ?_
      intro wz hC
      have B2 := Box'.mk hC
      clear hC
      go_wp2_with fail
      exact ⟨⟨k + 1, by omega, by go_num, OK2, B2⟩, by simp [intOf]; omega⟩
end Go.Proofs.Ytepepoabbbjmgaa.Sc
