/- Two cells of a row that make a wide character: the closure. -/
import Derived.Test.YtepepoabbbjmgaaSNb
import Derived.Test.YtepepoabbbjmgaaSCa
namespace Go.Proofs.Ytepepoabbbjmgaa.Sc
open Go.RowKit Go.BigFrame
set_option linter.unusedVariables false
set_option linter.unusedSimpArgs false
set_option maxHeartbeats 8000000
set_option maxRecDepth 100000
theorem stB_comm (s t : St) : stB s t = stB t s := by
 cases e : stB s t with
 | true => exact (stB_yes ((stB_iff s t).1 e).symm).symm
 | false => exact (stB_no (fun h => by rw [stB_yes h.symm] at e; cases e)).symm
/-- A slice stands in the block p, and the cells r behind it. -/
structure RowM (w : World) (p b x n c : Nat) (r : List Cl) : Prop where
 box : Row w p 37 #[.slice (some ⟨b, x, none⟩) n c]
 len : r.length = n
 cl : ∀ k, k < n → ∀ j, j < 15 → w.cell? ⟨b, x + k * 15 + j, none⟩ = (cA (cat r k))[j]?
 lt : b < w.heap.size
theorem RowM.below {w w' : World} {p b x n c : Nat} {r : List Cl} (h : RowM w p b x n c r) (hb : Below w.heap.size w w') : RowM w' p b x n c r :=
 ⟨h.box.below hb h.box.lt, h.len, fun k hk j hj => by rw [hb.cell (p := ⟨b, x + k * 15 + j, none⟩) h.lt]; exact h.cl k hk j hj, Nat.lt_of_lt_of_le h.lt hb.size⟩
theorem RowM.drew {w : World} {p b x n c : Nat} {r : List Cl} (h : RowM w p b x n c r) : RowM w.drew p b x n c r := h.below (bR.drew)
theorem RowM.range {w : World} {p b x n c : Nat} {r : List Cl} (h : RowM w p b x n c r) (k : Nat) (hk : k < n) : w.rangeAt b (x + k * 15) (cA (cat r k)).toList := fun j v hv => by
 have hj : j < 15 := by have := (List.getElem?_eq_some_iff.1 hv).1; rwa [cA_len] at this
 rw [h.cl k hk j hj]
 simpa using hv
theorem RowM.style {w : World} {p b x n c : Nat} {r : List Cl} (h : RowM w p b x n c r) (k : Nat) (hk : k < n) : w.rangeAt b (x + k * 15 + 5) (sA (cat r k).st).toList := fun j v hv => by
 have hj : j < 10 := by have := (List.getElem?_eq_some_iff.1 hv).1; exact this
 rw [Nat.add_assoc (x + k * 15), h.cl k hk (5 + j) (by omega)]
 have e : ∀ j, j < 10 → (cA (cat r k))[5 + j]? = (sA (cat r k).st).toList[j]? := by
  intro j hj
  rcases (show j = 0 ∨ j = 1 ∨ j = 2 ∨ j = 3 ∨ j = 4 ∨ j = 5 ∨ j = 6 ∨ j = 7 ∨ j = 8 ∨ j = 9 by omega) with rfl | rfl | rfl | rfl | rfl | rfl | rfl | rfl | rfl | rfl <;> rfl
 rw [e j hj]
 exact hv
theorem RowM.wide {w : World} {p b x n c : Nat} {r : List Cl} (h : RowM w p b x n c r) (k : Nat) (hk : k < n) : w.cell? ⟨b, x + k * 15 + 4, none⟩ = some (.int .u8 ((cat r k).wd : Int)) := h.cl k hk 4 (by decide)
section
variable {ops : Array Oper} {rest : List Oper} {op : Oper} {a : Act} {w : World} {Q : Exit → Act → World → Prop}
theorem wp_load_style {K : Act → World → Prop} (x : Operand) (ho : op.op = .load 41 x) (b o : Nat) (s : St) (hx : a.eval x = .pointer (some ⟨b, o, none⟩)) (hc : w.rangeAt b o (sA s).toList) (h : K (a.put op.dst (.agg (sA s))) w) : op.wp Try.prog a w K Q :=
 wp_load_mid 41 x ho b o hx (sA s).toList _ hc Try.underlying41 rfl s24 h
end
/-- Do two cells of a row make a wide character? -/
def prF (r : List Cl) (i : Int) : Bool := decide (0 ≤ i ∧ i + 1 < (r.length : Int)) && (decide ((cat r i.toNat).wd = 2) && (decide ((cat r (i.toNat + 1)).wd = 0) && stB (cat r i.toNat).st (cat r (i.toNat + 1)).st))
theorem bad_pr (r : List Cl) (i : Nat) (hi : i < r.length) : bad r i = if (cat r i).wd = 2 then !prF r (i : Int) else if (cat r i).wd = 0 then !prF r ((i : Int) - 1) else false := by
 unfold bad prF
 by_cases h2 : (cat r i).wd = 2
 ·rw [if_pos h2]
  simp only [h2, Int.toNat_natCast, decide_true, Bool.true_and, show ¬ (2 : Nat) = 0 by decide, decide_false, Bool.false_and, Bool.or_false]
  by_cases h3 : i + 1 < r.length
  ·rw [decide_eq_false (show ¬ r.length ≤ i + 1 by omega), decide_eq_true (show (0 : Int) ≤ i ∧ (i : Int) + 1 < (r.length : Int) by omega), stB_comm]
   simp
  ·rw [decide_eq_true (show r.length ≤ i + 1 by omega), decide_eq_false (show ¬ ((0 : Int) ≤ i ∧ (i : Int) + 1 < (r.length : Int)) by omega)]
   simp
 ·rw [if_neg h2]
  by_cases h0 : (cat r i).wd = 0
  ·rw [if_pos h0]
   simp only [h0, show ¬ (0 : Nat) = 2 by decide, decide_false, Bool.false_and, Bool.false_or, decide_true, Bool.true_and]
   by_cases hz : i = 0
   ·subst hz
    rw [decide_eq_false (show ¬ ((0 : Int) ≤ ((0 : Nat) : Int) - 1 ∧ ((0 : Nat) : Int) - 1 + 1 < (r.length : Int)) by omega)]
    simp
   ·rw [decide_eq_false hz, decide_eq_true (show (0 : Int) ≤ (i : Int) - 1 ∧ (i : Int) - 1 + 1 < (r.length : Int) by omega), show ((i : Int) - 1).toNat = i - 1 by omega, show i - 1 + 1 = i by omega, h0]
    simp
  ·rw [if_neg h0]
   simp [h2, h0]
theorem pair_out (p b x n c : Nat) (r : List Cl) (i : Int) (h : ¬ (0 ≤ i ∧ i + 1 < (n : Int))) (hi1 : -2 < i) (hi2 : i < 1000000) (w : World) (hn : n ≤ 1000000) (hr : RowM w p b x n c r) :
  Calls Try.prog 58 #[.int .i64 i, .pointer (some ⟨p, 0, none⟩)] w fun e w' => e = .returned (.bool false) ∧ Below w.heap.size w w' := by
 have c0 : w.cell? ⟨p, 0, none⟩ = some (.slice (some ⟨b, x, none⟩) n c) := hr.box.cell 0
 clear hr
 by_cases h1 : i < 0
 ·go_enter Try.func58, Try.ntmps58
  go_wp2_with fail
  go_ret
  exact ⟨rfl, Below.refl _ _⟩
 ·have h2 : (n : Int) ≤ i + 1 := by omega
  clear h
  go_enter Try.func58, Try.ntmps58
  go_wp2_with fail
  go_ret
  exact ⟨rfl, Below.refl _ _⟩
theorem pair_in (p b x n c : Nat) (r : List Cl) (i : Nat) (h : i + 1 < n) (w : World) (hn : n ≤ 1000000) (hr : RowM w p b x n c r) :
  Calls Try.prog 58 #[.int .i64 (i : Int), .pointer (some ⟨p, 0, none⟩)] w fun e w' => e = .returned (.bool (decide ((cat r i).wd = 2) && (decide ((cat r (i + 1)).wd = 0) && stB (cat r i).st (cat r (i + 1)).st))) ∧ Below w.heap.size w w' := by
 have c0 : w.cell? ⟨p, 0, none⟩ = some (.slice (some ⟨b, x, none⟩) n c) := hr.box.cell 0
 have hlt : i < n := by omega
 have HR := Box'.mk hr
 have h' : (i : Int) + 1 < (n : Int) := by omega
 clear hr
 go_enter Try.func58, Try.ntmps58
 go_wp2_with fail
 refine wp_region_growg 9 (by kernel_rfl) 45 rfl (by kernel_rfl) (fun wa wb => Below wa.heap.size wa wb) (fun wa => RowM wa p b x n c r ∧ Below w.heap.size w wa) (fun kc wa v => v = (match kc with
  | 0 => .slice (some ⟨b, x, none⟩) n c
  | 1 => .int .i64 (i : Int)
  | 2 => .pointer (some ⟨b, x + i * 15, none⟩)
  | 3 => .slice (some ⟨b, x, none⟩) n c
  | 4 => .int .i64 (i : Int)
  | 5 => .int .i64 ((i : Int) + 1)
  | 6 => .pointer (some ⟨b, x + (i + 1) * 15, none⟩)
  | 7 => .pointer (some ⟨b, x + i * 15, none⟩)
  | 8 => .pointer (some ⟨b, x + (i + 1) * 15, none⟩)
  | _ => undef)) ?_ ?_ ?_ ?_ ?_ ?_
 ·intro i o' j b' hi hg wa v hC hV
  have hlt : i < 9 := by rcases Nat.lt_or_ge i 9 with q | q; exact q; rw [List.getElem?_eq_none (by simpa using q)] at hi; cases hi
  revert hi hg hV
  rcases (show i = 0 ∨ i = 1 ∨ i = 2 ∨ i = 3 ∨ i = 4 ∨ i = 5 ∨ i = 6 ∨ i = 7 ∨ i = 8 by omega) with rfl | rfl | rfl | rfl | rfl | rfl | rfl | rfl | rfl <;>
   (intro hi hg hV; simp only [tkS, List.getElem?_cons_zero, List.getElem?_cons_succ, Option.some.injEq] at hi; subst hi; first | (cases hg; exact hV) | (cases hg))
 ·rintro wa wb hb ⟨q1, q2⟩; exact ⟨q1.below hb, q2.trans (hb.mono q2.size)⟩
 ·exact fun kc v wa wb hC1 hb h => h
 ·exact ⟨HR.out.drew, bR.drew⟩
 ·refine ⟨?a0, ?a1, ?a2, ?a3, ?a4, ?a5, ?a6, ?a7, ?a8, trivial⟩
  all_goals intro f wq hC hd KK hK
  all_goals have cq0 : wq.cell? ⟨p, 0, none⟩ = some (.slice (some ⟨b, x, none⟩) n c) := hC.1.box.cell 0
  all_goals simp (disch := decide +kernel) only [tkS, tkZ, setAll, siB, stS, stZ, Nat.zero_add, Nat.reduceAdd, hd] at hK ⊢
  all_goals (skip; refine wp_of_quiet rfl ?_; go_big_quiet_step (fail); exact wpQuiet_nil (hK _ _ (rfl) bR))
 ·intro f wz hC hv
  simp (disch := decide) only [tkS, tkZ, List.drop_succ_cons, List.drop_zero, setAll, siB, stS, stZ, Nat.zero_add, Nat.reduceAdd, hv]
  clear hv
  have HR2 := Box'.mk hC.1
  have HB2 := Box'.mk hC.2
  clear hC HR c0
  go_wp2_with fail
  by_cases h1 : ((cat r i).wd : Int) = 2
  case neg =>
   have E : Box' ((decide ((cat r i).wd = 2) && (decide ((cat r (i + 1)).wd = 0) && stB (cat r i).st (cat r (i + 1)).st)) = false) := ⟨by rw [decide_eq_false (by omega)]; rfl⟩
   obtain ⟨d, hd⟩ : ∃ d : Int, ((cat r i).wd : Int) = d := ⟨_, rfl⟩
   rw [hd] at h1
   refine wp_region_growh 23 (by kernel_rfl) 45 rfl (by kernel_rfl) (fun wa wb => Below wa.heap.size wa wb) (fun wa => RowM wa p b x n c r ∧ Below w.heap.size w wa) (fun kc wa v => v = (match kc with
    | 0 => .pointer (some ⟨b, x + i * 15, none⟩)
    | 1 => .pointer (some ⟨b, x + i * 15, none⟩)
    | 2 => .pointer (some ⟨b, x + i * 15 + 4, none⟩)
    | 3 => .int .u8 d
    | 4 => .bool false
    | 5 => .bool false
    | 6 => undef
    | 7 => undef
    | 8 => undef
    | 9 => undef
    | 10 => undef
    | 11 => .bool false
    | 12 => .bool false
    | 13 => undef
    | 14 => undef
    | 15 => undef
    | 16 => undef
    | 17 => undef
    | 18 => undef
    | 19 => undef
    | 20 => undef
    | 21 => undef
    | 22 => .bool false
    | _ => undef)) (fun i => !([6, 7, 8, 9, 10, 13, 14, 15, 16, 17, 18, 19, 20, 21] : List Nat).contains i) ?_ ?_ ?_ ?_ ?_ ?_ ?_ ?_
   ·intro i o' j b' hi hg wa v hC hV
    have hlt : i < 23 := by rcases Nat.lt_or_ge i 23 with q | q; exact q; rw [List.getElem?_eq_none (by simpa using q)] at hi; cases hi
    revert hi hg hV
    rcases (show i = 0 ∨ i = 1 ∨ i = 2 ∨ i = 3 ∨ i = 4 ∨ i = 5 ∨ i = 6 ∨ i = 7 ∨ i = 8 ∨ i = 9 ∨ i = 10 ∨ i = 11 ∨ i = 12 ∨ i = 13 ∨ i = 14 ∨ i = 15 ∨ i = 16 ∨ i = 17 ∨ i = 18 ∨ i = 19 ∨ i = 20 ∨ i = 21 ∨ i = 22 by omega) with rfl | rfl | rfl | rfl | rfl | rfl | rfl | rfl | rfl | rfl | rfl | rfl | rfl | rfl | rfl | rfl | rfl | rfl | rfl | rfl | rfl | rfl | rfl <;>
     (intro hi hg hV; simp only [tkS, List.getElem?_cons_zero, List.getElem?_cons_succ, Option.some.injEq] at hi; subst hi; first | (cases hg; first | exact hV | exact (show v ≠ _ from (by rw [hV]; intro hh; cases hh))) | (cases hg))
   ·intro i o' hi hg
    have hlt : i < 23 := by rcases Nat.lt_or_ge i 23 with q | q; exact q; rw [List.getElem?_eq_none (by simpa using q)] at hi; cases hi
    revert hi hg
    rcases (show i = 0 ∨ i = 1 ∨ i = 2 ∨ i = 3 ∨ i = 4 ∨ i = 5 ∨ i = 6 ∨ i = 7 ∨ i = 8 ∨ i = 9 ∨ i = 10 ∨ i = 11 ∨ i = 12 ∨ i = 13 ∨ i = 14 ∨ i = 15 ∨ i = 16 ∨ i = 17 ∨ i = 18 ∨ i = 19 ∨ i = 20 ∨ i = 21 ∨ i = 22 by omega) with rfl | rfl | rfl | rfl | rfl | rfl | rfl | rfl | rfl | rfl | rfl | rfl | rfl | rfl | rfl | rfl | rfl | rfl | rfl | rfl | rfl | rfl | rfl <;>
     (intro hi hg; simp only [tkS, List.getElem?_cons_zero, List.getElem?_cons_succ, Option.some.injEq] at hi; subst hi; first | (cases hg; done) | (intro hh; cases hh))
   ·intro i hi wa
    have hi' : (!([6, 7, 8, 9, 10, 13, 14, 15, 16, 17, 18, 19, 20, 21] : List Nat).contains i) = false := hi
    have hm : i ∈ ([6, 7, 8, 9, 10, 13, 14, 15, 16, 17, 18, 19, 20, 21] : List Nat) := List.contains_iff_mem.1 (by cases hc : ([6, 7, 8, 9, 10, 13, 14, 15, 16, 17, 18, 19, 20, 21] : List Nat).contains i with | true => rfl | false => rw [hc] at hi'; cases hi')
    simp only [List.mem_cons, List.not_mem_nil, or_false] at hm
    rcases hm with rfl | rfl | rfl | rfl | rfl | rfl | rfl | rfl | rfl | rfl | rfl | rfl | rfl | rfl <;> rfl
   ·rintro wa wb hb ⟨q1, q2⟩; exact ⟨q1.below hb, q2.trans (hb.mono q2.size)⟩
   ·exact fun kc v wa wb hC1 hb h => h
   ·exact ⟨HR2.out.drew, HB2.out.drew⟩
   ·refine ⟨?b0, ?b1, ?b2, ?b3, ?b4, ?b5, ?b6, ?b7, ?b8, ?b9, ?b10, ?b11, ?b12, ?b13, ?b14, ?b15, ?b16, ?b17, ?b18, ?b19, ?b20, ?b21, ?b22, trivial⟩
    all_goals try (intro hh; cases hh; done)
    all_goals intro _ f wq hC hd KK hK
    all_goals simp (disch := decide +kernel) only [tkS, tkZ, setAll, siB, stS, stZ, Nat.zero_add, Nat.reduceAdd, hd] at hK ⊢
    case b3 =>
     clear hd
     have c4 : wq.cell? ⟨b, x + i * 15 + 4, none⟩ = some (.int .u8 d) := by rw [hC.1.wide (i) (by omega), hd]
     refine wp_of_quiet rfl ?_
     go_big_quiet_step (fail)
     exact wpQuiet_nil (hK _ _ (rfl) bR)
    all_goals (skip; refine wp_of_quiet rfl ?_; go_big_quiet_step (fail); exact wpQuiet_nil (hK _ _ (by first | exact (by first | rfl | (simp; assumption) | simp) | exact (rfl) | rfl | (simp; assumption) | (simp; omega) | simp) bR))
   ·intro f wz hC hv
    simp (disch := decide) only [tkS, tkZ, List.drop_succ_cons, List.drop_zero, setAll, siB, stS, stZ, Nat.zero_add, Nat.reduceAdd, hv]
    clear hv
    have HB3 := Box'.mk hC.2
    clear hC
    go_wp2_with fail
    go_ret
    exact ⟨by rw [E.out]; rfl, HB3.out⟩
  case pos =>
   by_cases h2 : ((cat r (i + 1)).wd : Int) = 0
   case neg =>
    have E : Box' ((decide ((cat r i).wd = 2) && (decide ((cat r (i + 1)).wd = 0) && stB (cat r i).st (cat r (i + 1)).st)) = false) := ⟨by rw [decide_eq_false (show ¬ (cat r (i + 1)).wd = 0 by omega)]; simp⟩
    obtain ⟨e, he⟩ : ∃ e : Int, ((cat r (i + 1)).wd : Int) = e := ⟨_, rfl⟩
    rw [he] at h2
    refine wp_region_growh 23 (by kernel_rfl) 45 rfl (by kernel_rfl) (fun wa wb => Below wa.heap.size wa wb) (fun wa => RowM wa p b x n c r ∧ Below w.heap.size w wa) (fun kc wa v => v = (match kc with
     | 0 => .pointer (some ⟨b, x + i * 15, none⟩)
     | 1 => .pointer (some ⟨b, x + i * 15, none⟩)
     | 2 => .pointer (some ⟨b, x + i * 15 + 4, none⟩)
     | 3 => .int .u8 2
     | 4 => .bool true
     | 5 => .bool true
     | 6 => .pointer (some ⟨b, x + (i + 1) * 15, none⟩)
     | 7 => .pointer (some ⟨b, x + (i + 1) * 15, none⟩)
     | 8 => .pointer (some ⟨b, x + (i + 1) * 15 + 4, none⟩)
     | 9 => .int .u8 e
     | 10 => .bool false
     | 11 => .bool false
     | 12 => .bool false
     | 13 => undef
     | 14 => undef
     | 15 => undef
     | 16 => undef
     | 17 => undef
     | 18 => undef
     | 19 => undef
     | 20 => undef
     | 21 => undef
     | 22 => .bool false
     | _ => undef)) (fun i => !([13, 14, 15, 16, 17, 18, 19, 20, 21] : List Nat).contains i) ?_ ?_ ?_ ?_ ?_ ?_ ?_ ?_
    ·intro i o' j b' hi hg wa v hC hV
     have hlt : i < 23 := by rcases Nat.lt_or_ge i 23 with q | q; exact q; rw [List.getElem?_eq_none (by simpa using q)] at hi; cases hi
     revert hi hg hV
     rcases (show i = 0 ∨ i = 1 ∨ i = 2 ∨ i = 3 ∨ i = 4 ∨ i = 5 ∨ i = 6 ∨ i = 7 ∨ i = 8 ∨ i = 9 ∨ i = 10 ∨ i = 11 ∨ i = 12 ∨ i = 13 ∨ i = 14 ∨ i = 15 ∨ i = 16 ∨ i = 17 ∨ i = 18 ∨ i = 19 ∨ i = 20 ∨ i = 21 ∨ i = 22 by omega) with rfl | rfl | rfl | rfl | rfl | rfl | rfl | rfl | rfl | rfl | rfl | rfl | rfl | rfl | rfl | rfl | rfl | rfl | rfl | rfl | rfl | rfl | rfl <;>
      (intro hi hg hV; simp only [tkS, List.getElem?_cons_zero, List.getElem?_cons_succ, Option.some.injEq] at hi; subst hi; first | (cases hg; first | exact hV | exact (show v ≠ _ from (by rw [hV]; intro hh; cases hh))) | (cases hg))
    ·intro i o' hi hg
     have hlt : i < 23 := by rcases Nat.lt_or_ge i 23 with q | q; exact q; rw [List.getElem?_eq_none (by simpa using q)] at hi; cases hi
     revert hi hg
     rcases (show i = 0 ∨ i = 1 ∨ i = 2 ∨ i = 3 ∨ i = 4 ∨ i = 5 ∨ i = 6 ∨ i = 7 ∨ i = 8 ∨ i = 9 ∨ i = 10 ∨ i = 11 ∨ i = 12 ∨ i = 13 ∨ i = 14 ∨ i = 15 ∨ i = 16 ∨ i = 17 ∨ i = 18 ∨ i = 19 ∨ i = 20 ∨ i = 21 ∨ i = 22 by omega) with rfl | rfl | rfl | rfl | rfl | rfl | rfl | rfl | rfl | rfl | rfl | rfl | rfl | rfl | rfl | rfl | rfl | rfl | rfl | rfl | rfl | rfl | rfl <;>
      (intro hi hg; simp only [tkS, List.getElem?_cons_zero, List.getElem?_cons_succ, Option.some.injEq] at hi; subst hi; first | (cases hg; done) | (intro hh; cases hh))
    ·intro i hi wa
     have hi' : (!([13, 14, 15, 16, 17, 18, 19, 20, 21] : List Nat).contains i) = false := hi
     have hm : i ∈ ([13, 14, 15, 16, 17, 18, 19, 20, 21] : List Nat) := List.contains_iff_mem.1 (by cases hc : ([13, 14, 15, 16, 17, 18, 19, 20, 21] : List Nat).contains i with | true => rfl | false => rw [hc] at hi'; cases hi')
     simp only [List.mem_cons, List.not_mem_nil, or_false] at hm
     rcases hm with rfl | rfl | rfl | rfl | rfl | rfl | rfl | rfl | rfl <;> rfl
    ·rintro wa wb hb ⟨q1, q2⟩; exact ⟨q1.below hb, q2.trans (hb.mono q2.size)⟩
    ·exact fun kc v wa wb hC1 hb h => h
    ·exact ⟨HR2.out.drew, HB2.out.drew⟩
    ·refine ⟨?c0, ?c1, ?c2, ?c3, ?c4, ?c5, ?c6, ?c7, ?c8, ?c9, ?c10, ?c11, ?c12, ?c13, ?c14, ?c15, ?c16, ?c17, ?c18, ?c19, ?c20, ?c21, ?c22, trivial⟩
     all_goals try (intro hh; cases hh; done)
     all_goals intro _ f wq hC hd KK hK
     all_goals have cq0 : wq.cell? ⟨b, x + i * 15 + 4, none⟩ = some (.int .u8 2) := by rw [hC.1.wide (i) (by omega), h1]
     all_goals have cq1 : wq.cell? ⟨b, x + (i + 1) * 15 + 4, none⟩ = some (.int .u8 e) := by rw [hC.1.wide (i + 1) (by omega), he]
     all_goals simp (disch := decide +kernel) only [tkS, tkZ, setAll, siB, stS, stZ, Nat.zero_add, Nat.reduceAdd, hd] at hK ⊢
     all_goals (try refine wp_unguard ?_; refine wp_of_quiet rfl ?_; go_big_quiet_step (fail); exact wpQuiet_nil (hK _ _ (by first | exact (by first | rfl | (simp; assumption) | simp) | exact (rfl) | rfl | (simp; assumption) | (simp; omega) | simp) bR))
    ·intro f wz hC hv
     simp (disch := decide) only [tkS, tkZ, List.drop_succ_cons, List.drop_zero, setAll, siB, stS, stZ, Nat.zero_add, Nat.reduceAdd, hv]
     clear hv
     have HB3 := Box'.mk hC.2
     clear hC
     go_wp2_with fail
     go_ret
     exact ⟨by rw [E.out]; rfl, HB3.out⟩
   case pos =>
    have E : Box' ((decide ((cat r i).wd = 2) && (decide ((cat r (i + 1)).wd = 0) && stB (cat r i).st (cat r (i + 1)).st)) = stB (cat r i).st (cat r (i + 1)).st) := ⟨by rw [decide_eq_true (show (cat r i).wd = 2 by omega), decide_eq_true (show (cat r (i + 1)).wd = 0 by omega)]; simp⟩
    refine wp_region_growg 23 (by kernel_rfl) 45 rfl (by kernel_rfl) (fun wa wb => Below wa.heap.size wa wb) (fun wa => RowM wa p b x n c r ∧ Below w.heap.size w wa) (fun kc wa v => v = (match kc with
     | 0 => .pointer (some ⟨b, x + i * 15, none⟩)
     | 1 => .pointer (some ⟨b, x + i * 15, none⟩)
     | 2 => .pointer (some ⟨b, x + i * 15 + 4, none⟩)
     | 3 => .int .u8 2
     | 4 => .bool true
     | 5 => .bool true
     | 6 => .pointer (some ⟨b, x + (i + 1) * 15, none⟩)
     | 7 => .pointer (some ⟨b, x + (i + 1) * 15, none⟩)
     | 8 => .pointer (some ⟨b, x + (i + 1) * 15 + 4, none⟩)
     | 9 => .int .u8 0
     | 10 => .bool true
     | 11 => .bool true
     | 12 => .bool true
     | 13 => .pointer (some ⟨b, x + i * 15, none⟩)
     | 14 => .pointer (some ⟨b, x + i * 15, none⟩)
     | 15 => .pointer (some ⟨b, x + i * 15 + 5, none⟩)
     | 16 => .agg (sA (cat r i).st)
     | 17 => .pointer (some ⟨b, x + (i + 1) * 15, none⟩)
     | 18 => .pointer (some ⟨b, x + (i + 1) * 15, none⟩)
     | 19 => .pointer (some ⟨b, x + (i + 1) * 15 + 5, none⟩)
     | 20 => .agg (sA (cat r (i + 1)).st)
     | 21 => .bool (stB (cat r i).st (cat r (i + 1)).st)
     | 22 => .bool (stB (cat r i).st (cat r (i + 1)).st)
     | _ => undef)) ?_ ?_ ?_ ?_ ?_ ?_
    ·intro i o' j b' hi hg wa v hC hV
     have hlt : i < 23 := by rcases Nat.lt_or_ge i 23 with q | q; exact q; rw [List.getElem?_eq_none (by simpa using q)] at hi; cases hi
     revert hi hg hV
     rcases (show i = 0 ∨ i = 1 ∨ i = 2 ∨ i = 3 ∨ i = 4 ∨ i = 5 ∨ i = 6 ∨ i = 7 ∨ i = 8 ∨ i = 9 ∨ i = 10 ∨ i = 11 ∨ i = 12 ∨ i = 13 ∨ i = 14 ∨ i = 15 ∨ i = 16 ∨ i = 17 ∨ i = 18 ∨ i = 19 ∨ i = 20 ∨ i = 21 ∨ i = 22 by omega) with rfl | rfl | rfl | rfl | rfl | rfl | rfl | rfl | rfl | rfl | rfl | rfl | rfl | rfl | rfl | rfl | rfl | rfl | rfl | rfl | rfl | rfl | rfl <;>
      (intro hi hg hV; simp only [tkS, List.getElem?_cons_zero, List.getElem?_cons_succ, Option.some.injEq] at hi; subst hi; first | (cases hg; exact hV) | (cases hg))
    ·rintro wa wb hb ⟨q1, q2⟩; exact ⟨q1.below hb, q2.trans (hb.mono q2.size)⟩
    ·exact fun kc v wa wb hC1 hb h => h
    ·exact ⟨HR2.out.drew, HB2.out.drew⟩
    ·refine ⟨?d0, ?d1, ?d2, ?d3, ?d4, ?d5, ?d6, ?d7, ?d8, ?d9, ?d10, ?d11, ?d12, ?d13, ?d14, ?d15, ?d16, ?d17, ?d18, ?d19, ?d20, ?d21, ?d22, trivial⟩
     all_goals intro f wq hC hd KK hK
     all_goals have cq0 : wq.cell? ⟨b, x + i * 15 + 4, none⟩ = some (.int .u8 2) := by rw [hC.1.wide (i) (by omega), h1]
     all_goals have cq1 : wq.cell? ⟨b, x + (i + 1) * 15 + 4, none⟩ = some (.int .u8 0) := by rw [hC.1.wide (i + 1) (by omega), h2]
     all_goals simp (disch := decide +kernel) only [tkS, tkZ, setAll, siB, stS, stZ, Nat.zero_add, Nat.reduceAdd, hd] at hK ⊢
     case d16 =>
      refine wp_unguard ?_
      exact wp_load_style (.tmp 37) rfl b (x + i * 15 + 5) _ rfl (hC.1.style i (by omega)) (hK _ _ rfl bR)
     case d20 =>
      refine wp_unguard ?_
      exact wp_load_style (.tmp 41) rfl b (x + (i + 1) * 15 + 5) _ rfl (hC.1.style (i + 1) (by omega)) (hK _ _ rfl bR)
     case d21 =>
      refine wp_unguard ?_
      exact wp_val _ (run_eql_op 41 (.tmp 38) (.tmp 42) rfl (cat r i).st (cat r (i + 1)).st rfl rfl _ rfl _) (hK _ _ rfl bR)
     all_goals (try refine wp_unguard ?_; refine wp_of_quiet rfl ?_; go_big_quiet_step (fail); exact wpQuiet_nil (hK _ _ (by first | exact (by first | rfl | (simp; assumption) | simp) | exact (rfl) | rfl | (simp; assumption) | (simp; omega) | simp) bR))
    ·intro f wz hC hv
     simp (disch := decide) only [tkS, tkZ, List.drop_succ_cons, List.drop_zero, setAll, siB, stS, stZ, Nat.zero_add, Nat.reduceAdd, hv]
     clear hv
     have HB3 := Box'.mk hC.2
     clear hC
     go_wp2_with fail
     go_ret
     exact ⟨by rw [E.out]; rfl, HB3.out⟩
end Go.Proofs.Ytepepoabbbjmgaa.Sc
