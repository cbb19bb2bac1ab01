/- Changes: the parameters that make one style of another one. Colours and styles that may be; what tells a colour. The reference's tables. The reference's In. The reference's Of. A region that draws its order, with guards that are met and guards that are not. -/
import Derived.Deep.Cut
import Derived.BigRegion
import Derived.BigQuiet
import Derived.Test.YtepepoabbbjmgaaSGw
namespace Go.Proofs.Ytepepoabbbjmgaa.Sc
open Go.RowKit Go.BigFrame
set_option linter.unusedVariables false
set_option linter.unusedSimpArgs false
set_option maxRecDepth 100000
set_option maxHeartbeats 4000000
def mc (n : Int) : Bool := decide (-1 ≤ n ∧ n ≤ 255)
def mayS (s : St) : Bool := mc s.fg && mc s.bg
theorem mayColour_any (n : Int) (w : World) : Calls Try.prog 53 #[.int .i64 n] w fun e w' => e = .returned (.bool (mc n)) ∧ w' = w := by
 have IC := Box'.mk (isColour_any n w)
 by_cases h : n = -1
 ·subst h
  go_enter Try.func53, Try.ntmps53
  go_wp2_with fail
  go_ret
  exact ⟨rfl, rfl⟩
 ·have E : Box' (mc n = (n == -1 || isC n)) := ⟨by rw [beq_eq_false_iff_ne.2 h, Bool.false_or]; unfold mc isC; apply decide_eq_decide.2; omega⟩
  go_enter Try.func53, Try.ntmps53
  go_wp2_with fail
  refine IC.out.mono ?_
  rintro e w1 ⟨rfl, rfl⟩
  go_wp2_with fail
  go_ret
  exact ⟨by rw [E.out]; rfl, rfl⟩
theorem refColour_any (n : Int) (w : World) : Calls Try.prog 43 #[.int .i64 n] w fun e w' => e = .returned (.bool (mc n)) ∧ w' = w := by
 by_cases h1 : -1 ≤ n
 ·by_cases h2 : n ≤ 255
  ·have E : Box' (mc n = true) := ⟨by unfold mc; simp; omega⟩
   go_enter Try.func43, Try.ntmps43
   go_wp2_with fail
   go_ret
   exact ⟨by rw [E.out]; rfl, rfl⟩
  ·have E : Box' (mc n = false) := ⟨by unfold mc; simp; omega⟩
   go_enter Try.func43, Try.ntmps43
   go_wp2_with fail
   go_ret
   exact ⟨by rw [E.out]; rfl, rfl⟩
 ·have E : Box' (mc n = false) := ⟨by unfold mc; simp; omega⟩
  go_enter Try.func43, Try.ntmps43
  go_wp2_with fail
  go_ret
  exact ⟨by rw [E.out]; rfl, rfl⟩
theorem mayStyle_any (s : St) (w : World) : Calls Try.prog 44 #[.agg (sA s)] w fun e w' => e = .returned (.bool (mayS s)) ∧ Below w.heap.size w w' := by
 have MC := Box'.mk mayColour_any
 have B := Box'.mk ((Below.refl w.heap.size w).alloc (Nat.le_refl _) (.cells (sA s) 41))
 have R := Box'.mk (Row.new w 41 (sA s))
 generalize hw : w.alloc (.cells (sA s) 41) = w1 at *
 have c0 : w1.cell? ⟨w.heap.size, 0, none⟩ = some (.int .i64 s.fg) := R.out.cell 0
 have c1 : w1.cell? ⟨w.heap.size, 1, none⟩ = some (.int .i64 s.bg) := R.out.cell 1
 have HW := Box'.mk hw
 clear hw R
 go_enter Try.func44, Try.ntmps44
 go_upto_region 1 with (fail)
 rw [HW.out]
 clear HW
 cases hf : mc s.fg with
 | false =>
  have E : Box' (mayS s = false) := ⟨by unfold mayS; rw [hf]; rfl⟩
  go_wp2_with fail
  refine (MC.out _ _).mono ?_
  rintro e w2 ⟨rfl, rfl⟩
  rw [hf]
  go_wp2_with fail
  go_ret
  exact ⟨by rw [E.out]; rfl, B.out⟩
 | true =>
  have E : Box' (mayS s = mc s.bg) := ⟨by unfold mayS; rw [hf]; rfl⟩
  go_wp2_with fail
  refine (MC.out _ _).mono ?_
  rintro e w2 ⟨rfl, rfl⟩
  rw [hf]
  go_wp2_with fail
  refine (MC.out _ _).mono ?_
  rintro e w3 ⟨rfl, rfl⟩
  go_wp2_with fail
  go_ret
  exact ⟨by rw [E.out]; rfl, B.out⟩
theorem refMayStyle_any (s : St) (w : World) : Calls Try.prog 32 #[.agg (sA s)] w fun e w' => e = .returned (.bool (mayS s)) ∧ Below w.heap.size w w' := by
 have MC := Box'.mk refColour_any
 have B := Box'.mk ((Below.refl w.heap.size w).alloc (Nat.le_refl _) (.cells (sA s) 41))
 have R := Box'.mk (Row.new w 41 (sA s))
 generalize hw : w.alloc (.cells (sA s) 41) = w1 at *
 have c0 : w1.cell? ⟨w.heap.size, 0, none⟩ = some (.int .i64 s.fg) := R.out.cell 0
 have c1 : w1.cell? ⟨w.heap.size, 1, none⟩ = some (.int .i64 s.bg) := R.out.cell 1
 have HW := Box'.mk hw
 clear hw R
 go_enter Try.func32, Try.ntmps32
 go_upto_region 1 with (fail)
 rw [HW.out]
 clear HW
 cases hf : mc s.fg with
 | false =>
  have E : Box' (mayS s = false) := ⟨by unfold mayS; rw [hf]; rfl⟩
  go_wp2_with fail
  refine (MC.out _ _).mono ?_
  rintro e w2 ⟨rfl, rfl⟩
  rw [hf]
  go_wp2_with fail
  go_ret
  exact ⟨by rw [E.out]; rfl, B.out⟩
 | true =>
  have E : Box' (mayS s = mc s.bg) := ⟨by unfold mayS; rw [hf]; rfl⟩
  go_wp2_with fail
  refine (MC.out _ _).mono ?_
  rintro e w2 ⟨rfl, rfl⟩
  rw [hf]
  go_wp2_with fail
  refine (MC.out _ _).mono ?_
  rintro e w3 ⟨rfl, rfl⟩
  go_wp2_with fail
  go_ret
  exact ⟨by rw [E.out]; rfl, B.out⟩
theorem zs_range (n : Nat) : (Array.range (n * 2)).map (fun i => (#[Value.int .i32 0, Value.int .i32 0] : Array Value)[i % 2]!) = zs (2 * n) := by
 apply Array.ext
 ·simp [zs]; omega
 ·intro i h1 h2
  simp only [zs, Array.getElem_map, Array.getElem_range, List.getElem_toArray, List.getElem_replicate]
  have : i % 2 = 0 ∨ i % 2 = 1 := by omega
  rcases this with h | h <;> rw [h] <;> rfl
theorem info79 : (Try.prog.info? 86).map (fun i => (i.zero, i.size)) = some (some (.agg #[.int .i32 0, .int .i32 0]), 2) := by kernel_rfl
theorem run_buildS (w : World) (n : Nat) (parts : Array (Nat × Value)) (h0 : 0 < n) (hn : n * 2 ≤ 16777216) (cells : Array Value) (hf : Instr.fill (fun i => some (i * 2, 2)) (zs (2 * n)) parts.toList = some cells) :
  (Instr.buildSlice 90 n parts).run Try.prog w = .ok (.slice (some ⟨w.heap.size, 0, none⟩) n n) (w.alloc (.cells cells 86)) := by
 obtain ⟨i, hi, h1, h2⟩ : ∃ i, Try.prog.info? 86 = some i ∧ i.zero = some (.agg #[.int .i32 0, .int .i32 0]) ∧ i.size = 2 := by
  cases hq : Try.prog.info? 86 with
  | none => have := info79; simp [hq] at this
  | some i => have := info79; simp [hq] at this; exact ⟨i, rfl, this⟩
 have hz := zs_range n
 have g1 : ¬ (n * 2 > 2 ^ 24) := by omega
 have g2 : ¬ (n * 2 = 0) := by omega
 have hs : (sizeOf 86).run Try.prog w = .ok 2 w := by simp [sizeOf, typeInfo, hi, h2]
 have hv : (zeroValue 86).run Try.prog w = .ok (.agg #[.int .i32 0, .int .i32 0]) w := by simp [zeroValue, typeInfo, hi, h1]
 have g3 : (#[Value.int .i32 0, Value.int .i32 0] : Array Value).size = 2 := rfl
 simp only [Instr.buildSlice, Sem.run_bind, run_underlying Try.underlying90, Result.andThen_ok, hs, if_neg g1, if_neg g2, Sem.run_pure, hv, Value.cells, g3, hz, hf, newRow, run_newObj_alloc]
theorem wpList_bS {ops : Array Oper} {rest : List Oper} {op : Oper} {a : Act} {w : World} {Q : Exit → Act → World → Prop} (hgd : op.guard = none) (n : Nat) (parts : Array (Nat × Operand)) (ho : op.op = .buildSlice 90 n parts) (h0 : 0 < n) (hn : n * 2 ≤ 16777216) (cells : Array Value)
  (hc : Instr.fill (fun i => some (i * 2, 2)) (zs (2 * n)) (parts.toList.map fun (i, x) => (i, a.eval x)) = some cells) (h : wpList Try.prog ops Q rest (a.put op.dst (.slice (some ⟨w.heap.size, 0, none⟩) n n)) (w.alloc (.cells cells 86))) : wpList Try.prog ops Q (op :: rest) a w := by
 refine wpList_plain hgd fun K hK => ?_
 unfold Oper.wp execOp
 simp only [ho, Sem.run_bind, run_buildS w n _ h0 hn cells ((congrArg _ Array.toList_map).trans hc), Result.andThen_ok, Sem.run_pure]
 exact hK _ _ h
theorem refZero_any (w : World) : Calls Try.prog 61 #[] w fun e w' => ∃ v, e = .returned v ∧ v = .slice (some ⟨w.heap.size, 0, none⟩) 26 26 ∧ Sps w'.heap.size w' v zeroL ∧ Below w.heap.size w w' := by
 have B0 := Box'.mk ((Below.refl w.heap.size w).alloc (Nat.le_refl _) (.cells (spA zeroL) 86))
 have S0 := Box'.mk ((Row.new w 86 (spA zeroL)).sps (n := 26) rfl)
 obtain ⟨Z, hz⟩ : ∃ Z, Box' (spA zeroL = Z) := ⟨_, ⟨rfl⟩⟩
 rw [hz.out] at B0 S0
 go_enter Try.func61, Try.ntmps61
 go_wp2_with (first
  | (refine wpList_b79 rfl _ _ rfl ?_)
  | (refine wpList_bS rfl 26 _ rfl (by decide) (by decide) Z (by rw [← hz.out]; kernel_rfl) (wpList_act (b := ⟨#[.slice none 0 0, .agg #[.int .i32 768, .int .i32 879], .agg #[.int .i32 1155, .int .i32 1161], .agg #[.int .i32 1425, .int .i32 1469], .agg #[.int .i32 1471, .int .i32 1471], .agg #[.int .i32 1473, .int .i32 1474], .agg #[.int .i32 1552, .int .i32 1562], .agg #[.int .i32 1611, .int .i32 1631], .agg #[.int .i32 1750, .int .i32 1756], .agg #[.int .i32 2304, .int .i32 2306], .agg #[.int .i32 2364, .int .i32 2364], .agg #[.int .i32 2369, .int .i32 2376], .agg #[.int .i32 2381, .int .i32 2381], .agg #[.int .i32 3633, .int .i32 3633], .agg #[.int .i32 3636, .int .i32 3642], .agg #[.int .i32 6832, .int .i32 6911], .agg #[.int .i32 7616, .int .i32 7679], .agg #[.int .i32 8203, .int .i32 8207], .agg #[.int .i32 8234, .int .i32 8238], .agg #[.int .i32 8288, .int .i32 8292], .agg #[.int .i32 8400, .int .i32 8447], .agg #[.int .i32 12330, .int .i32 12333], .agg #[.int .i32 12441, .int .i32 12442], .agg #[.int .i32 65024, .int .i32 65039], .agg #[.int .i32 65056, .int .i32 65071], .agg #[.int .i32 65279, .int .i32 65279], .agg #[.int .i32 917760, .int .i32 917999], .slice (some ⟨w.heap.size, 0, none⟩) 26 26], []⟩) (by kernel_rfl) ?_)))
 go_ret
 exact ⟨_, rfl, rfl, S0.out, B0.out⟩
theorem refWide_any (w : World) : Calls Try.prog 62 #[] w fun e w' => ∃ v, e = .returned v ∧ v = .slice (some ⟨w.heap.size, 0, none⟩) 37 37 ∧ Sps w'.heap.size w' v wideL ∧ Below w.heap.size w w' := by
 have B0 := Box'.mk ((Below.refl w.heap.size w).alloc (Nat.le_refl _) (.cells (spA wideL) 86))
 have S0 := Box'.mk ((Row.new w 86 (spA wideL)).sps (n := 37) rfl)
 obtain ⟨Z, hz⟩ : ∃ Z, Box' (spA wideL = Z) := ⟨_, ⟨rfl⟩⟩
 rw [hz.out] at B0 S0
 go_enter Try.func62, Try.ntmps62
 go_wp2_with (first
  | (refine wpList_b79 rfl _ _ rfl ?_)
  | (refine wpList_bS rfl 37 _ rfl (by decide) (by decide) Z (by rw [← hz.out]; kernel_rfl) (wpList_act (b := ⟨#[.slice none 0 0, .agg #[.int .i32 4352, .int .i32 4447], .agg #[.int .i32 8986, .int .i32 8987], .agg #[.int .i32 9001, .int .i32 9002], .agg #[.int .i32 9193, .int .i32 9196], .agg #[.int .i32 9725, .int .i32 9726], .agg #[.int .i32 9748, .int .i32 9749], .agg #[.int .i32 9800, .int .i32 9811], .agg #[.int .i32 9889, .int .i32 9889], .agg #[.int .i32 9917, .int .i32 9918], .agg #[.int .i32 9989, .int .i32 9989], .agg #[.int .i32 10024, .int .i32 10024], .agg #[.int .i32 10060, .int .i32 10060], .agg #[.int .i32 10067, .int .i32 10069], .agg #[.int .i32 10133, .int .i32 10135], .agg #[.int .i32 11035, .int .i32 11036], .agg #[.int .i32 11088, .int .i32 11088], .agg #[.int .i32 11904, .int .i32 12350], .agg #[.int .i32 12353, .int .i32 13311], .agg #[.int .i32 13312, .int .i32 19903], .agg #[.int .i32 19968, .int .i32 40959], .agg #[.int .i32 40960, .int .i32 42191], .agg #[.int .i32 44032, .int .i32 55203], .agg #[.int .i32 63744, .int .i32 64255], .agg #[.int .i32 65072, .int .i32 65135], .agg #[.int .i32 65281, .int .i32 65376], .agg #[.int .i32 65504, .int .i32 65510], .agg #[.int .i32 127744, .int .i32 127776], .agg #[.int .i32 127789, .int .i32 127797], .agg #[.int .i32 127799, .int .i32 127868], .agg #[.int .i32 128000, .int .i32 128062], .agg #[.int .i32 128064, .int .i32 128064], .agg #[.int .i32 128066, .int .i32 128252], .agg #[.int .i32 128512, .int .i32 128591], .agg #[.int .i32 128640, .int .i32 128709], .agg #[.int .i32 129280, .int .i32 129535], .agg #[.int .i32 131072, .int .i32 196605], .agg #[.int .i32 196608, .int .i32 262141], .slice (some ⟨w.heap.size, 0, none⟩) 37 37], []⟩) (by kernel_rfl) ?_)))
 go_ret
 exact ⟨_, rfl, rfl, S0.out, B0.out⟩
theorem refIn_any (v : Value) (l : List (Int × Int)) (hl : l.length ≤ 140737488355328) (c : Int) (w : World) (h : Sps w.heap.size w v l) :
  Calls Try.prog 60 #[v, .int .i32 c] w fun e w' => e = .returned (.bool (inF l c)) ∧ w' = w := by
 obtain ⟨a, cp, rfl, hc, h3⟩ := h
 have hcl : ∀ k, k < l.length → ∃ b o, a = some ⟨b, o, none⟩ ∧ b < w.heap.size ∧ w.cell? ⟨b, o + k * 2, none⟩ = some (.int .i32 (l.getD k (0, 0)).1) ∧ w.cell? ⟨b, o + k * 2 + 1, none⟩ = some (.int .i32 (l.getD k (0, 0)).2) := by
  intro k hk
  rcases h3 with rfl | ⟨b, o, rfl, h5, h6⟩
  ·simp at hk
  exact ⟨b, o, rfl, h5, h6 k hk⟩
 have HCL := Box'.mk hcl
 have YES : Box' (∀ k, k < l.length → (l.getD k (0, 0)).1 ≤ c → c ≤ (l.getD k (0, 0)).2 → inF l c = true) := ⟨fun k hk h1 h2 => (in_iff l c).2 ⟨k, hk, h1, h2⟩⟩
 have NO : Box' ((∀ k, k < l.length → ¬ ((l.getD k (0, 0)).1 ≤ c ∧ c ≤ (l.getD k (0, 0)).2)) → inF l c = false) := ⟨in_none⟩
 generalize hn : l.length = n at *
 clear hcl h3 hn
 go_enter Try.func60, Try.ntmps60
 go_wp2_with fail
 go_loopw [5] (fun i wr => ∃ k : Nat, k ≤ n ∧ i = .int .i64 (k : Int) ∧ Box' (∀ j, j < k → ¬ ((l.getD j (0, 0)).1 ≤ c ∧ c ≤ (l.getD j (0, 0)).2)) ∧ wr = w) (fun i _ => n - (intOf i).toNat)
 case atStart => exact ⟨0, by omega, rfl, ⟨fun j hj => by omega⟩, rfl⟩
 case round =>
  obtain ⟨k, hk, rfl, HM, hbl⟩ := hrel
  subst hbl
  by_cases hlt : k < n
  ·obtain ⟨b, o, rfl, hbw, c0, c1⟩ := HCL.out k hlt
   have YK := Box'.mk (YES.out k hlt)
   have HK : Box' (¬ ((l.getD k (0, 0)).1 ≤ c ∧ c ≤ (l.getD k (0, 0)).2) → ∀ j, j < k + 1 → ¬ ((l.getD j (0, 0)).1 ≤ c ∧ c ≤ (l.getD j (0, 0)).2)) := ⟨fun h j hj => by
    by_cases e : j = k
    ·subst e; exact h
    ·exact HM.out j (by omega)⟩
   generalize l.getD k (0, 0) = x at *
   obtain ⟨x0, x1⟩ := x
   simp only at c0 c1
   by_cases h1 : x0 ≤ c
   ·by_cases h2 : c ≤ x1
    ·have e := Box'.mk (YK.out h1 h2)
     clear HCL YES NO YK HK HM
     go_wp2_with fail
     go_ret
     exact ⟨by rw [e.out]; rfl, rfl⟩
    ·have e := Box'.mk (HK.out (fun h => h2 h.2))
     clear HCL YES NO YK HK HM
     go_wp2_with fail
     refine ⟨⟨k + 1, by omega, by go_num, e, trivial⟩, by simp [intOf]; omega⟩
   ·have e := Box'.mk (HK.out (fun h => h1 h.1))
    clear HCL YES NO YK HK HM
    go_wp2_with fail
    refine ⟨⟨k + 1, by omega, by go_num, e, trivial⟩, by simp [intOf]; omega⟩
  ·obtain rfl : k = n := by omega
   have e := Box'.mk (NO.out HM.out)
   clear HCL YES NO HM
   go_wp2_with fail
   go_ret
   exact ⟨by rw [e.out]; rfl, rfl⟩
/-- The reference's head, answered as a truth. -/
theorem hw_cases (c : Int) : (hw c = false ∧ (c < 32 ∨ (127 ≤ c ∧ c ≤ 159) ∨ 1114111 < c ∨ (55296 ≤ c ∧ c ≤ 57343))) ∨ (hw c = true ∧ 32 ≤ c ∧ c ≤ 1114111 ∧ (c < 127 ∨ 159 < c) ∧ (c < 55296 ∨ 57343 < c)) := by
 unfold hw
 by_cases h1 : 32 ≤ c ∧ c ≤ 1114111 <;> by_cases h2 : 127 ≤ c ∧ c ≤ 159 <;> by_cases h3 : 55296 ≤ c ∧ c ≤ 57343 <;> simp [h1, h2, h3] <;> omega
theorem refOf_no (c : Int) (h : hw c = false) (w : World) : Calls Try.prog 52 #[.int .i32 c] w fun e w' => e = .returned (.int .i64 (ofF c)) ∧ w' = w := by
 have e := Box'.mk (show ofF c = -1 by unfold ofF; rw [h]; rfl)
 rcases hw_cases c with ⟨_, hc⟩ | ⟨h', _⟩
 ·clear h
  by_cases h1 : c < 32
  ·clear hc
   go_enter Try.func52, Try.ntmps52
   go_wp2_with fail
   go_ret
   exact ⟨by rw [e.out]; rfl, rfl⟩
  by_cases h2 : 127 ≤ c
  ·by_cases h3 : c ≤ 159
   ·clear hc
    go_enter Try.func52, Try.ntmps52
    go_wp2_with fail
    go_ret
    exact ⟨by rw [e.out]; rfl, rfl⟩
   by_cases h4 : 1114111 < c
   ·clear hc
    go_enter Try.func52, Try.ntmps52
    go_wp2_with fail
    go_ret
    exact ⟨by rw [e.out]; rfl, rfl⟩
   have h5 : 55296 ≤ c := by omega
   have h6 : c ≤ 57343 := by omega
   clear hc
   go_enter Try.func52, Try.ntmps52
   go_wp2_with fail
   go_ret
   exact ⟨by rw [e.out]; rfl, rfl⟩
  ·omega
 ·rw [h] at h'; cases h'
theorem refOf_yes (c : Int) (h : hw c = true) (w : World) : Calls Try.prog 52 #[.int .i32 c] w fun e w' => e = .returned (.int .i64 (ofF c)) ∧ Below w.heap.size w w' := by
 have e : Box' (ofF c = if inF zeroL c then 0 else if inF wideL c then 2 else 1) := ⟨by unfold ofF; rw [h]; rfl⟩
 have ZT := Box'.mk (refZero_any w)
 rcases hw_cases c with ⟨h', _⟩ | ⟨h', h1, h2, h3, h4⟩
 ·rw [h] at h'; cases h'
 clear h h'
 have h1' : ¬ c < 32 := by omega
 have h2' : ¬ 1114111 < c := by omega
 rcases h3 with h3 | h3
 ·have h4' : ¬ 55296 ≤ c := by omega
  have h3' : ¬ 127 ≤ c := by omega
  clear h4 h1 h2 h3
  go_enter Try.func52, Try.ntmps52
  go_wp2_with fail
  refine ZT.out.mono ?_
  rintro x w1 ⟨v1, rfl, hv1, hs1, hb1⟩
  have IZ := Box'.mk (refIn_any _ zeroL (by decide) c _ hs1)
  have B1 := Box'.mk hb1
  clear hv1 hs1 hb1 ZT
  go_wp2_with fail
  refine IZ.out.mono ?_
  rintro x w2 ⟨rfl, hw2⟩
  subst hw2
  clear IZ
  cases hz : inF zeroL c with
  | true =>
   have e2 := Box'.mk (show ofF c = 0 by rw [e.out, hz]; rfl)
   clear hz e
   go_wp2_with fail
   go_ret
   exact ⟨by rw [e2.out]; rfl, B1.out⟩
  | false =>
   have e2 : Box' (ofF c = if inF wideL c then 2 else 1) := ⟨by rw [e.out, hz]; rfl⟩
   have WT := Box'.mk (refWide_any w2)
   clear hz e
   go_wp2_with fail
   refine WT.out.mono ?_
   rintro x w3 ⟨v3, rfl, hv3, hs3, hb3⟩
   have IW := Box'.mk (refIn_any _ wideL (by decide) c _ hs3)
   have B3 := Box'.mk (B1.out.trans (hb3.mono B1.out.size))
   clear hv3 hs3 hb3 WT B1
   go_wp2_with fail
   refine IW.out.mono ?_
   rintro x w4 ⟨rfl, hw4⟩
   subst hw4
   clear IW
   cases hz : inF wideL c with
   | true =>
    have e3 := Box'.mk (show ofF c = 2 by rw [e2.out, hz]; rfl)
    clear hz e2
    go_wp2_with fail
    go_ret
    exact ⟨by rw [e3.out]; rfl, B3.out⟩
   | false =>
    have e3 := Box'.mk (show ofF c = 1 by rw [e2.out, hz]; rfl)
    clear hz e2
    go_wp2_with fail
    go_ret
    exact ⟨by rw [e3.out]; rfl, B3.out⟩
 ·have h3' : 127 ≤ c := by omega
  rcases h4 with h4 | h4
  ·have h4' : ¬ 55296 ≤ c := by omega
   clear h4 h1 h2
   go_enter Try.func52, Try.ntmps52
   go_wp2_with fail
   refine ZT.out.mono ?_
   rintro x w1 ⟨v1, rfl, hv1, hs1, hb1⟩
   have IZ := Box'.mk (refIn_any _ zeroL (by decide) c _ hs1)
   have B1 := Box'.mk hb1
   clear hv1 hs1 hb1 ZT
   go_wp2_with fail
   refine IZ.out.mono ?_
   rintro x w2 ⟨rfl, hw2⟩
   subst hw2
   clear IZ
   cases hz : inF zeroL c with
   | true =>
    have e2 := Box'.mk (show ofF c = 0 by rw [e.out, hz]; rfl)
    clear hz e
    go_wp2_with fail
    go_ret
    exact ⟨by rw [e2.out]; rfl, B1.out⟩
   | false =>
    have e2 : Box' (ofF c = if inF wideL c then 2 else 1) := ⟨by rw [e.out, hz]; rfl⟩
    have WT := Box'.mk (refWide_any w2)
    clear hz e
    go_wp2_with fail
    refine WT.out.mono ?_
    rintro x w3 ⟨v3, rfl, hv3, hs3, hb3⟩
    have IW := Box'.mk (refIn_any _ wideL (by decide) c _ hs3)
    have B3 := Box'.mk (B1.out.trans (hb3.mono B1.out.size))
    clear hv3 hs3 hb3 WT B1
    go_wp2_with fail
    refine IW.out.mono ?_
    rintro x w4 ⟨rfl, hw4⟩
    subst hw4
    clear IW
    cases hz : inF wideL c with
    | true =>
     have e3 := Box'.mk (show ofF c = 2 by rw [e2.out, hz]; rfl)
     clear hz e2
     go_wp2_with fail
     go_ret
     exact ⟨by rw [e3.out]; rfl, B3.out⟩
    | false =>
     have e3 := Box'.mk (show ofF c = 1 by rw [e2.out, hz]; rfl)
     clear hz e2
     go_wp2_with fail
     go_ret
     exact ⟨by rw [e3.out]; rfl, B3.out⟩
  ·have h4' : 55296 ≤ c := by omega
   clear h1 h2
   go_enter Try.func52, Try.ntmps52
   go_wp2_with fail
   refine ZT.out.mono ?_
   rintro x w1 ⟨v1, rfl, hv1, hs1, hb1⟩
   have IZ := Box'.mk (refIn_any _ zeroL (by decide) c _ hs1)
   have B1 := Box'.mk hb1
   clear hv1 hs1 hb1 ZT
   go_wp2_with fail
   refine IZ.out.mono ?_
   rintro x w2 ⟨rfl, hw2⟩
   subst hw2
   clear IZ
   cases hz : inF zeroL c with
   | true =>
    have e2 := Box'.mk (show ofF c = 0 by rw [e.out, hz]; rfl)
    clear hz e
    go_wp2_with fail
    go_ret
    exact ⟨by rw [e2.out]; rfl, B1.out⟩
   | false =>
    have e2 : Box' (ofF c = if inF wideL c then 2 else 1) := ⟨by rw [e.out, hz]; rfl⟩
    have WT := Box'.mk (refWide_any w2)
    clear hz e
    go_wp2_with fail
    refine WT.out.mono ?_
    rintro x w3 ⟨v3, rfl, hv3, hs3, hb3⟩
    have IW := Box'.mk (refIn_any _ wideL (by decide) c _ hs3)
    have B3 := Box'.mk (B1.out.trans (hb3.mono B1.out.size))
    clear hv3 hs3 hb3 WT B1
    go_wp2_with fail
    refine IW.out.mono ?_
    rintro x w4 ⟨rfl, hw4⟩
    subst hw4
    clear IW
    cases hz : inF wideL c with
    | true =>
     have e3 := Box'.mk (show ofF c = 2 by rw [e2.out, hz]; rfl)
     clear hz e2
     go_wp2_with fail
     go_ret
     exact ⟨by rw [e3.out]; rfl, B3.out⟩
    | false =>
     have e3 := Box'.mk (show ofF c = 1 by rw [e2.out, hz]; rfl)
     clear hz e2
     go_wp2_with fail
     go_ret
     exact ⟨by rw [e3.out]; rfl, B3.out⟩
theorem refOf_any (c : Int) (w : World) : Calls Try.prog 52 #[.int .i32 c] w fun e w' => e = .returned (.int .i64 (ofF c)) ∧ Below w.heap.size w w' := by
 cases h : hw c with
 | true => exact refOf_yes c h w
 | false => exact (refOf_no c h w).mono fun e w' ⟨h1, h2⟩ => ⟨h1, h2 ▸ Below.refl _ _⟩
section
variable {P : Program} {Q : Exit → Act → World → Prop}
theorem wpOp_skip {ops : Array Oper} {i : Nat} {o : Oper} {K : Act → World → Prop} {a : Act} {w : World} (ho : ops[i]? = some o) (hg : Region.wanted o (yielded ops a.tmps) = false) (h : K (a.put o.dst undef) w) : wpOp P ops Q i K a w := by
 unfold wpOp
 rw [ho]
 simp only [hg]
 exact h
/-- What each operation of the head must do that is not left out. -/
def GrowsM (P : Program) (Q : Exit → Act → World → Prop) (G : World → World → Prop) (C : World → Prop) (V : Nat → World → Value → Prop) (m : Nat → Bool) (l0 : List Oper) (t : Array Value) (df : List Deferred) : List Oper → Nat → Prop
 | [], _ => True
 | o :: r, k => (m k = true → ∀ f w, C w → (∀ j, behind o j = true → V j w (f j)) → ∀ K : Act → World → Prop, (∀ v w', V k w' v → G w w' → K ((⟨setAll l0 0 f t, df⟩ : Act).put o.dst v) w') → o.wp P ⟨setAll l0 0 f t, df⟩ w K Q) ∧ GrowsM P Q G C V m l0 t df r (k + 1)
theorem GrowsM.at {G : World → World → Prop} {C : World → Prop} {V : Nat → World → Value → Prop} {m : Nat → Bool} {l0 : List Oper} {t : Array Value} {df : List Deferred} {l : List Oper} {k : Nat} (h : GrowsM P Q G C V m l0 t df l k) (i : Nat) (o : Oper) (ho : l[i]? = some o) (hm : m (k + i) = true) :
  ∀ f w, C w → (∀ j, behind o j = true → V j w (f j)) → ∀ K : Act → World → Prop, (∀ v w', V (k + i) w' v → G w w' → K ((⟨setAll l0 0 f t, df⟩ : Act).put o.dst v) w') → o.wp P ⟨setAll l0 0 f t, df⟩ w K Q := by
 induction l generalizing k i with
 | nil => simp at ho
 | cons p r ih =>
  cases i with
  | zero => simp only [List.getElem?_cons_zero, Option.some.injEq] at ho; subst ho; exact h.1 hm
  | succ i =>
   have e : k + (i + 1) = k + 1 + i := by omega
   rw [e] at hm ⊢
   exact ih h.2 i (by simpa using ho) hm
theorem wp_region_growh {id : Nat} {t : Array Value} {df : List Deferred} {w : World} {l : List Oper} (n : Nat) (hm : P.follows .mixedOrders = true) (sz : Nat) (hts : t.size = sz) (hB : growgB l n sz = true)
  (G : World → World → Prop) (C : World → Prop) (V : Nat → World → Value → Prop) (m : Nat → Bool) (hgv : ∀ (i : Nat) (o : Oper) (j : Nat) (b : Bool), (l.take n)[i]? = some o → o.guard = some (j, b) → ∀ w v, C w → V j w v → (if m i = true then v = .bool b else v ≠ .bool b)) (hgm : ∀ (i : Nat) (o : Oper), (l.take n)[i]? = some o → m i = false → o.guard ≠ none) (hsk : ∀ i, m i = false → ∀ w, V i w undef) (hC : ∀ w w', G w w' → C w → C w') (hV : ∀ k v w w', C w → G w w' → V k w v → V k w' v) (h0 : C w.drew)
  (hops : GrowsM P Q G C V m (l.take n) t df (l.take n) 0)
  (hend : ∀ f w', C w' → (∀ k, k < n → V k w' (f k)) → wpList P l.toArray Q (l.drop n) ⟨setAll (l.take n) 0 f t, df⟩ w') :
  (Code.region id l.toArray true).wp P Q ⟨t, df⟩ w := by
 simp only [growgB, Bool.and_eq_true, List.all_eq_true, List.mem_range, decide_eq_true_eq] at hB
 obtain ⟨⟨⟨hB1, hB2⟩, hB3⟩, hn⟩ := hB
 have hget : ∀ i o, i < n → l[i]? = some o → (l.take n)[i]? = some o := fun i o hi ho => by rw [List.getElem?_take, if_pos hi]; exact ho
 have hone : ∀ i o d, i < n → l[i]? = some o → o.dst = some d → ∀ j o', (l.take n)[j]? = some o' → o'.dst = some d → j = i := by
  intro i o d hi ho hd j o' hj hd'
  have hjn : j < n := by
   rcases Nat.lt_or_ge j n with h | h
   ·exact h
   ·rw [List.getElem?_take, if_neg (by omega)] at hj; cases hj
  rw [List.getElem?_take, if_pos hjn] at hj
  have := hB1 i hi
  rw [ho] at this
  simp only [Option.map_some, Option.getD_some, Bool.and_eq_true, List.all_eq_true, List.mem_range, Bool.or_eq_true, decide_eq_true_eq, hd, Option.isNone_some, Bool.false_eq_true, false_or] at this
  rcases this.2 j hjn with h | h
  ·exact h
  ·rw [hj] at h
   simp [hd'] at h
 have hdepAll : ∀ (L : Array Bool) i o, closedB l L → n ≤ i → l[i]? = some o → (∀ e ∈ o.after, Region.binds .any e = true → L.getD e.on false = true) → ∀ k, k < i → L.getD k false = true := by
  intro L i o hc hi ho hdep k hk
  have hil : i < l.length := (List.getElem?_eq_some_iff.1 ho).1
  have := hB3 i hil
  simp only [Bool.or_eq_true, decide_eq_true_eq, List.all_eq_true, List.mem_range] at this
  rcases this with h | h
  ·omega
  ·exact anc_done l L hc _ i k o ho hdep (h k hk)
 have hwpo : ∀ i o K a w, l[i]? = some o → wpList P l.toArray Q (o :: l.drop (i + 1)) a w → (∀ a w, wpList P l.toArray Q (l.drop (i + 1)) a w → K a w) → wpOp P l.toArray Q i K a w := by
  intro i o K a w ho h hK
  refine wpOp_mono hK ?_
  unfold wpOp
  have ho' : l.toArray[i]? = some o := by simpa using ho
  rw [ho']
  exact h
 have hdrop : ∀ i o, l[i]? = some o → l.drop i = o :: l.drop (i + 1) := fun i o ho => by
  obtain ⟨h1, h2⟩ := List.getElem?_eq_some_iff.1 ho
  rw [List.drop_eq_getElem_cons h1, h2]
 refine wp_region_inv hm (fun L a w => L.size = l.length ∧ closedB l L ∧
  (((∀ k, n ≤ k → ¬ L.getD k false = true) ∧ ∃ f, a = ⟨setAll (l.take n) 0 f t, df⟩ ∧ C w ∧ ∀ k, k < n → L.getD k false = true → V k w (f k))
  ∨ (∃ j, n ≤ j ∧ j ≤ l.length ∧ (∀ k, k < j → L.getD k false = true) ∧ (∀ k, j ≤ k → ¬ L.getD k false = true) ∧ wpList P l.toArray Q (l.drop j) a w))) ?_ ?_ ?_
 ·have hn0 : ∀ k, ¬ ((Array.replicate l.toArray.size false).getD k false = true) := by
   intro k h
   rw [Array.getD_eq_getD_getElem?, Array.getElem?_replicate] at h
   split at h <;> simp at h
  refine ⟨by simp, fun i o _ h => absurd h (hn0 i), .inl ⟨fun k _ => hn0 k, fun k => t.getD (((l[k]?).bind (·.dst)).getD 0) undef, ?_, h0, fun k _ h => absurd h (hn0 k)⟩⟩
  rw [setAll_init]
  intro i o d ho hd
  have ho2 : l[i]? = some o := by
   rw [List.getElem?_take] at ho
   split at ho
   ·exact ho
   ·cases ho
  simp only [Nat.zero_add, ho2, Option.bind_some, hd, Option.getD_some]
 ·rintro L a w i o ⟨hsz, hcl, hI⟩ hL ho hdep
  have ho' : l[i]? = some o := by simpa using ho
  have hil : i < l.length := (List.getElem?_eq_some_iff.1 ho').1
  have hnd := getD_not hL
  have hS : (L.setIfInBounds i true).size = l.length := by simpa using hsz
  have hdone : (L.setIfInBounds i true).getD i false = true := by
   rw [Array.getD_eq_getD_getElem?, Array.getElem?_setIfInBounds]
   simp [hsz, hil]
  have hcl' : closedB l (L.setIfInBounds i true) := by
   intro k o' ho2 hk e he hb
   rcases getD_set L i k hk with rfl | h'
   ·rw [ho'] at ho2; cases ho2
    exact getD_keep L _ _ (hdep e he hb)
   ·exact getD_keep L _ _ (hcl k o' ho2 h' e he hb)
  rcases hI with ⟨ht, f, rfl, hCw, hf⟩ | ⟨j, hj1, hj2, hj3, hj4, hw⟩
  ·by_cases hi : i < n
   ·have hgd := hB1 i hi
    rw [ho'] at hgd
    simp only [Option.map_some, Option.getD_some, Bool.and_eq_true] at hgd
    have hg : Region.wanted o (yielded l.toArray (setAll (l.take n) 0 f t)) = m i := by
     unfold Region.wanted
     cases hgo : o.guard with
     | none =>
      cases hmi : m i with
      | true => rfl
      | false => exact absurd hgo (hgm i o (hget i o hi ho') hmi)
     | some jb =>
      obtain ⟨j, b⟩ := jb
      have hgg := hgd.1
      rw [hgo] at hgg
      simp only [Bool.and_eq_true, decide_eq_true_eq] at hgg
      obtain ⟨⟨hbh, hjn⟩, hds⟩ := hgg
      cases hj : l[j]? with
      | none => rw [hj] at hds; simp at hds
      | some p =>
       rw [hj] at hds
       simp only [Option.map_some, Option.getD_some] at hds
       cases hpd : p.dst with
       | none => rw [hpd] at hds; simp at hds
       | some d =>
        rw [hpd] at hds
        simp only [decide_eq_true_eq] at hds
        have hdn : L.getD j false = true := by
         unfold behind at hbh
         rw [List.any_eq_true] at hbh
         obtain ⟨e, he', hh⟩ := hbh
         have he := Array.mem_toList_iff.1 he'
         simp only [Bool.and_eq_true, beq_iff_eq] at hh
         have := hdep e he hh.2
         rw [hh.1] at this; exact this
        have hv := hgv i o j b (hget i o hi ho') hgo w (f j) hCw (hf j hjn hdn)
        have hsl := setAll_get (l.take n) 0 f t j p d (hget j p hjn hj) hpd (hone j p d hjn hj hpd) (by rw [hts]; exact hds)
        rw [Nat.zero_add] at hsl
        have hyg : yielded l.toArray (setAll (l.take n) 0 f t) j = (match f j with | .bool x => some x | _ => none) := by
         unfold yielded
         have : l.toArray[j]? = some p := by simpa using hj
         rw [this]
         simp only [Option.bind_some, hpd, hsl]
         cases f j <;> rfl
        show (yielded l.toArray (setAll (l.take n) 0 f t) j == some b) = m i
        rw [hyg]
        cases hmi : m i with
        | true =>
         rw [hmi, if_pos rfl] at hv
         rw [hv]
         simp
        | false =>
         rw [hmi, if_neg (by simp)] at hv
         split
         ·rename_i x hx
          rw [hx] at hv
          have : x ≠ b := fun e => hv (by rw [e])
          simp [this]
         ·simp
    cases hmi : m i with
    | true =>
     rw [hmi] at hg
     refine wpOp_want ho hg (GrowsM.at hops i o (hget i o hi ho') (by rw [Nat.zero_add]; exact hmi) f w hCw (fun k hk => ?_) _ (fun v w' hv hb => ?_))
     ·unfold behind at hk
      rw [List.any_eq_true] at hk
      obtain ⟨e, he', hh⟩ := hk
      have he := Array.mem_toList_iff.1 he'
      simp only [Bool.and_eq_true, beq_iff_eq] at hh
      have h1 := hdep e he hh.2
      have h2 := hB2 i hil
      rw [ho'] at h2
      simp only [Option.map_some, Option.getD_some, List.all_eq_true, Bool.or_eq_true, Bool.not_eq_true', decide_eq_true_eq] at h2
      have h3 := (h2 e (Array.mem_toList_iff.2 he)).resolve_left (by rw [hh.2]; simp)
      rw [hh.1] at h1 h3
      exact hf k (by omega) h1
     ·refine ⟨hS, hcl', .inl ⟨fun k hk h => ?_, upd f i v, ?_, hC _ _ hb hCw, fun k hk h => ?_⟩⟩
      ·rcases getD_set L i k h with rfl | h'
       ·omega
       ·exact ht k hk h'
      ·cases hd : o.dst with
       | some d =>
        have := setAll_upd (l.take n) 0 f t i v o d (hget i o hi ho') hd (hone i o d hi ho' hd)
        rw [Nat.zero_add] at this
        simp only [Act.put, this]
       | none =>
        have := setAll_none (l.take n) 0 f t i v o (hget i o hi ho') hd
        rw [Nat.zero_add] at this
        simp only [Act.put, this]
      ·by_cases hki : k = i
       ·subst hki
        rw [Nat.zero_add] at hv
        simpa [upd] using hv
       ·have := hf k hk ((getD_set L i k h).resolve_left hki)
        simp only [upd, if_neg hki]
        exact hV k _ _ _ hCw hb this
    | false =>
     rw [hmi] at hg
     refine wpOp_skip ho hg ?_
     refine ⟨hS, hcl', .inl ⟨fun k hk h => ?_, upd f i undef, ?_, hCw, fun k hk h => ?_⟩⟩
     ·rcases getD_set L i k h with rfl | h'
      ·omega
      ·exact ht k hk h'
     ·cases hd : o.dst with
      | some d =>
       have := setAll_upd (l.take n) 0 f t i undef o d (hget i o hi ho') hd (hone i o d hi ho' hd)
       rw [Nat.zero_add] at this
       simp only [Act.put, this]
      | none =>
       have := setAll_none (l.take n) 0 f t i undef o (hget i o hi ho') hd
       rw [Nat.zero_add] at this
       simp only [Act.put, this]
     ·by_cases hki : k = i
      ·subst hki
       simp only [upd, if_true]
       exact hsk k hmi w
      ·have := hf k hk ((getD_set L i k h).resolve_left hki)
       simp only [upd, if_neg hki]
       exact this
   ·have hall := hdepAll L i o hcl (by omega) ho' hdep
    have hin : i = n := by
     rcases Nat.lt_or_ge n i with h | h
     ·exact absurd (hall n h) (ht n (Nat.le_refl _))
     ·omega
    subst hin
    have hw := hend f w hCw fun k hk => hf k hk (hall k hk)
    rw [hdrop i o ho'] at hw
    refine hwpo i o _ _ _ ho' hw fun a w h => ⟨hS, hcl', .inr ⟨i + 1, by omega, by omega, fun k hk => ?_, fun k hk h => ?_, h⟩⟩
    ·by_cases e : k = i
     ·subst e; exact hdone
     ·exact getD_keep L i k (hall k (by omega))
    ·rcases getD_set L i k h with h' | h'
     ·omega
     ·exact ht k (by omega) h'
  ·have hij : j ≤ i := by
    rcases Nat.lt_or_ge i j with h | h
    ·exact absurd (hj3 i h) hnd
    ·exact h
   have hall := hdepAll L i o hcl (by omega) ho' hdep
   have hin : i = j := by
    rcases Nat.lt_or_ge j i with h | h
    ·exact absurd (hall j h) (hj4 j (Nat.le_refl _))
    ·omega
   subst hin
   rw [hdrop i o ho'] at hw
   refine hwpo i o _ _ _ ho' hw fun a w h => ⟨hS, hcl', .inr ⟨i + 1, by omega, by omega, fun k hk => ?_, fun k hk h => ?_, h⟩⟩
   ·by_cases e : k = i
    ·subst e; exact hdone
    ·exact getD_keep L i k (hall k (by omega))
   ·rcases getD_set L i k h with h' | h'
    ·omega
    ·exact hj4 k (by omega) h'
 ·rintro L a w ⟨hsz, _, hI⟩ hr
  have hall := all_done' hB2 L hsz hr
  rcases hI with ⟨ht, f, rfl, hCw, hf⟩ | ⟨j, hj1, hj2, hj3, hj4, hw⟩
  ·have hnl : n = l.length := by
    rcases Nat.lt_or_ge n l.length with h | h
    ·exact absurd (hall n h) (ht n (Nat.le_refl _))
    ·omega
   have hw := hend f w hCw fun k hk => hf k hk (hall k (by omega))
   rw [List.drop_eq_nil_of_le (by omega)] at hw
   exact hw
  ·have hjl : j = l.length := by
    rcases Nat.lt_or_ge j l.length with h | h
    ·exact absurd (hall j h) (hj4 j (Nat.le_refl _))
    ·omega
   rw [List.drop_eq_nil_of_le (by omega)] at hw
   exact hw
end
end Go.Proofs.Ytepepoabbbjmgaa.Sc
