/- The reference's tables. -/
import Derived.Test.YtnbonlkmadmpcaaG
namespace Go.Proofs.Ytnbonlkmadmpcaa
open Go.RowKit Go.BigFrame
set_option linter.unusedVariables false
set_option linter.unusedSimpArgs false
theorem zs_range (n : Nat) : (Array.range (n * 2)).map (fun i => (#[Value.int .i32 0, Value.int .i32 0] : Array Value)[i % 2]!) = zs (2 * n) := by
 apply Array.ext
 ·simp [zs]; omega
 ·intro i h1 h2
  simp only [zs, Array.getElem_map, Array.getElem_range, List.getElem_toArray, List.getElem_replicate]
  have : i % 2 = 0 ∨ i % 2 = 1 := by omega
  rcases this with h | h <;> rw [h] <;> rfl
set_option maxRecDepth 100000 in
theorem info79 : (Try.prog.info? 79).map (fun i => (i.zero, i.size)) = some (some (.agg #[.int .i32 0, .int .i32 0]), 2) := by kernel_rfl
theorem run_buildS (w : World) (n : Nat) (parts : Array (Nat × Value)) (h0 : 0 < n) (hn : n * 2 ≤ 16777216) (cells : Array Value) (hf : Instr.fill (fun i => some (i * 2, 2)) (zs (2 * n)) parts.toList = some cells) :
  (Instr.buildSlice 75 n parts).run Try.prog w = .ok (.slice (some ⟨w.heap.size, 0, none⟩) n n) (w.alloc (.cells cells 79)) := by
 obtain ⟨i, hi, h1, h2⟩ : ∃ i, Try.prog.info? 79 = some i ∧ i.zero = some (.agg #[.int .i32 0, .int .i32 0]) ∧ i.size = 2 := by
  cases hq : Try.prog.info? 79 with
  | none => have := info79; simp [hq] at this
  | some i => have := info79; simp [hq] at this; exact ⟨i, rfl, this⟩
 have hz := zs_range n
 have g1 : ¬ (n * 2 > 2 ^ 24) := by omega
 have g2 : ¬ (n * 2 = 0) := by omega
 have hs : (sizeOf 79).run Try.prog w = .ok 2 w := by simp [sizeOf, typeInfo, hi, h2]
 have hv : (zeroValue 79).run Try.prog w = .ok (.agg #[.int .i32 0, .int .i32 0]) w := by simp [zeroValue, typeInfo, hi, h1]
 have g3 : (#[Value.int .i32 0, Value.int .i32 0] : Array Value).size = 2 := rfl
 simp only [Instr.buildSlice, Sem.run_bind, run_underlying Try.underlying75, Result.andThen_ok, hs, if_neg g1, if_neg g2, Sem.run_pure, hv, Value.cells, g3, hz, hf, newRow, run_newObj_alloc]
theorem wpList_bS {ops : Array Oper} {rest : List Oper} {op : Oper} {a : Act} {w : World} {Q : Exit → Act → World → Prop} (hgd : op.guard = none) (n : Nat) (parts : Array (Nat × Operand)) (ho : op.op = .buildSlice 75 n parts) (h0 : 0 < n) (hn : n * 2 ≤ 16777216) (cells : Array Value)
  (hc : Instr.fill (fun i => some (i * 2, 2)) (zs (2 * n)) (parts.toList.map fun (i, x) => (i, a.eval x)) = some cells) (h : wpList Try.prog ops Q rest (a.put op.dst (.slice (some ⟨w.heap.size, 0, none⟩) n n)) (w.alloc (.cells cells 79))) : wpList Try.prog ops Q (op :: rest) a w := by
 refine wpList_plain hgd fun K hK => ?_
 unfold Oper.wp execOp
 simp only [ho, Sem.run_bind, run_buildS w n _ h0 hn cells ((congrArg _ Array.toList_map).trans hc), Result.andThen_ok, Sem.run_pure]
 exact hK _ _ h
set_option maxRecDepth 100000 in
set_option maxHeartbeats 4000000 in
theorem refZero_any (w : World) : Calls Try.prog 63 #[] w fun e w' => ∃ v, e = .returned v ∧ v = .slice (some ⟨w.heap.size, 0, none⟩) 26 26 ∧ Sps w'.heap.size w' v zeroL ∧ Below w.heap.size w w' := by
 have B0 := Box'.mk ((Below.refl w.heap.size w).alloc (Nat.le_refl _) (.cells (spA zeroL) 79))
 have S0 := Box'.mk ((Row.new w 79 (spA zeroL)).sps (n := 26) rfl)
 obtain ⟨Z, hz⟩ : ∃ Z, Box' (spA zeroL = Z) := ⟨_, ⟨rfl⟩⟩
 rw [hz.out] at B0 S0
 go_enter Try.func63, Try.ntmps63
 go_wp2_with (first
  | (refine wpList_b79 rfl _ _ rfl ?_)
  | (refine wpList_bS rfl 26 _ rfl (by decide) (by decide) Z (by rw [← hz.out]; kernel_rfl) (wpList_act (b := ⟨#[.slice none 0 0, .agg #[.int .i32 768, .int .i32 879], .agg #[.int .i32 1155, .int .i32 1161], .agg #[.int .i32 1425, .int .i32 1469], .agg #[.int .i32 1471, .int .i32 1471], .agg #[.int .i32 1473, .int .i32 1474], .agg #[.int .i32 1552, .int .i32 1562], .agg #[.int .i32 1611, .int .i32 1631], .agg #[.int .i32 1750, .int .i32 1756], .agg #[.int .i32 2304, .int .i32 2306], .agg #[.int .i32 2364, .int .i32 2364], .agg #[.int .i32 2369, .int .i32 2376], .agg #[.int .i32 2381, .int .i32 2381], .agg #[.int .i32 3633, .int .i32 3633], .agg #[.int .i32 3636, .int .i32 3642], .agg #[.int .i32 6832, .int .i32 6911], .agg #[.int .i32 7616, .int .i32 7679], .agg #[.int .i32 8203, .int .i32 8207], .agg #[.int .i32 8234, .int .i32 8238], .agg #[.int .i32 8288, .int .i32 8292], .agg #[.int .i32 8400, .int .i32 8447], .agg #[.int .i32 12330, .int .i32 12333], .agg #[.int .i32 12441, .int .i32 12442], .agg #[.int .i32 65024, .int .i32 65039], .agg #[.int .i32 65056, .int .i32 65071], .agg #[.int .i32 65279, .int .i32 65279], .agg #[.int .i32 917760, .int .i32 917999], .slice (some ⟨w.heap.size, 0, none⟩) 26 26], []⟩) (by kernel_rfl) ?_)))
 go_ret
 exact ⟨_, rfl, rfl, S0.out, B0.out⟩
set_option maxRecDepth 100000 in
set_option maxHeartbeats 4000000 in
theorem refWide_any (w : World) : Calls Try.prog 64 #[] w fun e w' => ∃ v, e = .returned v ∧ v = .slice (some ⟨w.heap.size, 0, none⟩) 37 37 ∧ Sps w'.heap.size w' v wideL ∧ Below w.heap.size w w' := by
 have B0 := Box'.mk ((Below.refl w.heap.size w).alloc (Nat.le_refl _) (.cells (spA wideL) 79))
 have S0 := Box'.mk ((Row.new w 79 (spA wideL)).sps (n := 37) rfl)
 obtain ⟨Z, hz⟩ : ∃ Z, Box' (spA wideL = Z) := ⟨_, ⟨rfl⟩⟩
 rw [hz.out] at B0 S0
 go_enter Try.func64, Try.ntmps64
 go_wp2_with (first
  | (refine wpList_b79 rfl _ _ rfl ?_)
  | (refine wpList_bS rfl 37 _ rfl (by decide) (by decide) Z (by rw [← hz.out]; kernel_rfl) (wpList_act (b := ⟨#[.slice none 0 0, .agg #[.int .i32 4352, .int .i32 4447], .agg #[.int .i32 8986, .int .i32 8987], .agg #[.int .i32 9001, .int .i32 9002], .agg #[.int .i32 9193, .int .i32 9196], .agg #[.int .i32 9725, .int .i32 9726], .agg #[.int .i32 9748, .int .i32 9749], .agg #[.int .i32 9800, .int .i32 9811], .agg #[.int .i32 9889, .int .i32 9889], .agg #[.int .i32 9917, .int .i32 9918], .agg #[.int .i32 9989, .int .i32 9989], .agg #[.int .i32 10024, .int .i32 10024], .agg #[.int .i32 10060, .int .i32 10060], .agg #[.int .i32 10067, .int .i32 10069], .agg #[.int .i32 10133, .int .i32 10135], .agg #[.int .i32 11035, .int .i32 11036], .agg #[.int .i32 11088, .int .i32 11088], .agg #[.int .i32 11904, .int .i32 12350], .agg #[.int .i32 12353, .int .i32 13311], .agg #[.int .i32 13312, .int .i32 19903], .agg #[.int .i32 19968, .int .i32 40959], .agg #[.int .i32 40960, .int .i32 42191], .agg #[.int .i32 44032, .int .i32 55203], .agg #[.int .i32 63744, .int .i32 64255], .agg #[.int .i32 65072, .int .i32 65135], .agg #[.int .i32 65281, .int .i32 65376], .agg #[.int .i32 65504, .int .i32 65510], .agg #[.int .i32 127744, .int .i32 127776], .agg #[.int .i32 127789, .int .i32 127797], .agg #[.int .i32 127799, .int .i32 127868], .agg #[.int .i32 128000, .int .i32 128062], .agg #[.int .i32 128064, .int .i32 128064], .agg #[.int .i32 128066, .int .i32 128252], .agg #[.int .i32 128512, .int .i32 128591], .agg #[.int .i32 128640, .int .i32 128709], .agg #[.int .i32 129280, .int .i32 129535], .agg #[.int .i32 131072, .int .i32 196605], .agg #[.int .i32 196608, .int .i32 262141], .slice (some ⟨w.heap.size, 0, none⟩) 37 37], []⟩) (by kernel_rfl) ?_)))
 go_ret
 exact ⟨_, rfl, rfl, S0.out, B0.out⟩
end Go.Proofs.Ytnbonlkmadmpcaa
