/- The tables. -/
import Derived.Test.YtnbonlkmadmpcaaN
import Derived.BigRegion
namespace Go.Proofs.Ytnbonlkmadmpcaa
open Go.RowKit Go.BigFrame
set_option linter.unusedVariables false
set_option linter.unusedSimpArgs false
def zs (n : Nat) : Array Value := (List.replicate n (Value.int .i32 0)).toArray
set_option maxRecDepth 100000 in
theorem info80 : (Try.prog.info? 80).map (fun i => (i.zero, i.size)) = some (some (.agg (zs 52)), 52) := by kernel_rfl
set_option maxRecDepth 100000 in
theorem info82 : (Try.prog.info? 82).map (fun i => (i.zero, i.size)) = some (some (.agg (zs 74)), 74) := by kernel_rfl
theorem size_of_zero {t : TypeId} {n : Nat} {z : Array Value} (h : (Try.prog.info? t).map (fun i => (i.zero, i.size)) = some (some (.agg z), n)) : (Try.prog.info? t).map (·.size) = some n := by
 cases hq : Try.prog.info? t with
 | none => simp [hq] at h
 | some i => simp [hq] at h ⊢; exact h.2
theorem zs_size (n : Nat) : (zs n).size = n := by simp [zs]
theorem zero_size : (spA zeroL).size = 52 := by simp [spA, spC_len]; rfl
theorem wide_size : (spA wideL).size = 74 := by simp [spA, spC_len]; rfl
theorem wpList_build {ops : Array Oper} {rest : List Oper} {op : Oper} {a : Act} {w : World} {Q : Exit → Act → World → Prop} (hgd : op.guard = none) (t : TypeId) (parts : Array (Nat × Operand)) (ho : op.op = .build t parts) (cells : Array Value)
  (hc : Try.prog.built t (parts.toList.map fun (i, x) => (i, a.eval x)) = some cells) (h : wpList Try.prog ops Q rest (a.put op.dst (.agg cells)) w) : wpList Try.prog ops Q (op :: rest) a w := by
 refine wpList_plain hgd fun K hK => ?_
 unfold Oper.wp execOp
 simp only [ho, Sem.run_bind, run_build w t _ cells ((congrArg _ Array.toList_map).trans hc), Result.andThen_ok, Sem.run_pure]
 exact hK _ _ h
set_option maxRecDepth 100000 in
theorem built79 (x y : Int) : Try.prog.built 79 [(0, .int .i32 x), (1, .int .i32 y)] = some #[.int .i32 x, .int .i32 y] := by kernel_rfl
theorem wpList_b79 {ops : Array Oper} {rest : List Oper} {op : Oper} {a : Act} {w : World} {Q : Exit → Act → World → Prop} (hgd : op.guard = none) (x y : Int) (ho : op.op = .build 79 #[(0, .const (.int .i32 x)), (1, .const (.int .i32 y))])
  (h : wpList Try.prog ops Q rest (a.put op.dst (.agg #[.int .i32 x, .int .i32 y])) w) : wpList Try.prog ops Q (op :: rest) a w :=
 wpList_build hgd 79 _ ho _ (built79 x y) h
theorem wpList_act {P : Program} {ops : Array Oper} {l : List Oper} {a b : Act} {w : World} {Q : Exit → Act → World → Prop} (h : a = b) (k : wpList P ops Q l b w) : wpList P ops Q l a w := h ▸ k
theorem below_setRow {N : Nat} {W w1 : World} {b : Nat} (h : Below N W w1) (hb : N ≤ b) (c : Array Value) : Below N W (w1.setRow b c) := ⟨h.os, h.tape, h.output, by rw [setRow_size]; exact h.size, fun k hk => by rw [setRow_other _ _ _ _ (by omega)]; exact h.block k hk⟩
theorem results67 (tmps : Array Value) (b : Nat) (hx : tmps.getD 0 undef = .pointer (some ⟨b, 0, none⟩)) (w : World) (c : Array Value) (hr : Row w b 80 c) (hn : c.size = 52) : (results Try.f67 tmps).run Try.prog w = .ok (.agg c) w :=
 results_row (p := 0) (ty := 80) rfl tmps b hx 80 c hr _ Try.underlying80 rfl 52 (size_of_zero info80) hn
theorem results69 (tmps : Array Value) (b : Nat) (hx : tmps.getD 0 undef = .pointer (some ⟨b, 0, none⟩)) (w : World) (c : Array Value) (hr : Row w b 82 c) (hn : c.size = 74) : (results Try.f69 tmps).run Try.prog w = .ok (.agg c) w :=
 results_row (p := 0) (ty := 82) rfl tmps b hx 82 c hr _ Try.underlying82 rfl 74 (size_of_zero info82) hn
set_option maxRecDepth 100000 in
set_option maxHeartbeats 4000000 in
theorem zeroTable_any (w : World) : Calls Try.prog 67 #[] w fun e w' => e = .returned (.agg (spA zeroL)) ∧ Below w.heap.size w w' := by
 have hi := Box'.mk info80
 have hs := Box'.mk (size_of_zero info80)
 have R0 := Box'.mk (Row.new w 80 (zs 52))
 have B0 := Box'.mk ((Below.refl w.heap.size w).alloc (Nat.le_refl _) (.cells (zs 52) 80))
 obtain ⟨Z, hz, ho⟩ : ∃ Z, Box' (spA zeroL = Z ∧ Z.size = 52) ∧ Box' (Z.all (·.oneCell') = true) := ⟨_, ⟨rfl, zero_size⟩, ⟨spA_one _⟩⟩
 rw [hz.out.1]
 go_enter Try.func67, Try.ntmps67
 go_wp2_with (first
  | (refine wpList_alloc_row rfl 80 rfl (zs 52) 52 hi.out ?_)
  | (refine wpList_b79 rfl _ _ rfl ?_)
  | (refine wpList_build rfl 80 _ rfl Z (by rw [← hz.out.1]; kernel_rfl) ?_)
  | (refine wpList_store_row rfl 80 (.tmp 0) (.tmp 27) rfl w.heap.size (by kernel_rfl) Z (by kernel_rfl) 80 52 (R0.out.room (zs_size 52)) hs.out hz.out.2 ho.out (wpList_act (b := ⟨#[.pointer (some ⟨w.heap.size, 0, none⟩), .agg #[.int .i32 768, .int .i32 879], .agg #[.int .i32 1155, .int .i32 1161], .agg #[.int .i32 1425, .int .i32 1469], .agg #[.int .i32 1471, .int .i32 1471], .agg #[.int .i32 1473, .int .i32 1474], .agg #[.int .i32 1552, .int .i32 1562], .agg #[.int .i32 1611, .int .i32 1631], .agg #[.int .i32 1750, .int .i32 1756], .agg #[.int .i32 2304, .int .i32 2306], .agg #[.int .i32 2364, .int .i32 2364], .agg #[.int .i32 2369, .int .i32 2376], .agg #[.int .i32 2381, .int .i32 2381], .agg #[.int .i32 3633, .int .i32 3633], .agg #[.int .i32 3636, .int .i32 3642], .agg #[.int .i32 6832, .int .i32 6911], .agg #[.int .i32 7616, .int .i32 7679], .agg #[.int .i32 8203, .int .i32 8207], .agg #[.int .i32 8234, .int .i32 8238], .agg #[.int .i32 8288, .int .i32 8292], .agg #[.int .i32 8400, .int .i32 8447], .agg #[.int .i32 12330, .int .i32 12333], .agg #[.int .i32 12441, .int .i32 12442], .agg #[.int .i32 65024, .int .i32 65039], .agg #[.int .i32 65056, .int .i32 65071], .agg #[.int .i32 65279, .int .i32 65279], .agg #[.int .i32 917760, .int .i32 917999], .agg Z], []⟩) (by kernel_rfl) ?_)))
 exact bodyPost_ret (results67 _ w.heap.size rfl _ Z (R0.out.setRow Z) hz.out.2) rfl ⟨rfl, below_setRow B0.out (Nat.le_refl _) _⟩
set_option maxRecDepth 100000 in
set_option maxHeartbeats 4000000 in
theorem wideTable_any (w : World) : Calls Try.prog 69 #[] w fun e w' => e = .returned (.agg (spA wideL)) ∧ Below w.heap.size w w' := by
 have hi := Box'.mk info82
 have hs := Box'.mk (size_of_zero info82)
 have R0 := Box'.mk (Row.new w 82 (zs 74))
 have B0 := Box'.mk ((Below.refl w.heap.size w).alloc (Nat.le_refl _) (.cells (zs 74) 82))
 obtain ⟨Z, hz, ho⟩ : ∃ Z, Box' (spA wideL = Z ∧ Z.size = 74) ∧ Box' (Z.all (·.oneCell') = true) := ⟨_, ⟨rfl, wide_size⟩, ⟨spA_one _⟩⟩
 rw [hz.out.1]
 go_enter Try.func69, Try.ntmps69
 go_wp2_with (first
  | (refine wpList_alloc_row rfl 82 rfl (zs 74) 74 hi.out ?_)
  | (refine wpList_b79 rfl _ _ rfl ?_)
  | (refine wpList_build rfl 82 _ rfl Z (by rw [← hz.out.1]; kernel_rfl) ?_)
  | (refine wpList_store_row rfl 82 (.tmp 0) (.tmp 38) rfl w.heap.size (by kernel_rfl) Z (by kernel_rfl) 82 74 (R0.out.room (zs_size 74)) hs.out hz.out.2 ho.out (wpList_act (b := ⟨#[.pointer (some ⟨w.heap.size, 0, none⟩), .agg #[.int .i32 4352, .int .i32 4447], .agg #[.int .i32 8986, .int .i32 8987], .agg #[.int .i32 9001, .int .i32 9002], .agg #[.int .i32 9193, .int .i32 9196], .agg #[.int .i32 9725, .int .i32 9726], .agg #[.int .i32 9748, .int .i32 9749], .agg #[.int .i32 9800, .int .i32 9811], .agg #[.int .i32 9889, .int .i32 9889], .agg #[.int .i32 9917, .int .i32 9918], .agg #[.int .i32 9989, .int .i32 9989], .agg #[.int .i32 10024, .int .i32 10024], .agg #[.int .i32 10060, .int .i32 10060], .agg #[.int .i32 10067, .int .i32 10069], .agg #[.int .i32 10133, .int .i32 10135], .agg #[.int .i32 11035, .int .i32 11036], .agg #[.int .i32 11088, .int .i32 11088], .agg #[.int .i32 11904, .int .i32 12350], .agg #[.int .i32 12353, .int .i32 13311], .agg #[.int .i32 13312, .int .i32 19903], .agg #[.int .i32 19968, .int .i32 40959], .agg #[.int .i32 40960, .int .i32 42191], .agg #[.int .i32 44032, .int .i32 55203], .agg #[.int .i32 63744, .int .i32 64255], .agg #[.int .i32 65072, .int .i32 65135], .agg #[.int .i32 65281, .int .i32 65376], .agg #[.int .i32 65504, .int .i32 65510], .agg #[.int .i32 127744, .int .i32 127776], .agg #[.int .i32 127789, .int .i32 127797], .agg #[.int .i32 127799, .int .i32 127868], .agg #[.int .i32 128000, .int .i32 128062], .agg #[.int .i32 128064, .int .i32 128064], .agg #[.int .i32 128066, .int .i32 128252], .agg #[.int .i32 128512, .int .i32 128591], .agg #[.int .i32 128640, .int .i32 128709], .agg #[.int .i32 129280, .int .i32 129535], .agg #[.int .i32 131072, .int .i32 196605], .agg #[.int .i32 196608, .int .i32 262141], .agg Z], []⟩) (by kernel_rfl) ?_)))
 exact bodyPost_ret (results69 _ w.heap.size rfl _ Z (R0.out.setRow Z) hz.out.2) rfl ⟨rfl, below_setRow B0.out (Nat.le_refl _) _⟩
end Go.Proofs.Ytnbonlkmadmpcaa
