/- What a call leaves but for one block; rows cut out of a grid. Slices of cells cut anywhere, copied, filled. Cells pushed along. -/
import Derived.Test.YtlekleeckcdcgaaGreatMb
import Derived.Test.YtlekleeckcdcgaaGreatEq
namespace Go.Proofs.YtlekleeckcdcgaaGreat
open Go.RowKit Go.BigFrame
set_option linter.unusedVariables false
set_option linter.unusedSimpArgs false
set_option maxRecDepth 100000
set_option maxHeartbeats 8000000
/-- All that stood in w stands in w', but for the block b. -/
structure Tc (b : Nat) (w w' : World) : Prop where
 os : w'.os = w.os
 tape : w'.tape = w.tape
 output : w'.output = w.output
 size : w.heap.size ≤ w'.heap.size
 block : ∀ k, k < w.heap.size → k ≠ b → w'.heap[k]? = w.heap[k]?
theorem Tc.refl (b : Nat) (w : World) : Tc b w w := ⟨rfl, rfl, rfl, Nat.le_refl _, fun _ _ _ => rfl⟩
theorem Tc.trans {b : Nat} {w w' w'' : World} (h : Tc b w w') (k : Tc b w' w'') : Tc b w w'' :=
 ⟨k.os.trans h.os, k.tape.trans h.tape, k.output.trans h.output, Nat.le_trans h.size k.size, fun i hi hb => (k.block i (Nat.lt_of_lt_of_le hi h.size) hb).trans (h.block i hi hb)⟩
theorem Tc.of {b : Nat} {w w' : World} (h : Below w.heap.size w w') : Tc b w w' := ⟨h.os, h.tape, h.output, h.size, fun k hk _ => h.block k hk⟩
theorem Tc.then {b : Nat} {w w' w'' : World} (h : Tc b w w') (k : Below w'.heap.size w' w'') : Tc b w w'' := h.trans (Tc.of k)
theorem Tc.setRow {b : Nat} {w w' : World} (h : Tc b w w') (c : Array Value) : Tc b w (w'.setRow b c) :=
 ⟨h.os, h.tape, h.output, by rw [setRow_size]; exact h.size, fun k hk hb => by rw [setRow_other _ _ _ _ hb]; exact h.block k hk hb⟩
theorem Tc.row {b : Nat} {w w' : World} (h : Tc b w w') {k : Nat} {t : TypeId} {c : Array Value} (hr : Row w k t c) (hb : k ≠ b) : Row w' k t c := by
 show w'.heap[k]? = _
 rw [h.block k hr.lt hb]; exact hr
theorem Tc.below {b : Nat} {w w' : World} (h : Tc b w w') {N : Nat} (hN : N ≤ b) (hN2 : N ≤ w.heap.size) : Below N w w' :=
 ⟨h.os, h.tape, h.output, h.size, fun k hk => h.block k (by omega) (by omega)⟩
theorem Tc.drew {b : Nat} {w w' : World} (h : Tc b w w') : Tc b w w'.drew := h.then (bR.drew)
/-- The cells of a grid's own value. -/
def gA (co ro : Int) (v : Value) : Array Value := #[.int .i64 co, .int .i64 ro, v]
theorem s24g : (Tryz.prog.info? 24).map (·.size) = some 3 := by kernel_rfl
theorem muls {a b c : Nat} : a * (b + c) - a * b = a * c := by rw [Nat.mul_add]; omega
theorem place_b (a b : Nat) (ha : a ≤ 1024) (hb : b ≤ 1024) (w : World) : Calls Tryz.prog 114 #[.int .i64 (a : Int), .int .i64 (b : Int)] w fun e w' => e = .returned (.int .i64 ((a * b : Nat) : Int)) ∧ Below w.heap.size w w' :=
 (place_any a b ha hb w).mono fun e w' h => ⟨h.1, h.2 ▸ Below.refl _ _⟩
theorem rowsOf_any (cols top count b o n c : Nat) (ro : Int) (h1 : 1 ≤ cols) (h2 : cols ≤ 512) (h3 : 1 ≤ count) (h4 : top + count ≤ 512) (h5 : cols * (top + count) ≤ c) (w : World) :
  Calls Tryz.prog 157 #[.agg (gA (cols : Int) ro (.slice (some ⟨b, o, none⟩) n c)), .int .i64 (top : Int), .int .i64 (count : Int)] w fun e w' =>
   e = .returned (.slice (some ⟨b, o + cols * top * 15, none⟩) (cols * count) (cols * count)) ∧ Below w.heap.size w w' := by
 have P1 := Box'.mk (place_b cols top (by omega) (by omega))
 have P2 := Box'.mk (place_b cols (top + count) (by omega) (by omega))
 rw [Int.natCast_add] at P2
 have hle : cols * top ≤ cols * (top + count) := Nat.mul_le_mul_left _ (by omega)
 have hlt : cols * top < cols * (top + count) := Nat.mul_lt_mul_of_pos_left (by omega) (by omega)
 have E : Box' (cols * (top + count) - cols * top = cols * count) := ⟨muls⟩
 have CT := Box'.mk (fun w => run_cutC3 b o n c (cols * top) (cols * (top + count)) (cols * (top + count)) hle (Nat.le_refl _) h5 hlt w)
 have R1 := Box'.mk (Row.new w 24 (gA (cols : Int) ro (.slice (some ⟨b, o, none⟩) n c)))
 have B1 := Box'.mk ((Below.refl w.heap.size w).alloc (Nat.le_refl _) (.cells (gA (cols : Int) ro (.slice (some ⟨b, o, none⟩) n c)) 24))
 generalize cols * top = lo at *
 generalize cols * (top + count) = hi at *
 go_enter Tryz.func157, Tryz.ntmps157
 go_upto_region 1 with (fail)
 generalize (w.alloc (.cells (gA (cols : Int) ro (.slice (some ⟨b, o, none⟩) n c)) 24)) = w1 at *
 refine wp_region_growg 10 (by kernel_rfl) 25 rfl (by kernel_rfl) (fun wa wb => Below wa.heap.size wa wb) (fun wa => Row wa w.heap.size 24 (gA (cols : Int) ro (.slice (some ⟨b, o, none⟩) n c)) ∧ Below w.heap.size w wa) (fun kc wa v => v = (match kc with
  | 0 => .pointer (some ⟨w.heap.size, 0, none⟩)
  | 1 => .int .i64 (cols : Int)
  | 2 => .int .i64 (top : Int)
  | 3 => .int .i64 (lo : Int)
  | 4 => .pointer (some ⟨w.heap.size, 0, none⟩)
  | 5 => .int .i64 (cols : Int)
  | 6 => .int .i64 (top : Int)
  | 7 => .int .i64 (count : Int)
  | 8 => .int .i64 ((top : Int) + (count : Int))
  | 9 => .int .i64 (hi : Int)
  | _ => undef)) ?_ ?_ ?_ ?_ ?_ ?_
 ·intro i o' j b' hi hg wa v hC hV
  have hlt : i < 10 := by rcases Nat.lt_or_ge i 10 with q | q; exact q; rw [List.getElem?_eq_none (by simpa using q)] at hi; cases hi
  revert hi hg hV
  rcases (show i = 0 ∨ i = 1 ∨ i = 2 ∨ i = 3 ∨ i = 4 ∨ i = 5 ∨ i = 6 ∨ i = 7 ∨ i = 8 ∨ i = 9 by omega) with rfl | rfl | rfl | rfl | rfl | rfl | rfl | rfl | rfl | rfl <;>
   (intro hi hg hV; simp only [tkS, List.getElem?_cons_zero, List.getElem?_cons_succ, Option.some.injEq] at hi; subst hi; first | (cases hg; exact hV) | (cases hg))
 ·rintro wa wb hb ⟨q1, q2⟩; exact ⟨q1.below hb q1.lt, q2.trans (hb.mono q2.size)⟩
 ·exact fun kc v wa wb hC1 hb h => h
 ·exact ⟨R1.out.drew, B1.out.drew⟩
 ·refine ⟨?a0, ?a1, ?a2, ?a3, ?a4, ?a5, ?a6, ?a7, ?a8, ?a9, trivial⟩
  all_goals intro f wq hC hd KK hK
  all_goals have cq0 : wq.cell? ⟨w.heap.size, 0, none⟩ = some (.int .i64 (cols : Int)) := hC.1.cell 0
  all_goals simp (disch := decide +kernel) only [tkS, tkZ, setAll, siB, stS, stZ, Nat.zero_add, Nat.reduceAdd, hd] at hK ⊢
  case a3 =>
   exact wp_call 114 #[.int .i64 (cols : Int), .int .i64 (top : Int)] (by simp [go_sem]) _ _ (P1.out wq) (fun w' hb => hK _ _ rfl hb)
  case a9 =>
   exact wp_call 114 #[.int .i64 (cols : Int), .int .i64 ((top : Int) + (count : Int))] (by simp [go_sem]) _ _ (P2.out wq) (fun w' hb => hK _ _ rfl hb)
  all_goals (skip; refine wp_of_quiet rfl ?_; go_big_quiet_step (fail); exact wpQuiet_nil (hK _ _ (rfl) bR))
 ·intro f wz hC hv
  simp (disch := decide) only [tkS, tkZ, List.drop_succ_cons, List.drop_zero, setAll, siB, stS, stZ, Nat.zero_add, Nat.reduceAdd, hv]
  clear hv
  have c2 : wz.cell? ⟨w.heap.size, 2, none⟩ = some (.slice (some ⟨b, o, none⟩) n c) := hC.1.cell 2
  have B2 := Box'.mk hC.2
  clear hC R1 B1 P1 P2
  go_wp2_with (first
   | (refine wpList_slice rfl 22 (.tmp 20) (some (.tmp 21)) (some (.tmp 22)) (some (.tmp 23)) rfl _ (CT.out _) ?_))
  go_ret
  rw [← E.out]
  exact ⟨rfl, B2.out⟩
theorem rowOf_any (cols top b o n c : Nat) (ro : Int) (h1 : 1 ≤ cols) (h2 : cols ≤ 512) (h4 : top < 512) (h5 : cols * (top + 1) ≤ c) (w : World) :
  Calls Tryz.prog 117 #[.agg (gA (cols : Int) ro (.slice (some ⟨b, o, none⟩) n c)), .int .i64 (top : Int)] w fun e w' =>
   e = .returned (.slice (some ⟨b, o + cols * top * 15, none⟩) cols cols) ∧ Below w.heap.size w w' := by
 have RW := Box'.mk (rowsOf_any cols top 1 b o n c ro h1 h2 (by omega) (by omega) h5)
 have U24 := Box'.mk Tryz.underlying24
 have S24 := Box'.mk s24g
 rw [Nat.mul_one] at RW
 have R1 := Box'.mk (Row.new w 24 (gA (cols : Int) ro (.slice (some ⟨b, o, none⟩) n c)))
 have B1 := Box'.mk ((Below.refl w.heap.size w).alloc (Nat.le_refl _) (.cells (gA (cols : Int) ro (.slice (some ⟨b, o, none⟩) n c)) 24))
 go_enter Tryz.func117, Tryz.ntmps117
 go_upto_region 1 with (fail)
 generalize (w.alloc (.cells (gA (cols : Int) ro (.slice (some ⟨b, o, none⟩) n c)) 24)) = w1 at *
 go_wp2_with (first
  | (refine wpList_load_row rfl 24 (.tmp 2) rfl w.heap.size rfl 24 (gA (cols : Int) ro (.slice (some ⟨b, o, none⟩) n c)) R1.out _ U24.out rfl 3 S24.out rfl ?_))
 refine (RW.out _).mono ?_
 rintro e w2 ⟨rfl, hb2⟩
 have B2 := Box'.mk (B1.out.trans (hb2.mono B1.out.size))
 clear hb2 RW R1 B1
 go_wp2_with fail
 go_ret
 exact ⟨rfl, B2.out⟩
theorem results_none {fn : Func} (h : fn.results = #[]) (tmps : Array Value) (w : World) : (results fn tmps).run Tryz.prog w = .ok (.tuple #[]) w := by simp [results, h]
/-- Where a slice begins that is cut off another one. -/
def cutO (o c lo : Nat) : Nat := if c = lo then o else o + lo * 15
theorem cutO_at {o c lo : Nat} (h : ¬ c = lo) : cutO o c lo = o + lo * 15 := if_neg h
/-- x[lo:] -/
theorem run_cutL (b o n c lo : Nat) (h : lo ≤ n) (h2 : n ≤ c) (w : World) : (Instr.sliceAt 22 (.slice (some ⟨b, o, none⟩) n c) (some (.int .i64 (lo : Int))) none none).run Tryz.prog w = .ok (.slice (some ⟨b, cutO o c lo, none⟩) (n - lo) (c - lo)) w := by
 have e : Tryz.prog.elem 22 = 56 := by kernel_rfl
 rw [run_sliceAt_slice w 22 _ _ _ _ (by kernel_rfl), run_slice_l w 22 _ n c (by kernel_rfl) _ _ (by omega) (by omega), e, size26]
 simp only [Result.andThen_ok, Int.toNat_natCast, sliced, cutO]
 split
 ·rfl
 ·simp only [Option.map_some, Addr.add_mid]
/-- x[lo:hi] -/
theorem run_cutLH (b o n c lo hi : Nat) (h : lo ≤ hi) (h2 : hi ≤ c) (w : World) : (Instr.sliceAt 22 (.slice (some ⟨b, o, none⟩) n c) (some (.int .i64 (lo : Int))) (some (.int .i64 (hi : Int))) none).run Tryz.prog w = .ok (.slice (some ⟨b, cutO o c lo, none⟩) (hi - lo) (c - lo)) w := by
 have e : Tryz.prog.elem 22 = 56 := by kernel_rfl
 rw [run_sliceAt_slice w 22 _ _ _ _ (by kernel_rfl), run_slice_lh w 22 _ n c (by kernel_rfl) _ _ _ _ (by omega) (by omega) (by omega), e, size26]
 simp only [Result.andThen_ok, Int.toNat_natCast, sliced, cutO]
 split
 ·rfl
 ·simp only [Option.map_some, Addr.add_mid]
/-- x[:hi] -/
theorem run_cutH (b o n c hi : Nat) (h2 : hi ≤ c) (w : World) : (Instr.sliceAt 22 (.slice (some ⟨b, o, none⟩) n c) none (some (.int .i64 (hi : Int))) none).run Tryz.prog w = .ok (.slice (some ⟨b, o, none⟩) hi c) w := by
 have e : Tryz.prog.elem 22 = 56 := by kernel_rfl
 rw [run_sliceAt_slice w 22 _ _ _ _ (by kernel_rfl), run_slice_h w 22 _ n c (by kernel_rfl) _ _ (by omega) (by omega), e, size26]
 simp only [Result.andThen_ok, Int.toNat_natCast, sliced]
 split
 ·rfl
 ·simp only [Option.map_some, Addr.add_mid, Nat.zero_mul, Nat.add_zero, Nat.sub_zero]
/-- Cells are copied into a block, none too. -/
theorem run_copyG (w : World) (ty : TypeId) (g x o dLen dCap : Nat) (ad : Addr) (sLen sCap : Nat) (l m : List Cl) (sp : List Value) (hr : RC w g l sp) (hn : m.length = Nat.min sLen dLen) (hx : m = [] ∨ x = o * 15)
  (hsrc : ∀ j v, (cLs m)[j]? = some v → w.cell? (ad.add j) = some v) (hfit : o + m.length ≤ l.length) :
  (Builtin.copy_ #[22, 22] ty #[.slice (some ⟨g, x, none⟩) dLen dCap, .slice (some ad) sLen sCap]).run Tryz.prog w = .ok (goInt m.length) (w.setRow g (cLs (l.take o ++ m ++ l.drop (o + m.length)) ++ sp).toArray) := by
 rcases hx with rfl | rfl
 ·obtain ⟨i, z, h1, h2, h3, h4, h5⟩ := info26'
  have e : cLs (l.take o ++ [] ++ l.drop (o + ([] : List Cl).length)) ++ sp = cLs l ++ sp := by simp
  rw [e, setRow_self w g _ 56 (0, 0) hr]
  have hn' : Nat.min sLen dLen = 0 := by rw [← hn]; rfl
  have hl := run_loadCells_list (P := Tryz.prog) w ad [] (fun j v h => by simp at h)
  simp only [List.length_nil] at hl
  simp [Builtin.copy_, run_underlying Tryz.underlying22, Builtin.lenOf, Builtin.firstCells, sizeOf, typeInfo, h1, h3, hn', hl, storeCells]
 ·exact run_copy15 w ty g o dLen dCap ad sLen sCap l m sp hr hn hsrc hfit
/-- Blanks laid over cells. -/
def fiL (l : List Cl) (o k : Nat) (s : St) : List Cl := l.take o ++ List.replicate k (bl s) ++ l.drop (o + k)
theorem fiL_len (l : List Cl) (o k : Nat) (s : St) (h : o + k ≤ l.length) : (fiL l o k s).length = l.length := by
 unfold fiL
 simp only [List.length_append, List.length_take, List.length_drop, List.length_replicate]
 omega
theorem fiL_zero (l : List Cl) (o : Nat) (s : St) : fiL l o 0 s = l := by simp [fiL]
theorem fiL_step (l : List Cl) (o k : Nat) (s : St) (h : o + k < l.length) : (fiL l o k s).set (o + k) (bl s) = fiL l o (k + 1) s := by
 unfold fiL
 have h1 : (l.take o ++ List.replicate k (bl s)).length = o + k := by simp only [List.length_append, List.length_take, List.length_replicate]; omega
 rw [List.set_append_right _ _ (by omega), h1, Nat.sub_self, List.drop_eq_getElem_cons h, stZ, List.replicate_succ', ← Nat.add_assoc]
 simp
section
variable {ops : Array Oper} {rest : List Oper} {op : Oper} {a : Act} {w : World} {Q : Exit → Act → World → Prop}
theorem wp_copyG {K : Act → World → Prop} (s x : Operand) (ho : op.op = .call { callee := .builtin .copy, args := #[s, x], argTypes := #[22, 22] }) (g y o dLen dCap : Nat) (ad : Addr) (sLen sCap : Nat) (l m : List Cl) (sp : List Value)
  (hs : a.eval s = .slice (some ⟨g, y, none⟩) dLen dCap) (hxx : a.eval x = .slice (some ad) sLen sCap) (hr : RC w g l sp) (hn : m.length = Nat.min sLen dLen) (hx : m = [] ∨ y = o * 15)
  (hsrc : ∀ j v, (cLs m)[j]? = some v → w.cell? (ad.add j) = some v) (hfit : o + m.length ≤ l.length)
  (h : K (a.put op.dst (goInt m.length)) (w.setRow g (cLs (l.take o ++ m ++ l.drop (o + m.length)) ++ sp).toArray)) : op.wp Tryz.prog a w K Q := by
 unfold Oper.wp execOp
 simp only [ho, resolve, invoke, builtin, Sem.run_bind, Sem.run_pure, Result.andThen_ok, List.map_toArray, List.map_cons, List.map_nil, hs, hxx, run_copyG w _ g y o dLen dCap ad sLen sCap l m sp hr hn hx hsrc hfit]
 exact h
theorem wpList_copyG (hgd : op.guard = none) (s x : Operand) (ho : op.op = .call { callee := .builtin .copy, args := #[s, x], argTypes := #[22, 22] }) (g y o dLen dCap : Nat) (ad : Addr) (sLen sCap : Nat) (l m : List Cl) (sp : List Value)
  (hs : a.eval s = .slice (some ⟨g, y, none⟩) dLen dCap) (hxx : a.eval x = .slice (some ad) sLen sCap) (hr : RC w g l sp) (hn : m.length = Nat.min sLen dLen) (hx : m = [] ∨ y = o * 15)
  (hsrc : ∀ j v, (cLs m)[j]? = some v → w.cell? (ad.add j) = some v) (hfit : o + m.length ≤ l.length)
  (h : wpList Tryz.prog ops Q rest (a.put op.dst (goInt m.length)) (w.setRow g (cLs (l.take o ++ m ++ l.drop (o + m.length)) ++ sp).toArray)) : wpList Tryz.prog ops Q (op :: rest) a w :=
 wpList_plain hgd fun K hK => wp_copyG s x ho g y o dLen dCap ad sLen sCap l m sp hs hxx hr hn hx hsrc hfit (hK _ _ h)
end
theorem RC.setRow {w : World} {g : Nat} {l : List Cl} {sp : List Value} (h : RC w g l sp) (l' : List Cl) (sp' : List Value) : RC (w.setRow g (cLs l' ++ sp').toArray) g l' sp' := Row.setRow h _
theorem Tc.setNew {b : Nat} {w w' : World} (h : Tc b w w') (g : Nat) (hg : w.heap.size ≤ g) (c : Array Value) : Tc b w (w'.setRow g c) :=
 ⟨h.os, h.tape, h.output, by rw [setRow_size]; exact h.size, fun k hk hb => by rw [setRow_other _ _ _ _ (by omega)]; exact h.block k hk hb⟩
theorem fill_any (b x o n c : Nat) (l : List Cl) (sp : List Value) (s : St) (w : World) (hn : n ≤ c) (hx : n = 0 ∨ x = o * 15) (hl : o + n ≤ l.length) (hr : RC w b l sp) (hcap : n ≤ 1000000) :
  Calls Tryz.prog 158 #[.slice (some ⟨b, x, none⟩) n c, .agg (sA s)] w fun e w' => (∃ v, e = .returned v) ∧ RC w' b (fiL l o n s) sp ∧ Tc b w w' := by
 have BL := Box'.mk (blank_any s)
 have S26 := Box'.mk s26
 have U26 := Box'.mk Tryz.underlying56
 have S24 := Box'.mk s24
 have U24 := Box'.mk Tryz.underlying26
 have hbw := hr.lt
 have R1 := Box'.mk (Row.new w 26 (sA s))
 have C1 : Box' (RC (w.alloc (.cells (sA s) 26)) b l sp) := ⟨Row.alloc hr _⟩
 have T1 : Box' (Tc b w (w.alloc (.cells (sA s) 26))) := ⟨Tc.of (bR.alloc (Nat.le_refl _) _)⟩
 have hz1 : b < (w.alloc (.cells (sA s) 26)).heap.size := by simp; omega
 clear hr
 go_enter Tryz.func158, Tryz.ntmps158
 go_upto_region 1 with (fail)
 generalize (w.alloc (.cells (sA s) 26)) = w1 at *
 go_wp2_with (first
  | (refine wpList_load_row rfl 26 (.tmp 3) rfl w.heap.size rfl 26 (sA s) R1.out _ U24.out rfl 10 S24.out rfl ?_))
 refine (BL.out _).mono ?_
 rintro e w2 ⟨rfl, hb2⟩
 have C2 : Box' (RC w2 b l sp) := ⟨C1.out.below hb2 hz1⟩
 have T2 := Box'.mk (T1.out.then hb2)
 have hz2 : b < w2.heap.size := C2.out.lt
 clear hb2 BL R1 C1 T1 hz1
 have hsz := T2.out.size
 have RM : Box' (Room (w2.alloc (.cells #[.int .i32 0, .int .i32 0, .int .i32 0, .int .i32 0, .int .u8 0, .int .i64 0, .int .i64 0, .bool false, .bool false, .bool false, .bool false, .bool false, .bool false, .bool false, .bool false] 56)) w2.heap.size 56 15) := ⟨Room.new _ _ _ _ rfl⟩
 have R4 : Box' (Row ((w2.alloc (.cells #[.int .i32 0, .int .i32 0, .int .i32 0, .int .i32 0, .int .u8 0, .int .i64 0, .int .i64 0, .bool false, .bool false, .bool false, .bool false, .bool false, .bool false, .bool false, .bool false] 56)).setRow w2.heap.size (cA (bl s))) w2.heap.size 56 (cA (bl s))) := ⟨RM.out.setRow _⟩
 have C4 : Box' (RC ((w2.alloc (.cells #[.int .i32 0, .int .i32 0, .int .i32 0, .int .i32 0, .int .u8 0, .int .i64 0, .int .i64 0, .bool false, .bool false, .bool false, .bool false, .bool false, .bool false, .bool false, .bool false] 56)).setRow w2.heap.size (cA (bl s))) b l sp) := ⟨Row.setRowOther (Row.alloc C2.out _) _ _ (by omega)⟩
 have T4 : Box' (Tc b w ((w2.alloc (.cells #[.int .i32 0, .int .i32 0, .int .i32 0, .int .i32 0, .int .u8 0, .int .i64 0, .int .i64 0, .bool false, .bool false, .bool false, .bool false, .bool false, .bool false, .bool false, .bool false] 56)).setRow w2.heap.size (cA (bl s)))) := ⟨(T2.out.then (bR.alloc (Nat.le_refl _) _)).setNew _ hsz _⟩
 have O := Box'.mk (one15 (bl s))
 clear C2 T2
 go_wp2_with (first
  | (refine wpList_store_row rfl 56 (.tmp 4) (.tmp 7) rfl w2.heap.size rfl (cA (bl s)) rfl 56 15 RM.out S26.out rfl O.out ?_))
 generalize ((w2.alloc (.cells #[.int .i32 0, .int .i32 0, .int .i32 0, .int .i32 0, .int .u8 0, .int .i64 0, .int .i64 0, .bool false, .bool false, .bool false, .bool false, .bool false, .bool false, .bool false, .bool false] 56)).setRow w2.heap.size (cA (bl s))) = w4 at *
 have hg : b ≠ w2.heap.size := by omega
 clear hz2 RM
 generalize w2.heap.size = g at *
 have FS : Box' (∀ k, k < n → (fiL l o k s).set (o + k) (bl s) = fiL l o (k + 1) s) := ⟨fun k hk => fiL_step l o k s (by omega)⟩
 have FL : Box' (∀ k, k ≤ n → (fiL l o k s).length = l.length) := ⟨fun k hk => fiL_len l o k s (by omega)⟩
 have F0 := Box'.mk (fiL_zero l o s)
 go_loopw [10] (fun i wr => ∃ k : Nat, k ≤ n ∧ i = .int .i64 (k : Int) ∧ Box' (RC wr b (fiL l o k s) sp) ∧ Box' (Row wr g 56 (cA (bl s))) ∧ Box' (Tc b w wr)) (fun i _ => n - (intOf i).toNat)
 case atStart => exact ⟨0, by omega, rfl, by rw [F0.out]; exact C4, R4, T4⟩
 case round =>
  obtain ⟨k, hk, rfl, CC, RR, TT⟩ := hrel
  clear C4 R4 T4
  by_cases hlt : k < n
  case pos =>
   obtain rfl : x = o * 15 := by omega
   have SC := Box'.mk (show o + k < (fiL l o k s).length by rw [FL.out k (by omega)]; omega)
   have NX : Box' (RC (wr.setRow b (cLs ((fiL l o k s).set (o + k) (bl s)) ++ sp).toArray) b (fiL l o (k + 1) s) sp) := ⟨by rw [FS.out k hlt]; exact CC.out.setRow _ _⟩
   have NR : Box' (Row (wr.setRow b (cLs ((fiL l o k s).set (o + k) (bl s)) ++ sp).toArray) g 56 (cA (bl s))) := ⟨Row.setRowOther RR.out _ _ (fun e => hg e.symm)⟩
   have NT : Box' (Tc b w (wr.setRow b (cLs ((fiL l o k s).set (o + k) (bl s)) ++ sp).toArray)) := ⟨TT.out.setRow _⟩
   go_wp2_with (first
    | (refine wpList_load_row rfl 56 (.tmp 4) rfl g rfl 56 (cA (bl s)) RR.out _ U26.out rfl 15 S26.out rfl ?_)
    | (refine wpList_store_cell rfl (.tmp 16) (.tmp 15) rfl b (fiL l o k s) sp (o + k) (bl s) (by rw [Nat.add_mul]; rfl) rfl CC.out SC.out ?_))
   exact ⟨⟨k + 1, by omega, by go_num, NX, NR, NT⟩, by simp [intOf]; omega⟩
  case neg =>
   obtain rfl : k = n := by omega
   go_wp2_with fail
   exact bodyPost_end (results_none rfl _ _) rfl ⟨⟨_, rfl⟩, CC.out, TT.out⟩
/-- The cells of a part, moved; blanks where they leave. -/
def puF (r : List Cl) (by' : Int) (s : St) : List Cl :=
 if 0 < by' then List.replicate by'.toNat (bl s) ++ r.take (r.length - by'.toNat) else if by' < 0 then r.drop (-by').toNat ++ List.replicate (-by').toNat (bl s) else r
theorem puF_len (r : List Cl) (k : Int) (s : St) (h1 : -(r.length : Int) ≤ k) (h2 : k ≤ (r.length : Int)) : (puF r k s).length = r.length := by
 unfold puF
 split
 ·simp only [List.length_append, List.length_replicate, List.length_take]; omega
 ·split
  ·simp only [List.length_append, List.length_replicate, List.length_drop]; omega
  ·rfl
/-- A part laid over the cells of a list. -/
def lay (l : List Cl) (o : Nat) (m : List Cl) : List Cl := l.take o ++ m ++ l.drop (o + m.length)
theorem lay_len (l : List Cl) (o : Nat) (m : List Cl) (h : o + m.length ≤ l.length) : (lay l o m).length = l.length := by
 unfold lay
 simp only [List.length_append, List.length_take, List.length_drop]
 omega
theorem lay_self (l : List Cl) (o n : Nat) (h : o + n ≤ l.length) : lay l o ((l.drop o).take n) = l := by
 unfold lay
 rw [List.length_take, List.length_drop, show min n (l.length - o) = n by omega, List.append_assoc, ← List.drop_drop, List.take_append_drop, List.take_append_drop]
theorem push_right (l : List Cl) (o n k : Nat) (s : St) (h : o + n ≤ l.length) (hk : 0 < k) (hk2 : k ≤ n) :
  fiL (lay l (o + k) (((l.drop o).take n).take (n - k))) o k s = lay l o (puF ((l.drop o).take n) (k : Int) s) := by
 have hr : ((l.drop o).take n).length = n := by rw [List.length_take, List.length_drop]; omega
 have hp : puF ((l.drop o).take n) (k : Int) s = List.replicate k (bl s) ++ ((l.drop o).take n).take (n - k) := by
  unfold puF
  rw [if_pos (by omega), hr, Int.toNat_natCast]
 have ht : (((l.drop o).take n).take (n - k)).length = n - k := by rw [List.length_take, hr]; omega
 rw [hp]
 unfold fiL lay
 rw [ht]
 have e1 : (l.take (o + k) ++ ((l.drop o).take n).take (n - k) ++ l.drop (o + k + (n - k))).take o = l.take o := by
  rw [List.append_assoc, List.take_append_of_le_length (by rw [List.length_take]; omega), List.take_take]
  congr 1
  omega
 have e2 : (l.take (o + k) ++ ((l.drop o).take n).take (n - k) ++ l.drop (o + k + (n - k))).drop (o + k) = ((l.drop o).take n).take (n - k) ++ l.drop (o + n) := by
  have hl : (l.take (o + k)).length = o + k := by rw [List.length_take]; omega
  rw [List.append_assoc, List.drop_append, hl, Nat.sub_self, List.drop_zero, List.drop_of_length_le (by omega), List.nil_append]
  congr 2
  omega
 rw [e1, e2, List.length_append, List.length_replicate, ht]
 simp only [List.append_assoc]
 congr 4
 omega
theorem push_left (l : List Cl) (o n k : Nat) (s : St) (h : o + n ≤ l.length) (hk : 0 < k) (hk2 : k ≤ n) :
  fiL (lay l o (((l.drop o).take n).drop k)) (o + (n - k)) k s = lay l o (puF ((l.drop o).take n) (-(k : Int)) s) := by
 have hr : ((l.drop o).take n).length = n := by rw [List.length_take, List.length_drop]; omega
 have hp : puF ((l.drop o).take n) (-(k : Int)) s = ((l.drop o).take n).drop k ++ List.replicate k (bl s) := by
  unfold puF
  rw [if_neg (by omega), if_pos (by omega)]
  simp
 have ht : (((l.drop o).take n).drop k).length = n - k := by rw [List.length_drop, hr]
 rw [hp]
 unfold fiL lay
 rw [ht]
 have hl : (l.take o).length = o := by rw [List.length_take]; omega
 have hla : (l.take o ++ ((l.drop o).take n).drop k).length = o + (n - k) := by rw [List.length_append, hl, ht]
 have e1 : (l.take o ++ ((l.drop o).take n).drop k ++ l.drop (o + (n - k))).take (o + (n - k)) = l.take o ++ ((l.drop o).take n).drop k := by
  rw [List.take_append_of_le_length (by omega), List.take_of_length_le (by omega)]
 have e2 : (l.take o ++ ((l.drop o).take n).drop k ++ l.drop (o + (n - k))).drop (o + (n - k) + k) = l.drop (o + n) := by
  rw [List.drop_append, List.drop_of_length_le (by omega), List.nil_append, hla, List.drop_drop]
  congr 1
  omega
 rw [e1, e2, List.length_append, List.length_replicate, ht]
 simp only [List.append_assoc]
 congr 4
 omega
theorem RC.src {w : World} {g : Nat} {l : List Cl} {sp : List Value} (h : RC w g l sp) (o : Nat) (m : List Cl) (hm : ∀ k, k < m.length → m.getD k (hf pl) = l.getD (o + k) (hf pl)) (hl : o + m.length ≤ l.length) :
  ∀ j v, (cLs m)[j]? = some v → w.cell? ((⟨g, o * 15, none⟩ : Addr).add j) = some v := by
 intro j u hu
 have hj : j < m.length * 15 := by have := (List.getElem?_eq_some_iff.1 hu).1; rwa [cLs_len] at this
 have e1 : j = j / 15 * 15 + j % 15 := by omega
 rw [Addr.add_mid]
 rw [e1] at hu ⊢
 rw [cLs_get m (j / 15) (j % 15) (by omega) (by omega)] at hu
 rw [show o * 15 + (j / 15 * 15 + j % 15) = (o + j / 15) * 15 + j % 15 by rw [Nat.add_mul]; omega, h.cell (o + j / 15) (j % 15) (by omega) (by omega), ← hm (j / 15) (by omega)]
 exact hu
theorem push_0 (b o n c : Nat) (s : St) (w : World) : Calls Tryz.prog 187 #[.slice (some ⟨b, o * 15, none⟩) n c, .int .i64 0, .agg (sA s)] w fun e w' => (∃ v, e = .returned v) ∧ Below w.heap.size w w' := by
 have B1 := Box'.mk ((Below.refl w.heap.size w).alloc (Nat.le_refl _) (.cells (sA s) 26))
 go_enter Tryz.func187, Tryz.ntmps187
 go_upto_region 1 with (fail)
 generalize (w.alloc (.cells (sA s) 26)) = w1 at *
 go_wp2_with fail
 exact bodyPost_end (results_none rfl _ _) rfl ⟨⟨_, rfl⟩, B1.out⟩
theorem push_r (b o n c k : Nat) (l : List Cl) (sp : List Value) (s : St) (w : World) (hk : 0 < k) (hk2 : k ≤ n) (hn : n ≤ c) (hl : o + n ≤ l.length) (hr : RC w b l sp) (hcap : n ≤ 1000000) :
  Calls Tryz.prog 187 #[.slice (some ⟨b, o * 15, none⟩) n c, .int .i64 (k : Int), .agg (sA s)] w fun e w' => (∃ v, e = .returned v) ∧ RC w' b (lay l o (puF ((l.drop o).take n) (k : Int) s)) sp ∧ Tc b w w' := by
 have hrl : ((l.drop o).take n).length = n := by rw [List.length_take, List.length_drop]; omega
 have hml : (((l.drop o).take n).take (n - k)).length = n - k := by rw [List.length_take, hrl]; omega
 have E := Box'.mk (push_right l o n k s hl hk hk2)
 have LL := Box'.mk (lay_len l (o + k) (((l.drop o).take n).take (n - k)) (by omega))
 have SR : Box' (∀ wx, RC wx b l sp → ∀ j v, (cLs (((l.drop o).take n).take (n - k)))[j]? = some v → wx.cell? ((⟨b, o * 15, none⟩ : Addr).add j) = some v) := ⟨fun wx hx => hx.src o _ (fun q hq => by
  rw [hml] at hq
  simp [List.getElem?_take_of_lt (show q < n - k by omega), List.getElem?_take_of_lt (show q < n by omega)]) (by omega)⟩
 have HM : Box' ((((l.drop o).take n).take (n - k)).length = Nat.min n (n - k)) := ⟨by rw [hml]; exact (Nat.min_eq_right (Nat.sub_le _ _)).symm⟩
 have HX : Box' ((((l.drop o).take n).take (n - k)) = [] ∨ cutO (o * 15) c k = (o + k) * 15) := ⟨by
  by_cases hc : c = k
  ·left; exact List.eq_nil_of_length_eq_zero (by omega)
  ·right; rw [cutO_at hc, Nat.add_mul]⟩
 have HF : Box' (o + k + (((l.drop o).take n).take (n - k)).length ≤ l.length) := ⟨by omega⟩
 have CU := Box'.mk (fun w => run_cutL b (o * 15) n c k hk2 hn w)
 have CH := Box'.mk (fun w => run_cutH b (o * 15) n c k (by omega) w)
 have FI : Box' (∀ wx lx, lx.length = l.length → RC wx b lx sp → Calls Tryz.prog 158 #[.slice (some ⟨b, o * 15, none⟩) k c, .agg (sA s)] wx fun e w' => (∃ v, e = .returned v) ∧ RC w' b (fiL lx o k s) sp ∧ Tc b wx w') := ⟨fun wx lx hlx h => fill_any b (o * 15) o k c lx sp s wx (by omega) (.inr rfl) (by omega) h (by omega)⟩
 have S24 := Box'.mk s24
 have U24 := Box'.mk Tryz.underlying26
 have hbw := hr.lt
 have R1 := Box'.mk (Row.new w 26 (sA s))
 have C1 : Box' (RC (w.alloc (.cells (sA s) 26)) b l sp) := ⟨Row.alloc hr _⟩
 have T1 : Box' (Tc b w (w.alloc (.cells (sA s) 26))) := ⟨Tc.of (bR.alloc (Nat.le_refl _) _)⟩
 clear hr hml hrl hl
 generalize (((l.drop o).take n).take (n - k)) = m at *
 unfold lay at LL E
 go_enter Tryz.func187, Tryz.ntmps187
 go_upto_region 1 with (fail)
 generalize (w.alloc (.cells (sA s) 26)) = w1 at *
 have R2 : Box' (Row (w1.setRow b (cLs (l.take (o + k) ++ m ++ l.drop (o + k + m.length)) ++ sp).toArray) w.heap.size 26 (sA s)) := ⟨Row.setRowOther R1.out _ _ (by omega)⟩
 have C2 : Box' (RC (w1.setRow b (cLs (l.take (o + k) ++ m ++ l.drop (o + k + m.length)) ++ sp).toArray) b (l.take (o + k) ++ m ++ l.drop (o + k + m.length)) sp) := ⟨C1.out.setRow _ _⟩
 have T2 : Box' (Tc b w (w1.setRow b (cLs (l.take (o + k) ++ m ++ l.drop (o + k + m.length)) ++ sp).toArray)) := ⟨T1.out.setRow _⟩
 go_wp2_with (first
  | (refine wpList_slice rfl 22 (.tmp 10) (some (.tmp 11)) none none rfl _ (CU.out _) ?_)
  | (refine wpList_copyG rfl (.tmp 12) (.tmp 13) rfl b (cutO (o * 15) c k) (o + k) (n - k) (c - k) ⟨b, o * 15, none⟩ n c l m sp rfl rfl C1.out HM.out HX.out (SR.out _ C1.out) HF.out ?_))
 generalize (w1.setRow b (cLs (l.take (o + k) ++ m ++ l.drop (o + k + m.length)) ++ sp).toArray) = w2 at *
 generalize (l.take (o + k) ++ m ++ l.drop (o + k + m.length)) = l2 at *
 refine wp_region_growg 4 (by kernel_rfl) 40 rfl (by kernel_rfl) (fun wa wb => Below wa.heap.size wa wb) (fun wa => Row wa w.heap.size 26 (sA s) ∧ RC wa b l2 sp ∧ Tc b w wa) (fun kc wa v => v = (match kc with
  | 0 => .slice (some ⟨b, o * 15, none⟩) n c
  | 1 => .int .i64 (k : Int)
  | 2 => .slice (some ⟨b, o * 15, none⟩) k c
  | 3 => .agg (sA s)
  | _ => undef)) ?_ ?_ ?_ ?_ ?_ ?_
 ·intro i o' j b' hi hg wa v hC hV
  have hlt : i < 4 := by rcases Nat.lt_or_ge i 4 with q | q; exact q; rw [List.getElem?_eq_none (by simpa using q)] at hi; cases hi
  revert hi hg hV
  rcases (show i = 0 ∨ i = 1 ∨ i = 2 ∨ i = 3 by omega) with rfl | rfl | rfl | rfl <;>
   (intro hi hg hV; simp only [tkS, List.getElem?_cons_zero, List.getElem?_cons_succ, Option.some.injEq] at hi; subst hi; first | (cases hg; exact hV) | (cases hg))
 ·rintro wa wb hb ⟨q1, q2, q3⟩; exact ⟨q1.below hb q1.lt, q2.below hb q2.lt, q3.then hb⟩
 ·exact fun kc v wa wb hC1 hb h => h
 ·exact ⟨R2.out.drew, C2.out.drew, T2.out.drew⟩
 ·refine ⟨?a0, ?a1, ?a2, ?a3, trivial⟩
  all_goals intro f wq hC hd KK hK
  all_goals simp (disch := decide +kernel) only [tkS, tkZ, setAll, siB, stS, stZ, Nat.zero_add, Nat.reduceAdd, hd] at hK ⊢
  case a2 =>
   exact wp_val _ (slice_op 22 (.tmp 15) none (some (.tmp 16)) none rfl _ _ (CH.out _)) (hK _ _ rfl bR)
  case a3 =>
   have hR : Row wq w.heap.size 26 (sA s) := hC.1
   obtain ⟨c0, c1, c2, c3, c4, c5, c6, c7, c8, c9⟩ := hR.s10
   clear hC hR
   refine wp_of_quiet rfl ?_
   go_big_quiet_step (fail)
   exact wpQuiet_nil (hK _ _ (rfl) bR)
  all_goals (skip; refine wp_of_quiet rfl ?_; go_big_quiet_step (fail); exact wpQuiet_nil (hK _ _ (rfl) bR))
 ·intro f wz hC hv
  simp (disch := decide) only [tkS, tkZ, List.drop_succ_cons, List.drop_zero, setAll, siB, stS, stZ, Nat.zero_add, Nat.reduceAdd, hv]
  clear hv
  have C3 := Box'.mk hC.2.1
  have T3 := Box'.mk hC.2.2
  clear hC R2 C2 T2 R1 C1 T1 SR HM HX HF CU CH
  go_wp2_with fail
  refine (FI.out _ l2 LL.out C3.out).mono ?_
  rintro e w4 ⟨⟨v, rfl⟩, hr4, ht4⟩
  have C4 := Box'.mk hr4
  have T4 := Box'.mk (T3.out.trans ht4)
  rw [E.out] at C4
  clear hr4 ht4
  go_wp2_with fail
  exact bodyPost_end (results_none rfl _ _) rfl ⟨⟨_, rfl⟩, C4.out, T4.out⟩
theorem push_l (b o n c k : Nat) (l : List Cl) (sp : List Value) (s : St) (w : World) (hk : 0 < k) (hk2 : k ≤ n) (hn : n ≤ c) (hl : o + n ≤ l.length) (hr : RC w b l sp) (hcap : n ≤ 1000000) :
  Calls Tryz.prog 187 #[.slice (some ⟨b, o * 15, none⟩) n c, .int .i64 (-(k : Int)), .agg (sA s)] w fun e w' => (∃ v, e = .returned v) ∧ RC w' b (lay l o (puF ((l.drop o).take n) (-(k : Int)) s)) sp ∧ Tc b w w' := by
 have hrl : ((l.drop o).take n).length = n := by rw [List.length_take, List.length_drop]; omega
 have hml : (((l.drop o).take n).drop k).length = n - k := by rw [List.length_drop, hrl]
 have E := Box'.mk (push_left l o n k s hl hk hk2)
 have LL := Box'.mk (lay_len l o (((l.drop o).take n).drop k) (by omega))
 have SR : Box' (∀ wx, RC wx b l sp → ∀ j v, (cLs (((l.drop o).take n).drop k))[j]? = some v → wx.cell? ((⟨b, cutO (o * 15) c k, none⟩ : Addr).add j) = some v) := ⟨fun wx hx => by
  by_cases hc : c = k
  ·intro j v hv
   have : ((l.drop o).take n).drop k = [] := List.eq_nil_of_length_eq_zero (by omega)
   rw [this] at hv
   simp [cLs] at hv
  ·rw [cutO_at hc, ← Nat.add_mul]
   exact hx.src (o + k) _ (fun q hq => by
    rw [hml] at hq
    simp [List.getElem?_take_of_lt (show k + q < n by omega), Nat.add_assoc]) (by omega)⟩
 have HM : Box' ((((l.drop o).take n).drop k).length = Nat.min (n - k) (n - k)) := ⟨by rw [hml]; exact (Nat.min_self _).symm⟩
 have HF : Box' (o + (((l.drop o).take n).drop k).length ≤ l.length) := ⟨by omega⟩
 have CU := Box'.mk (fun w => run_cutL b (o * 15) n c k hk2 hn w)
 have CH := Box'.mk (fun w => run_cutH b (o * 15) n c (n - k) (by omega) w)
 have CV := Box'.mk (fun w => run_cutL b (o * 15) n c (n - k) (by omega) hn w)
 have hcv : cutO (o * 15) c (n - k) = (o + (n - k)) * 15 := by rw [cutO_at (by omega), Nat.add_mul]
 have hnk : n - (n - k) = k := by omega
 rw [hcv, hnk] at CV
 have FI : Box' (∀ wx lx, lx.length = l.length → RC wx b lx sp → Calls Tryz.prog 158 #[.slice (some ⟨b, (o + (n - k)) * 15, none⟩) k (c - (n - k)), .agg (sA s)] wx fun e w' => (∃ v, e = .returned v) ∧ RC w' b (fiL lx (o + (n - k)) k s) sp ∧ Tc b wx w') := ⟨fun wx lx hlx h => fill_any b _ (o + (n - k)) k (c - (n - k)) lx sp s wx (by omega) (.inr rfl) (by omega) h (by omega)⟩
 have S24 := Box'.mk s24
 have U24 := Box'.mk Tryz.underlying26
 have hbw := hr.lt
 have R1 := Box'.mk (Row.new w 26 (sA s))
 have C1 : Box' (RC (w.alloc (.cells (sA s) 26)) b l sp) := ⟨Row.alloc hr _⟩
 have T1 : Box' (Tc b w (w.alloc (.cells (sA s) 26))) := ⟨Tc.of (bR.alloc (Nat.le_refl _) _)⟩
 have hA : (n : Int) + -(k : Int) = ((n - k : Nat) : Int) := by omega
 clear hr hml hrl hl hcv hnk
 generalize (((l.drop o).take n).drop k) = m at *
 unfold lay at LL E
 go_enter Tryz.func187, Tryz.ntmps187
 go_upto_region 1 with (fail)
 generalize (w.alloc (.cells (sA s) 26)) = w1 at *
 rw [← hA] at CH CV
 have l1 : 0 ≤ (n : Int) + -(k : Int) := by omega
 have HA := Box'.mk hA
 clear hA
 go_wp2_with fail
 refine wp_region_growg 7 (by kernel_rfl) 40 rfl (by kernel_rfl) (fun wa wb => Below wa.heap.size wa wb) (fun wa => Row wa w.heap.size 26 (sA s) ∧ RC wa b l sp ∧ Tc b w wa) (fun kc wa v => v = (match kc with
  | 0 => .slice (some ⟨b, o * 15, none⟩) n c
  | 1 => .int .i64 ((n : Int) + -(k : Int))
  | 2 => .slice (some ⟨b, o * 15, none⟩) (n - k) c
  | 3 => .slice (some ⟨b, o * 15, none⟩) n c
  | 4 => .int .i64 (-(k : Int))
  | 5 => .int .i64 (k : Int)
  | 6 => .slice (some ⟨b, cutO (o * 15) c k, none⟩) (n - k) (c - k)
  | _ => undef)) ?_ ?_ ?_ ?_ ?_ ?_
 ·intro i o' j b' hi hg wa v hC hV
  have hlt : i < 7 := by rcases Nat.lt_or_ge i 7 with q | q; exact q; rw [List.getElem?_eq_none (by simpa using q)] at hi; cases hi
  revert hi hg hV
  rcases (show i = 0 ∨ i = 1 ∨ i = 2 ∨ i = 3 ∨ i = 4 ∨ i = 5 ∨ i = 6 by omega) with rfl | rfl | rfl | rfl | rfl | rfl | rfl <;>
   (intro hi hg hV; simp only [tkS, List.getElem?_cons_zero, List.getElem?_cons_succ, Option.some.injEq] at hi; subst hi; first | (cases hg; exact hV) | (cases hg))
 ·rintro wa wb hb ⟨q1, q2, q3⟩; exact ⟨q1.below hb q1.lt, q2.below hb q2.lt, q3.then hb⟩
 ·exact fun kc v wa wb hC1 hb h => h
 ·exact ⟨R1.out.drew, C1.out.drew, T1.out.drew⟩
 ·refine ⟨?b0, ?b1, ?b2, ?b3, ?b4, ?b5, ?b6, trivial⟩
  all_goals intro f wq hC hd KK hK
  all_goals simp (disch := decide +kernel) only [tkS, tkZ, setAll, siB, stS, stZ, Nat.zero_add, Nat.reduceAdd, hd] at hK ⊢
  case b2 =>
   exact wp_val _ (slice_op 22 (.tmp 27) none (some (.tmp 28)) none rfl _ _ (CH.out _)) (hK _ _ rfl bR)
  case b6 =>
   exact wp_val _ (slice_op 22 (.tmp 30) (some (.tmp 32)) none none rfl _ _ (CU.out _)) (hK _ _ rfl bR)
  all_goals (skip; refine wp_of_quiet rfl ?_; go_big_quiet_step (fail); exact wpQuiet_nil (hK _ _ (rfl) bR))
 ·intro f wz hC hv
  simp (disch := decide) only [tkS, tkZ, List.drop_succ_cons, List.drop_zero, setAll, siB, stS, stZ, Nat.zero_add, Nat.reduceAdd, hv]
  clear hv
  have Ra := Box'.mk hC.1
  have Ca := Box'.mk hC.2.1
  have Ta := Box'.mk hC.2.2
  clear hC R1 C1 T1
  have R2 : Box' (Row (wz.setRow b (cLs (l.take o ++ m ++ l.drop (o + m.length)) ++ sp).toArray) w.heap.size 26 (sA s)) := ⟨Row.setRowOther Ra.out _ _ (by omega)⟩
  have C2 : Box' (RC (wz.setRow b (cLs (l.take o ++ m ++ l.drop (o + m.length)) ++ sp).toArray) b (l.take o ++ m ++ l.drop (o + m.length)) sp) := ⟨Ca.out.setRow _ _⟩
  have T2 : Box' (Tc b w (wz.setRow b (cLs (l.take o ++ m ++ l.drop (o + m.length)) ++ sp).toArray)) := ⟨Ta.out.setRow _⟩
  go_wp2_with (first
   | (refine wpList_copyG rfl (.tmp 29) (.tmp 33) rfl b (o * 15) o (n - k) c ⟨b, cutO (o * 15) c k, none⟩ (n - k) (c - k) l m sp rfl rfl Ca.out HM.out (.inr rfl) (SR.out _ Ca.out) HF.out ?_))
  generalize (wz.setRow b (cLs (l.take o ++ m ++ l.drop (o + m.length)) ++ sp).toArray) = w2 at *
  generalize (l.take o ++ m ++ l.drop (o + m.length)) = l2 at *
  clear Ra Ca Ta SR HM HF CU CH
  refine wp_region_growg 4 (by kernel_rfl) 40 rfl (by kernel_rfl) (fun wa wb => Below wa.heap.size wa wb) (fun wa => Row wa w.heap.size 26 (sA s) ∧ RC wa b l2 sp ∧ Tc b w wa) (fun kc wa v => v = (match kc with
   | 0 => .slice (some ⟨b, o * 15, none⟩) n c
   | 1 => .int .i64 ((n : Int) + -(k : Int))
   | 2 => .slice (some ⟨b, (o + (n - k)) * 15, none⟩) k (c - (n - k))
   | 3 => .agg (sA s)
   | _ => undef)) ?_ ?_ ?_ ?_ ?_ ?_
  ·intro i o' j b' hi hg wa v hC hV
   have hlt : i < 4 := by rcases Nat.lt_or_ge i 4 with q | q; exact q; rw [List.getElem?_eq_none (by simpa using q)] at hi; cases hi
   revert hi hg hV
   rcases (show i = 0 ∨ i = 1 ∨ i = 2 ∨ i = 3 by omega) with rfl | rfl | rfl | rfl <;>
    (intro hi hg hV; simp only [tkS, List.getElem?_cons_zero, List.getElem?_cons_succ, Option.some.injEq] at hi; subst hi; first | (cases hg; exact hV) | (cases hg))
  ·rintro wa wb hb ⟨q1, q2, q3⟩; exact ⟨q1.below hb q1.lt, q2.below hb q2.lt, q3.then hb⟩
  ·exact fun kc v wa wb hC1 hb h => h
  ·exact ⟨R2.out.drew, C2.out.drew, T2.out.drew⟩
  ·refine ⟨?c0, ?c1, ?c2, ?c3, trivial⟩
   all_goals intro f wq hC hd KK hK
   all_goals simp (disch := decide +kernel) only [tkS, tkZ, setAll, siB, stS, stZ, Nat.zero_add, Nat.reduceAdd, hd] at hK ⊢
   case c2 =>
    exact wp_val _ (slice_op 22 (.tmp 35) (some (.tmp 36)) none none rfl _ _ (CV.out _)) (hK _ _ rfl bR)
   case c3 =>
    have hR : Row wq w.heap.size 26 (sA s) := hC.1
    obtain ⟨c0, c1, c2, c3, c4, c5, c6, c7, c8, c9⟩ := hR.s10
    clear hC hR
    refine wp_of_quiet rfl ?_
    go_big_quiet_step (fail)
    exact wpQuiet_nil (hK _ _ (rfl) bR)
   all_goals (skip; refine wp_of_quiet rfl ?_; go_big_quiet_step (fail); exact wpQuiet_nil (hK _ _ (rfl) bR))
  ·intro f wz hC hv
   simp (disch := decide) only [tkS, tkZ, List.drop_succ_cons, List.drop_zero, setAll, siB, stS, stZ, Nat.zero_add, Nat.reduceAdd, hv]
   clear hv
   have C3 := Box'.mk hC.2.1
   have T3 := Box'.mk hC.2.2
   clear hC R2 C2 T2
   go_wp2_with fail
   refine (FI.out _ l2 LL.out C3.out).mono ?_
   rintro e w4 ⟨⟨v, rfl⟩, hr4, ht4⟩
   have C4 := Box'.mk hr4
   have T4 := Box'.mk (T3.out.trans ht4)
   rw [E.out] at C4
   clear hr4 ht4
   go_wp2_with fail
   exact bodyPost_end (results_none rfl _ _) rfl ⟨⟨_, rfl⟩, C4.out, T4.out⟩
theorem push_any (b o n c : Nat) (k : Int) (l : List Cl) (sp : List Value) (s : St) (w : World) (hk : -(n : Int) ≤ k) (hk2 : k ≤ (n : Int)) (hn : n ≤ c) (hl : o + n ≤ l.length) (hr : RC w b l sp) (hcap : n ≤ 1000000) :
  Calls Tryz.prog 187 #[.slice (some ⟨b, o * 15, none⟩) n c, .int .i64 k, .agg (sA s)] w fun e w' => (∃ v, e = .returned v) ∧ RC w' b (lay l o (puF ((l.drop o).take n) k s)) sp ∧ Tc b w w' := by
 by_cases h0 : k = 0
 ·subst h0
  refine (push_0 b o n c s w).mono fun e w' h => ⟨h.1, ?_, Tc.of h.2⟩
  rw [show puF ((l.drop o).take n) 0 s = (l.drop o).take n from rfl, lay_self l o n hl]
  exact hr.below h.2 hr.lt
 ·by_cases h1 : 0 < k
  ·obtain ⟨q, rfl⟩ : ∃ q : Nat, k = (q : Int) := ⟨k.toNat, by omega⟩
   exact push_r b o n c q l sp s w (by omega) (by omega) hn hl hr hcap
  ·obtain ⟨q, rfl⟩ : ∃ q : Nat, k = -(q : Int) := ⟨(-k).toNat, by omega⟩
   exact push_l b o n c q l sp s w (by omega) (by omega) hn hl hr hcap
end Go.Proofs.YtlekleeckcdcgaaGreat
