/- Slices of cells cut anywhere, copied, filled. -/
import Derived.Test.YtnbonlkmadmpcaaNb
namespace Go.Proofs.Ytnbonlkmadmpcaa
open Go.RowKit Go.BigFrame
set_option linter.unusedVariables false
set_option linter.unusedSimpArgs false
theorem results_none {fn : Func} (h : fn.results = #[]) (tmps : Array Value) (w : World) : (results fn tmps).run Try.prog w = .ok (.tuple #[]) w := by simp [results, h]
/-- Where a slice begins that is cut off another one. -/
def cutO (o c lo : Nat) : Nat := if c = lo then o else o + lo * 15
theorem cutO_at {o c lo : Nat} (h : ¬ c = lo) : cutO o c lo = o + lo * 15 := if_neg h
/-- x[lo:] -/
theorem run_cutL (b o n c lo : Nat) (h : lo ≤ n) (h2 : n ≤ c) (w : World) : (Instr.sliceAt 22 (.slice (some ⟨b, o, none⟩) n c) (some (.int .i64 (lo : Int))) none none).run Try.prog w = .ok (.slice (some ⟨b, cutO o c lo, none⟩) (n - lo) (c - lo)) w := by
 have e : Try.prog.elem 22 = 49 := by kernel_rfl
 rw [run_sliceAt_slice w 22 _ _ _ _ (by kernel_rfl), run_slice_l w 22 _ n c (by kernel_rfl) _ _ (by omega) (by omega), e, size26]
 simp only [Result.andThen_ok, Int.toNat_natCast, sliced, cutO]
 split
 ·rfl
 ·simp only [Option.map_some, Addr.add_mid]
/-- x[lo:hi] -/
theorem run_cutLH (b o n c lo hi : Nat) (h : lo ≤ hi) (h2 : hi ≤ c) (w : World) : (Instr.sliceAt 22 (.slice (some ⟨b, o, none⟩) n c) (some (.int .i64 (lo : Int))) (some (.int .i64 (hi : Int))) none).run Try.prog w = .ok (.slice (some ⟨b, cutO o c lo, none⟩) (hi - lo) (c - lo)) w := by
 have e : Try.prog.elem 22 = 49 := by kernel_rfl
 rw [run_sliceAt_slice w 22 _ _ _ _ (by kernel_rfl), run_slice_lh w 22 _ n c (by kernel_rfl) _ _ _ _ (by omega) (by omega) (by omega), e, size26]
 simp only [Result.andThen_ok, Int.toNat_natCast, sliced, cutO]
 split
 ·rfl
 ·simp only [Option.map_some, Addr.add_mid]
/-- x[:hi] -/
theorem run_cutH (b o n c hi : Nat) (h2 : hi ≤ c) (w : World) : (Instr.sliceAt 22 (.slice (some ⟨b, o, none⟩) n c) none (some (.int .i64 (hi : Int))) none).run Try.prog w = .ok (.slice (some ⟨b, o, none⟩) hi c) w := by
 have e : Try.prog.elem 22 = 49 := by kernel_rfl
 rw [run_sliceAt_slice w 22 _ _ _ _ (by kernel_rfl), run_slice_h w 22 _ n c (by kernel_rfl) _ _ (by omega) (by omega), e, size26]
 simp only [Result.andThen_ok, Int.toNat_natCast, sliced]
 split
 ·rfl
 ·simp only [Option.map_some, Addr.add_mid, Nat.zero_mul, Nat.add_zero, Nat.sub_zero]
/-- Cells are copied into a block, none too. -/
theorem run_copyG (w : World) (ty : TypeId) (g x o dLen dCap : Nat) (ad : Addr) (sLen sCap : Nat) (l m : List Cl) (sp : List Value) (hr : RC w g l sp) (hn : m.length = Nat.min sLen dLen) (hx : m = [] ∨ x = o * 15)
  (hsrc : ∀ j v, (cLs m)[j]? = some v → w.cell? (ad.add j) = some v) (hfit : o + m.length ≤ l.length) :
  (Builtin.copy_ #[22, 22] ty #[.slice (some ⟨g, x, none⟩) dLen dCap, .slice (some ad) sLen sCap]).run Try.prog w = .ok (goInt m.length) (w.setRow g (cLs (l.take o ++ m ++ l.drop (o + m.length)) ++ sp).toArray) := by
 rcases hx with rfl | rfl
 ·obtain ⟨i, z, h1, h2, h3, h4, h5⟩ := info26'
  have e : cLs (l.take o ++ [] ++ l.drop (o + ([] : List Cl).length)) ++ sp = cLs l ++ sp := by simp
  rw [e, setRow_self w g _ 49 (0, 0) hr]
  have hn' : Nat.min sLen dLen = 0 := by rw [← hn]; rfl
  have hl := run_loadCells_list (P := Try.prog) w ad [] (fun j v h => by simp at h)
  simp only [List.length_nil] at hl
  simp [Builtin.copy_, run_underlying Try.underlying22, Builtin.lenOf, Builtin.firstCells, sizeOf, typeInfo, h1, h3, hn', hl, storeCells]
 ·exact run_copy15 w ty g o dLen dCap ad sLen sCap l m sp hr hn hsrc hfit
/-- Blanks laid over cells. -/
def fiL (l : List Cl) (o k : Nat) (s : St) : List Cl := l.take o ++ List.replicate k (bl s) ++ l.drop (o + k)
theorem fiL_len (l : List Cl) (o k : Nat) (s : St) (h : o + k ≤ l.length) : (fiL l o k s).length = l.length := by
 unfold fiL
 simp only [List.length_append, List.length_take, List.length_drop, List.length_replicate]
 omega
theorem fiL_zero (l : List Cl) (o : Nat) (s : St) : fiL l o 0 s = l := by simp [fiL]
theorem fiL_step (l : List Cl) (o k : Nat) (s : St) (h : o + k < l.length) : (fiL l o k s).set (o + k) (bl s) = fiL l o (k + 1) s := by
 unfold fiL
 have h1 : (l.take o ++ List.replicate k (bl s)).length = o + k := by simp only [List.length_append, List.length_take, List.length_replicate]; omega
 rw [List.set_append_right _ _ (by omega), h1, Nat.sub_self, List.drop_eq_getElem_cons h, stZ, List.replicate_succ', ← Nat.add_assoc]
 simp
section
variable {ops : Array Oper} {rest : List Oper} {op : Oper} {a : Act} {w : World} {Q : Exit → Act → World → Prop}
theorem wp_copyG {K : Act → World → Prop} (s x : Operand) (ho : op.op = .call { callee := .builtin .copy, args := #[s, x], argTypes := #[22, 22] }) (g y o dLen dCap : Nat) (ad : Addr) (sLen sCap : Nat) (l m : List Cl) (sp : List Value)
  (hs : a.eval s = .slice (some ⟨g, y, none⟩) dLen dCap) (hxx : a.eval x = .slice (some ad) sLen sCap) (hr : RC w g l sp) (hn : m.length = Nat.min sLen dLen) (hx : m = [] ∨ y = o * 15)
  (hsrc : ∀ j v, (cLs m)[j]? = some v → w.cell? (ad.add j) = some v) (hfit : o + m.length ≤ l.length)
  (h : K (a.put op.dst (goInt m.length)) (w.setRow g (cLs (l.take o ++ m ++ l.drop (o + m.length)) ++ sp).toArray)) : op.wp Try.prog a w K Q := by
 unfold Oper.wp execOp
 simp only [ho, resolve, invoke, builtin, Sem.run_bind, Sem.run_pure, Result.andThen_ok, List.map_toArray, List.map_cons, List.map_nil, hs, hxx, run_copyG w _ g y o dLen dCap ad sLen sCap l m sp hr hn hx hsrc hfit]
 exact h
theorem wpList_copyG (hgd : op.guard = none) (s x : Operand) (ho : op.op = .call { callee := .builtin .copy, args := #[s, x], argTypes := #[22, 22] }) (g y o dLen dCap : Nat) (ad : Addr) (sLen sCap : Nat) (l m : List Cl) (sp : List Value)
  (hs : a.eval s = .slice (some ⟨g, y, none⟩) dLen dCap) (hxx : a.eval x = .slice (some ad) sLen sCap) (hr : RC w g l sp) (hn : m.length = Nat.min sLen dLen) (hx : m = [] ∨ y = o * 15)
  (hsrc : ∀ j v, (cLs m)[j]? = some v → w.cell? (ad.add j) = some v) (hfit : o + m.length ≤ l.length)
  (h : wpList Try.prog ops Q rest (a.put op.dst (goInt m.length)) (w.setRow g (cLs (l.take o ++ m ++ l.drop (o + m.length)) ++ sp).toArray)) : wpList Try.prog ops Q (op :: rest) a w :=
 wpList_plain hgd fun K hK => wp_copyG s x ho g y o dLen dCap ad sLen sCap l m sp hs hxx hr hn hx hsrc hfit (hK _ _ h)
end
theorem Tc.rc {b : Nat} {w w' : World} (h : Tc b w w') {g : Nat} {l : List Cl} {sp : List Value} (hr : RC w g l sp) (hb : g ≠ b) : RC w' g l sp := h.row hr hb
theorem RC.setRow {w : World} {g : Nat} {l : List Cl} {sp : List Value} (h : RC w g l sp) (l' : List Cl) (sp' : List Value) : RC (w.setRow g (cLs l' ++ sp').toArray) g l' sp' := Row.setRow h _
theorem Tc.setNew {b : Nat} {w w' : World} (h : Tc b w w') (g : Nat) (hg : w.heap.size ≤ g) (c : Array Value) : Tc b w (w'.setRow g c) :=
 ⟨h.os, h.tape, h.output, by rw [setRow_size]; exact h.size, fun k hk hb => by rw [setRow_other _ _ _ _ (by omega)]; exact h.block k hk hb⟩
set_option maxRecDepth 100000 in
set_option maxHeartbeats 8000000 in
theorem fill_any (b x o n c : Nat) (l : List Cl) (sp : List Value) (s : St) (w : World) (hn : n ≤ c) (hx : n = 0 ∨ x = o * 15) (hl : o + n ≤ l.length) (hr : RC w b l sp) (hcap : n ≤ 1000000) :
  Calls Try.prog 41 #[.slice (some ⟨b, x, none⟩) n c, .agg (sA s)] w fun e w' => (∃ v, e = .returned v) ∧ RC w' b (fiL l o n s) sp ∧ Tc b w w' := by
 have BL := Box'.mk (blank_any s)
 have S26 := Box'.mk s26
 have U26 := Box'.mk Try.underlying49
 have S24 := Box'.mk s24
 have U24 := Box'.mk Try.underlying26
 have hbw := hr.lt
 have R1 := Box'.mk (Row.new w 26 (sA s))
 have C1 : Box' (RC (w.alloc (.cells (sA s) 26)) b l sp) := ⟨Row.alloc hr _⟩
 have T1 : Box' (Tc b w (w.alloc (.cells (sA s) 26))) := ⟨Tc.of (bR.alloc (Nat.le_refl _) _)⟩
 have hz1 : b < (w.alloc (.cells (sA s) 26)).heap.size := by simp; omega
 clear hr
 go_enter Try.func41, Try.ntmps41
 go_upto_region 1 with (fail)
 generalize (w.alloc (.cells (sA s) 26)) = w1 at *
 go_wp2_with (first
  | (refine wpList_load_row rfl 26 (.tmp 3) rfl w.heap.size rfl 26 (sA s) R1.out _ U24.out rfl 10 S24.out rfl ?_))
 refine (BL.out _).mono ?_
 rintro e w2 ⟨rfl, hb2⟩
 have C2 : Box' (RC w2 b l sp) := ⟨C1.out.below hb2 hz1⟩
 have T2 := Box'.mk (T1.out.then hb2)
 have hz2 : b < w2.heap.size := C2.out.lt
 clear hb2 BL R1 C1 T1 hz1
 have hsz := T2.out.size
 have RM : Box' (Room (w2.alloc (.cells #[.int .i32 0, .int .i32 0, .int .i32 0, .int .i32 0, .int .u8 0, .int .i64 0, .int .i64 0, .bool false, .bool false, .bool false, .bool false, .bool false, .bool false, .bool false, .bool false] 49)) w2.heap.size 49 15) := ⟨Room.new _ _ _ _ rfl⟩
 have R4 : Box' (Row ((w2.alloc (.cells #[.int .i32 0, .int .i32 0, .int .i32 0, .int .i32 0, .int .u8 0, .int .i64 0, .int .i64 0, .bool false, .bool false, .bool false, .bool false, .bool false, .bool false, .bool false, .bool false] 49)).setRow w2.heap.size (cA (bl s))) w2.heap.size 49 (cA (bl s))) := ⟨RM.out.setRow _⟩
 have C4 : Box' (RC ((w2.alloc (.cells #[.int .i32 0, .int .i32 0, .int .i32 0, .int .i32 0, .int .u8 0, .int .i64 0, .int .i64 0, .bool false, .bool false, .bool false, .bool false, .bool false, .bool false, .bool false, .bool false] 49)).setRow w2.heap.size (cA (bl s))) b l sp) := ⟨Row.setRowOther (Row.alloc C2.out _) _ _ (by omega)⟩
 have T4 : Box' (Tc b w ((w2.alloc (.cells #[.int .i32 0, .int .i32 0, .int .i32 0, .int .i32 0, .int .u8 0, .int .i64 0, .int .i64 0, .bool false, .bool false, .bool false, .bool false, .bool false, .bool false, .bool false, .bool false] 49)).setRow w2.heap.size (cA (bl s)))) := ⟨(T2.out.then (bR.alloc (Nat.le_refl _) _)).setNew _ hsz _⟩
 have O := Box'.mk (one15 (bl s))
 clear C2 T2
 go_wp2_with (first
  | (refine wpList_store_row rfl 49 (.tmp 4) (.tmp 7) rfl w2.heap.size rfl (cA (bl s)) rfl 49 15 RM.out S26.out rfl O.out ?_))
 generalize ((w2.alloc (.cells #[.int .i32 0, .int .i32 0, .int .i32 0, .int .i32 0, .int .u8 0, .int .i64 0, .int .i64 0, .bool false, .bool false, .bool false, .bool false, .bool false, .bool false, .bool false, .bool false] 49)).setRow w2.heap.size (cA (bl s))) = w4 at *
 have hg : b ≠ w2.heap.size := by omega
 clear hz2 RM
 generalize w2.heap.size = g at *
 have FS : Box' (∀ k, k < n → (fiL l o k s).set (o + k) (bl s) = fiL l o (k + 1) s) := ⟨fun k hk => fiL_step l o k s (by omega)⟩
 have FL : Box' (∀ k, k ≤ n → (fiL l o k s).length = l.length) := ⟨fun k hk => fiL_len l o k s (by omega)⟩
 have F0 := Box'.mk (fiL_zero l o s)
 go_loopw [10] (fun i wr => ∃ k : Nat, k ≤ n ∧ i = .int .i64 (k : Int) ∧ Box' (RC wr b (fiL l o k s) sp) ∧ Box' (Row wr g 49 (cA (bl s))) ∧ Box' (Tc b w wr)) (fun i _ => n - (intOf i).toNat)
 case atStart => exact ⟨0, by omega, rfl, by rw [F0.out]; exact C4, R4, T4⟩
 case round =>
  obtain ⟨k, hk, rfl, CC, RR, TT⟩ := hrel
  clear C4 R4 T4
  by_cases hlt : k < n
  case pos =>
   obtain rfl : x = o * 15 := by omega
   have SC := Box'.mk (show o + k < (fiL l o k s).length by rw [FL.out k (by omega)]; omega)
   have NX : Box' (RC (wr.setRow b (cLs ((fiL l o k s).set (o + k) (bl s)) ++ sp).toArray) b (fiL l o (k + 1) s) sp) := ⟨by rw [FS.out k hlt]; exact CC.out.setRow _ _⟩
   have NR : Box' (Row (wr.setRow b (cLs ((fiL l o k s).set (o + k) (bl s)) ++ sp).toArray) g 49 (cA (bl s))) := ⟨Row.setRowOther RR.out _ _ (fun e => hg e.symm)⟩
   have NT : Box' (Tc b w (wr.setRow b (cLs ((fiL l o k s).set (o + k) (bl s)) ++ sp).toArray)) := ⟨TT.out.setRow _⟩
   go_wp2_with (first
    | (refine wpList_load_row rfl 49 (.tmp 4) rfl g rfl 49 (cA (bl s)) RR.out _ U26.out rfl 15 S26.out rfl ?_)
    | (refine wpList_store_cell rfl (.tmp 16) (.tmp 15) rfl b (fiL l o k s) sp (o + k) (bl s) (by rw [Nat.add_mul]; rfl) rfl CC.out SC.out ?_))
   exact ⟨⟨k + 1, by omega, by go_num, NX, NR, NT⟩, by simp [intOf]; omega⟩
  case neg =>
   obtain rfl : k = n := by omega
   go_wp2_with fail
   exact bodyPost_end (results_none rfl _ _) rfl ⟨⟨_, rfl⟩, CC.out, TT.out⟩
end Go.Proofs.Ytnbonlkmadmpcaa
