/- What is told of a row: the program's difference and its instruction. -/
import Derived.Test.YtikkekdmahdgaaaTe
namespace Go.Proofs.Ytikkekdmahdgaaa
open Go.RowKit Go.BigFrame
set_option linter.unusedSimpArgs false
set_option linter.unusedVariables false
set_option maxRecDepth 100000
set_option maxHeartbeats 8000000

theorem InX.inG {S : Nat → Prop} {w : World} {v : Value} {l : List UInt8} (h : InX S w v l) (hS : ∀ b, S b → b < w.heap.size) : InG w v l := by
  rcases h with ⟨rfl, rfl⟩ | ⟨b, o, c, rfl, h1, h2, h3⟩
  · exact ⟨none, 0, rfl, fun _ => rfl, fun ad e => by cases e⟩
  · exact ⟨some ⟨b, o, none⟩, c, rfl, fun e => (by cases e), fun ad e => (by injection e with e; subst e; exact ⟨h2.imp id (hS b), h1, fun j u hu => by rw [Addr.add_mid]; exact h3 j u hu⟩)⟩
theorem wpList_val {ops : Array Oper} {rest : List Oper} {o : Oper} {a : Act} {w : World} {Q : Exit → Act → World → Prop} (hgd : o.guard = none) (v : Value) (he : (execOp a.eval o).run Try.prog w = .ok (.value v) w) (h : wpList Try.prog ops Q rest (a.put o.dst v) w) : wpList Try.prog ops Q (o :: rest) a w := by
  refine wpList_plain hgd fun K hK => ?_
  unfold Oper.wp
  rw [he]
  exact hK _ _ h
theorem wpList_conv {ops : Array Oper} {rest : List Oper} {o : Oper} {a : Act} {w w' : World} {Q : Exit → Act → World → Prop} (hgd : o.guard = none) (v x : Value) (s : Operand) (ho : o.op = .convert 9 39 s) (hx : a.eval s = x) (hrun : (convert 9 39 x).run Try.prog w = .ok v w') (h : wpList Try.prog ops Q rest (a.put o.dst v) w') : wpList Try.prog ops Q (o :: rest) a w :=
  wpList_plain hgd fun K hK => wp_conv v x s ho hx hrun (hK _ _ h)
theorem wpList_add29 {ops : Array Oper} {rest : List Oper} {o : Oper} {a : Act} {w : World} {Q : Exit → Act → World → Prop} (hgd : o.guard = none) (x y : Operand) (ho : o.op = .binOp .add 29 x y 29) (i j : Int) (hx : a.eval x = .int .u64 i) (hy : a.eval y = .int .u64 j) (h0 : 0 ≤ i + j) (h1 : i + j < 18446744073709551616) (h : wpList Try.prog ops Q rest (a.put o.dst (.int .u64 (i + j))) w) : wpList Try.prog ops Q (o :: rest) a w :=
  wpList_val hgd (.int .u64 (i + j)) (by unfold execOp; simp only [ho, hx, hy]; simp [go_sem, IntKind.wrap_u64]; omega) h
theorem OwnB.sameB {N : Nat} {w w' : World} {v : Value} {l : List UInt8} (h : OwnB N w v l) (hb : ∀ g, v.ownBlock = some g → w'.heap[g]? = w.heap[g]?) : OwnB N w' v l := by
  refine ⟨h.1, ?_⟩
  rcases h.2 with q | ⟨g, cap, cur, e1, e2, e3, e4⟩
  · exact .inl q
  · exact .inr ⟨g, cap, cur, e1, e2, (hb g (by rw [e1]; rfl)).trans e3, e4⟩
def errS (b : Bool) : Value := .int .i64 (if b = true then 0 else 99)
theorem diff_any (t fr : List UInt8) (h1 : t.length ≤ 140737488355328) (h2 : fr.length ≤ 140737488355328) (w : World) :
    Calls Try.prog 71 #[.agg #[sT t], .agg #[sT fr]] w fun e w' => ∃ v, e = .returned (.tuple #[v, errS (sufF fr t).2]) ∧ InG w' v (sufF fr t).1 ∧ Below w.heap.size w w' := by
  obtain ⟨w1, hw1⟩ : ∃ w1, w1 = (w.alloc (.cells #[sT t] 26)).alloc (.cells #[sT fr] 26) := ⟨_, rfl⟩
  have b1 : Below w.heap.size w w1 := by rw [hw1]; exact ((Below.refl _ _).alloc (Nat.le_refl _) _).alloc (by simp) _
  have sf := suffix_any fr t h2 h1 w1
  have B1 := Box'.mk b1
  have hsf : (sufF fr t).2 = false → (sufF fr t).1 = [] := by unfold sufF; split <;> simp
  obtain ⟨v, w2, hr, k1, k2, k3⟩ := conv_str w1 (sufF fr t).1
  have HR := Box'.mk hr
  have K2 : Box' (InG w2 v (sufF fr t).1) := ⟨k2.inG fun b e => by subst e; rw [k3]; exact Nat.lt_succ_self _⟩
  have B2 : Box' (Below w.heap.size w w2) := ⟨b1.trans (k1.mono b1.size)⟩
  have NG : Box' (InG w1 (.slice none 0 0) []) := ⟨⟨none, 0, rfl, fun _ => rfl, fun ad e => by cases e⟩⟩
  clear b1 hr k1 k2 k3
  unfold sT at *
  generalize (sufF fr t).1 = d at *
  generalize (sufF fr t).2 = ok at *
  go_enter Try.func71, Try.ntmps71
  go_wp2_with fail
  rw [← hw1]
  refine sf.mono ?_
  rintro e w3 ⟨rfl, hw⟩
  obtain rfl : w1 = w3 := hw.symm
  clear sf hw hw1
  cases ok with
  | false =>
    obtain rfl := hsf rfl
    go_wp2_with fail
    refine bodyPost_ret (results_tmp2 rfl _ _ _) rfl ?_
    exact ⟨_, rfl, NG.out, B1.out⟩
  | true =>
    clear hsf
    go_wp2_with (refine wpList_conv rfl _ _ (.tmp 18) rfl rfl HR.out ?_)
    refine bodyPost_ret (results_tmp2 rfl _ _ _) rfl ?_
    exact ⟨_, rfl, K2.out, B2.out⟩
theorem results_row1 {P : Program} {w : World} {fn : Func} {p q : Tmp} {ty : TypeId} (hf : fn.results = #[.cell p ty, .tmp q]) (tmps : Array Value) (b : Nat) (hx : tmps.getD p undef = .pointer (some ⟨b, 0, none⟩)) (v : Value) (hq : tmps.getD q undef = v)
    (t : TypeId) (c : Array Value) (hr : Row w b t c) (d : TypeDesc) (hu : P.underlying ty = some d) (hd : (match d with | .struct _ | .array _ _ => true | _ => false) = true) (n : Nat) (hi : (P.info? ty).map (·.size) = some n) (hn : c.size = n) :
    (results fn tmps).run P w = .ok (.tuple #[.agg c, v]) w := by
  have hrun := run_loadVar_row (P := P) w b t ty c (0, 0) d hr hu hd (by rw [hn]; exact hi)
  have hx' : tmps[p]?.getD undef = .pointer (some ⟨b, 0, none⟩) := by simpa using hx
  have hq' : tmps[q]?.getD undef = v := by simpa using hq
  simp only [results, hf]
  simp [hx', hq', asAddr, hrun]
theorem below_setRow {N : Nat} {w w' : World} (h : Below N w w') (g : Nat) (c : Array Value) (hg : N ≤ g) : Below N w (w'.setRow g c) :=
  ⟨h.os, h.tape, h.output, by have := h.size; simpa [World.setRow] using this, fun k hk => (setRow_other _ _ _ _ (by omega)).trans (h.block k hk)⟩
def z41 : Array Value := #[.int .u64 0, .int .u64 0, .int .u64 0, .int .u64 0, .slice none 0 0]
theorem sufF_self (t : List UInt8) : sufF t t = ([], true) := by simp [sufF]
theorem toldNone_any (f : Nat) (w : World) : Calls Try.prog 30 #[.slice none 0 0, .int .u64 (f : Int)] w fun e w' => e = .returned (.tuple #[.agg z41, .int .i64 0]) ∧ Below w.heap.size w w' := by
  obtain ⟨w1, hw1⟩ : ∃ w1, w1 = (w.alloc (.cells z41 41)).setRow w.heap.size z41 := ⟨_, rfl⟩
  have rm : Room (w.alloc (.cells z41 41)) w.heap.size 41 5 := (Row.new w 41 z41).room rfl
  have R1 : Box' (Row w1 w.heap.size 41 z41) := ⟨by rw [hw1]; exact rm.setRow _⟩
  have B1 : Box' (Below w.heap.size w w1) := ⟨by rw [hw1]; exact below_setRow ((Below.refl _ _).alloc (Nat.le_refl _) _) _ _ (Nat.le_refl _)⟩
  unfold z41 at *
  go_enter Try.func30, Try.ntmps30
  go_wp2_with (refine wpList_store_row rfl 41 (.tmp 4) (.tmp 12) rfl w.heap.size rfl _ rfl 41 5 rm (by kernel_rfl) rfl (by simp [Value.oneCell']) ?_; rw [← hw1]; clear rm hw1)
  refine bodyPost_ret (results_row1 rfl _ w.heap.size rfl (.int .i64 0) rfl 41 _ R1.out _ Try.underlying41 rfl 5 (by kernel_rfl) rfl) rfl ?_
  exact ⟨rfl, B1.out⟩
end Go.Proofs.Ytikkekdmahdgaaa
