/- Drawn regions of quiet operations, walked once in the order of the text. -/
import Derived.Test.YtikkekdmahdgaaaC
import Derived.Test.YtikkekdmahdgaaaGw
import Derived.Test.YtikkekdmahdgaaaChecked
import Derived.Deep.MidRow
import Derived.BigQuiet
import Derived.Deep.Cut
namespace Go.Proofs.Ytikkekdmahdgaaa
open Go.RowKit Go.BigFrame
set_option linter.unusedVariables false
set_option linter.unusedSimpArgs false
set_option maxRecDepth 100000
theorem wp_region_lex {id : Nat} {Q : Exit → Act → World → Prop} {a : Act} {w : World} {l : List Oper} (C : World → Prop) (hm : Try.prog.follows .mixedOrders = true) (hB : Region.lexB .any l.toArray = true) (hC : C w.drew)
    (h : wpQuiet Try.prog l.toArray C (fun a' => ∀ w', C w' → Q .normal a' w') l a) : (Code.region id l.toArray true).wp Try.prog Q a w :=
  wp_region_quiet (C := C) hm hB hC (by simpa using h)
theorem wp_valE {op : Oper} {a : Act} {w : World} {K : Act → World → Prop} {Q : Exit → Act → World → Prop} (v : Value) (hrun : (execOp a.eval op).run Try.prog w = .ok (.value v) w) (h : K (a.put op.dst v) w) : op.wp Try.prog a w K Q := by
  unfold Oper.wp; rw [hrun]; exact h
section
variable {C : World → Prop} {op : Oper} {a : Act} {K : Act → Prop}
theorem qC_of (v : Value) (he : ∀ w, C w → (execOp a.eval op).run Try.prog w = .ok (.value v) w) (hk : K (a.put op.dst v)) : op.quiet Try.prog a C K :=
  ⟨v, fun w hw => by unfold Oper.quietAt; rw [he w hw]; exact ⟨rfl, rfl⟩, hk⟩
theorem qC_load9 (x : Operand) (ho : op.op = .load 9 x) (b o : Nat) (v : Value) (hx : a.eval x = .pointer (some ⟨b, o, none⟩)) (hc : ∀ w, C w → w.cell? ⟨b, o, none⟩ = some v) (hk : K (a.put op.dst v)) : op.quiet Try.prog a C K :=
  qC_of v (fun w hw => by unfold execOp; simp only [ho, hx]; simp [go_sem, hc w hw]) hk
theorem qC_load4 (x : Operand) (ho : op.op = .load 4 x) (b o : Nat) (v : Value) (hx : a.eval x = .pointer (some ⟨b, o, none⟩)) (hc : ∀ w, C w → w.cell? ⟨b, o, none⟩ = some v) (hk : K (a.put op.dst v)) : op.quiet Try.prog a C K :=
  qC_of v (fun w hw => by unfold execOp; simp only [ho, hx]; simp [go_sem, hc w hw]) hk
theorem qC_load29 (x : Operand) (ho : op.op = .load 29 x) (b o : Nat) (v : Value) (hx : a.eval x = .pointer (some ⟨b, o, none⟩)) (hc : ∀ w, C w → w.cell? ⟨b, o, none⟩ = some v) (hk : K (a.put op.dst v)) : op.quiet Try.prog a C K :=
  qC_of v (fun w hw => by unfold execOp; simp only [ho, hx]; simp [go_sem, hc w hw]) hk
theorem qC_load32 (x : Operand) (ho : op.op = .load 32 x) (b o : Nat) (v : Value) (hx : a.eval x = .pointer (some ⟨b, o, none⟩)) (hc : ∀ w, C w → w.cell? ⟨b, o, none⟩ = some v) (hk : K (a.put op.dst v)) : op.quiet Try.prog a C K :=
  qC_of v (fun w hw => by unfold execOp; simp only [ho, hx]; simp [go_sem, hc w hw]) hk
theorem qC_load39 (x : Operand) (ho : op.op = .load 39 x) (b o : Nat) (v : Value) (hx : a.eval x = .pointer (some ⟨b, o, none⟩)) (hc : ∀ w, C w → w.cell? ⟨b, o, none⟩ = some v) (hk : K (a.put op.dst v)) : op.quiet Try.prog a C K :=
  qC_of v (fun w hw => by unfold execOp; simp only [ho, hx]; simp [go_sem, hc w hw]) hk
theorem qC_call (f : Nat) (args : Array Value) (v : Value) (he : ∀ w, (execOp a.eval op).run Try.prog w = .ok (.enter f args) w) (hc : ∀ w, C w → Calls Try.prog f args w fun e w' => e = .returned v ∧ C w') (hk : K (a.put op.dst v)) : op.quiet Try.prog a C K :=
  ⟨v, fun w hw => by unfold Oper.quietAt; rw [he w]; exact ⟨rfl, hc w hw⟩, hk⟩
end
end Go.Proofs.Ytikkekdmahdgaaa
