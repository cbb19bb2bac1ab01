/- Events behind a slice, cut. -/
import Derived.Test.YtpgljhgfoihnjaaFm
import Derived.Test.YtpgljhgfoihnjaaGx
import Derived.Laws.Small
namespace Go.Proofs.Ytpgljhgfoihnjaa
open Go.RowKit Go.BigFrame
set_option linter.unusedSimpArgs false
set_option linter.unusedVariables false
theorem may_len {x : Ev} (h : x.may = true) : x.byt.length ≤ 4096 := by
  unfold Ev.may mayN at h
  by_cases h1 : x.kind.toNat = 1
  · rw [if_pos h1, decide_eq_true_eq] at h; omega
  rw [if_neg h1] at h
  by_cases h2 : x.kind.toNat = 2
  · rw [if_pos h2, decide_eq_true_eq] at h; omega
  rw [if_neg h2] at h
  by_cases h3 : x.kind.toNat = 3
  · rw [if_pos h3, decide_eq_true_eq] at h; omega
  rw [if_neg h3] at h
  by_cases h4 : x.kind.toNat = 4
  · rw [if_pos h4, decide_eq_true_eq] at h; omega
  rw [if_neg h4] at h
  cases h
/-- A row that is laid for a constant's bytes, read. -/
theorem mark_in (w : World) (C : List UInt8) (n : Nat) (hn : C.length = n) (fz : Nat × Nat) : InB (w.heap.size + 1) (w.alloc (.cells (ag C) 5 fz)) (.slice (some ⟨w.heap.size, 0, none⟩) n n) C := by
  subst hn
  refine .inr ⟨w.heap.size, 0, C.length, rfl, Nat.le_refl _, .inr (Nat.lt_succ_self _), fun j u hu => ?_⟩
  rw [Nat.zero_add, cell_of_row _ _ j (ag C) 5 fz (heap_alloc_last w _)]
  simpa [ag] using hu

theorem slice_op {P : Program} {op : Oper} {a : Act} (t : TypeId) (x : Operand) (lo hi mx : Option Operand) (ho : op.op = .slice t x lo hi mx) (v : Value) (w : World) (h : (Instr.sliceAt t (a.eval x) (lo.map a.eval) (hi.map a.eval) (mx.map a.eval)).run P w = .ok v w) :
    (execOp a.eval op).run P w = .ok (.value v) w := by
  unfold execOp
  simp only [ho, Sem.run_bind, h, Result.andThen_ok, Sem.run_pure]
theorem wp_val {P : Program} {op : Oper} {a : Act} {w : World} {K : Act → World → Prop} {Q : Exit → Act → World → Prop} (v : Value) (hrun : (execOp a.eval op).run P w = .ok (.value v) w) (h : K (a.put op.dst v) w) : op.wp P a w K Q := by
  unfold Oper.wp; rw [hrun]; exact h
theorem wpList_slice {P : Program} {ops : Array Oper} {rest : List Oper} {op : Oper} {a : Act} {w : World} {Q : Exit → Act → World → Prop} (hgd : op.guard = none) (t : TypeId) (x : Operand) (lo hi mx : Option Operand) (ho : op.op = .slice t x lo hi mx) (v : Value)
    (h : (Instr.sliceAt t (a.eval x) (lo.map a.eval) (hi.map a.eval) (mx.map a.eval)).run P w = .ok v w) (hk : wpList P ops Q rest (a.put op.dst v) w) : wpList P ops Q (op :: rest) a w :=
  wpList_plain hgd fun K hK => wp_val v (slice_op t x lo hi mx ho v w h) (hK _ _ hk)
set_option maxRecDepth 100000 in
theorem info25 : ∃ i, Try.prog.info? 48 = some i ∧ i.size = 5 := ⟨_, rfl, rfl⟩
theorem size25 (w : World) : (sizeOf 48).run Try.prog w = .ok 5 w := by
  obtain ⟨i, h1, h2⟩ := info25
  simp [sizeOf, typeInfo, h1, h2]
def backE (a : Option Addr) (c k : Nat) : Option Addr := if c = k then a else a.map (·.add (k * 5))
set_option maxRecDepth 100000 in
theorem run_frontE (a : Option Addr) (n c k : Nat) (h1 : k ≤ c) (w : World) : (Instr.sliceAt 22 (.slice a n c) none (some (.int .i64 (k : Int))) (some (.int .i64 (k : Int)))).run Try.prog w = .ok (.slice a k k) w := by
  have e : Try.prog.elem 22 = 48 := by kernel_rfl
  rw [run_sliceAt_slice w 22 _ _ _ _ (by kernel_rfl), run_slice_hm w 22 a n c (by kernel_rfl) _ _ _ _ (by omega) (by omega) (by omega), e, size25]
  simp only [Result.andThen_ok, Int.toNat_natCast, sliced]
  cases a with
  | none => simp
  | some a => by_cases hk : k = 0 <;> simp [hk, Addr.add]
set_option maxRecDepth 100000 in
theorem run_backE (a : Option Addr) (n c k : Nat) (h0 : k ≤ n) (h1 : n ≤ c) (w : World) : (Instr.sliceAt 22 (.slice a n c) (some (.int .i64 (k : Int))) none none).run Try.prog w = .ok (.slice (backE a c k) (n - k) (c - k)) w := by
  have e : Try.prog.elem 22 = 48 := by kernel_rfl
  rw [run_sliceAt_slice w 22 _ _ _ _ (by kernel_rfl), run_slice_l w 22 a n c (by kernel_rfl) _ _ (by omega) (by omega), e, size25]
  simp only [Result.andThen_ok, Int.toNat_natCast, sliced, backE]
theorem Evs.cap {N : Nat} {w : World} {v : Value} {l : List Ev} (h : Evs N w v l) : ∃ a c, v = .slice a l.length c ∧ l.length ≤ c := let ⟨a, c, h1, h2, _⟩ := h; ⟨a, c, h1, h2⟩
theorem Evs.front {N : Nat} {w : World} {a : Option Addr} {n c k : Nat} {l : List Ev} (h : Evs N w (.slice a n c) l) (hk : k ≤ l.length) : Evs N w (.slice a k k) (l.take k) := by
  have hlen : (l.take k).length = k := by rw [List.length_take]; omega
  obtain ⟨a', c', e, hc, h3⟩ := h
  injection e with e1 e2 e3
  subst e1
  refine ⟨a, k, by rw [hlen], by omega, fun j hj => ?_⟩
  rw [hlen] at hj
  obtain ⟨b, o, q1, q2, q3⟩ := h3 j (by omega)
  refine ⟨b, o, q1, q2, ?_⟩
  rwa [show (l.take k).getD j Ev.none = l.getD j Ev.none by simp [List.getD_eq_getElem?_getD, List.getElem?_take, hj]]
theorem Evs.back {N : Nat} {w : World} {a : Option Addr} {n c k : Nat} {l : List Ev} (h : Evs N w (.slice a n c) l) (hk : k ≤ l.length) : Evs N w (.slice (backE a c k) (n - k) (c - k)) (l.drop k) := by
  have hlen : (l.drop k).length = l.length - k := List.length_drop
  obtain ⟨a', c', e, hc, h3⟩ := h
  injection e with e1 e2 e3
  subst e1 e2 e3
  refine ⟨_, _, by rw [hlen], by omega, fun j hj => ?_⟩
  rw [hlen] at hj
  obtain ⟨b, o, q1, q2, q3⟩ := h3 (k + j) (by omega)
  subst q1
  have hck : ¬ c = k := by omega
  refine ⟨b, o + k * 5, ?_, q2, ?_⟩
  · unfold backE; rw [if_neg hck, Option.map_some, Addr.add_mid]
  · rw [show (l.drop k).getD j Ev.none = l.getD (k + j) Ev.none by simp [List.getD_eq_getElem?_getD], show o + k * 5 + j * 5 = o + (k + j) * 5 by omega]
    exact q3
theorem badE_front {l : List Ev} (h : badE l = false) (k : Nat) : badE (l.take k) = false ∧ badE (l.drop k) = false := by
  unfold badE at *
  rw [List.any_eq_false] at *
  rw [List.any_eq_false]
  exact ⟨fun x hx => h x (List.mem_of_mem_take hx), fun x hx => h x (List.mem_of_mem_drop hx)⟩
theorem badE_parts {l : List Ev} (h : badE l = true) (k : Nat) : badE (l.take k) = true ∨ badE (l.drop k) = true := by
  unfold badE at *
  rw [← List.take_append_drop k l, List.any_append, Bool.or_eq_true] at h
  exact h
end Go.Proofs.Ytpgljhgfoihnjaa
