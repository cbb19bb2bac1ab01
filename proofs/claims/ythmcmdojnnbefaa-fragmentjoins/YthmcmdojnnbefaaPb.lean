/- The joiner's map: what is stored is found, and nothing else; it is cleared. -/
import Derived.Test.YthmcmdojnnbefaaPa
import Derived.ProofKit
import Derived.DeepKeys4
import Derived.Carry
namespace Go.Proofs.Ythmcmdojnnbefaa
open Go.RowKit Go.BigFrame
set_option linter.unusedSimpArgs false

theorem own : ownKnob Try.prog.godebug = none := by kernel_rfl
theorem laidOut : laidOutB Try.prog = true := by kernel_rfl
theorem keyLaw : WideMaps.KeyLaw Try.prog 72 := deep_law_laid laidOut (m := 2) (by decide) (of_decide_eq_true (by kernel_rfl)) (by kernel_rfl) (by rw [Try.underlying72])
/-- a place as a key -/
def ky (i n : Nat) : Value := .agg #[.int .u64 (i : Int), .int .i64 (n : Int)]
theorem ky_inj {c s c' s' : Nat} (h : ky c s = ky c' s') : c = c' ∧ s = s' := by
  unfold ky at h
  simp only [Value.agg.injEq, Array.mk.injEq, List.cons.injEq, Value.int.injEq, true_and, and_true] at h
  omega
theorem key_lits (P : Program) (d : Nat) (a b : Int) (fs : Array Field) (t0 t1 : TypeId) (f0 f1 : Field) (hfs : fs = #[f0, f1]) (hu : P.underlying 72 = some (.struct fs)) (n0 : f0.name != "_") (n1 : f1.name != "_") (e0 : f0.type = t0) (e1 : f1.type = t1) (o0 : f0.offset = 0) (o1 : f1.offset = 1) (c72 : P.cellsOf 72 = 2) (c0 : P.cellsOf t0 = 1) (c1 : P.cellsOf t1 = 1)
    (h0 : P.underlying t0 = some (.int .u64)) (h1 : P.underlying t1 = some (.int .i64)) (wa : (Lit.int .u64 a).wf = true) (wb : (Lit.int .i64 b).wf = true) :
    P.keyLits (d + 2) 72 [.int .u64 a, .int .i64 b] = some [.int .u64 a, .int .i64 b] := by
  subst hfs
  unfold Program.keyLits
  simp only [hu, List.length_cons, List.length_nil, c72]
  rw [if_pos ⟨by trivial, by simp at n0 n1; simp [n0, n1]⟩]
  have k0 : P.keyLits (d + 1) t0 [.int .u64 a] = some [.int .u64 a] := by
    unfold Program.keyLits; simp [h0, wa]
  have k1 : P.keyLits (d + 1) t1 [.int .i64 b] = some [.int .i64 b] := by
    unfold Program.keyLits; simp [h1, wb]
  simp [List.mapM_cons, e0, e1, o0, o1, c0, c1, k0, k1]
theorem ky_key (c s : Nat) (hc : c < 18446744073709551616) (hs : s ≤ 256) : ∃ k, keyOf Try.prog 72 (ky c s) = some k := by
  have wa : (Lit.int .u64 (c : Int)).wf = true := by
    simp only [Lit.wf, Bool.and_eq_true, IntKind.min, IntKind.max, IntKind.bits, IntKind.signed]
    exact ⟨by simp, by simp; omega⟩
  have wb : (Lit.int .i64 (s : Int)).wf = true := by
    simp only [Lit.wf, Bool.and_eq_true, IntKind.min, IntKind.max, IntKind.bits, IntKind.signed]
    exact ⟨by simp <;> omega, by simp; omega⟩
  have hkt : Try.prog.keyType 72 = true := by kernel_rfl
  have c72 : Try.prog.cellsOf 72 = 2 := by kernel_rfl
  have hsz : Try.prog.types.size + 1 = 101 + 2 := by kernel_rfl
  have hl := key_lits Try.prog 101 (c : Int) (s : Int) _ 22 3 _ _ rfl Try.underlying72 rfl rfl rfl rfl rfl rfl c72 (by kernel_rfl) (by kernel_rfl) Try.underlying22 Try.underlying3 wa wb
  rw [← hsz] at hl
  refine ⟨.string (keyBytes [.int .u64 c, .int .i64 s]), ?_⟩
  have hf : Value.formed Try.prog 72 (ky c s) = true := by unfold Value.formed ky; rw [Try.underlying72, c72]; rfl
  have hc : (ky c s).cells.toList = [.int .u64 c, .int .i64 s] := rfl
  unfold keyOf
  rw [Try.underlying72]
  simp only [hkt, hf, hc, Bool.and_self, if_true]
  rw [hl]; rfl

/-- What a joiner keeps of a part. -/
structure Pc where
  n : Nat
  last : Bool
  d : List UInt8
/-- The one with that number. -/
def get (L : List Pc) (n : Nat) : Option Pc := L.find? fun x => x.n == n
theorem get_none {L : List Pc} {n : Nat} : get L n = none ↔ ∀ x ∈ L, x.n ≠ n := by
  unfold get
  rw [List.find?_eq_none]
  simp
theorem get_some {L : List Pc} {n : Nat} {x : Pc} (h : get L n = some x) : x ∈ L ∧ x.n = n := by
  unfold get at h
  exact ⟨List.mem_of_find?_eq_some h, by simpa using List.find?_some h⟩
theorem get_mem {L : List Pc} (hn : (L.map (·.n)).Nodup) {x : Pc} (hx : x ∈ L) : get L x.n = some x := by
  induction L with
  | nil => cases hx
  | cons y L ih =>
    rw [List.map_cons, List.nodup_cons] at hn
    unfold get
    rcases List.mem_cons.1 hx with rfl | hx
    · simp
    · have : y.n ≠ x.n := fun e => hn.1 (List.mem_map.2 ⟨x, hx, e.symm⟩)
      rw [List.find?_cons_of_neg (by simpa using this)]
      exact ih hn.2 hx
theorem get_append {L : List Pc} {x : Pc} (n : Nat) : get (L ++ [x]) n = match get L n with | some y => some y | none => if x.n = n then some x else none := by
  unfold get
  rw [List.find?_append]
  cases L.find? fun x => x.n == n with
  | some y => rfl
  | none =>
    simp only [Option.none_or, List.find?_cons, List.find?_nil]
    by_cases h : x.n = n
    · simp [h]
    · rw [show (x.n == n) = false from beq_false_of_ne h, if_neg h]

def kvOf (id : Nat) (p : Pc × Value) : Value × Value := (ky id p.1.n, .agg #[.bool p.1.last, p.2])
/-- The map g holds just these parts of id. -/
def JM (w : World) (g id : Nat) (ps : List (Pc × Value)) : Prop :=
  ∃ es clock, w.heap[g]? = some (.map es clock) ∧ es.toList.map (fun e => (e.key, e.val)) = ps.map (kvOf id) ∧ (es.toList.map (·.born)).Nodup ∧ ∀ e ∈ es.toList, e.born < clock
theorem JM.lt {w : World} {g id : Nat} {ps : List (Pc × Value)} (h : JM w g id ps) : g < w.heap.size := let ⟨_, _, h, _⟩ := h; (Array.getElem?_eq_some_iff.1 h).1
theorem JM.same {w w' : World} {g id : Nat} {ps : List (Pc × Value)} (h : JM w g id ps) (e : w'.heap[g]? = w.heap[g]?) : JM w' g id ps := let ⟨es, c, h1, h2⟩ := h; ⟨es, c, by rw [e]; exact h1, h2⟩
theorem JM.new (w : World) (id : Nat) : JM (w.alloc (.map #[] 0)) w.heap.size id [] := ⟨#[], 0, heap_alloc_last w _, rfl, List.nodup_nil, fun e he => by cases he⟩
theorem JM.size {w : World} {g id : Nat} {ps : List (Pc × Value)} (h : JM w g id ps) : ∃ es clock, w.heap[g]? = some (.map es clock) ∧ es.size = ps.length := by
  obtain ⟨es, c, h1, h2, _⟩ := h
  refine ⟨es, c, h1, ?_⟩
  have := congrArg List.length h2
  simpa using this
theorem zero74 (w : World) : (zeroValue 74).run Try.prog w = .ok (.agg #[.bool false, .slice none 0 0]) w := by
  have h : (Try.prog.info? 74).map (fun i => (i.zero, i.size)) = some (some (.agg #[.bool false, .slice none 0 0]), 2) := by kernel_rfl
  exact (zero_of_info h).1 w
theorem JM.keys {w : World} {g id : Nat} {ps : List (Pc × Value)} (_ : JM w g id ps) (hid : id < 18446744073709551616) (hs : ∀ p ∈ ps, p.1.n < 256) {es : Array MapEntry} (h2 : es.toList.map (fun e => (e.key, e.val)) = ps.map (kvOf id)) : ∀ e ∈ es.toList, ∃ l, keyOf Try.prog 72 e.key = some l := by
  intro e he
  have : (e.key, e.val) ∈ ps.map (kvOf id) := by rw [← h2]; exact List.mem_map.2 ⟨e, he, rfl⟩
  obtain ⟨p, hp, e1⟩ := List.mem_map.1 this
  unfold kvOf at e1
  simp only [Prod.mk.injEq] at e1
  rw [← e1.1]
  exact ky_key _ _ hid (by have := hs p hp; omega)
theorem uniq_n {ps : List (Pc × Value)} (hn : ((ps.map (·.1)).map (·.n)).Nodup) {x : Pc} {u v : Value} (h1 : (x, u) ∈ ps) (h2 : (x, v) ∈ ps) : u = v := by
  induction ps with
  | nil => cases h1
  | cons p ps ih =>
    rw [List.map_cons, List.map_cons, List.nodup_cons] at hn
    have hno : ∀ t, (x, t) ∈ ps → p.1.n ≠ x.n := fun t ht e => hn.1 (List.mem_map.2 ⟨x, List.mem_map.2 ⟨(x, t), ht, rfl⟩, e.symm⟩)
    rcases List.mem_cons.1 h1 with e1 | h1
    · rcases List.mem_cons.1 h2 with e2 | h2
      · rw [← e1] at e2; injection e2 with _ e2; exact e2.symm
      · exact absurd (by rw [← e1]) (hno v h2)
    · rcases List.mem_cons.1 h2 with e2 | h2
      · exact absurd (by rw [← e2]) (hno u h1)
      · exact ih hn.2 h1 h2
/-- What is looked up is found, or is not there. -/
theorem JM.look {w : World} {g id : Nat} {ps : List (Pc × Value)} (h : JM w g id ps) (hid : id < 18446744073709551616) (hs : ∀ p ∈ ps, p.1.n < 256) (hn : ((ps.map (·.1)).map (·.n)).Nodup) (n : Nat) (hn' : n ≤ 256) :
    (get (ps.map (·.1)) n = none ∧ (Instr.lookup 67 (.map (some g)) (ky id n) true).run Try.prog w = .ok (.tuple #[.agg #[.bool false, .slice none 0 0], .bool false]) w) ∨
    ∃ x v, (x, v) ∈ ps ∧ get (ps.map (·.1)) n = some x ∧ (Instr.lookup 67 (.map (some g)) (ky id n) true).run Try.prog w = .ok (.tuple #[.agg #[.bool x.last, v], .bool true]) w ∧ (Instr.lookup 67 (.map (some g)) (ky id n) false).run Try.prog w = .ok (.agg #[.bool x.last, v]) w := by
  obtain ⟨es, clock, hb, h2, h3, h4⟩ := h
  obtain ⟨lk, hkey⟩ := ky_key id n hid hn'
  have hks := JM.keys ⟨es, clock, hb, h2, h3, h4⟩ hid hs h2
  rcases keyLaw.find w hkey es.toList hks with ⟨h5, h6⟩ | ⟨j, e, h5, h6, h7⟩
  · refine .inl ⟨get_none.2 fun x hx e => ?_, ?_⟩
    · obtain ⟨p, hp, rfl⟩ := List.mem_map.1 hx
      have : kvOf id p ∈ es.toList.map (fun e => (e.key, e.val)) := by rw [h2]; exact List.mem_map.2 ⟨p, hp, rfl⟩
      obtain ⟨y, hy, e1⟩ := List.mem_map.1 this
      unfold kvOf at e1
      simp only [Prod.mk.injEq] at e1
      exact h6 y hy (by rw [e1.1, e])
    · simp [Instr.lookup, run_underlying Try.underlying67, MapKept.run_getObj_map hb, keyLaw.check w _ hkey, h5, Result.andThen, zero74]
  · have : (e.key, e.val) ∈ ps.map (kvOf id) := by rw [← h2]; exact List.mem_map.2 ⟨e, List.mem_of_getElem? h6, rfl⟩
    obtain ⟨p, hp, e1⟩ := List.mem_map.1 this
    unfold kvOf at e1
    simp only [Prod.mk.injEq] at e1
    have e3 : p.1.n = n := (ky_inj (e1.1.trans h7)).2
    refine .inr ⟨p.1, p.2, hp, ?_, ?_, ?_⟩
    · rw [← e3]; exact get_mem hn (List.mem_map.2 ⟨p, hp, rfl⟩)
    · simp [Instr.lookup, run_underlying Try.underlying67, MapKept.run_getObj_map hb, keyLaw.check w _ hkey, h5, Result.andThen, ← e1.2]
    · simp [Instr.lookup, run_underlying Try.underlying67, MapKept.run_getObj_map hb, keyLaw.check w _ hkey, h5, Result.andThen, ← e1.2]
theorem JM.update {w : World} {g id : Nat} {ps : List (Pc × Value)} (h : JM w g id ps) (hid : id < 18446744073709551616) (hs : ∀ p ∈ ps, p.1.n < 256) (x : Pc) (hx : x.n < 256) (hnew : get (ps.map (·.1)) x.n = none) (v : Value) :
    ∃ w', (Instr.mapUpdate 67 (.map (some g)) (ky id x.n) (.agg #[.bool x.last, v])).run Try.prog w = .ok () w' ∧ JM w' g id (ps ++ [(x, v)]) ∧ w.grownBy w' (some g) := by
  obtain ⟨es, clock, hb, h2, h3, h4⟩ := h
  obtain ⟨lk, hkey⟩ := ky_key id x.n hid (by omega)
  have hks := JM.keys ⟨es, clock, hb, h2, h3, h4⟩ hid hs h2
  rcases keyLaw.find w hkey es.toList hks with ⟨h5, h6⟩ | ⟨j, e, h5, h6, h7⟩
  · have hg := (Array.getElem?_eq_some_iff.1 hb).1
    refine ⟨{ w with heap := w.heap.setIfInBounds g (.map (es.push { key := ky id x.n, val := .agg #[.bool x.last, v], born := clock }) (clock + 1)) }, ?_, ⟨es.push { key := ky id x.n, val := .agg #[.bool x.last, v], born := clock }, clock + 1, ?_, ?_, ?_, ?_⟩, ⟨rfl, rfl, rfl, ?_, ?_⟩⟩
    · simp [Instr.mapUpdate, run_underlying Try.underlying67, MapKept.run_getObj_map hb, keyLaw.check w _ hkey, h5, Result.andThen, MapKept.run_setObj_map _ hb]
    · simp [hg]
    · rw [List.map_append, ← h2]; simp [kvOf]
    · rw [Array.toList_push, List.map_append, List.nodup_append]
      refine ⟨h3, by simp, fun a ha b hb' => ?_⟩
      obtain ⟨e, he, rfl⟩ := List.mem_map.1 ha
      have := h4 e he
      simp at hb'
      omega
    · intro e he
      rw [Array.toList_push, List.mem_append] at he
      rcases he with he | he
      · have := h4 e he; omega
      · simp at he; subst he; exact Nat.lt_succ_self _
    · simp
    · intro b _ hbg; simp [show g ≠ b from fun e => hbg (by rw [e])]
  · exfalso
    have : (e.key, e.val) ∈ ps.map (kvOf id) := by rw [← h2]; exact List.mem_map.2 ⟨e, List.mem_of_getElem? h6, rfl⟩
    obtain ⟨p, hp, e1⟩ := List.mem_map.1 this
    unfold kvOf at e1
    simp only [Prod.mk.injEq] at e1
    exact get_none.1 hnew p.1 (List.mem_map.2 ⟨p, hp, rfl⟩) (ky_inj (e1.1.trans h7)).2
theorem JM.clear {w : World} {g id : Nat} {ps : List (Pc × Value)} (h : JM w g id ps) (ty : TypeId) :
    ∃ w', (Builtin.clear_ #[67] ty #[.map (some g)]).run Try.prog w = .ok (.tuple #[]) w' ∧ (∀ i, JM w' g i []) ∧ w.grownBy w' (some g) := by
  obtain ⟨es, clock, hb, h2, h3, h4⟩ := h
  have hg := (Array.getElem?_eq_some_iff.1 hb).1
  refine ⟨{ w with heap := w.heap.setIfInBounds g (.map #[] clock) }, ?_, fun i => ⟨#[], clock, by simp [hg], rfl, List.nodup_nil, fun e he => by cases he⟩, ⟨rfl, rfl, rfl, by simp, ?_⟩⟩
  · simp [Builtin.clear_, run_underlying Try.underlying67, MapKept.run_getObj_map hb, MapKept.run_setObj_map _ hb, Result.andThen]
  · intro b _ hbg; simp [show g ≠ b from fun e => hbg (by rw [e])]

section
variable {ops : Array Oper} {rest : List Oper} {op : Oper} {a : Act} {w : World} {Q : Exit → Act → World → Prop}
theorem wpList_update (hgd : op.guard = none) (x y z : Operand) (ho : op.op = .mapUpdate 67 x y z) (w' : World) (hrun : (Instr.mapUpdate 67 (a.eval x) (a.eval y) (a.eval z)).run Try.prog w = .ok () w')
    (h : wpList Try.prog ops Q rest (a.put op.dst undef) w') : wpList Try.prog ops Q (op :: rest) a w := by
  refine wpList_plain hgd fun K hK' => ?_
  unfold Oper.wp
  simp only [execOp, ho, Sem.run_bind, hrun, Result.andThen_ok]
  exact hK' _ _ h
theorem wp_lookup {K : Act → World → Prop} (x y : Operand) (c : Bool) (ho : op.op = .lookup 67 x y c) (v : Value) (hrun : (Instr.lookup 67 (a.eval x) (a.eval y) c).run Try.prog w = .ok v w)
    (h : K (a.put op.dst v) w) : op.wp Try.prog a w K Q := by
  unfold Oper.wp
  simp only [execOp, ho, Sem.run_bind, hrun, Result.andThen_ok]
  exact h
theorem wpList_lookup (hgd : op.guard = none) (x y : Operand) (c : Bool) (ho : op.op = .lookup 67 x y c) (v : Value) (hrun : (Instr.lookup 67 (a.eval x) (a.eval y) c).run Try.prog w = .ok v w)
    (h : wpList Try.prog ops Q rest (a.put op.dst v) w) : wpList Try.prog ops Q (op :: rest) a w := wpList_plain hgd fun _ hK' => wp_lookup x y c ho v hrun (hK' _ _ h)
theorem wpList_clear (hgd : op.guard = none) (x : Operand) (ho : op.op = .call { callee := .builtin .clear, args := #[x], argTypes := #[67] }) (w' : World) (hrun : (Builtin.clear_ #[67] op.type #[a.eval x]).run Try.prog w = .ok (.tuple #[]) w')
    (h : wpList Try.prog ops Q rest (a.put op.dst (.tuple #[])) w') : wpList Try.prog ops Q (op :: rest) a w := by
  refine wpList_plain hgd fun K hK' => ?_
  unfold Oper.wp execOp
  simp only [ho, resolve, invoke, builtin, Sem.run_bind, Sem.run_pure, Result.andThen_ok, List.map_toArray, List.map_cons, List.map_nil, hrun]
  exact hK' _ _ h
end
end Go.Proofs.Ythmcmdojnnbefaa
