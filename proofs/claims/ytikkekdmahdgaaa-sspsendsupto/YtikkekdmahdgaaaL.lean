/- Laws on whole rows of bytes: what a world holds in a block, and the load and the store of a whole array. -/
import Derived.WalkKit
import Derived.WalkSpells
import Derived.WalkLawsBesides
import Derived.Deep.WholeRow
import Derived.Laws.CopyOwn
import Derived.Deep.Draws
namespace Go.Proofs.Ytikkekdmahdgaaa
open Go.RowKit

def B (x : UInt8) : Value := .int .u8 (x.toNat : Int)
def ag (l : List UInt8) : Array Value := (l.map B).toArray

theorem ag_size (l : List UInt8) : (ag l).size = l.length := by simp [ag]
theorem ag_get {l : List UInt8} {k : Nat} (h : k < l.length) : (ag l)[k]? = some (.int .u8 ((l.getD k 0).toNat : Int)) := by
  simp [ag, B, h]
theorem ag_set (l : List UInt8) (k : Nat) (x : UInt8) : (ag l).setIfInBounds k (.int .u8 (x.toNat : Int)) = ag (l.set k x) := by
  simp only [ag, List.setIfInBounds_toArray, List.map_set]; rfl
theorem ag_one (l : List UInt8) : (ag l).all (·.oneCell') = true := by
  rw [Array.all_eq_true_iff_forall_mem]; intro v hv
  simp only [ag, List.mem_toArray, List.mem_map] at hv
  obtain ⟨x, _, rfl⟩ := hv; rfl

/-- The block b holds the cells c. -/
def Row (w : World) (b : Nat) (t : TypeId) (c : Array Value) : Prop := w.heap[b]? = some (.cells c t (0, 0))

theorem Row.lt {w : World} {b : Nat} {t : TypeId} {c : Array Value} (h : Row w b t c) : b < w.heap.size := (Array.getElem?_eq_some_iff.1 h).1
theorem Row.cell {w : World} {b : Nat} {t : TypeId} {c : Array Value} (h : Row w b t c) (k : Nat) : w.cell? ⟨b, k, none⟩ = c[k]? := cell_of_row w b k c t (0, 0) h
theorem Row.frozen {w : World} {b : Nat} {t : TypeId} {c : Array Value} (h : Row w b t c) (k : Nat) : w.frozen? ⟨b, k, none⟩ = false := by
  have h' : w.heap[b]? = some (.cells c t (0, 0)) := h
  simp [World.frozen?, h']
theorem Row.byte {w : World} {b : Nat} {t : TypeId} {l : List UInt8} (h : Row w b t (ag l)) {k : Nat} (hk : k < l.length) : w.cell? ⟨b, k, none⟩ = some (.int .u8 ((l.getD k 0).toNat : Int)) := by
  rw [h.cell, ag_get hk]
def ag32 (l : List UInt32) : Array Value := (l.map fun x => Value.int .u32 (x.toNat : Int)).toArray
theorem ag32_size (l : List UInt32) : (ag32 l).size = l.length := by simp [ag32]
theorem ag32_get {l : List UInt32} {k : Nat} (h : k < l.length) : (ag32 l)[k]? = some (.int .u32 ((l.getD k 0).toNat : Int)) := by
  simp [ag32, h]
theorem ag32_set (l : List UInt32) (k : Nat) (x : UInt32) : (ag32 l).setIfInBounds k (.int .u32 (x.toNat : Int)) = ag32 (l.set k x) := by
  simp only [ag32, List.setIfInBounds_toArray, List.map_set]
theorem Row.word {w : World} {b : Nat} {t : TypeId} {l : List UInt32} (h : Row w b t (ag32 l)) {k : Nat} (hk : k < l.length) : w.cell? ⟨b, k, none⟩ = some (.int .u32 ((l.getD k 0).toNat : Int)) := by
  rw [h.cell, ag32_get hk]
theorem Row.drew {w : World} {b : Nat} {t : TypeId} {c : Array Value} (h : Row w b t c) : Row w.drew b t c := h
theorem Row.drewN {w : World} {b : Nat} {t : TypeId} {c : Array Value} (h : Row w b t c) (n : Nat) : Row (w.drewN n) b t c := h
theorem Row.alloc {w : World} {b : Nat} {t : TypeId} {c : Array Value} (h : Row w b t c) (o : Obj) : Row (w.alloc o) b t c := by
  have := h.lt
  show (w.alloc o).heap[b]? = _
  rw [Below.heap_alloc _ _ _ this]; exact h
theorem Row.new (w : World) (t : TypeId) (c : Array Value) : Row (w.alloc (.cells c t)) w.heap.size t c := heap_alloc_last w _
theorem Row.made (w : World) (t : TypeId) (c c' : Array Value) (N : Nat) (h : c = c') (hN : N = w.heap.size) : Row (w.alloc (.cells c t)) N t c' := by subst h hN; exact Row.new w t c
theorem Row.setCell {w : World} {b : Nat} {t : TypeId} {c : Array Value} (h : Row w b t c) (k : Nat) (v : Value) : Row (w.setCell ⟨b, k, none⟩ v) b t (c.setIfInBounds k v) := by
  have h' : w.heap[b]? = some (.cells c t (0, 0)) := h
  unfold Row World.setCell
  rw [Array.getElem?_modify]
  simp [h']
theorem Row.setByte {w : World} {b : Nat} {t : TypeId} {l : List UInt8} (h : Row w b t (ag l)) (k : Nat) (x : UInt8) : Row (w.setCell ⟨b, k, none⟩ (.int .u8 (x.toNat : Int))) b t (ag (l.set k x)) := by
  rw [← ag_set]; exact h.setCell k _
theorem Row.setWord {w : World} {b : Nat} {t : TypeId} {l : List UInt32} (h : Row w b t (ag32 l)) (k : Nat) (x : UInt32) : Row (w.setCell ⟨b, k, none⟩ (.int .u32 (x.toNat : Int))) b t (ag32 (l.set k x)) := by
  rw [← ag32_set]; exact h.setCell k _
theorem Row.setOther {w : World} {b : Nat} {t : TypeId} {c : Array Value} (h : Row w b t c) (a : Addr) (v : Value) (hb : b ≠ a.block) : Row (w.setCell a v) b t c := by
  show (w.setCell a v).heap[b]? = _
  rw [Below.heap_setCell _ _ _ _ hb]; exact h
theorem Row.setRow {w : World} {b : Nat} {t : TypeId} {c : Array Value} (h : Row w b t c) (c' : Array Value) : Row (w.setRow b c') b t c' := setRow_heap w b c c' t (0, 0) h
theorem Row.setRowOther {w : World} {b : Nat} {t : TypeId} {c : Array Value} (h : Row w b t c) (g : Nat) (c' : Array Value) (hb : b ≠ g) : Row (w.setRow g c') b t c := by
  show (w.setRow g c').heap[b]? = _
  rw [setRow_other _ _ _ _ hb]; exact h
theorem Row.below {N : Nat} {w w' : World} {b : Nat} {t : TypeId} {c : Array Value} (h : Row w b t c) (hb : Below N w w') (hn : b < N) : Row w' b t c := by
  show w'.heap[b]? = _
  rw [hb.block b hn]; exact h
theorem Below.drewN {N : Nat} {w w' : World} (h : Below N w w') (n : Nat) : Below N w (w'.drewN n) := ⟨h.os, h.tape, h.output, h.size, h.block⟩

/-- The block b has n cells, whatever they hold. -/
def Room (w : World) (b : Nat) (t : TypeId) (n : Nat) : Prop := ∃ c, Row w b t c ∧ c.size = n
theorem Room.drewN {w : World} {b : Nat} {t : TypeId} {n : Nat} (h : Room w b t n) (k : Nat) : Room (w.drewN k) b t n := h
theorem Room.drew {w : World} {b : Nat} {t : TypeId} {n : Nat} (h : Room w b t n) : Room w.drew b t n := h
theorem Room.alloc {w : World} {b : Nat} {t : TypeId} {n : Nat} (h : Room w b t n) (o : Obj) : Room (w.alloc o) b t n := let ⟨c, h, e⟩ := h; ⟨c, h.alloc o, e⟩
theorem Room.new (w : World) (t : TypeId) (c : Array Value) (n : Nat) (h : c.size = n) : Room (w.alloc (.cells c t)) w.heap.size t n := ⟨c, Row.new w t c, h⟩
theorem Room.made (w : World) (t : TypeId) (c : Array Value) (n N : Nat) (h : c.size = n) (hN : N = w.heap.size) : Room (w.alloc (.cells c t)) N t n := by subst hN; exact Room.new w t c n h
theorem Room.setOther {w : World} {b : Nat} {t : TypeId} {n : Nat} (h : Room w b t n) (a : Addr) (v : Value) (hb : b ≠ a.block) : Room (w.setCell a v) b t n := let ⟨c, h, e⟩ := h; ⟨c, h.setOther a v hb, e⟩
theorem Room.setRowOther {w : World} {b : Nat} {t : TypeId} {n : Nat} (h : Room w b t n) (g : Nat) (c' : Array Value) (hb : b ≠ g) : Room (w.setRow g c') b t n := let ⟨c, h, e⟩ := h; ⟨c, h.setRowOther g c' hb, e⟩
theorem Room.below {N : Nat} {w w' : World} {b : Nat} {t : TypeId} {n : Nat} (h : Room w b t n) (hb : Below N w w') (hn : b < N) : Room w' b t n := let ⟨c, h, e⟩ := h; ⟨c, h.below hb hn, e⟩
theorem Row.room {w : World} {b : Nat} {t : TypeId} {c : Array Value} (h : Row w b t c) {n : Nat} (e : c.size = n) : Room w b t n := ⟨c, h, e⟩

theorem xor_u8 (x y : UInt8) : bits .xor .u8 (x.toNat : Int) (y.toNat : Int) = (((x ^^^ y).toNat : Nat) : Int) := by
  rw [u8_xor_nat _ _ x.toNat_lt y.toNat_lt]; simp

theorem xor_u32 (x y : UInt32) : bits .xor .u32 (x.toNat : Int) (y.toNat : Int) = (((x ^^^ y).toNat : Nat) : Int) := by
  rw [u32_xor_nat _ _ x.toNat_lt y.toNat_lt]; simp

section
variable {P : Program} {ops : Array Oper} {rest : List Oper} {op : Oper} {a : Act} {w : World} {Q : Exit → Act → World → Prop}

theorem wp_load_row {K : Act → World → Prop} (ty : TypeId) (x : Operand) (ho : op.op = .load ty x) (b : Nat) (hx : a.eval x = .pointer (some ⟨b, 0, none⟩))
    (t : TypeId) (c : Array Value) (hr : Row w b t c) (d : TypeDesc) (hu : P.underlying ty = some d) (hd : (match d with | .struct _ | .array _ _ => true | _ => false) = true) (n : Nat) (hi : (P.info? ty).map (·.size) = some n) (hn : c.size = n)
    (h : K (a.put op.dst (.agg c)) w) : op.wp P a w K Q := by
  have hrun := run_loadVar_row (P := P) w b t ty c (0, 0) d hr hu hd (by rw [hn]; exact hi)
  unfold Oper.wp execOp
  simp only [ho, hx, Instr.loadAt, Instr.sureAddr, Sem.run_bind, Sem.run_pure, Result.andThen_ok, hrun]
  exact h

theorem wpList_load_row (hgd : op.guard = none) (ty : TypeId) (x : Operand) (ho : op.op = .load ty x) (b : Nat) (hx : a.eval x = .pointer (some ⟨b, 0, none⟩))
    (t : TypeId) (c : Array Value) (hr : Row w b t c) (d : TypeDesc) (hu : P.underlying ty = some d) (hd : (match d with | .struct _ | .array _ _ => true | _ => false) = true) (n : Nat) (hi : (P.info? ty).map (·.size) = some n) (hn : c.size = n)
    (h : wpList P ops Q rest (a.put op.dst (.agg c)) w) : wpList P ops Q (op :: rest) a w :=
  wpList_plain hgd fun _ hK => wp_load_row ty x ho b hx t c hr d hu hd n hi hn (hK _ _ h)

theorem wp_store_row {K : Act → World → Prop} (ty : TypeId) (x y : Operand) (ho : op.op = .store ty x y) (b : Nat) (hx : a.eval x = .pointer (some ⟨b, 0, none⟩))
    (c' : Array Value) (hy : a.eval y = .agg c') (t : TypeId) (n : Nat) (hr : Room w b t n) (hi : (P.info? ty).map (·.size) = some n) (hs : c'.size = n) (h1 : c'.all (·.oneCell') = true)
    (h : K (a.put op.dst undef) (w.setRow b c')) : op.wp P a w K Q := by
  obtain ⟨c, hr, e⟩ := hr
  have hrun := run_storeVar_row (P := P) w b t ty c c' hr (by rw [hs]; exact hi) (by omega) h1
  unfold Oper.wp execOp
  simp only [ho, hx, hy, Instr.storeAt, Instr.sureAddr, Sem.run_bind, Sem.run_pure, Result.andThen_ok, hrun]
  exact h

theorem wpList_store_row (hgd : op.guard = none) (ty : TypeId) (x y : Operand) (ho : op.op = .store ty x y) (b : Nat) (hx : a.eval x = .pointer (some ⟨b, 0, none⟩))
    (c' : Array Value) (hy : a.eval y = .agg c') (t : TypeId) (n : Nat) (hr : Room w b t n) (hi : (P.info? ty).map (·.size) = some n) (hs : c'.size = n) (h1 : c'.all (·.oneCell') = true)
    (h : wpList P ops Q rest (a.put op.dst undef) (w.setRow b c')) : wpList P ops Q (op :: rest) a w :=
  wpList_plain hgd fun _ hK => wp_store_row ty x y ho b hx c' hy t n hr hi hs h1 (hK _ _ h)

theorem wpList_alloc_row (hgd : op.guard = none) (ty : TypeId) (ho : op.op = .alloc ty) (z : Array Value) (n : Nat) (hz : (P.info? ty).map (fun i => (i.zero, i.size)) = some (some (.agg z), n))
    (h : wpList P ops Q rest (a.put op.dst (.pointer (some ⟨w.heap.size, 0, none⟩))) (w.alloc (.cells z ty))) : wpList P ops Q (op :: rest) a w := by
  refine wpList_plain hgd fun K hK => ?_
  have hz' := (zero_of_info hz).1 w
  unfold Oper.wp execOp
  simp only [ho, Instr.alloc, Sem.run_bind, Sem.run_pure, hz', Result.andThen_ok, newVar, newRow, Value.cells, run_newObj_alloc]
  exact hK _ _ h

theorem run_index_arr (w : World) (xT e : TypeId) (n : Nat) (c : Array Value) (k : Nat) (v : Value) (ik ek : IntKind) (hu : P.underlying xT = some (.array n e)) (he : P.underlying e = some (.int ek))
    (hs : (P.info? e).map (·.size) = some 1) (hk : k < n) (hc : c[k]? = some v) : (Instr.index xT (.agg c) (.int ik (k : Int))).run P w = .ok v w := by
  cases hq : P.info? e with
  | none => simp [hq] at hs
  | some i =>
    have h1 : i.size = 1 := by simpa [hq] using hs
    simp [Instr.index, asIntOf, underlying, hu, part, isAgg, he, sizeOf, typeInfo, hq, h1, hk, hc]

theorem Room.setRow {w : World} {b : Nat} {t : TypeId} {n : Nat} (h : Room w b t n) (c' : Array Value) : Row (w.setRow b c') b t c' := let ⟨_, h, _⟩ := h; h.setRow c'

theorem results_row {fn : Func} {p : Tmp} {ty : TypeId} (hf : fn.results = #[.cell p ty]) (tmps : Array Value) (b : Nat) (hx : tmps.getD p undef = .pointer (some ⟨b, 0, none⟩))
    (t : TypeId) (c : Array Value) (hr : Row w b t c) (d : TypeDesc) (hu : P.underlying ty = some d) (hd : (match d with | .struct _ | .array _ _ => true | _ => false) = true) (n : Nat) (hi : (P.info? ty).map (·.size) = some n) (hn : c.size = n) :
    (results fn tmps).run P w = .ok (.agg c) w := by
  have hrun := run_loadVar_row (P := P) w b t ty c (0, 0) d hr hu hd (by rw [hn]; exact hi)
  have hx' : tmps[p]?.getD undef = .pointer (some ⟨b, 0, none⟩) := by simpa using hx
  simp only [results, hf]
  simp [hx', asAddr, hrun]
end
end Go.Proofs.Ytikkekdmahdgaaa
