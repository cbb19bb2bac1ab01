/- Laws on whole rows of bytes: what a world holds in a block, and the load and the store of a whole array. Bytes that lie behind a slice; the comparing of bytes. -/
import Derived.WalkKit
import Derived.WalkSpells
import Derived.WalkLawsBesides
import Derived.Deep.WholeRow
import Derived.Laws.CopyOwn
import Derived.Deep.Draws
import Derived.Test.YtpgljhgfoihnjaaRows
import Derived.Deep.MidRow
import Derived.Laws.IdiomStrings
import Derived.Laws.BytesArg
import Derived.Laws.AppendOwn
namespace Go.Proofs.Ytpgljhgfoihnjaa
open Go.RowKit

def B (x : UInt8) : Value := .int .u8 (x.toNat : Int)
def ag (l : List UInt8) : Array Value := (l.map B).toArray

theorem ag_size (l : List UInt8) : (ag l).size = l.length := by simp [ag]
theorem ag_get {l : List UInt8} {k : Nat} (h : k < l.length) : (ag l)[k]? = some (.int .u8 ((l.getD k 0).toNat : Int)) := by
  simp [ag, B, h]
theorem ag_set (l : List UInt8) (k : Nat) (x : UInt8) : (ag l).setIfInBounds k (.int .u8 (x.toNat : Int)) = ag (l.set k x) := by
  simp only [ag, List.setIfInBounds_toArray, List.map_set]; rfl
theorem ag_one (l : List UInt8) : (ag l).all (·.oneCell') = true := by
  rw [Array.all_eq_true_iff_forall_mem]; intro v hv
  simp only [ag, List.mem_toArray, List.mem_map] at hv
  obtain ⟨x, _, rfl⟩ := hv; rfl

/-- The block b holds the cells c. -/
def Row (w : World) (b : Nat) (t : TypeId) (c : Array Value) : Prop := w.heap[b]? = some (.cells c t (0, 0))

theorem Row.lt {w : World} {b : Nat} {t : TypeId} {c : Array Value} (h : Row w b t c) : b < w.heap.size := (Array.getElem?_eq_some_iff.1 h).1
theorem Row.cell {w : World} {b : Nat} {t : TypeId} {c : Array Value} (h : Row w b t c) (k : Nat) : w.cell? ⟨b, k, none⟩ = c[k]? := cell_of_row w b k c t (0, 0) h
theorem Row.frozen {w : World} {b : Nat} {t : TypeId} {c : Array Value} (h : Row w b t c) (k : Nat) : w.frozen? ⟨b, k, none⟩ = false := by
  have h' : w.heap[b]? = some (.cells c t (0, 0)) := h
  simp [World.frozen?, h']
theorem Row.byte {w : World} {b : Nat} {t : TypeId} {l : List UInt8} (h : Row w b t (ag l)) {k : Nat} (hk : k < l.length) : w.cell? ⟨b, k, none⟩ = some (.int .u8 ((l.getD k 0).toNat : Int)) := by
  rw [h.cell, ag_get hk]
def ag32 (l : List UInt32) : Array Value := (l.map fun x => Value.int .u32 (x.toNat : Int)).toArray
theorem ag32_size (l : List UInt32) : (ag32 l).size = l.length := by simp [ag32]
theorem ag32_get {l : List UInt32} {k : Nat} (h : k < l.length) : (ag32 l)[k]? = some (.int .u32 ((l.getD k 0).toNat : Int)) := by
  simp [ag32, h]
theorem ag32_set (l : List UInt32) (k : Nat) (x : UInt32) : (ag32 l).setIfInBounds k (.int .u32 (x.toNat : Int)) = ag32 (l.set k x) := by
  simp only [ag32, List.setIfInBounds_toArray, List.map_set]
theorem Row.word {w : World} {b : Nat} {t : TypeId} {l : List UInt32} (h : Row w b t (ag32 l)) {k : Nat} (hk : k < l.length) : w.cell? ⟨b, k, none⟩ = some (.int .u32 ((l.getD k 0).toNat : Int)) := by
  rw [h.cell, ag32_get hk]
theorem Row.drew {w : World} {b : Nat} {t : TypeId} {c : Array Value} (h : Row w b t c) : Row w.drew b t c := h
theorem Row.drewN {w : World} {b : Nat} {t : TypeId} {c : Array Value} (h : Row w b t c) (n : Nat) : Row (w.drewN n) b t c := h
theorem Row.alloc {w : World} {b : Nat} {t : TypeId} {c : Array Value} (h : Row w b t c) (o : Obj) : Row (w.alloc o) b t c := by
  have := h.lt
  show (w.alloc o).heap[b]? = _
  rw [Below.heap_alloc _ _ _ this]; exact h
theorem Row.new (w : World) (t : TypeId) (c : Array Value) : Row (w.alloc (.cells c t)) w.heap.size t c := heap_alloc_last w _
theorem Row.made (w : World) (t : TypeId) (c c' : Array Value) (N : Nat) (h : c = c') (hN : N = w.heap.size) : Row (w.alloc (.cells c t)) N t c' := by subst h hN; exact Row.new w t c
theorem Row.setCell {w : World} {b : Nat} {t : TypeId} {c : Array Value} (h : Row w b t c) (k : Nat) (v : Value) : Row (w.setCell ⟨b, k, none⟩ v) b t (c.setIfInBounds k v) := by
  have h' : w.heap[b]? = some (.cells c t (0, 0)) := h
  unfold Row World.setCell
  rw [Array.getElem?_modify]
  simp [h']
theorem Row.setByte {w : World} {b : Nat} {t : TypeId} {l : List UInt8} (h : Row w b t (ag l)) (k : Nat) (x : UInt8) : Row (w.setCell ⟨b, k, none⟩ (.int .u8 (x.toNat : Int))) b t (ag (l.set k x)) := by
  rw [← ag_set]; exact h.setCell k _
theorem Row.setWord {w : World} {b : Nat} {t : TypeId} {l : List UInt32} (h : Row w b t (ag32 l)) (k : Nat) (x : UInt32) : Row (w.setCell ⟨b, k, none⟩ (.int .u32 (x.toNat : Int))) b t (ag32 (l.set k x)) := by
  rw [← ag32_set]; exact h.setCell k _
theorem Row.setOther {w : World} {b : Nat} {t : TypeId} {c : Array Value} (h : Row w b t c) (a : Addr) (v : Value) (hb : b ≠ a.block) : Row (w.setCell a v) b t c := by
  show (w.setCell a v).heap[b]? = _
  rw [Below.heap_setCell _ _ _ _ hb]; exact h
theorem Row.setRow {w : World} {b : Nat} {t : TypeId} {c : Array Value} (h : Row w b t c) (c' : Array Value) : Row (w.setRow b c') b t c' := setRow_heap w b c c' t (0, 0) h
theorem Row.setRowOther {w : World} {b : Nat} {t : TypeId} {c : Array Value} (h : Row w b t c) (g : Nat) (c' : Array Value) (hb : b ≠ g) : Row (w.setRow g c') b t c := by
  show (w.setRow g c').heap[b]? = _
  rw [setRow_other _ _ _ _ hb]; exact h
theorem Row.below {N : Nat} {w w' : World} {b : Nat} {t : TypeId} {c : Array Value} (h : Row w b t c) (hb : Below N w w') (hn : b < N) : Row w' b t c := by
  show w'.heap[b]? = _
  rw [hb.block b hn]; exact h
theorem Below.drewN {N : Nat} {w w' : World} (h : Below N w w') (n : Nat) : Below N w (w'.drewN n) := ⟨h.os, h.tape, h.output, h.size, h.block⟩

/-- The block b has n cells, whatever they hold. -/
def Room (w : World) (b : Nat) (t : TypeId) (n : Nat) : Prop := ∃ c, Row w b t c ∧ c.size = n
theorem Room.drewN {w : World} {b : Nat} {t : TypeId} {n : Nat} (h : Room w b t n) (k : Nat) : Room (w.drewN k) b t n := h
theorem Room.drew {w : World} {b : Nat} {t : TypeId} {n : Nat} (h : Room w b t n) : Room w.drew b t n := h
theorem Room.alloc {w : World} {b : Nat} {t : TypeId} {n : Nat} (h : Room w b t n) (o : Obj) : Room (w.alloc o) b t n := let ⟨c, h, e⟩ := h; ⟨c, h.alloc o, e⟩
theorem Room.new (w : World) (t : TypeId) (c : Array Value) (n : Nat) (h : c.size = n) : Room (w.alloc (.cells c t)) w.heap.size t n := ⟨c, Row.new w t c, h⟩
theorem Room.made (w : World) (t : TypeId) (c : Array Value) (n N : Nat) (h : c.size = n) (hN : N = w.heap.size) : Room (w.alloc (.cells c t)) N t n := by subst hN; exact Room.new w t c n h
theorem Room.setOther {w : World} {b : Nat} {t : TypeId} {n : Nat} (h : Room w b t n) (a : Addr) (v : Value) (hb : b ≠ a.block) : Room (w.setCell a v) b t n := let ⟨c, h, e⟩ := h; ⟨c, h.setOther a v hb, e⟩
theorem Room.setRowOther {w : World} {b : Nat} {t : TypeId} {n : Nat} (h : Room w b t n) (g : Nat) (c' : Array Value) (hb : b ≠ g) : Room (w.setRow g c') b t n := let ⟨c, h, e⟩ := h; ⟨c, h.setRowOther g c' hb, e⟩
theorem Room.below {N : Nat} {w w' : World} {b : Nat} {t : TypeId} {n : Nat} (h : Room w b t n) (hb : Below N w w') (hn : b < N) : Room w' b t n := let ⟨c, h, e⟩ := h; ⟨c, h.below hb hn, e⟩
theorem Row.room {w : World} {b : Nat} {t : TypeId} {c : Array Value} (h : Row w b t c) {n : Nat} (e : c.size = n) : Room w b t n := ⟨c, h, e⟩

theorem xor_u8 (x y : UInt8) : bits .xor .u8 (x.toNat : Int) (y.toNat : Int) = (((x ^^^ y).toNat : Nat) : Int) := by
  rw [u8_xor_nat _ _ x.toNat_lt y.toNat_lt]; simp

theorem xor_u32 (x y : UInt32) : bits .xor .u32 (x.toNat : Int) (y.toNat : Int) = (((x ^^^ y).toNat : Nat) : Int) := by
  rw [u32_xor_nat _ _ x.toNat_lt y.toNat_lt]; simp

section
variable {P : Program} {ops : Array Oper} {rest : List Oper} {op : Oper} {a : Act} {w : World} {Q : Exit → Act → World → Prop}

theorem wp_load_row {K : Act → World → Prop} (ty : TypeId) (x : Operand) (ho : op.op = .load ty x) (b : Nat) (hx : a.eval x = .pointer (some ⟨b, 0, none⟩))
    (t : TypeId) (c : Array Value) (hr : Row w b t c) (d : TypeDesc) (hu : P.underlying ty = some d) (hd : (match d with | .struct _ | .array _ _ => true | _ => false) = true) (n : Nat) (hi : (P.info? ty).map (·.size) = some n) (hn : c.size = n)
    (h : K (a.put op.dst (.agg c)) w) : op.wp P a w K Q := by
  have hrun := run_loadVar_row (P := P) w b t ty c (0, 0) d hr hu hd (by rw [hn]; exact hi)
  unfold Oper.wp execOp
  simp only [ho, hx, Instr.loadAt, Instr.sureAddr, Sem.run_bind, Sem.run_pure, Result.andThen_ok, hrun]
  exact h

theorem wpList_load_row (hgd : op.guard = none) (ty : TypeId) (x : Operand) (ho : op.op = .load ty x) (b : Nat) (hx : a.eval x = .pointer (some ⟨b, 0, none⟩))
    (t : TypeId) (c : Array Value) (hr : Row w b t c) (d : TypeDesc) (hu : P.underlying ty = some d) (hd : (match d with | .struct _ | .array _ _ => true | _ => false) = true) (n : Nat) (hi : (P.info? ty).map (·.size) = some n) (hn : c.size = n)
    (h : wpList P ops Q rest (a.put op.dst (.agg c)) w) : wpList P ops Q (op :: rest) a w :=
  wpList_plain hgd fun _ hK => wp_load_row ty x ho b hx t c hr d hu hd n hi hn (hK _ _ h)

theorem wp_store_row {K : Act → World → Prop} (ty : TypeId) (x y : Operand) (ho : op.op = .store ty x y) (b : Nat) (hx : a.eval x = .pointer (some ⟨b, 0, none⟩))
    (c' : Array Value) (hy : a.eval y = .agg c') (t : TypeId) (n : Nat) (hr : Room w b t n) (hi : (P.info? ty).map (·.size) = some n) (hs : c'.size = n) (h1 : c'.all (·.oneCell') = true)
    (h : K (a.put op.dst undef) (w.setRow b c')) : op.wp P a w K Q := by
  obtain ⟨c, hr, e⟩ := hr
  have hrun := run_storeVar_row (P := P) w b t ty c c' hr (by rw [hs]; exact hi) (by omega) h1
  unfold Oper.wp execOp
  simp only [ho, hx, hy, Instr.storeAt, Instr.sureAddr, Sem.run_bind, Sem.run_pure, Result.andThen_ok, hrun]
  exact h

theorem wpList_store_row (hgd : op.guard = none) (ty : TypeId) (x y : Operand) (ho : op.op = .store ty x y) (b : Nat) (hx : a.eval x = .pointer (some ⟨b, 0, none⟩))
    (c' : Array Value) (hy : a.eval y = .agg c') (t : TypeId) (n : Nat) (hr : Room w b t n) (hi : (P.info? ty).map (·.size) = some n) (hs : c'.size = n) (h1 : c'.all (·.oneCell') = true)
    (h : wpList P ops Q rest (a.put op.dst undef) (w.setRow b c')) : wpList P ops Q (op :: rest) a w :=
  wpList_plain hgd fun _ hK => wp_store_row ty x y ho b hx c' hy t n hr hi hs h1 (hK _ _ h)

theorem wpList_alloc_row (hgd : op.guard = none) (ty : TypeId) (ho : op.op = .alloc ty) (z : Array Value) (n : Nat) (hz : (P.info? ty).map (fun i => (i.zero, i.size)) = some (some (.agg z), n))
    (h : wpList P ops Q rest (a.put op.dst (.pointer (some ⟨w.heap.size, 0, none⟩))) (w.alloc (.cells z ty))) : wpList P ops Q (op :: rest) a w := by
  refine wpList_plain hgd fun K hK => ?_
  have hz' := (zero_of_info hz).1 w
  unfold Oper.wp execOp
  simp only [ho, Instr.alloc, Sem.run_bind, Sem.run_pure, hz', Result.andThen_ok, newVar, newRow, Value.cells, run_newObj_alloc]
  exact hK _ _ h

theorem run_index_arr (w : World) (xT e : TypeId) (n : Nat) (c : Array Value) (k : Nat) (v : Value) (ik ek : IntKind) (hu : P.underlying xT = some (.array n e)) (he : P.underlying e = some (.int ek))
    (hs : (P.info? e).map (·.size) = some 1) (hk : k < n) (hc : c[k]? = some v) : (Instr.index xT (.agg c) (.int ik (k : Int))).run P w = .ok v w := by
  cases hq : P.info? e with
  | none => simp [hq] at hs
  | some i =>
    have h1 : i.size = 1 := by simpa [hq] using hs
    simp [Instr.index, asIntOf, underlying, hu, part, isAgg, he, sizeOf, typeInfo, hq, h1, hk, hc]

theorem Room.setRow {w : World} {b : Nat} {t : TypeId} {n : Nat} (h : Room w b t n) (c' : Array Value) : Row (w.setRow b c') b t c' := let ⟨_, h, _⟩ := h; h.setRow c'

theorem results_row {fn : Func} {p : Tmp} {ty : TypeId} (hf : fn.results = #[.cell p ty]) (tmps : Array Value) (b : Nat) (hx : tmps.getD p undef = .pointer (some ⟨b, 0, none⟩))
    (t : TypeId) (c : Array Value) (hr : Row w b t c) (d : TypeDesc) (hu : P.underlying ty = some d) (hd : (match d with | .struct _ | .array _ _ => true | _ => false) = true) (n : Nat) (hi : (P.info? ty).map (·.size) = some n) (hn : c.size = n) :
    (results fn tmps).run P w = .ok (.agg c) w := by
  have hrun := run_loadVar_row (P := P) w b t ty c (0, 0) d hr hu hd (by rw [hn]; exact hi)
  have hx' : tmps[p]?.getD undef = .pointer (some ⟨b, 0, none⟩) := by simpa using hx
  simp only [results, hf]
  simp [hx', asAddr, hrun]
end
end Go.Proofs.Ytpgljhgfoihnjaa
namespace Go.Proofs.Ytpgljhgfoihnjaa
open Go.RowKit Go.BigFrame

/-- A fact that the walk does not look through. -/
structure Box' (p : Prop) : Prop where
  out : p

/-- The slice v has the bytes l, in a block of S. -/
def Bts (S : Nat → Prop) (w : World) (v : Value) (l : List UInt8) : Prop :=
  ∃ a c, v = .slice a l.length c ∧ l.length ≤ c ∧ (l = [] ∨ ∃ b o, a = some ⟨b, o, none⟩ ∧ S b ∧ w.rangeAt b o (l.map B))
theorem Bts.keep {S S' : Nat → Prop} {w w' : World} {v : Value} {l : List UInt8} (h : Bts S w v l) (hk : ∀ b, S b → S' b ∧ w'.heap[b]? = w.heap[b]?) : Bts S' w' v l := by
  obtain ⟨a, c, h1, h2, h3⟩ := h
  refine ⟨a, c, h1, h2, ?_⟩
  rcases h3 with h3 | ⟨b, o, h4, h5, h6⟩
  · exact .inl h3
  · refine .inr ⟨b, o, h4, (hk b h5).1, fun j u hu => ?_⟩
    have := h6 j u hu
    simp only [World.cell?, (hk b h5).2] at *
    exact this
theorem Bts.below {S : Nat → Prop} {N : Nat} {w w' : World} {v : Value} {l : List UInt8} (h : Bts S w v l) (hb : Below N w w') (hS : ∀ b, S b → b < N) : Bts S w' v l :=
  h.keep fun b hs => ⟨hs, hb.block b (hS b hs)⟩

theorem range_below {N : Nat} {w w' : World} {b o : Nat} {cs : List Value} (h : w.rangeAt b o cs) (hb : Below N w w') (hn : b < N) : w'.rangeAt b o cs := fun j u hu => by
  have := h j u hu
  simp only [World.cell?, hb.block b hn] at *
  exact this
theorem range_lt {w : World} {b o : Nat} {l : List UInt8} (h : w.rangeAt b o (l.map B)) (hl : 0 < l.length) : b < w.heap.size := by
  have := h 0 (B l[0]) (by simp [hl])
  exact World.block_lt_of_cell? w _ this
theorem conv_bts {S : Nat → Prop} {w : World} {v : Value} {l : List UInt8} (h : Bts S w v l) : (convert 23 9 v).run Try.prog w = .ok (.string ⟨l.toArray⟩) w := by
  obtain ⟨a, c, rfl, _, h3⟩ := h
  rcases h3 with rfl | ⟨b, o, rfl, _, hr⟩
  · cases a with
    | none => exact run_convert_bytes_nil w 23 5 Try.underlying23 Try.underlying5 _ c 9 Try.underlying9
    | some a => exact run_convert_bytes_back w 23 9 5 a c [] Try.underlying23 Try.underlying5 Try.underlying9 (fun j hj => absurd hj (by simp))
  · refine run_convert_bytes_back w 23 9 5 ⟨b, o, none⟩ c l Try.underlying23 Try.underlying5 Try.underlying9 (fun j hj => ?_)
    rw [Addr.add_mid]
    exact hr j _ (by simp [hj]; rfl)
theorem convert_op {P : Program} {op : Oper} {a : Act} (s t : TypeId) (x : Operand) (ho : op.op = .convert s t x) (v : Value) (w : World) (h : (convert s t (a.eval x)).run P w = .ok v w) : (execOp a.eval op).run P w = .ok (.value v) w := by
  unfold execOp
  simp only [ho, Sem.run_bind, h, Result.andThen_ok, Sem.run_pure]
theorem bytes_eq (a b : List UInt8) : ((⟨a.toArray⟩ : ByteArray).toList == (⟨b.toArray⟩ : ByteArray).toList) = decide (a = b) := by
  rw [ByteArray.toList_mk, ByteArray.toList_mk, Bool.eq_iff_iff, beq_iff_eq, decide_eq_true_eq]

set_option maxRecDepth 100000 in
set_option maxHeartbeats 1000000 in
theorem refSame_any (S1 S2 : Nat → Prop) (va vb : Value) (la lb : List UInt8) (w : World) (ha : Bts S1 w va la) (hb : Bts S2 w vb lb) :
    Calls Try.prog 12 #[va, vb] w fun e w' => e = .returned (.bool (decide (la = lb))) ∧ w' = w := by
  have h1 := conv_bts ha
  have h2 := conv_bts hb
  have h3 := bytes_eq la lb
  generalize decide (la = lb) = r at *
  obtain ⟨s1, hs1⟩ : ∃ s1, (⟨la.toArray⟩ : ByteArray) = s1 := ⟨_, rfl⟩
  obtain ⟨s2, hs2⟩ : ∃ s2, (⟨lb.toArray⟩ : ByteArray) = s2 := ⟨_, rfl⟩
  rw [hs1] at h1 h3
  rw [hs2] at h2 h3
  clear hs1 hs2 ha hb
  go_enter Try.func12, Try.ntmps12
  go_wp2_with (first
    | (refine wpList_val rfl _ (convert_op 23 9 (.tmp 5) rfl _ _ h1) ?_)
    | (refine wpList_val rfl _ (convert_op 23 9 (.tmp 7) rfl _ _ h2) ?_)
    | fail)
  go_ret
  exact ⟨by rw [← h3]; rfl, rfl⟩

theorem results_row_slot {P : Program} {w : World} {fn : Func} {p q : Tmp} {ty : TypeId} (hf : fn.results = #[.cell p ty, .tmp q]) (tmps : Array Value) (b : Nat) (hx : tmps.getD p undef = .pointer (some ⟨b, 0, none⟩)) (v : Value) (hq : tmps.getD q undef = v)
    (t : TypeId) (c : Array Value) (hr : Row w b t c) (d : TypeDesc) (hu : P.underlying ty = some d) (hd : (match d with | .struct _ | .array _ _ => true | _ => false) = true) (n : Nat) (hi : (P.info? ty).map (·.size) = some n) (hn : c.size = n) :
    (results fn tmps).run P w = .ok (.tuple #[.agg c, v]) w := by
  have hrun := run_loadVar_row (P := P) w b t ty c (0, 0) d hr hu hd (by rw [hn]; exact hi)
  have hx' : tmps[p]?.getD undef = .pointer (some ⟨b, 0, none⟩) := by simpa using hx
  have hq' : tmps[q]?.getD undef = v := by simpa using hq
  simp only [results, hf]
  simp [hx', hq', asAddr, hrun]
theorem results_slot_row {P : Program} {w : World} {fn : Func} {p q : Tmp} {ty : TypeId} (hf : fn.results = #[.tmp q, .cell p ty]) (tmps : Array Value) (b : Nat) (hx : tmps.getD p undef = .pointer (some ⟨b, 0, none⟩)) (v : Value) (hq : tmps.getD q undef = v)
    (t : TypeId) (c : Array Value) (hr : Row w b t c) (d : TypeDesc) (hu : P.underlying ty = some d) (hd : (match d with | .struct _ | .array _ _ => true | _ => false) = true) (n : Nat) (hi : (P.info? ty).map (·.size) = some n) (hn : c.size = n) :
    (results fn tmps).run P w = .ok (.tuple #[v, .agg c]) w := by
  have hrun := run_loadVar_row (P := P) w b t ty c (0, 0) d hr hu hd (by rw [hn]; exact hi)
  have hx' : tmps[p]?.getD undef = .pointer (some ⟨b, 0, none⟩) := by simpa using hx
  have hq' : tmps[q]?.getD undef = v := by simpa using hq
  simp only [results, hf]
  simp [hx', hq', asAddr, hrun]

theorem bcell {W w1 : World} {N : Nat} (hb : Below N W w1) : (∀ b o, b < N → w1.cell? ⟨b, o, none⟩ = W.cell? ⟨b, o, none⟩) ∧ (∀ b o, b < N → w1.frozen? ⟨b, o, none⟩ = W.frozen? ⟨b, o, none⟩) :=
  ⟨fun b o h => hb.cell (p := ⟨b, o, none⟩) h, fun b o h => hb.frozen (p := ⟨b, o, none⟩) h⟩
/-- A row of bytes of one's own, that grows. -/
def OwnB (N : Nat) (w : World) (v : Value) (d : List UInt8) : Prop := w.ownsRow N 5 1 v d.length (d.map B)
theorem OwnB.nil (N : Nat) (w : World) : OwnB N w (.slice none 0 0) [] := ⟨rfl, .inl ⟨rfl, rfl⟩⟩
theorem OwnB.same {N : Nat} {w w' : World} {v : Value} {d : List UInt8} (h : OwnB N w v d) (hb : ∀ g, v.ownBlock = some g → w'.heap[g]? = w.heap[g]?) : OwnB N w' v d := by
  refine ⟨h.1, ?_⟩
  rcases h.2 with h2 | ⟨g, cap, cur, e1, e2, e3, e4⟩
  · exact .inl h2
  · exact .inr ⟨g, cap, cur, e1, e2, by rw [hb g (by rw [e1]; rfl)]; exact e3, e4⟩
theorem OwnB.lt {N : Nat} {w : World} {v : Value} {d : List UInt8} (h : OwnB N w v d) : ∀ g, v.ownBlock = some g → N ≤ g ∧ ∃ cur, Row w g 5 cur := by
  intro k hk
  rcases h.2 with ⟨e, _⟩ | ⟨g, cap, cur, e1, e2, e3, _⟩
  · rw [e] at hk; simp [Value.ownBlock] at hk
  · rw [e1] at hk; simp [Value.ownBlock] at hk; subst hk; exact ⟨e2, cur, e3⟩
theorem OwnB.slice {N : Nat} {w : World} {v : Value} {d : List UInt8} (h : OwnB N w v d) : ∃ a c, v = .slice a d.length c := by
  rcases h.2 with ⟨e, e0⟩ | ⟨g, cap, cur, e1, _⟩
  · exact ⟨none, 0, by rw [e, e0]⟩
  · exact ⟨_, _, e1⟩

theorem one_By (l : List UInt8) : ∀ u ∈ l.map B, u.oneCell' = true := by
  intro u hu
  obtain ⟨x, _, rfl⟩ := List.mem_map.1 hu
  rfl
set_option maxRecDepth 100000 in
theorem Try.info5a : ∃ i, Try.prog.info? 5 = some i ∧ i.zero = some (.int .u8 0) ∧ i.size = 1 ∧ i.bytes = 1 := ⟨_, rfl, rfl, rfl, rfl⟩
theorem wpList_append_byte {ops : Array Oper} {rest : List Oper} {o : Oper} {a : Act} {w : World} {Q : Exit → Act → World → Prop} (hgd : o.guard = none) (s x : Operand)
    (ho : o.op = .call { callee := .builtin .append, args := #[s, x], argTypes := #[23, 23] }) (N : Nat) (hN : N ≤ w.heap.size)
    (v : Value) (d : List UInt8) (hs : a.eval s = v) (hown : OwnB N w v d) (ad : Addr) (c : Nat) (x0 : UInt8) (hx : a.eval x = .slice (some ad) 1 c)
    (hc : w.cell? ad = some (B x0)) (hmax : d.length + 1 ≤ 1000000)
    (h : ∀ v' w', OwnB N w' v' (d ++ [x0]) → w.grownBy w' v.ownBlock → wpList Try.prog ops Q rest (a.put o.dst v') w') : wpList Try.prog ops Q (o :: rest) a w := by
  obtain ⟨i, h1, h2, h3, h4⟩ := Try.info5a
  obtain ⟨v', w', hr, g2, g3, _⟩ := run_append_own (P := Try.prog) w N 23 o.type 5 i _ 1 1 Try.underlying23 h1 h2 h3 h4 rfl (by decide) v d.length (d.map B) hown ad 1 c ([x0].map B) rfl (fun j y hy => by
    cases j with
    | zero => simp at hy; subst hy; exact hc
    | succ j => simp at hy) (one_By [x0]) (by unfold maxLen; omega) (by omega) hN
  have g2' : OwnB N w' v' (d ++ [x0]) := by unfold OwnB; rw [List.length_append, List.map_append]; exact g2
  refine wpList_plain hgd fun K hK => ?_
  unfold Oper.wp execOp
  simp only [ho, resolve, invoke, builtin, Sem.run_bind, Sem.run_pure, Result.andThen_ok, List.map_toArray, List.map_cons, List.map_nil, hs, hx, hr]
  exact hK _ _ (h v' w' g2' g3)

theorem OwnB.seg {N : Nat} {w : World} {v : Value} {d : List UInt8} (h : OwnB N w v d) (hd : 0 < d.length) : ∃ g cap, v = .slice (some ⟨g, 0, none⟩) d.length cap ∧ d.length ≤ cap ∧ ∀ k, k < d.length → w.cell? ⟨g, k, none⟩ = some (B (d.getD k 0)) := by
  rcases h.2 with ⟨e, e0⟩ | ⟨g, cap, cur, e1, e2, e3, e4, e5, e6, e7⟩
  · omega
  · refine ⟨g, cap, e1, e4, fun k hk => ?_⟩
    have r : Row w g 5 cur := e3
    have hf : (d.map B)[k]? = some (B (d.getD k 0)) := by simp [hk]
    rw [← e7, List.getElem?_take_of_lt (by omega)] at hf
    rw [r.cell]
    simpa using hf
/-- The slice of a row of one's own has its bytes. -/
theorem Row.bts {w : World} {g : Nat} {l : List UInt8} {n : Nat} (h : Row w g 5 (ag l)) (hn : l.length = n) : Bts (· < w.heap.size) w (.slice (some ⟨g, 0, none⟩) n n) l :=
  ⟨_, _, by rw [hn], by omega, .inr ⟨g, 0, rfl, h.lt, fun j u hu => by rw [Nat.zero_add, h.cell]; simpa [ag] using hu⟩⟩

end Go.Proofs.Ytpgljhgfoihnjaa
