/- Laws on whole rows of bytes: what a world holds in a block, and the load and the store of a whole array. -/
import Derived.WalkKit
import Derived.WalkSpells
import Derived.WalkLawsBesides
import Derived.Deep.WholeRow
import Derived.Laws.CopyOwn
import Derived.Deep.Draws
import Derived.Orders
import Derived.Deep.Quiet
import Derived.Below
import Derived.Test.YthcokaffbgbanaaDoorRows
import Derived.BigRegion
import Derived.StillTail
import Derived.BigQuiet
import Derived.Deep.MidRow
import Derived.KernelRfl
namespace Go.Proofs.YthcokaffbgbanaaDoor
open Go.RowKit

def B (x : UInt8) : Value := .int .u8 (x.toNat : Int)
def ag (l : List UInt8) : Array Value := (l.map B).toArray

theorem ag_size (l : List UInt8) : (ag l).size = l.length := by simp [ag]
theorem ag_get {l : List UInt8} {k : Nat} (h : k < l.length) : (ag l)[k]? = some (.int .u8 ((l.getD k 0).toNat : Int)) := by
  simp [ag, B, h]
theorem ag_set (l : List UInt8) (k : Nat) (x : UInt8) : (ag l).setIfInBounds k (.int .u8 (x.toNat : Int)) = ag (l.set k x) := by
  simp only [ag, List.setIfInBounds_toArray, List.map_set]; rfl
theorem ag_one (l : List UInt8) : (ag l).all (·.oneCell') = true := by
  rw [Array.all_eq_true_iff_forall_mem]; intro v hv
  simp only [ag, List.mem_toArray, List.mem_map] at hv
  obtain ⟨x, _, rfl⟩ := hv; rfl

/-- The block b holds the cells c. -/
def Row (w : World) (b : Nat) (t : TypeId) (c : Array Value) : Prop := w.heap[b]? = some (.cells c t (0, 0))

theorem Row.lt {w : World} {b : Nat} {t : TypeId} {c : Array Value} (h : Row w b t c) : b < w.heap.size := (Array.getElem?_eq_some_iff.1 h).1
theorem Row.cell {w : World} {b : Nat} {t : TypeId} {c : Array Value} (h : Row w b t c) (k : Nat) : w.cell? ⟨b, k, none⟩ = c[k]? := cell_of_row w b k c t (0, 0) h
theorem Row.frozen {w : World} {b : Nat} {t : TypeId} {c : Array Value} (h : Row w b t c) (k : Nat) : w.frozen? ⟨b, k, none⟩ = false := by
  have h' : w.heap[b]? = some (.cells c t (0, 0)) := h
  simp [World.frozen?, h']
theorem Row.byte {w : World} {b : Nat} {t : TypeId} {l : List UInt8} (h : Row w b t (ag l)) {k : Nat} (hk : k < l.length) : w.cell? ⟨b, k, none⟩ = some (.int .u8 ((l.getD k 0).toNat : Int)) := by
  rw [h.cell, ag_get hk]
def ag32 (l : List UInt32) : Array Value := (l.map fun x => Value.int .u32 (x.toNat : Int)).toArray
theorem ag32_size (l : List UInt32) : (ag32 l).size = l.length := by simp [ag32]
theorem ag32_get {l : List UInt32} {k : Nat} (h : k < l.length) : (ag32 l)[k]? = some (.int .u32 ((l.getD k 0).toNat : Int)) := by
  simp [ag32, h]
theorem ag32_set (l : List UInt32) (k : Nat) (x : UInt32) : (ag32 l).setIfInBounds k (.int .u32 (x.toNat : Int)) = ag32 (l.set k x) := by
  simp only [ag32, List.setIfInBounds_toArray, List.map_set]
theorem Row.word {w : World} {b : Nat} {t : TypeId} {l : List UInt32} (h : Row w b t (ag32 l)) {k : Nat} (hk : k < l.length) : w.cell? ⟨b, k, none⟩ = some (.int .u32 ((l.getD k 0).toNat : Int)) := by
  rw [h.cell, ag32_get hk]
theorem Row.drew {w : World} {b : Nat} {t : TypeId} {c : Array Value} (h : Row w b t c) : Row w.drew b t c := h
theorem Row.drewN {w : World} {b : Nat} {t : TypeId} {c : Array Value} (h : Row w b t c) (n : Nat) : Row (w.drewN n) b t c := h
theorem Row.alloc {w : World} {b : Nat} {t : TypeId} {c : Array Value} (h : Row w b t c) (o : Obj) : Row (w.alloc o) b t c := by
  have := h.lt
  show (w.alloc o).heap[b]? = _
  rw [Below.heap_alloc _ _ _ this]; exact h
theorem Row.new (w : World) (t : TypeId) (c : Array Value) : Row (w.alloc (.cells c t)) w.heap.size t c := heap_alloc_last w _
theorem Row.made (w : World) (t : TypeId) (c c' : Array Value) (N : Nat) (h : c = c') (hN : N = w.heap.size) : Row (w.alloc (.cells c t)) N t c' := by subst h hN; exact Row.new w t c
theorem Row.setCell {w : World} {b : Nat} {t : TypeId} {c : Array Value} (h : Row w b t c) (k : Nat) (v : Value) : Row (w.setCell ⟨b, k, none⟩ v) b t (c.setIfInBounds k v) := by
  have h' : w.heap[b]? = some (.cells c t (0, 0)) := h
  unfold Row World.setCell
  rw [Array.getElem?_modify]
  simp [h']
theorem Row.setByte {w : World} {b : Nat} {t : TypeId} {l : List UInt8} (h : Row w b t (ag l)) (k : Nat) (x : UInt8) : Row (w.setCell ⟨b, k, none⟩ (.int .u8 (x.toNat : Int))) b t (ag (l.set k x)) := by
  rw [← ag_set]; exact h.setCell k _
theorem Row.setWord {w : World} {b : Nat} {t : TypeId} {l : List UInt32} (h : Row w b t (ag32 l)) (k : Nat) (x : UInt32) : Row (w.setCell ⟨b, k, none⟩ (.int .u32 (x.toNat : Int))) b t (ag32 (l.set k x)) := by
  rw [← ag32_set]; exact h.setCell k _
theorem Row.setOther {w : World} {b : Nat} {t : TypeId} {c : Array Value} (h : Row w b t c) (a : Addr) (v : Value) (hb : b ≠ a.block) : Row (w.setCell a v) b t c := by
  show (w.setCell a v).heap[b]? = _
  rw [Below.heap_setCell _ _ _ _ hb]; exact h
theorem Row.setRow {w : World} {b : Nat} {t : TypeId} {c : Array Value} (h : Row w b t c) (c' : Array Value) : Row (w.setRow b c') b t c' := setRow_heap w b c c' t (0, 0) h
theorem Row.setRowOther {w : World} {b : Nat} {t : TypeId} {c : Array Value} (h : Row w b t c) (g : Nat) (c' : Array Value) (hb : b ≠ g) : Row (w.setRow g c') b t c := by
  show (w.setRow g c').heap[b]? = _
  rw [setRow_other _ _ _ _ hb]; exact h
theorem Row.below {N : Nat} {w w' : World} {b : Nat} {t : TypeId} {c : Array Value} (h : Row w b t c) (hb : Below N w w') (hn : b < N) : Row w' b t c := by
  show w'.heap[b]? = _
  rw [hb.block b hn]; exact h
theorem Below.drewN {N : Nat} {w w' : World} (h : Below N w w') (n : Nat) : Below N w (w'.drewN n) := ⟨h.os, h.tape, h.output, h.size, h.block⟩

/-- The block b has n cells, whatever they hold. -/
def Room (w : World) (b : Nat) (t : TypeId) (n : Nat) : Prop := ∃ c, Row w b t c ∧ c.size = n
theorem Room.drewN {w : World} {b : Nat} {t : TypeId} {n : Nat} (h : Room w b t n) (k : Nat) : Room (w.drewN k) b t n := h
theorem Room.drew {w : World} {b : Nat} {t : TypeId} {n : Nat} (h : Room w b t n) : Room w.drew b t n := h
theorem Room.alloc {w : World} {b : Nat} {t : TypeId} {n : Nat} (h : Room w b t n) (o : Obj) : Room (w.alloc o) b t n := let ⟨c, h, e⟩ := h; ⟨c, h.alloc o, e⟩
theorem Room.new (w : World) (t : TypeId) (c : Array Value) (n : Nat) (h : c.size = n) : Room (w.alloc (.cells c t)) w.heap.size t n := ⟨c, Row.new w t c, h⟩
theorem Room.made (w : World) (t : TypeId) (c : Array Value) (n N : Nat) (h : c.size = n) (hN : N = w.heap.size) : Room (w.alloc (.cells c t)) N t n := by subst hN; exact Room.new w t c n h
theorem Room.setOther {w : World} {b : Nat} {t : TypeId} {n : Nat} (h : Room w b t n) (a : Addr) (v : Value) (hb : b ≠ a.block) : Room (w.setCell a v) b t n := let ⟨c, h, e⟩ := h; ⟨c, h.setOther a v hb, e⟩
theorem Room.setRowOther {w : World} {b : Nat} {t : TypeId} {n : Nat} (h : Room w b t n) (g : Nat) (c' : Array Value) (hb : b ≠ g) : Room (w.setRow g c') b t n := let ⟨c, h, e⟩ := h; ⟨c, h.setRowOther g c' hb, e⟩
theorem Room.below {N : Nat} {w w' : World} {b : Nat} {t : TypeId} {n : Nat} (h : Room w b t n) (hb : Below N w w') (hn : b < N) : Room w' b t n := let ⟨c, h, e⟩ := h; ⟨c, h.below hb hn, e⟩
theorem Row.room {w : World} {b : Nat} {t : TypeId} {c : Array Value} (h : Row w b t c) {n : Nat} (e : c.size = n) : Room w b t n := ⟨c, h, e⟩

theorem xor_u8 (x y : UInt8) : bits .xor .u8 (x.toNat : Int) (y.toNat : Int) = (((x ^^^ y).toNat : Nat) : Int) := by
  rw [u8_xor_nat _ _ x.toNat_lt y.toNat_lt]; simp

theorem xor_u32 (x y : UInt32) : bits .xor .u32 (x.toNat : Int) (y.toNat : Int) = (((x ^^^ y).toNat : Nat) : Int) := by
  rw [u32_xor_nat _ _ x.toNat_lt y.toNat_lt]; simp

section
variable {P : Program} {ops : Array Oper} {rest : List Oper} {op : Oper} {a : Act} {w : World} {Q : Exit → Act → World → Prop}

theorem wp_load_row {K : Act → World → Prop} (ty : TypeId) (x : Operand) (ho : op.op = .load ty x) (b : Nat) (hx : a.eval x = .pointer (some ⟨b, 0, none⟩))
    (t : TypeId) (c : Array Value) (hr : Row w b t c) (d : TypeDesc) (hu : P.underlying ty = some d) (hd : (match d with | .struct _ | .array _ _ => true | _ => false) = true) (n : Nat) (hi : (P.info? ty).map (·.size) = some n) (hn : c.size = n)
    (h : K (a.put op.dst (.agg c)) w) : op.wp P a w K Q := by
  have hrun := run_loadVar_row (P := P) w b t ty c (0, 0) d hr hu hd (by rw [hn]; exact hi)
  unfold Oper.wp execOp
  simp only [ho, hx, Instr.loadAt, Instr.sureAddr, Sem.run_bind, Sem.run_pure, Result.andThen_ok, hrun]
  exact h

theorem wpList_load_row (hgd : op.guard = none) (ty : TypeId) (x : Operand) (ho : op.op = .load ty x) (b : Nat) (hx : a.eval x = .pointer (some ⟨b, 0, none⟩))
    (t : TypeId) (c : Array Value) (hr : Row w b t c) (d : TypeDesc) (hu : P.underlying ty = some d) (hd : (match d with | .struct _ | .array _ _ => true | _ => false) = true) (n : Nat) (hi : (P.info? ty).map (·.size) = some n) (hn : c.size = n)
    (h : wpList P ops Q rest (a.put op.dst (.agg c)) w) : wpList P ops Q (op :: rest) a w :=
  wpList_plain hgd fun _ hK => wp_load_row ty x ho b hx t c hr d hu hd n hi hn (hK _ _ h)

theorem wp_store_row {K : Act → World → Prop} (ty : TypeId) (x y : Operand) (ho : op.op = .store ty x y) (b : Nat) (hx : a.eval x = .pointer (some ⟨b, 0, none⟩))
    (c' : Array Value) (hy : a.eval y = .agg c') (t : TypeId) (n : Nat) (hr : Room w b t n) (hi : (P.info? ty).map (·.size) = some n) (hs : c'.size = n) (h1 : c'.all (·.oneCell') = true)
    (h : K (a.put op.dst undef) (w.setRow b c')) : op.wp P a w K Q := by
  obtain ⟨c, hr, e⟩ := hr
  have hrun := run_storeVar_row (P := P) w b t ty c c' hr (by rw [hs]; exact hi) (by omega) h1
  unfold Oper.wp execOp
  simp only [ho, hx, hy, Instr.storeAt, Instr.sureAddr, Sem.run_bind, Sem.run_pure, Result.andThen_ok, hrun]
  exact h

theorem wpList_store_row (hgd : op.guard = none) (ty : TypeId) (x y : Operand) (ho : op.op = .store ty x y) (b : Nat) (hx : a.eval x = .pointer (some ⟨b, 0, none⟩))
    (c' : Array Value) (hy : a.eval y = .agg c') (t : TypeId) (n : Nat) (hr : Room w b t n) (hi : (P.info? ty).map (·.size) = some n) (hs : c'.size = n) (h1 : c'.all (·.oneCell') = true)
    (h : wpList P ops Q rest (a.put op.dst undef) (w.setRow b c')) : wpList P ops Q (op :: rest) a w :=
  wpList_plain hgd fun _ hK => wp_store_row ty x y ho b hx c' hy t n hr hi hs h1 (hK _ _ h)

theorem wpList_alloc_row (hgd : op.guard = none) (ty : TypeId) (ho : op.op = .alloc ty) (z : Array Value) (n : Nat) (hz : (P.info? ty).map (fun i => (i.zero, i.size)) = some (some (.agg z), n))
    (h : wpList P ops Q rest (a.put op.dst (.pointer (some ⟨w.heap.size, 0, none⟩))) (w.alloc (.cells z ty))) : wpList P ops Q (op :: rest) a w := by
  refine wpList_plain hgd fun K hK => ?_
  have hz' := (zero_of_info hz).1 w
  unfold Oper.wp execOp
  simp only [ho, Instr.alloc, Sem.run_bind, Sem.run_pure, hz', Result.andThen_ok, newVar, newRow, Value.cells, run_newObj_alloc]
  exact hK _ _ h

theorem run_index_arr (w : World) (xT e : TypeId) (n : Nat) (c : Array Value) (k : Nat) (v : Value) (ik ek : IntKind) (hu : P.underlying xT = some (.array n e)) (he : P.underlying e = some (.int ek))
    (hs : (P.info? e).map (·.size) = some 1) (hk : k < n) (hc : c[k]? = some v) : (Instr.index xT (.agg c) (.int ik (k : Int))).run P w = .ok v w := by
  cases hq : P.info? e with
  | none => simp [hq] at hs
  | some i =>
    have h1 : i.size = 1 := by simpa [hq] using hs
    simp [Instr.index, asIntOf, underlying, hu, part, isAgg, he, sizeOf, typeInfo, hq, h1, hk, hc]

theorem Room.setRow {w : World} {b : Nat} {t : TypeId} {n : Nat} (h : Room w b t n) (c' : Array Value) : Row (w.setRow b c') b t c' := let ⟨_, h, _⟩ := h; h.setRow c'

theorem results_row {fn : Func} {p : Tmp} {ty : TypeId} (hf : fn.results = #[.cell p ty]) (tmps : Array Value) (b : Nat) (hx : tmps.getD p undef = .pointer (some ⟨b, 0, none⟩))
    (t : TypeId) (c : Array Value) (hr : Row w b t c) (d : TypeDesc) (hu : P.underlying ty = some d) (hd : (match d with | .struct _ | .array _ _ => true | _ => false) = true) (n : Nat) (hi : (P.info? ty).map (·.size) = some n) (hn : c.size = n) :
    (results fn tmps).run P w = .ok (.agg c) w := by
  have hrun := run_loadVar_row (P := P) w b t ty c (0, 0) d hr hu hd (by rw [hn]; exact hi)
  have hx' : tmps[p]?.getD undef = .pointer (some ⟨b, 0, none⟩) := by simpa using hx
  simp only [results, hf]
  simp [hx', asAddr, hrun]
end
end Go.Proofs.YthcokaffbgbanaaDoor

/- A region that draws its order, by an invariant: what holds whatever operations have been carried out so far. -/
namespace Go.Proofs.YthcokaffbgbanaaDoor
section
variable {P : Program} {ops : Array Oper} {Q : Exit → Act → World → Prop} {md : Region.Mode}

/-- How many operations are still to come. -/
def left (L : Array Bool) : Nat := L.toList.count false

theorem left_set (L : Array Bool) (i : Nat) (h : L.getD i true = false) : left (L.setIfInBounds i true) + 1 = left L := by
  unfold left
  obtain ⟨l⟩ := L
  have hi : i < l.length := by
    rcases Nat.lt_or_ge i l.length with h' | h'
    · exact h'
    · have hn : (l.toArray)[i]? = none := by simpa using h'
      rw [Array.getD_eq_getD_getElem?, hn] at h
      simp at h
  have hv : l[i] = false := by
    rw [Array.getD_eq_getD_getElem?] at h
    simpa [hi] using h
  have hpos : 0 < l.count false := List.count_pos_iff.2 (hv ▸ List.getElem_mem hi)
  simp only [List.setIfInBounds_toArray]
  rw [List.count_set hi]
  simp [hv]
  omega

theorem wpAny_inv (Inv : Array Bool → Act → World → Prop)
    (hstep : ∀ L a w i, Inv L a w → i ∈ Region.ready md ops L → wpOp P ops Q i (Inv (L.setIfInBounds i true)) a w)
    (hend : ∀ L a w, Inv L a w → Region.ready md ops L = [] → Q .normal a w) :
    ∀ (fuel : Nat) (L : Array Bool) (a : Act) (w : World), left L ≤ fuel → Inv L a w → wpAny P md ops Q fuel L a w := by
  intro fuel
  induction fuel with
  | zero =>
    intro L a w hf hI
    have hr : Region.ready md ops L = [] := by
      cases hr : Region.ready md ops L with
      | nil => rfl
      | cons i rs =>
        have hm : i ∈ Region.ready md ops L := by rw [hr]; exact List.mem_cons_self
        have := left_set L i (mem_ready.1 hm).1
        omega
    exact ⟨hr, hend L a w hI hr⟩
  | succ fuel ih =>
    intro L a w hf hI
    refine ⟨fun hr => hend L a w hI hr, fun i hi => ?_⟩
    refine wpOp_mono (fun a' w' h' => ih _ a' w' ?_ h') (hstep L a w i hI hi)
    have := left_set L i (mem_ready.1 hi).1
    omega

/-- THE LAW. -/
theorem wp_region_inv {id : Nat} {a : Act} {w : World} (hm : P.follows .mixedOrders = true) (Inv : Array Bool → Act → World → Prop)
    (h0 : Inv (Array.replicate ops.size false) a w.drew)
    (hstep : ∀ L a w i o, Inv L a w → L.getD i true = false → ops[i]? = some o → (∀ e ∈ o.after, Region.binds .any e = true → L.getD e.on false = true) → wpOp P ops Q i (Inv (L.setIfInBounds i true)) a w)
    (hend : ∀ L a w, Inv L a w → Region.ready .any ops L = [] → Q .normal a w) : (Code.region id ops true).wp P Q a w := by
  refine wp_region_any hm (wpAny_inv Inv (fun L a w i hI hi => ?_) hend ops.size _ _ _ ?_ h0)
  · obtain ⟨h1, o, h2, h3⟩ := mem_ready.1 hi
    exact hstep L a w i o hI h1 h2 h3
  · unfold left
    rw [Array.toList_replicate]
    simp

theorem getD_set (L : Array Bool) (i k : Nat) (h : (L.setIfInBounds i true).getD k false = true) : k = i ∨ L.getD k false = true := by
  by_cases e : k = i
  · exact .inl e
  · right
    rw [Array.getD_eq_getD_getElem?, Array.getElem?_setIfInBounds_ne (fun h => e h.symm)] at h
    rw [Array.getD_eq_getD_getElem?]; exact h

/-- Where nothing is ready all is done. -/
theorem all_done (hB : (List.range ops.size).all (fun i => ((ops[i]?).map fun o => o.after.all fun e => decide (e.on < i)).getD true) = true) (L : Array Bool) (hs : L.size = ops.size)
    (hr : Region.ready md ops L = []) : ∀ i, i < ops.size → L.getD i false = true := by
  intro i
  induction i using Nat.strongRecOn with
  | _ i ih =>
    intro hi
    have hgi : L[i]? = some L[i] := Array.getElem?_eq_getElem (by omega)
    cases hv : L[i] with
    | true => rw [Array.getD_eq_getD_getElem?, hgi, hv]; rfl
    | false =>
      exfalso
      have hm : i ∈ Region.ready md ops L := by
        refine mem_ready.2 ⟨by rw [Array.getD_eq_getD_getElem?, hgi, hv]; rfl, ops[i], Array.getElem?_eq_getElem hi, fun e he _ => ?_⟩
        have h1 := List.all_eq_true.1 hB i (List.mem_range.2 hi)
        rw [Array.getElem?_eq_getElem hi] at h1
        simp only [Option.map_some, Option.getD_some] at h1
        have h2 := Array.all_eq_true_iff_forall_mem.1 h1 e he
        have h3 : e.on < i := by simpa using h2
        exact ih e.on h3 (by omega)
      rw [hr] at hm; cases hm

theorem getD_keep (L : Array Bool) (i k : Nat) (h : L.getD k false = true) : (L.setIfInBounds i true).getD k false = true := by
  rw [Array.getD_eq_getD_getElem?] at *
  rw [Array.getElem?_setIfInBounds]
  split
  · split
    · rfl
    · rename_i h1 h2; subst h1
      rw [Array.getElem?_eq_none (by omega)] at h; simp at h
  · exact h
theorem getD_not {L : Array Bool} {i : Nat} (h : L.getD i true = false) : ¬ L.getD i false = true := by
  rw [Array.getD_eq_getD_getElem?] at *
  cases hv : L[i]? with
  | none => rw [hv] at h; simp at h
  | some v => rw [hv] at h; simp at h; simp [h]
theorem wpOp_plain {i : Nat} {o : Oper} {K : Act → World → Prop} {a : Act} {w : World} (ho : ops[i]? = some o) (hg : o.guard = none) (h : o.wp P a w K Q) : wpOp P ops Q i K a w := by
  unfold wpOp
  rw [ho]
  simp only [Region.wanted, hg, if_true]
  exact .inl h

theorem wp_call {op : Oper} {a : Act} {w : World} {K : Act → World → Prop} (f : FuncId) (args : Array Value) (hrun : (execOp a.eval op).run P w = .ok (.enter f args) w) (v : Value) (R : World → Prop)
    (hc : Calls P f args w (fun e w'' => e = .returned v ∧ R w'')) (h : ∀ w'', R w'' → K (a.put op.dst v) w'') : op.wp P a w K Q := by
  unfold Oper.wp
  rw [hrun]
  exact hc.mono fun e w'' hh => by obtain ⟨rfl, hR⟩ := hh; exact h w'' hR

theorem wp_alloc_row {op : Oper} {a : Act} {w : World} {K : Act → World → Prop} (ty : TypeId) (ho : op.op = .alloc ty) (z : Array Value) (n : Nat) (hz : (P.info? ty).map (fun i => (i.zero, i.size)) = some (some (.agg z), n))
    (h : K (a.put op.dst (.pointer (some ⟨w.heap.size, 0, none⟩))) (w.alloc (.cells z ty))) : op.wp P a w K Q := by
  have hz' := (zero_of_info hz).1 w
  unfold Oper.wp execOp
  simp only [ho, Instr.alloc, Sem.run_bind, Sem.run_pure, hz', Result.andThen_ok, newVar, newRow, Value.cells, run_newObj_alloc]
  exact h

theorem quiet_run {C : World → Prop} {K : Act → Prop} {op : Oper} {a : Act} (u : Value) (hrun : ∀ w, (execOp a.eval op).run P w = .ok (.value u) w) (h : K (a.put op.dst u)) : op.quiet P a C K :=
  ⟨u, fun w _ => by unfold Oper.quietAt; rw [hrun w]; exact ⟨rfl, rfl⟩, h⟩
theorem quiet_call {C : World → Prop} {K : Act → Prop} {op : Oper} {a : Act} (f : FuncId) (args : Array Value) (v : Value) (hrun : ∀ w, (execOp a.eval op).run P w = .ok (.enter f args) w)
    (hc : ∀ w, C w → Calls P f args w (fun e w'' => e = .returned v ∧ C w'')) (h : K (a.put op.dst v)) : op.quiet P a C K :=
  ⟨v, fun w hw => by unfold Oper.quietAt; rw [hrun w]; exact ⟨rfl, hc w hw⟩, h⟩
end
end Go.Proofs.YthcokaffbgbanaaDoor

/- A region that draws its order, whose head only makes memory (loads, calls, allocations: each value is known up to what it stands for, whatever came first), and whose tail is forced. -/
namespace Go.Proofs.YthcokaffbgbanaaDoor
open Go.RowKit

/-- A fact put away. -/
structure Box' (p : Prop) : Prop where
  out : p

/-- The frame in which each operation's slot holds what 'f' says. -/
def setAll : List Oper → Nat → (Nat → Value) → Array Value → Array Value
  | [], _, _, t => t
  | o :: r, k, f, t => setAll r (k + 1) f (match o.dst with | some d => t.setIfInBounds d (f k) | none => t)
def upd (f : Nat → Value) (i : Nat) (v : Value) : Nat → Value := fun k => if k = i then v else f k
def noDst (d : Nat) (l : List Oper) : Prop := ∀ o ∈ l, o.dst ≠ some d

theorem set_comm (t : Array Value) (d e : Nat) (x y : Value) (h : d ≠ e) : (t.setIfInBounds d x).setIfInBounds e y = (t.setIfInBounds e y).setIfInBounds d x := by
  apply Array.ext_getElem?
  intro j
  simp only [Array.getElem?_setIfInBounds, Array.size_setIfInBounds]
  by_cases h1 : e = j
  · subst h1; simp [h]
  · simp [h1]
theorem set_set (t : Array Value) (d : Nat) (x y : Value) : (t.setIfInBounds d x).setIfInBounds d y = t.setIfInBounds d y := by
  apply Array.ext_getElem?
  intro j
  simp only [Array.getElem?_setIfInBounds, Array.size_setIfInBounds]
  by_cases h1 : d = j
  · simp [h1]
  · simp [h1]
theorem set_same (t : Array Value) (d : Nat) : t.setIfInBounds d (t.getD d undef) = t := by
  apply Array.ext_getElem?
  intro j
  rw [Array.getElem?_setIfInBounds]
  by_cases h1 : d = j
  · subst h1
    by_cases h2 : d < t.size
    · simp [h2]
    · simp [h2]
  · simp [h1]
theorem setAll_out (l : List Oper) (k : Nat) (f : Nat → Value) (t : Array Value) (d : Nat) (v : Value) (h : noDst d l) : (setAll l k f t).setIfInBounds d v = setAll l k f (t.setIfInBounds d v) := by
  induction l generalizing k t with
  | nil => rfl
  | cons o r ih =>
    simp only [setAll]
    rw [ih (k + 1) _ fun o' ho' => h o' (List.mem_cons_of_mem _ ho')]
    have ho := h o List.mem_cons_self
    split
    · rename_i e he
      rw [set_comm _ e d _ _ (fun hh => ho (by rw [he, hh]))]
    · rfl
theorem setAll_upd_out (l : List Oper) (k : Nat) (f : Nat → Value) (t : Array Value) (i : Nat) (v : Value) (h : i < k) : setAll l k (upd f i v) t = setAll l k f t := by
  induction l generalizing k t with
  | nil => rfl
  | cons o r ih =>
    simp only [setAll]
    rw [ih (k + 1) _ (by omega)]
    have : upd f i v k = f k := by simp only [upd]; rw [if_neg (by omega)]
    rw [this]
theorem setAll_upd (l : List Oper) (k : Nat) (f : Nat → Value) (t : Array Value) (i : Nat) (v : Value) (o : Oper) (d : Nat) (ho : l[i]? = some o) (hd : o.dst = some d)
    (hn : ∀ j o', l[j]? = some o' → o'.dst = some d → j = i) : (setAll l k f t).setIfInBounds d v = setAll l k (upd f (k + i) v) t := by
  induction l generalizing k t i with
  | nil => simp at ho
  | cons p r ih =>
    cases i with
    | zero =>
      simp only [List.getElem?_cons_zero, Option.some.injEq] at ho
      subst ho
      have hr : noDst d r := fun o' ho' hh => by
        obtain ⟨j, hj, rfl⟩ := List.getElem_of_mem ho'
        have := hn (j + 1) r[j] (by simp) hh
        omega
      simp only [setAll, hd, Nat.add_zero]
      rw [setAll_out _ _ _ _ _ _ hr, set_set, setAll_upd_out _ _ _ _ _ _ (by omega)]
      simp [upd]
    | succ i =>
      simp only [List.getElem?_cons_succ] at ho
      simp only [setAll]
      rw [ih (k + 1) _ i ho (fun j o' h1 h2 => by have := hn (j + 1) o' (by simpa using h1) h2; omega)]
      have e : k + 1 + i = k + (i + 1) := by omega
      have hk : upd f (k + (i + 1)) v k = f k := by simp only [upd]; rw [if_neg (by omega)]
      rw [e, hk]
theorem setAll_none (l : List Oper) (k : Nat) (f : Nat → Value) (t : Array Value) (i : Nat) (v : Value) (o : Oper) (ho : l[i]? = some o) (hd : o.dst = none) : setAll l k (upd f (k + i) v) t = setAll l k f t := by
  induction l generalizing k t i with
  | nil => simp at ho
  | cons p r ih =>
    cases i with
    | zero =>
      simp only [List.getElem?_cons_zero, Option.some.injEq] at ho
      subst ho
      simp only [setAll, hd, Nat.add_zero]
      rw [setAll_upd_out _ _ _ _ _ _ (by omega)]
    | succ i =>
      simp only [List.getElem?_cons_succ] at ho
      simp only [setAll]
      have e : k + (i + 1) = k + 1 + i := by omega
      rw [e, ih (k + 1) _ i ho]
      have hk : upd f (k + 1 + i) v k = f k := by simp only [upd]; rw [if_neg (by omega)]
      rw [hk]
theorem setAll_init (l : List Oper) (k : Nat) (t : Array Value) (f : Nat → Value) (hf : ∀ i o d, l[i]? = some o → o.dst = some d → f (k + i) = t.getD d undef) : setAll l k f t = t := by
  induction l generalizing k t with
  | nil => rfl
  | cons o r ih =>
    simp only [setAll]
    have h0 : (match o.dst with | some d => t.setIfInBounds d (f k) | none => t) = t := by
      split
      · rename_i d hd
        have := hf 0 o d rfl hd
        rw [Nat.add_zero] at this
        rw [this, set_same]
      · rfl
    rw [h0]
    exact ih (k + 1) t fun i o' d h1 h2 => by have := hf (i + 1) o' d (by simpa using h1) h2; rw [← this]; congr 1; omega

section
variable {P : Program} {Q : Exit → Act → World → Prop}

/-- Which operations an operation is behind. -/
def behind (o : Oper) (j : Nat) : Bool := o.after.toList.any fun e => e.on == j && Region.binds .any e
/-- The same, and what those are behind in their turn. -/
def anc (l : List Oper) : Nat → Nat → Nat → Bool
  | 0, _, _ => false
  | f + 1, i, k => match l[i]? with
    | none => false
    | some o => o.after.toList.any fun e => Region.binds .any e && (e.on == k || anc l f e.on k)
def closedB (l : List Oper) (L : Array Bool) : Prop := ∀ i o, l[i]? = some o → L.getD i false = true → ∀ e ∈ o.after, Region.binds .any e = true → L.getD e.on false = true
theorem anc_done (l : List Oper) (L : Array Bool) (hc : closedB l L) : ∀ (f i k : Nat) (o : Oper), l[i]? = some o → (∀ e ∈ o.after, Region.binds .any e = true → L.getD e.on false = true) → anc l f i k = true → L.getD k false = true := by
  intro f
  induction f with
  | zero => intro i k o _ _ h; simp [anc] at h
  | succ f ih =>
    intro i k o ho hd h
    simp only [anc, ho] at h
    rw [List.any_eq_true] at h
    obtain ⟨e, he', hh⟩ := h
    have he := Array.mem_toList_iff.1 he'
    simp only [Bool.and_eq_true, Bool.or_eq_true, beq_iff_eq] at hh
    obtain ⟨hb, hk | hk⟩ := hh
    · rw [← hk]; exact hd e he hb
    · have hon := hd e he hb
      cases ho' : l[e.on]? with
      | none =>
        cases f with
        | zero => simp [anc] at hk
        | succ f => simp [anc, ho'] at hk
      | some o' => exact ih e.on k o' ho' (hc e.on o' ho' hon) hk
/-- What each operation of the head must do. -/
def Grows (P : Program) (Q : Exit → Act → World → Prop) (G : World → World → Prop) (C : World → Prop) (V : Nat → World → Value → Prop) (l0 : List Oper) (t : Array Value) (df : List Deferred) : List Oper → Nat → Prop
  | [], _ => True
  | o :: r, k => (∀ f w, C w → (∀ j, behind o j = true → V j w (f j)) → ∀ K : Act → World → Prop, (∀ v w', V k w' v → G w w' → K ((⟨setAll l0 0 f t, df⟩ : Act).put o.dst v) w') → o.wp P ⟨setAll l0 0 f t, df⟩ w K Q) ∧ Grows P Q G C V l0 t df r (k + 1)
theorem Grows.at {G : World → World → Prop} {C : World → Prop} {V : Nat → World → Value → Prop} {l0 : List Oper} {t : Array Value} {df : List Deferred} {l : List Oper} {k : Nat} (h : Grows P Q G C V l0 t df l k) (i : Nat) (o : Oper) (ho : l[i]? = some o) :
    ∀ f w, C w → (∀ j, behind o j = true → V j w (f j)) → ∀ K : Act → World → Prop, (∀ v w', V (k + i) w' v → G w w' → K ((⟨setAll l0 0 f t, df⟩ : Act).put o.dst v) w') → o.wp P ⟨setAll l0 0 f t, df⟩ w K Q := by
  induction l generalizing k i with
  | nil => simp at ho
  | cons p r ih =>
    cases i with
    | zero => simp only [List.getElem?_cons_zero, Option.some.injEq] at ho; subst ho; exact h.1
    | succ i =>
      have e : k + (i + 1) = k + 1 + i := by omega
      rw [e]
      exact ih h.2 i (by simpa using ho)

/-- The closed facts of such a region: slots of the head apart, no guards in the head, each operation behind earlier ones alone, the tail behind all that stands ahead of it. -/
def growB (l : List Oper) (n : Nat) : Bool :=
  (List.range n).all (fun i => ((l[i]?).map fun o => o.guard.isNone && (o.dst.isNone || (List.range n).all fun j => decide (j = i) || ((l[j]?).map fun p => p.dst != o.dst).getD true)).getD false)
  && (List.range l.length).all (fun i => ((l[i]?).map fun o => o.after.toList.all fun e => !Region.binds .any e || decide (e.on < i)).getD true)
  && (List.range l.length).all (fun i => decide (i < n) || (List.range i).all fun j => anc l l.length i j)
  && decide (n ≤ l.length)

theorem all_done' {l : List Oper} (hB : ∀ i, i < l.length → ((l[i]?).map fun o => o.after.toList.all fun e => !Region.binds .any e || decide (e.on < i)).getD true = true) (L : Array Bool) (hs : L.size = l.length)
    (hr : Region.ready .any l.toArray L = []) : ∀ i, i < l.length → L.getD i false = true := by
  intro i
  induction i using Nat.strongRecOn with
  | _ i ih =>
    intro hi
    have hgi : L[i]? = some L[i] := Array.getElem?_eq_getElem (by omega)
    cases hv : L[i] with
    | true => rw [Array.getD_eq_getD_getElem?, hgi, hv]; rfl
    | false =>
      exfalso
      have hm : i ∈ Region.ready .any l.toArray L := by
        refine mem_ready.2 ⟨by rw [Array.getD_eq_getD_getElem?, hgi, hv]; rfl, l[i], by simp [hi], fun e he hb => ?_⟩
        have h1 := hB i hi
        rw [List.getElem?_eq_getElem hi] at h1
        simp only [Option.map_some, Option.getD_some, List.all_eq_true, Bool.or_eq_true, Bool.not_eq_true', decide_eq_true_eq] at h1
        have h3 := (h1 e (Array.mem_toList_iff.2 he)).resolve_left (by rw [hb]; simp)
        exact ih e.on h3 (by omega)
      rw [hr] at hm; cases hm
theorem wp_region_grow {id : Nat} {t : Array Value} {df : List Deferred} {w : World} {l : List Oper} (n : Nat) (hm : P.follows .mixedOrders = true) (hB : growB l n = true)
    (G : World → World → Prop) (C : World → Prop) (V : Nat → World → Value → Prop) (hC : ∀ w w', G w w' → C w → C w') (hV : ∀ k v w w', C w → G w w' → V k w v → V k w' v) (h0 : C w.drew)
    (hops : Grows P Q G C V (l.take n) t df (l.take n) 0)
    (hend : ∀ f w', C w' → (∀ k, k < n → V k w' (f k)) → wpList P l.toArray Q (l.drop n) ⟨setAll (l.take n) 0 f t, df⟩ w') :
    (Code.region id l.toArray true).wp P Q ⟨t, df⟩ w := by
  simp only [growB, Bool.and_eq_true, List.all_eq_true, List.mem_range, decide_eq_true_eq] at hB
  obtain ⟨⟨⟨hB1, hB2⟩, hB3⟩, hn⟩ := hB
  have hget : ∀ i o, i < n → l[i]? = some o → (l.take n)[i]? = some o := fun i o hi ho => by rw [List.getElem?_take, if_pos hi]; exact ho
  have hone : ∀ i o d, i < n → l[i]? = some o → o.dst = some d → ∀ j o', (l.take n)[j]? = some o' → o'.dst = some d → j = i := by
    intro i o d hi ho hd j o' hj hd'
    have hjn : j < n := by
      rcases Nat.lt_or_ge j n with h | h
      · exact h
      · rw [List.getElem?_take, if_neg (by omega)] at hj; cases hj
    rw [List.getElem?_take, if_pos hjn] at hj
    have := hB1 i hi
    rw [ho] at this
    simp only [Option.map_some, Option.getD_some, Bool.and_eq_true, List.all_eq_true, List.mem_range, Bool.or_eq_true, decide_eq_true_eq, hd, Option.isNone_some, Bool.false_eq_true, false_or] at this
    rcases this.2 j hjn with h | h
    · exact h
    · rw [hj] at h
      simp [hd'] at h
  have hdepAll : ∀ (L : Array Bool) i o, closedB l L → n ≤ i → l[i]? = some o → (∀ e ∈ o.after, Region.binds .any e = true → L.getD e.on false = true) → ∀ k, k < i → L.getD k false = true := by
    intro L i o hc hi ho hdep k hk
    have hil : i < l.length := (List.getElem?_eq_some_iff.1 ho).1
    have := hB3 i hil
    simp only [Bool.or_eq_true, decide_eq_true_eq, List.all_eq_true, List.mem_range] at this
    rcases this with h | h
    · omega
    · exact anc_done l L hc _ i k o ho hdep (h k hk)
  have hwpo : ∀ i o K a w, l[i]? = some o → wpList P l.toArray Q (o :: l.drop (i + 1)) a w → (∀ a w, wpList P l.toArray Q (l.drop (i + 1)) a w → K a w) → wpOp P l.toArray Q i K a w := by
    intro i o K a w ho h hK
    refine wpOp_mono hK ?_
    unfold wpOp
    have ho' : l.toArray[i]? = some o := by simpa using ho
    rw [ho']
    exact h
  have hdrop : ∀ i o, l[i]? = some o → l.drop i = o :: l.drop (i + 1) := fun i o ho => by
    obtain ⟨h1, h2⟩ := List.getElem?_eq_some_iff.1 ho
    rw [List.drop_eq_getElem_cons h1, h2]
  refine wp_region_inv hm (fun L a w => L.size = l.length ∧ closedB l L ∧
    (((∀ k, n ≤ k → ¬ L.getD k false = true) ∧ ∃ f, a = ⟨setAll (l.take n) 0 f t, df⟩ ∧ C w ∧ ∀ k, k < n → L.getD k false = true → V k w (f k))
    ∨ (∃ j, n ≤ j ∧ j ≤ l.length ∧ (∀ k, k < j → L.getD k false = true) ∧ (∀ k, j ≤ k → ¬ L.getD k false = true) ∧ wpList P l.toArray Q (l.drop j) a w))) ?_ ?_ ?_
  · have hn0 : ∀ k, ¬ ((Array.replicate l.toArray.size false).getD k false = true) := by
      intro k h
      rw [Array.getD_eq_getD_getElem?, Array.getElem?_replicate] at h
      split at h <;> simp at h
    refine ⟨by simp, fun i o _ h => absurd h (hn0 i), .inl ⟨fun k _ => hn0 k, fun k => t.getD (((l[k]?).bind (·.dst)).getD 0) undef, ?_, h0, fun k _ h => absurd h (hn0 k)⟩⟩
    rw [setAll_init]
    intro i o d ho hd
    have ho2 : l[i]? = some o := by
      rw [List.getElem?_take] at ho
      split at ho
      · exact ho
      · cases ho
    simp only [Nat.zero_add, ho2, Option.bind_some, hd, Option.getD_some]
  · rintro L a w i o ⟨hsz, hcl, hI⟩ hL ho hdep
    have ho' : l[i]? = some o := by simpa using ho
    have hil : i < l.length := (List.getElem?_eq_some_iff.1 ho').1
    have hnd := getD_not hL
    have hS : (L.setIfInBounds i true).size = l.length := by simpa using hsz
    have hdone : (L.setIfInBounds i true).getD i false = true := by
      rw [Array.getD_eq_getD_getElem?, Array.getElem?_setIfInBounds]
      simp [hsz, hil]
    have hcl' : closedB l (L.setIfInBounds i true) := by
      intro k o' ho2 hk e he hb
      rcases getD_set L i k hk with rfl | h'
      · rw [ho'] at ho2; cases ho2
        exact getD_keep L _ _ (hdep e he hb)
      · exact getD_keep L _ _ (hcl k o' ho2 h' e he hb)
    rcases hI with ⟨ht, f, rfl, hCw, hf⟩ | ⟨j, hj1, hj2, hj3, hj4, hw⟩
    · by_cases hi : i < n
      · have hgd := hB1 i hi
        rw [ho'] at hgd
        simp only [Option.map_some, Option.getD_some, Bool.and_eq_true, Option.isNone_iff_eq_none] at hgd
        have hg := hgd.1
        refine wpOp_plain ho hg (Grows.at hops i o (hget i o hi ho') f w hCw (fun k hk => ?_) _ (fun v w' hv hb => ?_))
        · unfold behind at hk
          rw [List.any_eq_true] at hk
          obtain ⟨e, he', hh⟩ := hk
          have he := Array.mem_toList_iff.1 he'
          simp only [Bool.and_eq_true, beq_iff_eq] at hh
          have h1 := hdep e he hh.2
          have h2 := hB2 i hil
          rw [ho'] at h2
          simp only [Option.map_some, Option.getD_some, List.all_eq_true, Bool.or_eq_true, Bool.not_eq_true', decide_eq_true_eq] at h2
          have h3 := (h2 e (Array.mem_toList_iff.2 he)).resolve_left (by rw [hh.2]; simp)
          rw [hh.1] at h1 h3
          exact hf k (by omega) h1
        · refine ⟨hS, hcl', .inl ⟨fun k hk h => ?_, upd f i v, ?_, hC _ _ hb hCw, fun k hk h => ?_⟩⟩
          · rcases getD_set L i k h with rfl | h'
            · omega
            · exact ht k hk h'
          · cases hd : o.dst with
            | some d =>
              have := setAll_upd (l.take n) 0 f t i v o d (hget i o hi ho') hd (hone i o d hi ho' hd)
              rw [Nat.zero_add] at this
              simp only [Act.put, this]
            | none =>
              have := setAll_none (l.take n) 0 f t i v o (hget i o hi ho') hd
              rw [Nat.zero_add] at this
              simp only [Act.put, this]
          · by_cases hki : k = i
            · subst hki
              rw [Nat.zero_add] at hv
              simpa [upd] using hv
            · have := hf k hk ((getD_set L i k h).resolve_left hki)
              simp only [upd, if_neg hki]
              exact hV k _ _ _ hCw hb this
      · have hall := hdepAll L i o hcl (by omega) ho' hdep
        have hin : i = n := by
          rcases Nat.lt_or_ge n i with h | h
          · exact absurd (hall n h) (ht n (Nat.le_refl _))
          · omega
        subst hin
        have hw := hend f w hCw fun k hk => hf k hk (hall k hk)
        rw [hdrop i o ho'] at hw
        refine hwpo i o _ _ _ ho' hw fun a w h => ⟨hS, hcl', .inr ⟨i + 1, by omega, by omega, fun k hk => ?_, fun k hk h => ?_, h⟩⟩
        · by_cases e : k = i
          · subst e; exact hdone
          · exact getD_keep L i k (hall k (by omega))
        · rcases getD_set L i k h with h' | h'
          · omega
          · exact ht k (by omega) h'
    · have hij : j ≤ i := by
        rcases Nat.lt_or_ge i j with h | h
        · exact absurd (hj3 i h) hnd
        · exact h
      have hall := hdepAll L i o hcl (by omega) ho' hdep
      have hin : i = j := by
        rcases Nat.lt_or_ge j i with h | h
        · exact absurd (hall j h) (hj4 j (Nat.le_refl _))
        · omega
      subst hin
      rw [hdrop i o ho'] at hw
      refine hwpo i o _ _ _ ho' hw fun a w h => ⟨hS, hcl', .inr ⟨i + 1, by omega, by omega, fun k hk => ?_, fun k hk h => ?_, h⟩⟩
      · by_cases e : k = i
        · subst e; exact hdone
        · exact getD_keep L i k (hall k (by omega))
      · rcases getD_set L i k h with h' | h'
        · omega
        · exact hj4 k (by omega) h'
  · rintro L a w ⟨hsz, _, hI⟩ hr
    have hall := all_done' hB2 L hsz hr
    rcases hI with ⟨ht, f, rfl, hCw, hf⟩ | ⟨j, hj1, hj2, hj3, hj4, hw⟩
    · have hnl : n = l.length := by
        rcases Nat.lt_or_ge n l.length with h | h
        · exact absurd (hall n h) (ht n (Nat.le_refl _))
        · omega
      have hw := hend f w hCw fun k hk => hf k hk (hall k (by omega))
      rw [List.drop_eq_nil_of_le (by omega)] at hw
      exact hw
    · have hjl : j = l.length := by
        rcases Nat.lt_or_ge j l.length with h | h
        · exact absurd (hall j h) (hj4 j (Nat.le_refl _))
        · omega
      rw [List.drop_eq_nil_of_le (by omega)] at hw
      exact hw

/-- An operation that only looks, or calls what leaves the world as it is. -/
theorem wp_of_quiet {o : Oper} {a : Act} {w : World} {K : Act → World → Prop} (hg : o.guard = none) (h : wpQuiet P #[] (fun w' => w' = w) (fun a' => K a' w) [o] a) : o.wp P a w K Q := by
  unfold wpQuiet at h
  simp only [Region.wanted, hg, if_true] at h
  obtain ⟨v, h1, h2⟩ := h
  have h3 := h1 w rfl
  have h2' : K (a.put o.dst v) w := h2
  clear h1 h2
  unfold Oper.quietAt at h3
  unfold Oper.wp
  generalize (execOp a.eval o).run P w = r at *
  cases r with
  | ok n w' =>
    cases n <;> simp only [Oper.quietUpon] at h3 <;> simp only [Oper.upon]
    case value u => obtain ⟨e1, e2⟩ := h3; subst e1 e2; exact h2'
    case skip => obtain ⟨e1, e2⟩ := h3; subst e1 e2; exact h2'
    case enter f args => obtain ⟨e1, e2⟩ := h3; subst e1; exact e2.mono fun e w'' hh => by obtain ⟨rfl, rfl⟩ := hh; exact h2'
  | halt x w' => simp only [Oper.quietUpon] at h3
end
end Go.Proofs.YthcokaffbgbanaaDoor

/- The plain mathematics of products of bytes: no Go, no program. -/

namespace Go.Proofs.YthcokaffbgbanaaDoor.Gf

def prodN (a b : Nat) : Nat → Nat
  | 0 => 0
  | k + 1 => if b.testBit k then prodN a b k ^^^ (a <<< k) else prodN a b k
def redN (q : Nat) : Nat → Nat
  | 0 => q
  | j + 1 => if (redN q j).testBit (14 - j) then redN q j ^^^ (283 <<< (6 - j)) else redN q j
def timesN (a b : Nat) : Nat := redN (prodN a b 8) 7 % 256

theorem timesN_lt (a b : Nat) : timesN a b < 256 := Nat.mod_lt _ (by decide)

theorem x4 (p c q d : Nat) : (p ^^^ c) ^^^ (q ^^^ d) = (p ^^^ q) ^^^ (c ^^^ d) := by
  rw [Nat.xor_assoc, Nat.xor_assoc, ← Nat.xor_assoc c, Nat.xor_comm c q, Nat.xor_assoc q]
theorem x3 (p c q : Nat) : (p ^^^ c) ^^^ q = (p ^^^ q) ^^^ c := by
  rw [Nat.xor_assoc, Nat.xor_comm c q, Nat.xor_assoc]

theorem prodN_xor_left (a a' b k : Nat) : prodN (a ^^^ a') b k = prodN a b k ^^^ prodN a' b k := by
  induction k with
  | zero => simp [prodN]
  | succ k ih =>
    simp only [prodN, ih]
    split
    · rw [x4, Nat.shiftLeft_xor_distrib]
    · rfl
theorem prodN_xor_right (a b b' k : Nat) : prodN a (b ^^^ b') k = prodN a b k ^^^ prodN a b' k := by
  induction k with
  | zero => simp [prodN]
  | succ k ih =>
    simp only [prodN, ih, Nat.testBit_xor]
    cases b.testBit k <;> cases b'.testBit k <;> simp
    · rw [Nat.xor_assoc]
    · rw [x3]
    · rw [x4]; simp
theorem redN_xor (p q j : Nat) : redN (p ^^^ q) j = redN p j ^^^ redN q j := by
  induction j with
  | zero => rfl
  | succ j ih =>
    simp only [redN, ih, Nat.testBit_xor]
    cases (redN p j).testBit (14 - j) <;> cases (redN q j).testBit (14 - j) <;> simp
    · rw [Nat.xor_assoc]
    · rw [x3]
    · rw [x4]; simp
theorem timesN_xor_left (a a' b : Nat) : timesN (a ^^^ a') b = timesN a b ^^^ timesN a' b := by
  unfold timesN; rw [prodN_xor_left, redN_xor, Nat.xor_mod_two_pow (n := 8)]
theorem timesN_xor_right (a b b' : Nat) : timesN a (b ^^^ b') = timesN a b ^^^ timesN a b' := by
  unfold timesN; rw [prodN_xor_right, redN_xor, Nat.xor_mod_two_pow (n := 8)]

def bitOf (a i : Nat) : Nat := if a.testBit i then 2 ^ i else 0
theorem sum_bits : ∀ a, a < 256 → bitOf a 0 ^^^ (bitOf a 1 ^^^ (bitOf a 2 ^^^ (bitOf a 3 ^^^ (bitOf a 4 ^^^ (bitOf a 5 ^^^ (bitOf a 6 ^^^ bitOf a 7)))))) = a := by
  decide +kernel
theorem byte_ind (P : Nat → Prop) (h0 : P 0) (hb : ∀ i, i < 8 → P (2 ^ i)) (hx : ∀ a b, P a → P b → P (a ^^^ b)) (a : Nat) (ha : a < 256) : P a := by
  have hbit : ∀ i, i < 8 → P (bitOf a i) := fun i hi => by
    unfold bitOf; split
    · exact hb i hi
    · exact h0
  rw [← sum_bits a ha]
  exact hx _ _ (hbit 0 (by decide)) (hx _ _ (hbit 1 (by decide)) (hx _ _ (hbit 2 (by decide)) (hx _ _ (hbit 3 (by decide)) (hx _ _ (hbit 4 (by decide)) (hx _ _ (hbit 5 (by decide)) (hx _ _ (hbit 6 (by decide)) (hbit 7 (by decide))))))))

theorem timesN_zero_left (b : Nat) : timesN 0 b = 0 := by
  have h := timesN_xor_left 0 0 b
  rw [Nat.xor_self] at h; simpa using h
theorem timesN_zero_right (a : Nat) : timesN a 0 = 0 := by
  have h := timesN_xor_right a 0 0
  rw [Nat.xor_self] at h; simpa using h

theorem comm_basis : ∀ i, i < 8 → ∀ j, j < 8 → timesN (2 ^ i) (2 ^ j) = timesN (2 ^ j) (2 ^ i) := by decide +kernel
theorem timesN_comm (a b : Nat) (ha : a < 256) (hb : b < 256) : timesN a b = timesN b a := by
  refine byte_ind (fun a => timesN a b = timesN b a) ?_ ?_ ?_ a ha
  · simp [timesN_zero_left, timesN_zero_right]
  · intro i hi
    refine byte_ind (fun b => timesN (2 ^ i) b = timesN b (2 ^ i)) ?_ ?_ ?_ b hb
    · simp [timesN_zero_left, timesN_zero_right]
    · intro j hj; exact comm_basis i hi j hj
    · intro x y hx hy; simp only [timesN_xor_left, timesN_xor_right, hx, hy]
  · intro x y hx hy; simp only [timesN_xor_left, timesN_xor_right, hx, hy]

theorem assoc_basis : ∀ i, i < 8 → ∀ j, j < 8 → ∀ k, k < 8 → timesN (timesN (2 ^ i) (2 ^ j)) (2 ^ k) = timesN (2 ^ i) (timesN (2 ^ j) (2 ^ k)) := by decide +kernel
theorem timesN_assoc (a b c : Nat) (ha : a < 256) (hb : b < 256) (hc : c < 256) : timesN (timesN a b) c = timesN a (timesN b c) := by
  refine byte_ind (fun a => timesN (timesN a b) c = timesN a (timesN b c)) ?_ ?_ ?_ a ha
  · simp [timesN_zero_left]
  · intro i hi
    refine byte_ind (fun b => timesN (timesN (2 ^ i) b) c = timesN (2 ^ i) (timesN b c)) ?_ ?_ ?_ b hb
    · simp [timesN_zero_left, timesN_zero_right]
    · intro j hj
      refine byte_ind (fun c => timesN (timesN (2 ^ i) (2 ^ j)) c = timesN (2 ^ i) (timesN (2 ^ j) c)) ?_ ?_ ?_ c hc
      · simp [timesN_zero_right]
      · intro k hk; exact assoc_basis i hi j hj k hk
      · intro x y hx hy; simp only [timesN_xor_right, hx, hy]
    · intro x y hx hy; simp only [timesN_xor_left, timesN_xor_right, hx, hy]
  · intro x y hx hy; simp only [timesN_xor_left, hx, hy]

theorem timesN_one (a : Nat) (ha : a < 256) : timesN a 1 = a := by
  refine byte_ind (fun a => timesN a 1 = a) ?_ ?_ ?_ a ha
  · exact timesN_zero_left 1
  · decide +kernel
  · intro x y hx hy; simp only [timesN_xor_left, hx, hy]

def invN (a : Nat) : Nat :=
  let a2 := timesN a a
  let a3 := timesN a2 a
  let a6 := timesN a3 a3
  let a12 := timesN a6 a6
  let a15 := timesN a12 a3
  let a30 := timesN a15 a15
  let a60 := timesN a30 a30
  let a120 := timesN a60 a60
  let a126 := timesN a120 a6
  let a127 := timesN a126 a
  timesN a127 a127
theorem inv_all : ∀ a, a < 256 → a ≠ 0 → timesN (invN a) a = 1 := by decide +kernel
theorem timesN_zero_iff (a b : Nat) (ha : a < 256) (hb : b < 256) : timesN a b = 0 ↔ a = 0 ∨ b = 0 := by
  constructor
  · intro h
    by_cases e : a = 0
    · exact .inl e
    · right
      have h1 := timesN_assoc (invN a) a b (timesN_lt _ _) ha hb
      rw [inv_all a ha e, h, timesN_zero_right, timesN_comm 1 b (by decide) hb, timesN_one b hb] at h1
      exact h1
  · rintro (rfl | rfl)
    · exact timesN_zero_left b
    · exact timesN_zero_right a

/-! The same of bytes. -/
def times (x y : UInt8) : UInt8 := UInt8.ofNat (timesN x.toNat y.toNat)
theorem times_toNat (x y : UInt8) : (times x y).toNat = timesN x.toNat y.toNat := by
  unfold times; rw [UInt8.toNat_ofNat_of_lt' (timesN_lt _ _)]
theorem times_comm (x y : UInt8) : times x y = times y x := by
  apply UInt8.toNat_inj.1; rw [times_toNat, times_toNat]; exact timesN_comm _ _ x.toNat_lt y.toNat_lt
theorem times_assoc (x y z : UInt8) : times (times x y) z = times x (times y z) := by
  apply UInt8.toNat_inj.1; simp only [times_toNat]; exact timesN_assoc _ _ _ x.toNat_lt y.toNat_lt z.toNat_lt
theorem times_xor (x y z : UInt8) : times x (y ^^^ z) = times x y ^^^ times x z := by
  apply UInt8.toNat_inj.1; simp only [times_toNat, UInt8.toNat_xor]; exact timesN_xor_right _ _ _
theorem times_one (x : UInt8) : times x 1 = x := by
  apply UInt8.toNat_inj.1; simp only [times_toNat]; exact timesN_one _ x.toNat_lt
theorem times_zero_iff (x y : UInt8) : times x y = 0 ↔ x = 0 ∨ y = 0 := by
  rw [← UInt8.toNat_inj, ← UInt8.toNat_inj, ← UInt8.toNat_inj, times_toNat]; exact timesN_zero_iff _ _ x.toNat_lt y.toNat_lt

/-! Doubling, scattering, joining. -/
def dblN (n : Nat) : Nat := ((n * 2) ^^^ (n * 2 / 256 * 283)) % 256
theorem dblN_lt (n : Nat) : dblN n < 256 := Nat.mod_lt _ (by decide)
def dbl (x : UInt8) : UInt8 := UInt8.ofNat (dblN x.toNat)
theorem dbl_toNat (x : UInt8) : (dbl x).toNat = dblN x.toNat := by
  unfold dbl; rw [UInt8.toNat_ofNat_of_lt' (dblN_lt _)]
def sctN (n : Nat) : Nat := ((((((n * 256 ||| n) ^^^ (n * 256 ||| n) / 16) ^^^ (n * 256 ||| n) / 32) ^^^ (n * 256 ||| n) / 64) ^^^ (n * 256 ||| n) / 128) % 256) ^^^ 99
theorem sctN_lt : ∀ n, n < 256 → sctN n < 256 := by decide +kernel
def sct (x : UInt8) : UInt8 := UInt8.ofNat (sctN x.toNat)
theorem sct_toNat (x : UInt8) : (sct x).toNat = sctN x.toNat := by
  unfold sct; rw [UInt8.toNat_ofNat_of_lt' (sctN_lt _ x.toNat_lt)]
def jnN (a b c d : Nat) : Nat := ((a * 16777216 ||| b * 65536) ||| c * 256) ||| d
theorem jnN_lt (a b c d : Nat) (ha : a < 256) (hb : b < 256) (hc : c < 256) (hd : d < 256) : jnN a b c d < 2 ^ 32 := by
  unfold jnN
  exact Nat.or_lt_two_pow (Nat.or_lt_two_pow (Nat.or_lt_two_pow (by omega) (by omega)) (by omega)) (by omega)
def jn (a b c d : UInt8) : UInt32 := UInt32.ofNat (jnN a.toNat b.toNat c.toNat d.toNat)
theorem jn_toNat (a b c d : UInt8) : (jn a b c d).toNat = jnN a.toNat b.toNat c.toNat d.toNat := by
  unfold jn; rw [UInt32.toNat_ofNat_of_lt' (jnN_lt _ _ _ _ a.toNat_lt b.toNat_lt c.toNat_lt d.toNat_lt)]

end Go.Proofs.YthcokaffbgbanaaDoor.Gf

/- Plain lists of bytes: filling, tables, columns. -/
namespace Go.Proofs.YthcokaffbgbanaaDoor.Gf

def fill (z : List UInt8) (f : Nat → UInt8) : Nat → List UInt8
  | 0 => z
  | k + 1 => (fill z f k).set k (f k)
theorem fill_len (z : List UInt8) (f : Nat → UInt8) (k : Nat) : (fill z f k).length = z.length := by
  induction k with
  | zero => rfl
  | succ k ih => simp [fill, ih]
theorem fill_get (z : List UInt8) (f : Nat → UInt8) (k j : Nat) (h : k ≤ j) : (fill z f k).getD j 0 = z.getD j 0 := by
  induction k with
  | zero => rfl
  | succ k ih =>
    have := ih (by omega)
    simp only [fill, List.getD_eq_getElem?_getD] at *
    rw [List.getElem?_set_ne (by omega)]; exact this
theorem fill_at (z : List UInt8) (f : Nat → UInt8) (k j : Nat) (h : j < k) (hz : j < z.length) : (fill z f k)[j]? = some (f j) := by
  induction k with
  | zero => omega
  | succ k ih =>
    simp only [fill]
    by_cases e : j = k
    · subst e; rw [List.getElem?_set_self (by rw [fill_len]; exact hz)]
    · rw [List.getElem?_set_ne (by omega)]; exact ih (by omega)
theorem fill_full (z : List UInt8) (f : Nat → UInt8) (n : Nat) (h : z.length = n) : fill z f n = (List.range n).map f := by
  apply List.ext_getElem?
  intro j
  by_cases hj : j < n
  · rw [fill_at z f n j hj (by omega)]; simp [hj]
  · rw [List.getElem?_eq_none (by rw [fill_len]; omega), List.getElem?_eq_none (by simp; omega)]

def look (t : List UInt8) (x : UInt8) : UInt8 := t.getD x.toNat 0
def zeros (n : Nat) : List UInt8 := List.replicate n 0
def bxor (a b : List UInt8) : List UInt8 := (List.range 16).map fun i => a.getD i 0 ^^^ b.getD i 0
def subst (t b : List UInt8) : List UInt8 := (List.range 16).map fun i => look t (b.getD i 0)
def turn (b : List UInt8) (p : Nat) : List UInt8 := (List.range 16).map fun i => b.getD ((i + 4 * (i % 4) * p) % 16) 0
theorem bxor_len (a b : List UInt8) : (bxor a b).length = 16 := by simp [bxor]
theorem subst_len (a b : List UInt8) : (subst a b).length = 16 := by simp [subst]
theorem turn_len (a : List UInt8) (p : Nat) : (turn a p).length = 16 := by simp [turn]

def bx (x y : UInt8) : UInt8 := x ^^^ y
def all4 (a b c d : UInt8) : UInt8 := bx (bx (bx a b) c) d
def set4 (l : List UInt8) (m : Nat) (a b c d : UInt8) : List UInt8 := (((l.set m a).set (m + 1) b).set (m + 2) c).set (m + 3) d
theorem set4_len (l : List UInt8) (m : Nat) (a b c d : UInt8) : (set4 l m a b c d).length = l.length := by simp [set4]
def mcol (l : List UInt8) (m : Nat) (a b c d : UInt8) : List UInt8 :=
  set4 l m (bx a (bx (all4 a b c d) (dbl (bx a b)))) (bx b (bx (all4 a b c d) (dbl (bx b c)))) (bx c (bx (all4 a b c d) (dbl (bx c d)))) (bx d (bx (all4 a b c d) (dbl (bx d a))))
def mixTo (b : List UInt8) : Nat → List UInt8
  | 0 => b
  | k + 1 => mcol (mixTo b k) (4 * k) ((mixTo b k).getD (4 * k) 0) ((mixTo b k).getD (4 * k + 1) 0) ((mixTo b k).getD (4 * k + 2) 0) ((mixTo b k).getD (4 * k + 3) 0)
theorem mixTo_len (b : List UInt8) (k : Nat) : (mixTo b k).length = b.length := by
  induction k with
  | zero => rfl
  | succ k ih => simp [mixTo, mcol, set4_len, ih]
def ucol (l : List UInt8) (m : Nat) (a b c d : UInt8) : List UInt8 :=
  set4 l m (bx a (dbl (dbl (bx a c)))) (bx b (dbl (dbl (bx b d)))) (bx c (dbl (dbl (bx a c)))) (bx d (dbl (dbl (bx b d))))
def preTo (b : List UInt8) : Nat → List UInt8
  | 0 => b
  | k + 1 => ucol (preTo b k) (4 * k) ((preTo b k).getD (4 * k) 0) ((preTo b k).getD (4 * k + 1) 0) ((preTo b k).getD (4 * k + 2) 0) ((preTo b k).getD (4 * k + 3) 0)
theorem preTo_len (b : List UInt8) (k : Nat) : (preTo b k).length = b.length := by
  induction k with
  | zero => rfl
  | succ k ih => simp [preTo, ucol, set4_len, ih]
def mixL (b : List UInt8) : List UInt8 := mixTo b 4
def unmixL (b : List UInt8) : List UInt8 := mixL (preTo b 4)
theorem mixL_len (b : List UInt8) : (mixL b).length = b.length := mixTo_len b 4
theorem unmixL_len (b : List UInt8) : (unmixL b).length = b.length := by unfold unmixL; rw [mixL_len, preTo_len]

/-! The table of substitutes, as it is made. -/
def pk : Nat → UInt8
  | 0 => 1
  | k + 1 => bx (pk k) (dbl (pk k))
def pows : List UInt8 := (List.range 255).map pk
theorem pows_len : pows.length = 255 := by simp [pows]
def subTo : Nat → List UInt8
  | 0 => (zeros 256).set 0 (sct 0)
  | k + 1 => (subTo k).set (pows.getD k 0).toNat (sct (pows.getD ((255 - k) % 255) 0))
theorem subTo_len (k : Nat) : (subTo k).length = 256 := by
  induction k with
  | zero => rw [subTo, List.length_set]; exact List.length_replicate
  | succ k ih => simp [subTo, ih]
def sbox : List UInt8 := subTo 255
theorem sbox_len : sbox.length = 256 := subTo_len 255
def origTo (t : List UInt8) : Nat → List UInt8
  | 0 => zeros 256
  | k + 1 => (origTo t k).set (t.getD k 0).toNat (UInt8.ofNat k)
theorem origTo_len (t : List UInt8) (k : Nat) : (origTo t k).length = 256 := by
  induction k with
  | zero => exact List.length_replicate
  | succ k ih => simp [origTo, ih]
def orig (t : List UInt8) : List UInt8 := origTo t 256

/-! Round keys. -/
def bx32 (x y : UInt32) : UInt32 := x ^^^ y
def byt (x : UInt32) (s : Nat) : UInt8 := UInt8.ofNat (x.toNat / s)
theorem byt_toNat (x : UInt32) (s : Nat) : (byt x s).toNat = x.toNat / s % 256 := by simp [byt]
def zeros32 (n : Nat) : List UInt32 := List.replicate n 0
def wordAt (key : List UInt8) (i : Nat) : UInt32 := jn (key.getD (4 * i) 0) (key.getD (4 * i + 1) 0) (key.getD (4 * i + 2) 0) (key.getD (4 * i + 3) 0)
def turned (t : List UInt8) (x : UInt32) (p : UInt8) : UInt32 := jn (bx (look t (byt x 65536)) p) (look t (byt x 256)) (look t (byt x 1)) (look t (byt x 16777216))
def wTo (t key : List UInt8) : Nat → List UInt32 × UInt8
  | 0 => (zeros32 44, 1)
  | i + 1 =>
    if i < 4 then ((wTo t key i).1.set i (wordAt key i), (wTo t key i).2)
    else if i % 4 = 0 then ((wTo t key i).1.set i (bx32 ((wTo t key i).1.getD (i - 4) 0) (turned t ((wTo t key i).1.getD (i - 1) 0) (wTo t key i).2)), dbl (wTo t key i).2)
    else ((wTo t key i).1.set i (bx32 ((wTo t key i).1.getD (i - 4) 0) ((wTo t key i).1.getD (i - 1) 0)), (wTo t key i).2)
theorem wTo_len (t key : List UInt8) (i : Nat) : (wTo t key i).1.length = 44 := by
  induction i with
  | zero => exact List.length_replicate
  | succ i ih =>
    simp only [wTo]
    split
    · simp [ih]
    · split <;> simp [ih]
def words (t key : List UInt8) : List UInt32 := (wTo t key 44).1
theorem words_len (t key : List UInt8) : (words t key).length = 44 := wTo_len t key 44
def keyByte (ws : List UInt32) (j : Nat) : UInt8 := byt (ws.getD (j / 4) 0) (2 ^ (24 - 8 * (j % 4)))
def keys (t key : List UInt8) : List UInt8 := (List.range 176).map (keyByte (words t key))
theorem keys_len (t key : List UInt8) : (keys t key).length = 176 := by simp [keys]

/-! Encrypting. -/
def rk (K : List UInt8) (r : Nat) : List UInt8 := (K.drop (r * 16)).take 16
theorem rk_len (K : List UInt8) (r : Nat) (hK : K.length = 176) (hr : r ≤ 10) : (rk K r).length = 16 := by simp [rk, hK]; omega
def encTo (t K b : List UInt8) : Nat → List UInt8
  | 0 => bxor b (rk K 0)
  | j + 1 => bxor (if j + 1 < 10 then mixL (turn (subst t (encTo t K b j)) 1) else turn (subst t (encTo t K b j)) 1) (rk K (j + 1))
theorem encTo_len (t K b : List UInt8) (j : Nat) : (encTo t K b j).length = 16 := by
  cases j <;> exact bxor_len _ _
def encrypt (key b : List UInt8) : List UInt8 := encTo sbox (keys sbox key) b 10
theorem encrypt_len (key b : List UInt8) : (encrypt key b).length = 16 := encTo_len _ _ _ _
def decTo (t u K b : List UInt8) : Nat → List UInt8
  | 0 => b
  | j + 1 => subst u (turn (if 10 - j < 10 then unmixL (bxor (decTo t u K b j) (rk K (10 - j))) else bxor (decTo t u K b j) (rk K (10 - j))) 3)
theorem decTo_len (t u K b : List UInt8) (j : Nat) (hb : b.length = 16) : (decTo t u K b j).length = 16 := by
  cases j
  · exact hb
  · exact subst_len _ _
def decrypt (key b : List UInt8) : List UInt8 := bxor (decTo sbox (orig sbox) (keys sbox key) b 10) (rk (keys sbox key) 0)
theorem decrypt_len (key b : List UInt8) : (decrypt key b).length = 16 := bxor_len _ _

end Go.Proofs.YthcokaffbgbanaaDoor.Gf

/- The walks of the functions on blocks of package aes: exclusive or, replacing, turning rows. -/
namespace Go.Proofs.YthcokaffbgbanaaDoor
open Go.RowKit

theorem Tryd.info23 : (Tryd.prog.info? 23).map (·.size) = some 16 := by kernel_rfl

set_option maxHeartbeats 400000 in
theorem against_any (a b : List UInt8) (ha : a.length = 16) (hb : b.length = 16) (w : World) :
    Calls Tryd.prog 70 #[.agg (ag a), .agg (ag b)] w fun e w' => e = .returned (.agg (ag (Gf.bxor a b))) ∧ Below w.heap.size w w' := by
  have hF : Gf.fill a (fun i => a.getD i 0 ^^^ b.getD i 0) 16 = Gf.bxor a b := Gf.fill_full _ _ _ ha
  have HF := show Hid _ from hF
  clear hF
  go_enter Tryd.func70, Tryd.ntmps70
  go_wp2
  go_loopw [6] (fun i wr => ∃ k : Nat, k ≤ 16 ∧ i = .int .i64 k ∧ Row wr w.heap.size 23 (ag (Gf.fill a (fun i => a.getD i 0 ^^^ b.getD i 0) k)) ∧ Row wr (w.heap.size + 1) 23 (ag b) ∧ Room wr (w.heap.size + 1 + 1) 23 16 ∧ Below w.heap.size w wr) (fun i _ => 16 - (intOf i).toNat)
  case atStart =>
    refine ⟨0, by omega, rfl, ?_, ?_, ?_, ?_⟩
    · exact ((Row.new _ _ _).alloc _).alloc _
    · simpa using (Row.new (w.alloc (.cells (ag a) 23)) 23 (ag b)).alloc _
    · simpa using Room.new ((w.alloc (.cells (ag a) 23)).alloc (.cells (ag b) 23)) 23 _ 16 rfl
    · exact (((Below.refl _ _).alloc (Nat.le_refl _) _).alloc (by simp) _).alloc (by simp; omega) _
  case round =>
    obtain ⟨k, hk, rfl, h1, h2, h3, hbl⟩ := hrel
    by_cases hlt : k < 16
    · have c1 := h1.byte (k := k) (by rw [Gf.fill_len, ha]; exact hlt)
      have f1 := h1.frozen k
      have c2 := h2.byte (k := k) (by rw [hb]; exact hlt)
      rw [Gf.fill_get _ _ _ _ (Nat.le_refl _)] at c1
      go_wp2
      go_region
      go_wp2
      go_roundw
      case rel =>
        refine ⟨k + 1, by omega, by go_num, ?_, ?_, ?_, ?_⟩
        · have e : Gf.fill a (fun i => a.getD i 0 ^^^ b.getD i 0) (k + 1) = (Gf.fill a (fun i => a.getD i 0 ^^^ b.getD i 0) k).set k (a[k] ^^^ b[k]) := by simp [Gf.fill, ha, hb, hlt]
          rw [e, xor_u8]; exact (h1.setByte k _).drew
        · exact (h2.setOther _ _ (by simp)).drew
        · exact (h3.setOther _ _ (by simp; omega)).drew
        · exact (hbl.setCell (Nat.le_refl _) _).drew
      case measure => simp [intOf]; omega
    · have hk' : k = 16 := by omega
      subst hk'
      rw [HF.out] at h1
      have hl := Gf.bxor_len a b
      go_wp2_with (first
        | (refine wpList_load_row rfl 23 _ rfl _ rfl _ _ h1 _ Tryd.underlying23 rfl 16 Tryd.info23 (by rw [ag_size, hl]) ?_)
        | (refine wpList_store_row rfl 23 _ _ rfl _ rfl _ rfl _ _ h3 Tryd.info23 (by rw [ag_size, hl]) (ag_one _) ?_))
      exact bodyPost_ret (results_row rfl _ _ rfl _ _ (h3.setRow _) _ Tryd.underlying23 rfl 16 Tryd.info23 (by rw [ag_size, hl])) rfl ⟨rfl, below_setRow hbl (by omega) _⟩

theorem cell_form {w : World} {b k : Nat} {x y : UInt8} (h : w.cell? ⟨b, k, none⟩ = some (.int .u8 (x.toNat : Int))) (e : x = y) : w.cell? ⟨b, k, none⟩ = some (.int .u8 (y.toNat : Int)) := by rw [← e]; exact h

set_option maxHeartbeats 400000 in
theorem replace_any (b t : List UInt8) (hb : b.length = 16) (ht : t.length = 256) (w : World) (tb : Nat) (tt : TypeId) (htb : Row w tb tt (ag t)) :
    Calls Tryd.prog 72 #[.agg (ag b), .pointer (some ⟨tb, 0, none⟩)] w fun e w' => e = .returned (.agg (ag (Gf.subst t b))) ∧ Below w.heap.size w w' := by
  have hF : Gf.fill b (fun i => Gf.look t (b.getD i 0)) 16 = Gf.subst t b := Gf.fill_full _ _ _ hb
  have HF := show Hid _ from hF
  clear hF
  have hlt0 := htb.lt
  go_enter Tryd.func72, Tryd.ntmps72
  go_wp2
  go_loopw [6] (fun i wr => ∃ k : Nat, k ≤ 16 ∧ i = .int .i64 k ∧ Row wr w.heap.size 23 (ag (Gf.fill b (fun i => Gf.look t (b.getD i 0)) k)) ∧ Room wr (w.heap.size + 1) 23 16 ∧ Below w.heap.size w wr) (fun i _ => 16 - (intOf i).toNat)
  case atStart =>
    refine ⟨0, by omega, rfl, ?_, ?_, ?_⟩
    · exact (Row.new _ _ _).alloc _
    · simpa using Room.new (w.alloc (.cells (ag b) 23)) 23 _ 16 rfl
    · exact ((Below.refl _ _).alloc (Nat.le_refl _) _).alloc (by simp) _
  case round =>
    obtain ⟨k, hk, rfl, h1, h3, hbl⟩ := hrel
    by_cases hlt : k < 16
    · have c1 := h1.byte (k := k) (by rw [Gf.fill_len, hb]; exact hlt)
      have f1 := h1.frozen k
      rw [Gf.fill_get _ _ _ _ (Nat.le_refl _)] at c1
      obtain ⟨x, hx⟩ : ∃ x, b.getD k 0 = x := ⟨_, rfl⟩
      rw [hx] at c1
      have hxl : x.toNat < 256 := x.toNat_lt
      have c2 := (htb.below hbl hlt0).byte (k := x.toNat) (by rw [ht]; exact hxl)
      have e : Gf.fill b (fun i => Gf.look t (b.getD i 0)) (k + 1) = (Gf.fill b (fun i => Gf.look t (b.getD i 0)) k).set k (t.getD x.toNat 0) := by simp only [Gf.fill, hx, Gf.look]
      have HE := show Hid _ from e
      have hne : ¬ tb = w.heap.size := by omega
      clear hx e
      generalize t.getD x.toNat 0 = y at *
      go_wp2
      go_region
      go_wp2
      go_roundw
      case rel =>
        refine ⟨k + 1, by omega, by go_num, ?_, ?_, ?_⟩
        · rw [HE.out]; exact (h1.setByte k _).drew
        · exact (h3.setOther _ _ (by simp)).drew
        · exact (hbl.setCell (Nat.le_refl _) _).drew
      case measure => simp [intOf]; omega
    · have hk' : k = 16 := by omega
      subst hk'
      rw [HF.out] at h1
      have hl := Gf.subst_len t b
      go_wp2_with (first
        | (refine wpList_load_row rfl 23 _ rfl _ rfl _ _ h1 _ Tryd.underlying23 rfl 16 Tryd.info23 (by rw [ag_size, hl]) ?_)
        | (refine wpList_store_row rfl 23 _ _ rfl _ rfl _ rfl _ _ h3 Tryd.info23 (by rw [ag_size, hl]) (ag_one _) ?_))
      exact bodyPost_ret (results_row rfl _ _ rfl _ _ (h3.setRow _) _ Tryd.underlying23 rfl 16 Tryd.info23 (by rw [ag_size, hl])) rfl ⟨rfl, below_setRow hbl (by omega) _⟩

end Go.Proofs.YthcokaffbgbanaaDoor

/- A region that draws its order: its head only reads, its tail is forced. -/
namespace Go.Proofs.YthcokaffbgbanaaDoor

section
variable {P : Program} {ops : Array Oper} {w : World}

theorem still_of_quiet {o : Oper} {a : Act} {K K' : Act → Prop} (hk : ∀ a, K a → K' a) (h : o.quiet P a (fun w' => w' = w) K) : o.still P a w K' := by
  obtain ⟨v, h1, h2⟩ := h
  have h3 := h1 w rfl
  unfold Oper.quietAt at h3
  unfold Oper.still
  generalize (execOp a.eval o).run P w = r at *
  cases r with
  | ok n w' =>
    cases n <;> simp only [Oper.quietUpon] at h3 <;> simp only [Oper.stillUpon]
    case value u => obtain ⟨e1, e2⟩ := h3; subst e1 e2; exact ⟨rfl, hk _ h2⟩
    case skip => obtain ⟨e1, e2⟩ := h3; subst e1 e2; exact ⟨rfl, hk _ h2⟩
    case enter f args => obtain ⟨e1, e2⟩ := h3; subst e1; exact ⟨rfl, v, e2, hk _ h2⟩
  | halt x w' => simp only [Oper.quietUpon] at h3

theorem wpStill_of_quiet {Q : Act → Prop} : ∀ (l : List Oper) (a : Act), wpQuiet P ops (fun w' => w' = w) Q l a → wpStill P ops w Q l a
  | [], _, h => h
  | o :: rest, a, h => by
    unfold wpQuiet at h
    unfold wpStill
    split
    · rename_i hw
      simp only [hw, if_true] at h
      exact still_of_quiet (fun a' h' => wpStill_of_quiet rest a' h') h
    · rename_i hw
      simp only [hw] at h
      exact wpStill_of_quiet rest _ h
end

theorem wp_region_tail {P : Program} {id : Nat} {Q : Exit → Act → World → Prop} {a : Act} {w : World} {l : List Oper} (n : Nat) (hm : P.follows .mixedOrders = true) (hB : Region.lexTailB .any l.toArray n = true)
    (h : wpQuiet P l.toArray (fun w' => w' = w.drew) (fun a' => wpList P l.toArray Q (l.drop n) a' w.drew) (l.take n) a) : (Code.region id l.toArray true).wp P Q a w :=
  wp_region_still_tail n hm hB (wpStill_of_quiet _ _ h)

/-! A part of a row, as one value. -/
theorem Row.range {w : World} {b : Nat} {t : TypeId} {l : List UInt8} (h : Row w b t (ag l)) (o n : Nat) : w.rangeAt b o (((l.drop o).take n).map B) := fun j v hv => by
  rw [h.cell]
  simp only [List.getElem?_map, List.getElem?_take, List.getElem?_drop] at hv
  split at hv
  · simpa [ag] using hv
  · simp at hv

theorem run_load_part {P : Program} (w : World) (ty : TypeId) (b o : Nat) (t : TypeId) (l : List UInt8) (hr : Row w b t (ag l)) (d : TypeDesc) (hu : P.underlying ty = some d) (hd : d.isRow = true) (n : Nat) (hi : (P.info? ty).map (·.size) = some n) (hn : o + n ≤ l.length) :
    (Instr.loadAt ty (.pointer (some ⟨b, o, none⟩))).run P w = .ok (.agg (ag ((l.drop o).take n))) w :=
  run_loadAt_mid w b o ty _ d (hr.range o n) hu hd (by rw [hi]; simp; omega)

theorem wpList_load_part {P : Program} {ops : Array Oper} {rest : List Oper} {op : Oper} {a : Act} {w : World} {Q : Exit → Act → World → Prop} (hgd : op.guard = none) (ty : TypeId) (x : Operand) (ho : op.op = .load ty x) (b o : Nat) (hx : a.eval x = .pointer (some ⟨b, o, none⟩))
    (t : TypeId) (l : List UInt8) (hr : Row w b t (ag l)) (d : TypeDesc) (hu : P.underlying ty = some d) (hd : d.isRow = true) (n : Nat) (hi : (P.info? ty).map (·.size) = some n) (hn : o + n ≤ l.length)
    (h : wpList P ops Q rest (a.put op.dst (.agg (ag ((l.drop o).take n)))) w) : wpList P ops Q (op :: rest) a w :=
  wpList_load_mid hgd ty x ho b o hx _ d (hr.range o n) hu hd (by rw [hi]; simp; omega) h

theorem quiet_load_row {P : Program} {C : World → Prop} {K : Act → Prop} {op : Oper} {a : Act} (ty : TypeId) (x : Operand) (ho : op.op = .load ty x) (b : Nat) (hx : a.eval x = .pointer (some ⟨b, 0, none⟩))
    (t : TypeId) (c : Array Value) (hr : ∀ w, C w → Row w b t c) (d : TypeDesc) (hu : P.underlying ty = some d) (hd : (match d with | .struct _ | .array _ _ => true | _ => false) = true) (n : Nat) (hi : (P.info? ty).map (·.size) = some n) (hn : c.size = n)
    (h : K (a.put op.dst (.agg c))) : op.quiet P a C K :=
  ⟨_, fun w hw => by
    have hrun := run_loadVar_row (P := P) w b t ty c (0, 0) d (hr w hw) hu hd (by rw [hn]; exact hi)
    unfold Oper.quietAt execOp
    simp only [ho, hx, Instr.loadAt, Instr.sureAddr, Sem.run_bind, Sem.run_pure, hrun, Result.andThen_ok]
    exact ⟨rfl, rfl⟩, h⟩

theorem quiet_load_part {P : Program} {C : World → Prop} {K : Act → Prop} {op : Oper} {a : Act} (ty : TypeId) (x : Operand) (ho : op.op = .load ty x) (b o : Nat) (hx : a.eval x = .pointer (some ⟨b, o, none⟩))
    (t : TypeId) (l : List UInt8) (hr : ∀ w, C w → Row w b t (ag l)) (d : TypeDesc) (hu : P.underlying ty = some d) (hd : d.isRow = true) (n : Nat) (hi : (P.info? ty).map (·.size) = some n) (hn : o + n ≤ l.length)
    (h : K (a.put op.dst (.agg (ag ((l.drop o).take n))))) : op.quiet P a C K :=
  ⟨_, fun w hw => by
    have hrun := run_load_part (P := P) w ty b o t l (hr w hw) d hu hd n hi hn
    unfold Oper.quietAt execOp
    simp only [ho, hx, Sem.run_bind, hrun, Result.andThen_ok]
    exact ⟨rfl, rfl⟩, h⟩

end Go.Proofs.YthcokaffbgbanaaDoor

/- One block that the standard fixes, by the kernel. -/
namespace Go.Proofs.YthcokaffbgbanaaDoor.Gf

def powsLit : List UInt8 := [1, 3, 5, 15, 17, 51, 85, 255, 26, 46, 114, 150, 161, 248, 19, 53, 95, 225, 56, 72, 216, 115, 149, 164, 247, 2, 6, 10, 30, 34, 102, 170, 229, 52, 92, 228, 55, 89, 235, 38, 106, 190, 217, 112, 144, 171, 230, 49, 83, 245, 4, 12, 20, 60, 68, 204, 79, 209, 104, 184, 211, 110, 178, 205, 76, 212, 103, 169, 224, 59, 77, 215, 98, 166, 241, 8, 24, 40, 120, 136, 131, 158, 185, 208, 107, 189, 220, 127, 129, 152, 179, 206, 73, 219, 118, 154, 181, 196, 87, 249, 16, 48, 80, 240, 11, 29, 39, 105, 187, 214, 97, 163, 254, 25, 43, 125, 135, 146, 173, 236, 47, 113, 147, 174, 233, 32, 96, 160, 251, 22, 58, 78, 210, 109, 183, 194, 93, 231, 50, 86, 250, 21, 63, 65, 195, 94, 226, 61, 71, 201, 64, 192, 91, 237, 44, 116, 156, 191, 218, 117, 159, 186, 213, 100, 172, 239, 42, 126, 130, 157, 188, 223, 122, 142, 137, 128, 155, 182, 193, 88, 232, 35, 101, 175, 234, 37, 111, 177, 200, 67, 197, 84, 252, 31, 33, 99, 165, 244, 7, 9, 27, 45, 119, 153, 176, 203, 70, 202, 69, 207, 74, 222, 121, 139, 134, 145, 168, 227, 62, 66, 198, 81, 243, 14, 18, 54, 90, 238, 41, 123, 141, 140, 143, 138, 133, 148, 167, 242, 13, 23, 57, 75, 221, 124, 132, 151, 162, 253, 28, 36, 108, 180, 199, 82, 246]
def sboxLit : List UInt8 := [99, 124, 119, 123, 242, 107, 111, 197, 48, 1, 103, 43, 254, 215, 171, 118, 202, 130, 201, 125, 250, 89, 71, 240, 173, 212, 162, 175, 156, 164, 114, 192, 183, 253, 147, 38, 54, 63, 247, 204, 52, 165, 229, 241, 113, 216, 49, 21, 4, 199, 35, 195, 24, 150, 5, 154, 7, 18, 128, 226, 235, 39, 178, 117, 9, 131, 44, 26, 27, 110, 90, 160, 82, 59, 214, 179, 41, 227, 47, 132, 83, 209, 0, 237, 32, 252, 177, 91, 106, 203, 190, 57, 74, 76, 88, 207, 208, 239, 170, 251, 67, 77, 51, 133, 69, 249, 2, 127, 80, 60, 159, 168, 81, 163, 64, 143, 146, 157, 56, 245, 188, 182, 218, 33, 16, 255, 243, 210, 205, 12, 19, 236, 95, 151, 68, 23, 196, 167, 126, 61, 100, 93, 25, 115, 96, 129, 79, 220, 34, 42, 144, 136, 70, 238, 184, 20, 222, 94, 11, 219, 224, 50, 58, 10, 73, 6, 36, 92, 194, 211, 172, 98, 145, 149, 228, 121, 231, 200, 55, 109, 141, 213, 78, 169, 108, 86, 244, 234, 101, 122, 174, 8, 186, 120, 37, 46, 28, 166, 180, 198, 232, 221, 116, 31, 75, 189, 139, 138, 112, 62, 181, 102, 72, 3, 246, 14, 97, 53, 87, 185, 134, 193, 29, 158, 225, 248, 152, 17, 105, 217, 142, 148, 155, 30, 135, 233, 206, 85, 40, 223, 140, 161, 137, 13, 191, 230, 66, 104, 65, 153, 45, 15, 176, 84, 187, 22]

theorem powsLit_step : ∀ k, k < 254 → powsLit.getD (k + 1) 0 = bx (powsLit.getD k 0) (dbl (powsLit.getD k 0)) := by decide +kernel
theorem pk_lit (k : Nat) (hk : k < 255) : pk k = powsLit.getD k 0 := by
  induction k with
  | zero => decide +kernel
  | succ k ih => rw [powsLit_step k (by omega), ← ih (by omega)]; rfl
theorem powsLit_map : (List.range 255).map (fun k => powsLit.getD k 0) = powsLit := by decide +kernel
theorem pows_lit : pows = powsLit := by
  have h : pows = (List.range 255).map (fun k => powsLit.getD k 0) := List.map_congr_left fun k hk => pk_lit k (by simpa using hk)
  rw [h, powsLit_map]
def subToL : Nat → List UInt8
  | 0 => (zeros 256).set 0 (sct 0)
  | k + 1 => (subToL k).set (powsLit.getD k 0).toNat (sct (powsLit.getD ((255 - k) % 255) 0))
theorem subTo_lit (k : Nat) : subTo k = subToL k := by
  induction k with
  | zero => rfl
  | succ k ih => rw [subTo, subToL, ih, pows_lit]
theorem sboxLit_eq : subToL 255 = sboxLit := by decide +kernel
theorem sbox_lit : sbox = sboxLit := by unfold sbox; rw [subTo_lit, sboxLit_eq]

def key0 : List UInt8 := [0, 1, 2, 3, 4, 5, 6, 7, 8, 9, 10, 11, 12, 13, 14, 15]
def blk0 : List UInt8 := [0, 17, 34, 51, 68, 85, 102, 119, 136, 153, 170, 187, 204, 221, 238, 255]
def out0 : List UInt8 := [0x69, 0xc4, 0xe0, 0xd8, 0x6a, 0x7b, 0x04, 0x30, 0xd8, 0xcd, 0xb7, 0x80, 0x70, 0xb4, 0xc5, 0x5a]
end Go.Proofs.YthcokaffbgbanaaDoor.Gf

/- The plain mathematics of AES there and back: each step of a round is taken back. -/
namespace Go.Proofs.YthcokaffbgbanaaDoor.Gf

theorem list16 (l : List UInt8) (h : l.length = 16) : ∃ a0 a1 a2 a3 a4 a5 a6 a7 a8 a9 a10 a11 a12 a13 a14 a15, l = [a0, a1, a2, a3, a4, a5, a6, a7, a8, a9, a10, a11, a12, a13, a14, a15] := by
  match l, h with
  | [a0, a1, a2, a3, a4, a5, a6, a7, a8, a9, a10, a11, a12, a13, a14, a15], _ => exact ⟨a0, a1, a2, a3, a4, a5, a6, a7, a8, a9, a10, a11, a12, a13, a14, a15, rfl⟩

theorem dbl_times : ∀ n, n < 256 → dblN n = timesN 2 n := by decide +kernel
theorem dbl_bx (x y : UInt8) : dbl (bx x y) = bx (dbl x) (dbl y) := by
  apply UInt8.toNat_inj.1
  unfold bx
  rw [UInt8.toNat_xor, dbl_toNat, dbl_toNat, dbl_toNat, UInt8.toNat_xor, dbl_times _ (Nat.xor_lt_two_pow (n := 8) x.toNat_lt y.toNat_lt), dbl_times _ x.toNat_lt, dbl_times _ y.toNat_lt, timesN_xor_right]

theorem bx_comm (x y : UInt8) : bx x y = bx y x := UInt8.xor_comm x y
theorem bx_assoc (x y z : UInt8) : bx (bx x y) z = bx x (bx y z) := UInt8.xor_assoc x y z
theorem bx_left (x y z : UInt8) : bx x (bx y z) = bx y (bx x z) := by rw [← bx_assoc, bx_comm x y, bx_assoc]
theorem bx_self (x : UInt8) : bx x x = 0 := UInt8.xor_self
theorem bx_zero (x : UInt8) : bx x 0 = x := UInt8.xor_zero
theorem zero_bx (x : UInt8) : bx 0 x = x := UInt8.zero_xor
theorem bx_self_left (x y : UInt8) : bx x (bx x y) = y := by rw [← bx_assoc, bx_self, zero_bx]

/-! One column. -/
def m0 (a b c d : UInt8) : UInt8 := bx a (bx (all4 a b c d) (dbl (bx a b)))
def u0 (a c : UInt8) : UInt8 := bx a (dbl (dbl (bx a c)))
theorem mm (a b c d : UInt8) : m0 (m0 a b c d) (m0 b c d a) (m0 c d a b) (m0 d a b c) = u0 a c := by
  simp only [m0, u0, all4, dbl_bx, bx_assoc]
  simp only [bx_left, bx_self_left]
theorem uu (a c : UInt8) : u0 (u0 a c) (u0 c a) = a := by
  simp only [u0, dbl_bx, bx_assoc]
  simp only [bx_comm, bx_left, bx_self, bx_zero, zero_bx]

theorem all4_rot (a b c d : UInt8) : all4 a b c d = all4 b c d a := by
  unfold all4; rw [bx_comm (bx (bx b c) d) a, bx_assoc, bx_assoc, bx_assoc]
theorem m1_eq (a b c d : UInt8) : bx b (bx (all4 a b c d) (dbl (bx b c))) = m0 b c d a := by unfold m0; rw [all4_rot a b c d]
theorem m2_eq (a b c d : UInt8) : bx c (bx (all4 a b c d) (dbl (bx c d))) = m0 c d a b := by unfold m0; rw [all4_rot a b c d, all4_rot b c d a]
theorem m3_eq (a b c d : UInt8) : bx d (bx (all4 a b c d) (dbl (bx d a))) = m0 d a b c := by unfold m0; rw [all4_rot a b c d, all4_rot b c d a, all4_rot c d a b]
theorem mixL_lit (a0 a1 a2 a3 a4 a5 a6 a7 a8 a9 a10 a11 a12 a13 a14 a15 : UInt8) : mixL [a0, a1, a2, a3, a4, a5, a6, a7, a8, a9, a10, a11, a12, a13, a14, a15] = [m0 a0 a1 a2 a3, m0 a1 a2 a3 a0, m0 a2 a3 a0 a1, m0 a3 a0 a1 a2, m0 a4 a5 a6 a7, m0 a5 a6 a7 a4, m0 a6 a7 a4 a5, m0 a7 a4 a5 a6, m0 a8 a9 a10 a11, m0 a9 a10 a11 a8, m0 a10 a11 a8 a9, m0 a11 a8 a9 a10, m0 a12 a13 a14 a15, m0 a13 a14 a15 a12, m0 a14 a15 a12 a13, m0 a15 a12 a13 a14] := by
  have h : mixL [a0, a1, a2, a3, a4, a5, a6, a7, a8, a9, a10, a11, a12, a13, a14, a15] = [bx a0 (bx (all4 a0 a1 a2 a3) (dbl (bx a0 a1))), bx a1 (bx (all4 a0 a1 a2 a3) (dbl (bx a1 a2))), bx a2 (bx (all4 a0 a1 a2 a3) (dbl (bx a2 a3))), bx a3 (bx (all4 a0 a1 a2 a3) (dbl (bx a3 a0))), bx a4 (bx (all4 a4 a5 a6 a7) (dbl (bx a4 a5))), bx a5 (bx (all4 a4 a5 a6 a7) (dbl (bx a5 a6))), bx a6 (bx (all4 a4 a5 a6 a7) (dbl (bx a6 a7))), bx a7 (bx (all4 a4 a5 a6 a7) (dbl (bx a7 a4))), bx a8 (bx (all4 a8 a9 a10 a11) (dbl (bx a8 a9))), bx a9 (bx (all4 a8 a9 a10 a11) (dbl (bx a9 a10))), bx a10 (bx (all4 a8 a9 a10 a11) (dbl (bx a10 a11))), bx a11 (bx (all4 a8 a9 a10 a11) (dbl (bx a11 a8))), bx a12 (bx (all4 a12 a13 a14 a15) (dbl (bx a12 a13))), bx a13 (bx (all4 a12 a13 a14 a15) (dbl (bx a13 a14))), bx a14 (bx (all4 a12 a13 a14 a15) (dbl (bx a14 a15))), bx a15 (bx (all4 a12 a13 a14 a15) (dbl (bx a15 a12)))] := by kernel_rfl
  rw [h]; simp only [m1_eq, m2_eq, m3_eq]; rfl
theorem preTo_lit (a0 a1 a2 a3 a4 a5 a6 a7 a8 a9 a10 a11 a12 a13 a14 a15 : UInt8) : preTo [a0, a1, a2, a3, a4, a5, a6, a7, a8, a9, a10, a11, a12, a13, a14, a15] 4 = [u0 a0 a2, u0 a1 a3, u0 a2 a0, u0 a3 a1, u0 a4 a6, u0 a5 a7, u0 a6 a4, u0 a7 a5, u0 a8 a10, u0 a9 a11, u0 a10 a8, u0 a11 a9, u0 a12 a14, u0 a13 a15, u0 a14 a12, u0 a15 a13] := by
  have h : preTo [a0, a1, a2, a3, a4, a5, a6, a7, a8, a9, a10, a11, a12, a13, a14, a15] 4 = [bx a0 (dbl (dbl (bx a0 a2))), bx a1 (dbl (dbl (bx a1 a3))), bx a2 (dbl (dbl (bx a0 a2))), bx a3 (dbl (dbl (bx a1 a3))), bx a4 (dbl (dbl (bx a4 a6))), bx a5 (dbl (dbl (bx a5 a7))), bx a6 (dbl (dbl (bx a4 a6))), bx a7 (dbl (dbl (bx a5 a7))), bx a8 (dbl (dbl (bx a8 a10))), bx a9 (dbl (dbl (bx a9 a11))), bx a10 (dbl (dbl (bx a8 a10))), bx a11 (dbl (dbl (bx a9 a11))), bx a12 (dbl (dbl (bx a12 a14))), bx a13 (dbl (dbl (bx a13 a15))), bx a14 (dbl (dbl (bx a12 a14))), bx a15 (dbl (dbl (bx a13 a15)))] := by kernel_rfl
  rw [h]
  simp only [u0, bx_comm a2 a0, bx_comm a3 a1, bx_comm a6 a4, bx_comm a7 a5, bx_comm a10 a8, bx_comm a11 a9, bx_comm a14 a12, bx_comm a15 a13]
theorem mix_mix (l : List UInt8) (h : l.length = 16) : mixL (mixL l) = preTo l 4 := by
  obtain ⟨a0, a1, a2, a3, a4, a5, a6, a7, a8, a9, a10, a11, a12, a13, a14, a15, rfl⟩ := list16 l h
  rw [mixL_lit, mixL_lit, preTo_lit]
  simp only [mm]
theorem pre_pre (l : List UInt8) (h : l.length = 16) : preTo (preTo l 4) 4 = l := by
  obtain ⟨a0, a1, a2, a3, a4, a5, a6, a7, a8, a9, a10, a11, a12, a13, a14, a15, rfl⟩ := list16 l h
  rw [preTo_lit, preTo_lit]
  simp only [uu]
theorem unmix_mix (l : List UInt8) (h : l.length = 16) : unmixL (mixL l) = l := by
  have h1 : (mixL l).length = 16 := by rw [mixL_len]; exact h
  have h2 : (mixL (mixL l)).length = 16 := by rw [mixL_len]; exact h1
  unfold unmixL
  rw [← mix_mix _ h1, mix_mix (mixL (mixL l)) h2, mix_mix l h, pre_pre l h]
theorem mix_unmix (l : List UInt8) (h : l.length = 16) : mixL (unmixL l) = l := by
  have h1 : (preTo l 4).length = 16 := by rw [preTo_len]; exact h
  unfold unmixL
  rw [mix_mix _ h1, pre_pre l h]

/-! The other steps. -/
theorem bxor_bxor (a k : List UInt8) (h : a.length = 16) (hk : k.length = 16) : bxor (bxor a k) k = a := by
  obtain ⟨a0, a1, a2, a3, a4, a5, a6, a7, a8, a9, a10, a11, a12, a13, a14, a15, rfl⟩ := list16 a h
  obtain ⟨b0, b1, b2, b3, b4, b5, b6, b7, b8, b9, b10, b11, b12, b13, b14, b15, rfl⟩ := list16 k hk
  have e : ∀ x y : UInt8, (x ^^^ y) ^^^ y = x := fun x y => by rw [UInt8.xor_assoc, UInt8.xor_self, UInt8.xor_zero]
  have h : ∀ (x y : List UInt8), bxor x y = (List.range 16).map fun i => x.getD i 0 ^^^ y.getD i 0 := fun _ _ => rfl
  rw [h, h]
  simp [List.range_succ, e]
theorem turn_13 (a : List UInt8) (h : a.length = 16) : turn (turn a 1) 3 = a := by
  obtain ⟨a0, a1, a2, a3, a4, a5, a6, a7, a8, a9, a10, a11, a12, a13, a14, a15, rfl⟩ := list16 a h
  rfl
theorem turn_31 (a : List UInt8) (h : a.length = 16) : turn (turn a 3) 1 = a := by
  obtain ⟨a0, a1, a2, a3, a4, a5, a6, a7, a8, a9, a10, a11, a12, a13, a14, a15, rfl⟩ := list16 a h
  rfl
theorem subst_subst (T U a : List UInt8) (h : a.length = 16) (hT : ∀ x, look U (look T x) = x) : subst U (subst T a) = a := by
  obtain ⟨a0, a1, a2, a3, a4, a5, a6, a7, a8, a9, a10, a11, a12, a13, a14, a15, rfl⟩ := list16 a h
  simp [subst, List.range_succ, hT]

/-! The table and the table back. -/
def invLit : List UInt8 := [82, 9, 106, 213, 48, 54, 165, 56, 191, 64, 163, 158, 129, 243, 215, 251, 124, 227, 57, 130, 155, 47, 255, 135, 52, 142, 67, 68, 196, 222, 233, 203, 84, 123, 148, 50, 166, 194, 35, 61, 238, 76, 149, 11, 66, 250, 195, 78, 8, 46, 161, 102, 40, 217, 36, 178, 118, 91, 162, 73, 109, 139, 209, 37, 114, 248, 246, 100, 134, 104, 152, 22, 212, 164, 92, 204, 93, 101, 182, 146, 108, 112, 72, 80, 253, 237, 185, 218, 94, 21, 70, 87, 167, 141, 157, 132, 144, 216, 171, 0, 140, 188, 211, 10, 247, 228, 88, 5, 184, 179, 69, 6, 208, 44, 30, 143, 202, 63, 15, 2, 193, 175, 189, 3, 1, 19, 138, 107, 58, 145, 17, 65, 79, 103, 220, 234, 151, 242, 207, 206, 240, 180, 230, 115, 150, 172, 116, 34, 231, 173, 53, 133, 226, 249, 55, 232, 28, 117, 223, 110, 71, 241, 26, 113, 29, 41, 197, 137, 111, 183, 98, 14, 170, 24, 190, 27, 252, 86, 62, 75, 198, 210, 121, 32, 154, 219, 192, 254, 120, 205, 90, 244, 31, 221, 168, 51, 136, 7, 199, 49, 177, 18, 16, 89, 39, 128, 236, 95, 96, 81, 127, 169, 25, 181, 74, 13, 45, 229, 122, 159, 147, 201, 156, 239, 160, 224, 59, 77, 174, 42, 245, 176, 200, 235, 187, 60, 131, 83, 153, 97, 23, 43, 4, 126, 186, 119, 214, 38, 225, 105, 20, 99, 85, 33, 12, 125]
theorem orig_lit : orig sboxLit = invLit := by decide +kernel
theorem box1 : ∀ n, n < 256 → look invLit (look sboxLit (UInt8.ofNat n)) = UInt8.ofNat n := by decide +kernel
theorem box2 : ∀ n, n < 256 → look sboxLit (look invLit (UInt8.ofNat n)) = UInt8.ofNat n := by decide +kernel
theorem back1 (x : UInt8) : look (orig sbox) (look sbox x) = x := by
  rw [sbox_lit, orig_lit]
  have h := box1 x.toNat x.toNat_lt
  rw [UInt8.ofNat_toNat] at h; exact h
theorem back2 (x : UInt8) : look sbox (look (orig sbox) x) = x := by
  rw [sbox_lit, orig_lit]
  have h := box2 x.toNat x.toNat_lt
  rw [UInt8.ofNat_toNat] at h; exact h

/-! There and back. -/
theorem dec_enc (T U K b : List UInt8) (hK : K.length = 176) (h1 : ∀ x, look U (look T x) = x) (j : Nat) (hj : j ≤ 10) : decTo T U K (encTo T K b 10) j = encTo T K b (10 - j) := by
  induction j with
  | zero => rfl
  | succ j ih =>
    obtain ⟨r, hr⟩ : ∃ r, 10 - j = r + 1 := ⟨10 - j - 1, by omega⟩
    have hr' : 10 - (j + 1) = r := by omega
    have hl := encTo_len T K b r
    have hs := subst_len T (encTo T K b r)
    have ht := turn_len (subst T (encTo T K b r)) 1
    have hm : (mixL (turn (subst T (encTo T K b r)) 1)).length = 16 := by rw [mixL_len]; exact ht
    have hk := rk_len K (r + 1) hK (by omega)
    simp only [decTo]
    rw [ih (by omega), hr, hr']
    by_cases h9 : r + 1 < 10
    · simp only [encTo, h9, if_true]
      rw [bxor_bxor _ _ hm hk, unmix_mix _ ht, turn_13 _ hs, subst_subst T U _ hl h1]
    · simp only [encTo, h9, if_false]
      rw [bxor_bxor _ _ ht hk, turn_13 _ hs, subst_subst T U _ hl h1]
theorem decrypt_encrypt (key b : List UInt8) (hb : b.length = 16) : decrypt key (encrypt key b) = b := by
  have hK := keys_len sbox key
  have h := dec_enc sbox (orig sbox) (keys sbox key) b hK back1 10 (Nat.le_refl _)
  have hk := rk_len (keys sbox key) 0 hK (by omega)
  show bxor (decTo sbox (orig sbox) (keys sbox key) (encTo sbox (keys sbox key) b 10) 10) (rk (keys sbox key) 0) = b
  rw [h]
  show bxor (bxor b (rk (keys sbox key) 0)) (rk (keys sbox key) 0) = b
  exact bxor_bxor _ _ hb hk
theorem enc_dec (T U K b : List UInt8) (hb : b.length = 16) (hK : K.length = 176) (h2 : ∀ x, look T (look U x) = x) (j : Nat) (hj : j ≤ 10) : encTo T K (bxor (decTo T U K b 10) (rk K 0)) j = decTo T U K b (10 - j) := by
  induction j with
  | zero => exact bxor_bxor _ _ (decTo_len T U K b 10 hb) (rk_len K 0 hK (by omega))
  | succ j ih =>
    obtain ⟨m, hm⟩ : ∃ m, 10 - j = m + 1 := ⟨10 - j - 1, by omega⟩
    have hm' : 10 - (j + 1) = m := by omega
    have hr : 10 - m = j + 1 := by omega
    have hl := decTo_len T U K b m hb
    have hk := rk_len K (j + 1) hK hj
    have hx := bxor_len (decTo T U K b m) (rk K (j + 1))
    have hu : (unmixL (bxor (decTo T U K b m) (rk K (j + 1)))).length = 16 := by rw [unmixL_len]; exact hx
    simp only [encTo]
    rw [ih (by omega), hm, hm']
    by_cases h9 : j + 1 < 10
    · simp only [decTo, hr, h9, if_true]
      rw [subst_subst U T _ (turn_len _ _) h2, turn_31 _ hu, mix_unmix _ hx, bxor_bxor _ _ hl hk]
    · simp only [decTo, hr, h9, if_false]
      rw [subst_subst U T _ (turn_len _ _) h2, turn_31 _ hx, bxor_bxor _ _ hl hk]
theorem encrypt_decrypt (key b : List UInt8) (hb : b.length = 16) : encrypt key (decrypt key b) = b :=
  enc_dec sbox (orig sbox) (keys sbox key) b hb (keys_len sbox key) back2 10 (Nat.le_refl _)
theorem encrypt_inj (key a b : List UInt8) (ha : a.length = 16) (hb : b.length = 16) : encrypt key a = encrypt key b ↔ a = b := by
  constructor
  · intro h
    rw [← decrypt_encrypt key a ha, ← decrypt_encrypt key b hb, h]
  · intro h; rw [h]

end Go.Proofs.YthcokaffbgbanaaDoor.Gf

/- The plain mathematics of package ocb: blocks as two numbers, doubles. -/
namespace Go.Proofs.YthcokaffbgbanaaDoor.Gf
def numTo (b : List UInt8) (o : Nat) : Nat → Nat
  | 0 => 0
  | k + 1 => numTo b o k * 256 + (b.getD (o + k) 0).toNat
theorem numTo_lt (b : List UInt8) (o k : Nat) : numTo b o k < 256 ^ k := by
  induction k with
  | zero => simp [numTo]
  | succ k ih =>
    have := (b.getD (o + k) 0).toNat_lt
    simp only [numTo, Nat.pow_succ]
    omega
theorem numTo_lt7 (b : List UInt8) (o k : Nat) (h : k < 8) : numTo b o k < 72057594037927936 :=
  Nat.lt_of_lt_of_le (numTo_lt b o k) (by have := Nat.pow_le_pow_right (n := 256) (by decide) (show k ≤ 7 by omega); simpa using this)
theorem numTo_lt8 (b : List UInt8) (o : Nat) : numTo b o 8 < 18446744073709551616 := by have := numTo_lt b o 8; simpa using this
def half (b : List UInt8) (o : Nat) : Nat := numTo b o 8
def jTo (h l : Nat) : Nat → List UInt8
  | 0 => zeros 16
  | k + 1 => ((jTo h l k).set k (UInt8.ofNat (h / 2 ^ (56 - 8 * k)))).set (k + 8) (UInt8.ofNat (l / 2 ^ (56 - 8 * k)))
theorem jTo_len (h l k : Nat) : (jTo h l k).length = 16 := by
  induction k with
  | zero => rfl
  | succ k ih => simp [jTo, ih]
def joinL (h l : Nat) : List UInt8 := jTo h l 8
theorem joinL_len (h l : Nat) : (joinL h l).length = 16 := jTo_len h l 8
def dblk (b : List UInt8) : List UInt8 := joinL ((half b 0 * 2 % 2 ^ 64) ||| (half b 8 / 2 ^ 63)) ((half b 8 * 2 % 2 ^ 64) ^^^ (half b 0 / 2 ^ 63 * 135))
theorem dblk_len (b : List UInt8) : (dblk b).length = 16 := joinL_len _ _
end Go.Proofs.YthcokaffbgbanaaDoor.Gf
