/- Laws on whole rows of bytes: what a world holds in a block, and the load and the store of a whole array. Widths: the tables, what is in spans, widths of numbers and of texts. -/
import Derived.WalkKit
import Derived.WalkSpells
import Derived.WalkLawsBesides
import Derived.Deep.WholeRow
import Derived.Laws.CopyOwn
import Derived.Deep.Draws
namespace Go.Proofs.Ytnbonlkmadmpcaa
open Go.RowKit
def B (x : UInt8) : Value := .int .u8 (x.toNat : Int)
/-- The block b holds the cells c. -/
def Row (w : World) (b : Nat) (t : TypeId) (c : Array Value) : Prop := w.heap[b]? = some (.cells c t (0, 0))
theorem Row.lt {w : World} {b : Nat} {t : TypeId} {c : Array Value} (h : Row w b t c) : b < w.heap.size := (Array.getElem?_eq_some_iff.1 h).1
theorem Row.cell {w : World} {b : Nat} {t : TypeId} {c : Array Value} (h : Row w b t c) (k : Nat) : w.cell? ⟨b, k, none⟩ = c[k]? := cell_of_row w b k c t (0, 0) h
theorem Row.frozen {w : World} {b : Nat} {t : TypeId} {c : Array Value} (h : Row w b t c) (k : Nat) : w.frozen? ⟨b, k, none⟩ = false := by
  have h' : w.heap[b]? = some (.cells c t (0, 0)) := h
  simp [World.frozen?, h']
theorem Row.drew {w : World} {b : Nat} {t : TypeId} {c : Array Value} (h : Row w b t c) : Row w.drew b t c := h
theorem Row.drewN {w : World} {b : Nat} {t : TypeId} {c : Array Value} (h : Row w b t c) (n : Nat) : Row (w.drewN n) b t c := h
theorem Row.alloc {w : World} {b : Nat} {t : TypeId} {c : Array Value} (h : Row w b t c) (o : Obj) : Row (w.alloc o) b t c := by
  have := h.lt
  show (w.alloc o).heap[b]? = _
  rw [Below.heap_alloc _ _ _ this]; exact h
theorem Row.new (w : World) (t : TypeId) (c : Array Value) : Row (w.alloc (.cells c t)) w.heap.size t c := heap_alloc_last w _
theorem Row.made (w : World) (t : TypeId) (c c' : Array Value) (N : Nat) (h : c = c') (hN : N = w.heap.size) : Row (w.alloc (.cells c t)) N t c' := by subst h hN; exact Row.new w t c
theorem Row.setCell {w : World} {b : Nat} {t : TypeId} {c : Array Value} (h : Row w b t c) (k : Nat) (v : Value) : Row (w.setCell ⟨b, k, none⟩ v) b t (c.setIfInBounds k v) := by
  have h' : w.heap[b]? = some (.cells c t (0, 0)) := h
  unfold Row World.setCell
  rw [Array.getElem?_modify]
  simp [h']
theorem Row.setOther {w : World} {b : Nat} {t : TypeId} {c : Array Value} (h : Row w b t c) (a : Addr) (v : Value) (hb : b ≠ a.block) : Row (w.setCell a v) b t c := by
  show (w.setCell a v).heap[b]? = _
  rw [Below.heap_setCell _ _ _ _ hb]; exact h
theorem Row.setRow {w : World} {b : Nat} {t : TypeId} {c : Array Value} (h : Row w b t c) (c' : Array Value) : Row (w.setRow b c') b t c' := setRow_heap w b c c' t (0, 0) h
theorem Row.setRowOther {w : World} {b : Nat} {t : TypeId} {c : Array Value} (h : Row w b t c) (g : Nat) (c' : Array Value) (hb : b ≠ g) : Row (w.setRow g c') b t c := by
  show (w.setRow g c').heap[b]? = _
  rw [setRow_other _ _ _ _ hb]; exact h
theorem Row.below {N : Nat} {w w' : World} {b : Nat} {t : TypeId} {c : Array Value} (h : Row w b t c) (hb : Below N w w') (hn : b < N) : Row w' b t c := by
  show w'.heap[b]? = _
  rw [hb.block b hn]; exact h
theorem Below.drewN {N : Nat} {w w' : World} (h : Below N w w') (n : Nat) : Below N w (w'.drewN n) := ⟨h.os, h.tape, h.output, h.size, h.block⟩
/-- The block b has n cells, whatever they hold. -/
def Room (w : World) (b : Nat) (t : TypeId) (n : Nat) : Prop := ∃ c, Row w b t c ∧ c.size = n
theorem Room.drewN {w : World} {b : Nat} {t : TypeId} {n : Nat} (h : Room w b t n) (k : Nat) : Room (w.drewN k) b t n := h
theorem Room.drew {w : World} {b : Nat} {t : TypeId} {n : Nat} (h : Room w b t n) : Room w.drew b t n := h
theorem Room.alloc {w : World} {b : Nat} {t : TypeId} {n : Nat} (h : Room w b t n) (o : Obj) : Room (w.alloc o) b t n := let ⟨c, h, e⟩ := h; ⟨c, h.alloc o, e⟩
theorem Room.new (w : World) (t : TypeId) (c : Array Value) (n : Nat) (h : c.size = n) : Room (w.alloc (.cells c t)) w.heap.size t n := ⟨c, Row.new w t c, h⟩
theorem Room.made (w : World) (t : TypeId) (c : Array Value) (n N : Nat) (h : c.size = n) (hN : N = w.heap.size) : Room (w.alloc (.cells c t)) N t n := by subst hN; exact Room.new w t c n h
theorem Room.setOther {w : World} {b : Nat} {t : TypeId} {n : Nat} (h : Room w b t n) (a : Addr) (v : Value) (hb : b ≠ a.block) : Room (w.setCell a v) b t n := let ⟨c, h, e⟩ := h; ⟨c, h.setOther a v hb, e⟩
theorem Room.setRowOther {w : World} {b : Nat} {t : TypeId} {n : Nat} (h : Room w b t n) (g : Nat) (c' : Array Value) (hb : b ≠ g) : Room (w.setRow g c') b t n := let ⟨c, h, e⟩ := h; ⟨c, h.setRowOther g c' hb, e⟩
theorem Room.below {N : Nat} {w w' : World} {b : Nat} {t : TypeId} {n : Nat} (h : Room w b t n) (hb : Below N w w') (hn : b < N) : Room w' b t n := let ⟨c, h, e⟩ := h; ⟨c, h.below hb hn, e⟩
theorem Row.room {w : World} {b : Nat} {t : TypeId} {c : Array Value} (h : Row w b t c) {n : Nat} (e : c.size = n) : Room w b t n := ⟨c, h, e⟩
section
variable {P : Program} {ops : Array Oper} {rest : List Oper} {op : Oper} {a : Act} {w : World} {Q : Exit → Act → World → Prop}
theorem wp_load_row {K : Act → World → Prop} (ty : TypeId) (x : Operand) (ho : op.op = .load ty x) (b : Nat) (hx : a.eval x = .pointer (some ⟨b, 0, none⟩))
    (t : TypeId) (c : Array Value) (hr : Row w b t c) (d : TypeDesc) (hu : P.underlying ty = some d) (hd : (match d with | .struct _ | .array _ _ => true | _ => false) = true) (n : Nat) (hi : (P.info? ty).map (·.size) = some n) (hn : c.size = n)
    (h : K (a.put op.dst (.agg c)) w) : op.wp P a w K Q := by
  have hrun := run_loadVar_row (P := P) w b t ty c (0, 0) d hr hu hd (by rw [hn]; exact hi)
  unfold Oper.wp execOp
  simp only [ho, hx, Instr.loadAt, Instr.sureAddr, Sem.run_bind, Sem.run_pure, Result.andThen_ok, hrun]
  exact h
theorem wpList_load_row (hgd : op.guard = none) (ty : TypeId) (x : Operand) (ho : op.op = .load ty x) (b : Nat) (hx : a.eval x = .pointer (some ⟨b, 0, none⟩))
    (t : TypeId) (c : Array Value) (hr : Row w b t c) (d : TypeDesc) (hu : P.underlying ty = some d) (hd : (match d with | .struct _ | .array _ _ => true | _ => false) = true) (n : Nat) (hi : (P.info? ty).map (·.size) = some n) (hn : c.size = n)
    (h : wpList P ops Q rest (a.put op.dst (.agg c)) w) : wpList P ops Q (op :: rest) a w :=
  wpList_plain hgd fun _ hK => wp_load_row ty x ho b hx t c hr d hu hd n hi hn (hK _ _ h)
theorem wp_store_row {K : Act → World → Prop} (ty : TypeId) (x y : Operand) (ho : op.op = .store ty x y) (b : Nat) (hx : a.eval x = .pointer (some ⟨b, 0, none⟩))
    (c' : Array Value) (hy : a.eval y = .agg c') (t : TypeId) (n : Nat) (hr : Room w b t n) (hi : (P.info? ty).map (·.size) = some n) (hs : c'.size = n) (h1 : c'.all (·.oneCell') = true)
    (h : K (a.put op.dst undef) (w.setRow b c')) : op.wp P a w K Q := by
  obtain ⟨c, hr, e⟩ := hr
  have hrun := run_storeVar_row (P := P) w b t ty c c' hr (by rw [hs]; exact hi) (by omega) h1
  unfold Oper.wp execOp
  simp only [ho, hx, hy, Instr.storeAt, Instr.sureAddr, Sem.run_bind, Sem.run_pure, Result.andThen_ok, hrun]
  exact h
theorem wpList_store_row (hgd : op.guard = none) (ty : TypeId) (x y : Operand) (ho : op.op = .store ty x y) (b : Nat) (hx : a.eval x = .pointer (some ⟨b, 0, none⟩))
    (c' : Array Value) (hy : a.eval y = .agg c') (t : TypeId) (n : Nat) (hr : Room w b t n) (hi : (P.info? ty).map (·.size) = some n) (hs : c'.size = n) (h1 : c'.all (·.oneCell') = true)
    (h : wpList P ops Q rest (a.put op.dst undef) (w.setRow b c')) : wpList P ops Q (op :: rest) a w :=
  wpList_plain hgd fun _ hK => wp_store_row ty x y ho b hx c' hy t n hr hi hs h1 (hK _ _ h)
theorem wpList_alloc_row (hgd : op.guard = none) (ty : TypeId) (ho : op.op = .alloc ty) (z : Array Value) (n : Nat) (hz : (P.info? ty).map (fun i => (i.zero, i.size)) = some (some (.agg z), n))
    (h : wpList P ops Q rest (a.put op.dst (.pointer (some ⟨w.heap.size, 0, none⟩))) (w.alloc (.cells z ty))) : wpList P ops Q (op :: rest) a w := by
  refine wpList_plain hgd fun K hK => ?_
  have hz' := (zero_of_info hz).1 w
  unfold Oper.wp execOp
  simp only [ho, Instr.alloc, Sem.run_bind, Sem.run_pure, hz', Result.andThen_ok, newVar, newRow, Value.cells, run_newObj_alloc]
  exact hK _ _ h
theorem run_index_arr (w : World) (xT e : TypeId) (n : Nat) (c : Array Value) (k : Nat) (v : Value) (ik ek : IntKind) (hu : P.underlying xT = some (.array n e)) (he : P.underlying e = some (.int ek))
    (hs : (P.info? e).map (·.size) = some 1) (hk : k < n) (hc : c[k]? = some v) : (Instr.index xT (.agg c) (.int ik (k : Int))).run P w = .ok v w := by
  cases hq : P.info? e with
  | none => simp [hq] at hs
  | some i =>
    have h1 : i.size = 1 := by simpa [hq] using hs
    simp [Instr.index, asIntOf, underlying, hu, part, isAgg, he, sizeOf, typeInfo, hq, h1, hk, hc]
theorem Room.setRow {w : World} {b : Nat} {t : TypeId} {n : Nat} (h : Room w b t n) (c' : Array Value) : Row (w.setRow b c') b t c' := let ⟨_, h, _⟩ := h; h.setRow c'
theorem results_row {fn : Func} {p : Tmp} {ty : TypeId} (hf : fn.results = #[.cell p ty]) (tmps : Array Value) (b : Nat) (hx : tmps.getD p undef = .pointer (some ⟨b, 0, none⟩))
    (t : TypeId) (c : Array Value) (hr : Row w b t c) (d : TypeDesc) (hu : P.underlying ty = some d) (hd : (match d with | .struct _ | .array _ _ => true | _ => false) = true) (n : Nat) (hi : (P.info? ty).map (·.size) = some n) (hn : c.size = n) :
    (results fn tmps).run P w = .ok (.agg c) w := by
  have hrun := run_loadVar_row (P := P) w b t ty c (0, 0) d hr hu hd (by rw [hn]; exact hi)
  have hx' : tmps[p]?.getD undef = .pointer (some ⟨b, 0, none⟩) := by simpa using hx
  simp only [results, hf]
  simp [hx', asAddr, hrun]
end
theorem tkS {α : Type} {a : α} {as : List α} {i : Nat} : (a :: as).take (i + 1) = a :: as.take i := rfl
theorem tkZ {α : Type} {l : List α} : l.take 0 = [] := rfl
theorem siB {α : Type} {l : List α} {i : Nat} {a : α} : l.toArray.setIfInBounds i a = (l.set i a).toArray := List.setIfInBounds_toArray l i a
theorem stS {α : Type} {x : α} {xs : List α} {n : Nat} {a : α} : (x :: xs).set (n + 1) a = x :: xs.set n a := rfl
theorem stZ {α : Type} {x : α} {xs : List α} {a : α} : (x :: xs).set 0 a = a :: xs := rfl
theorem bR {M : Nat} {w : World} : Go.RowKit.Below M w w := Go.RowKit.Below.refl M w
end Go.Proofs.Ytnbonlkmadmpcaa
namespace Go.Proofs.Ytnbonlkmadmpcaa
set_option linter.unusedVariables false
def wideL : List (Int × Int) := [(4352, 4447), (8986, 8987), (9001, 9002), (9193, 9196), (9725, 9726), (9748, 9749), (9800, 9811), (9889, 9889), (9917, 9918), (9989, 9989), (10024, 10024), (10060, 10060), (10067, 10069), (10133, 10135), (11035, 11036), (11088, 11088), (11904, 12350), (12353, 13311), (13312, 19903), (19968, 40959), (40960, 42191), (44032, 55203), (63744, 64255), (65072, 65135), (65281, 65376), (65504, 65510), (127744, 127776), (127789, 127797), (127799, 127868), (128000, 128062), (128064, 128064), (128066, 128252), (128512, 128591), (128640, 128709), (129280, 129535), (131072, 196605), (196608, 262141)]
def zeroL : List (Int × Int) := [(768, 879), (1155, 1161), (1425, 1469), (1471, 1471), (1473, 1474), (1552, 1562), (1611, 1631), (1750, 1756), (2304, 2306), (2364, 2364), (2369, 2376), (2381, 2381), (3633, 3633), (3636, 3642), (6832, 6911), (7616, 7679), (8203, 8207), (8234, 8238), (8288, 8292), (8400, 8447), (12330, 12333), (12441, 12442), (65024, 65039), (65056, 65071), (65279, 65279), (917760, 917999)]
def inF (l : List (Int × Int)) (c : Int) : Bool := l.any fun p => decide (p.1 ≤ c ∧ c ≤ p.2)
def hw (c : Int) : Bool := decide (32 ≤ c ∧ c ≤ 1114111) && !decide (127 ≤ c ∧ c ≤ 159) && !decide (55296 ≤ c ∧ c ≤ 57343)
def ofF (c : Int) : Int := if hw c then (if inF zeroL c then 0 else if inF wideL c then 2 else 1) else -1
/-- Spans that rise: none is empty, each begins behind the end of the one ahead. -/
def Rises (l : List (Int × Int)) : Prop := ∀ i, i < l.length → (l.getD i (0, 0)).1 ≤ (l.getD i (0, 0)).2 ∧ (0 < i → (l.getD (i - 1) (0, 0)).2 < (l.getD i (0, 0)).1)
theorem rises_wide : Rises wideL := by unfold Rises; decide +kernel
theorem rises_zero : Rises zeroL := by unfold Rises; decide +kernel
theorem Rises.le {l : List (Int × Int)} (h : Rises l) : ∀ d i, i + d < l.length → (l.getD i (0, 0)).1 ≤ (l.getD (i + d) (0, 0)).1 ∧ (l.getD i (0, 0)).2 ≤ (l.getD (i + d) (0, 0)).2
 | 0, i, _ => ⟨Int.le_refl _, Int.le_refl _⟩
 | d + 1, i, hi => by
  have h1 := h.le d i (by omega)
  have h2 := h (i + d) (by omega)
  have h3 := h (i + (d + 1)) hi
  have h4 := h3.2 (by omega)
  rw [show i + (d + 1) - 1 = i + d by omega] at h4
  omega
theorem in_iff (l : List (Int × Int)) (c : Int) : inF l c = true ↔ ∃ i, i < l.length ∧ (l.getD i (0, 0)).1 ≤ c ∧ c ≤ (l.getD i (0, 0)).2 := by
 unfold inF
 rw [List.any_eq_true]
 constructor
 ·rintro ⟨p, hp, h⟩
  obtain ⟨i, hi, rfl⟩ := List.mem_iff_getElem.1 hp
  exact ⟨i, hi, by simpa [hi] using h⟩
 ·rintro ⟨i, hi, h⟩
  exact ⟨l[i], List.getElem_mem hi, by simpa [hi] using h⟩
theorem in_none {l : List (Int × Int)} {c : Int} (h : ∀ i, i < l.length → ¬ ((l.getD i (0, 0)).1 ≤ c ∧ c ≤ (l.getD i (0, 0)).2)) : inF l c = false := by
 rw [Bool.eq_false_iff]
 intro h1
 obtain ⟨i, hi, h2⟩ := (in_iff l c).1 h1
 exact h i hi h2
theorem wide_lo : ∀ i, i < wideL.length → 768 ≤ (wideL.getD i (0, 0)).1 := by decide +kernel
theorem zero_lo : ∀ i, i < zeroL.length → 768 ≤ (zeroL.getD i (0, 0)).1 := by decide +kernel
theorem of_low {c : Int} (h : hw c = true) (hc : c < 768) : ofF c = 1 := by
 unfold ofF
 rw [if_pos h, in_none (fun i hi h => by have := zero_lo i hi; omega), in_none (fun i hi h => by have := wide_lo i hi; omega)]
 rfl
end Go.Proofs.Ytnbonlkmadmpcaa
