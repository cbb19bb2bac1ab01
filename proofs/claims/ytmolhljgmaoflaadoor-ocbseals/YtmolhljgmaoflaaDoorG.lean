/- A region that draws its order: its head only reads, its tail is forced. -/
import Derived.Test.YtmolhljgmaoflaaDoorL
import Derived.StillTail
import Derived.BigQuiet
import Derived.Deep.MidRow
namespace Go.Proofs.YtmolhljgmaoflaaDoor

section
variable {P : Program} {ops : Array Oper} {w : World}

theorem still_of_quiet {o : Oper} {a : Act} {K K' : Act → Prop} (hk : ∀ a, K a → K' a) (h : o.quiet P a (fun w' => w' = w) K) : o.still P a w K' := by
  obtain ⟨v, h1, h2⟩ := h
  have h3 := h1 w rfl
  unfold Oper.quietAt at h3
  unfold Oper.still
  generalize (execOp a.eval o).run P w = r at *
  cases r with
  | ok n w' =>
    cases n <;> simp only [Oper.quietUpon] at h3 <;> simp only [Oper.stillUpon]
    case value u => obtain ⟨e1, e2⟩ := h3; subst e1 e2; exact ⟨rfl, hk _ h2⟩
    case skip => obtain ⟨e1, e2⟩ := h3; subst e1 e2; exact ⟨rfl, hk _ h2⟩
    case enter f args => obtain ⟨e1, e2⟩ := h3; subst e1; exact ⟨rfl, v, e2, hk _ h2⟩
  | halt x w' => simp only [Oper.quietUpon] at h3

theorem wpStill_of_quiet {Q : Act → Prop} : ∀ (l : List Oper) (a : Act), wpQuiet P ops (fun w' => w' = w) Q l a → wpStill P ops w Q l a
  | [], _, h => h
  | o :: rest, a, h => by
    unfold wpQuiet at h
    unfold wpStill
    split
    · rename_i hw
      simp only [hw, if_true] at h
      exact still_of_quiet (fun a' h' => wpStill_of_quiet rest a' h') h
    · rename_i hw
      simp only [hw] at h
      exact wpStill_of_quiet rest _ h
end

theorem wp_region_tail {P : Program} {id : Nat} {Q : Exit → Act → World → Prop} {a : Act} {w : World} {l : List Oper} (n : Nat) (hm : P.follows .mixedOrders = true) (hB : Region.lexTailB .any l.toArray n = true)
    (h : wpQuiet P l.toArray (fun w' => w' = w.drew) (fun a' => wpList P l.toArray Q (l.drop n) a' w.drew) (l.take n) a) : (Code.region id l.toArray true).wp P Q a w :=
  wp_region_still_tail n hm hB (wpStill_of_quiet _ _ h)

/-! A part of a row, as one value. -/
theorem Row.range {w : World} {b : Nat} {t : TypeId} {l : List UInt8} (h : Row w b t (ag l)) (o n : Nat) : w.rangeAt b o (((l.drop o).take n).map B) := fun j v hv => by
  rw [h.cell]
  simp only [List.getElem?_map, List.getElem?_take, List.getElem?_drop] at hv
  split at hv
  · simpa [ag] using hv
  · simp at hv

theorem run_load_part {P : Program} (w : World) (ty : TypeId) (b o : Nat) (t : TypeId) (l : List UInt8) (hr : Row w b t (ag l)) (d : TypeDesc) (hu : P.underlying ty = some d) (hd : d.isRow = true) (n : Nat) (hi : (P.info? ty).map (·.size) = some n) (hn : o + n ≤ l.length) :
    (Instr.loadAt ty (.pointer (some ⟨b, o, none⟩))).run P w = .ok (.agg (ag ((l.drop o).take n))) w :=
  run_loadAt_mid w b o ty _ d (hr.range o n) hu hd (by rw [hi]; simp; omega)

theorem wpList_load_part {P : Program} {ops : Array Oper} {rest : List Oper} {op : Oper} {a : Act} {w : World} {Q : Exit → Act → World → Prop} (hgd : op.guard = none) (ty : TypeId) (x : Operand) (ho : op.op = .load ty x) (b o : Nat) (hx : a.eval x = .pointer (some ⟨b, o, none⟩))
    (t : TypeId) (l : List UInt8) (hr : Row w b t (ag l)) (d : TypeDesc) (hu : P.underlying ty = some d) (hd : d.isRow = true) (n : Nat) (hi : (P.info? ty).map (·.size) = some n) (hn : o + n ≤ l.length)
    (h : wpList P ops Q rest (a.put op.dst (.agg (ag ((l.drop o).take n)))) w) : wpList P ops Q (op :: rest) a w :=
  wpList_load_mid hgd ty x ho b o hx _ d (hr.range o n) hu hd (by rw [hi]; simp; omega) h

theorem quiet_load_row {P : Program} {C : World → Prop} {K : Act → Prop} {op : Oper} {a : Act} (ty : TypeId) (x : Operand) (ho : op.op = .load ty x) (b : Nat) (hx : a.eval x = .pointer (some ⟨b, 0, none⟩))
    (t : TypeId) (c : Array Value) (hr : ∀ w, C w → Row w b t c) (d : TypeDesc) (hu : P.underlying ty = some d) (hd : (match d with | .struct _ | .array _ _ => true | _ => false) = true) (n : Nat) (hi : (P.info? ty).map (·.size) = some n) (hn : c.size = n)
    (h : K (a.put op.dst (.agg c))) : op.quiet P a C K :=
  ⟨_, fun w hw => by
    have hrun := run_loadVar_row (P := P) w b t ty c (0, 0) d (hr w hw) hu hd (by rw [hn]; exact hi)
    unfold Oper.quietAt execOp
    simp only [ho, hx, Instr.loadAt, Instr.sureAddr, Sem.run_bind, Sem.run_pure, hrun, Result.andThen_ok]
    exact ⟨rfl, rfl⟩, h⟩

theorem quiet_load_part {P : Program} {C : World → Prop} {K : Act → Prop} {op : Oper} {a : Act} (ty : TypeId) (x : Operand) (ho : op.op = .load ty x) (b o : Nat) (hx : a.eval x = .pointer (some ⟨b, o, none⟩))
    (t : TypeId) (l : List UInt8) (hr : ∀ w, C w → Row w b t (ag l)) (d : TypeDesc) (hu : P.underlying ty = some d) (hd : d.isRow = true) (n : Nat) (hi : (P.info? ty).map (·.size) = some n) (hn : o + n ≤ l.length)
    (h : K (a.put op.dst (.agg (ag ((l.drop o).take n))))) : op.quiet P a C K :=
  ⟨_, fun w hw => by
    have hrun := run_load_part (P := P) w ty b o t l (hr w hw) d hu hd n hi hn
    unfold Oper.quietAt execOp
    simp only [ho, hx, Sem.run_bind, hrun, Result.andThen_ok]
    exact ⟨rfl, rfl⟩, h⟩

end Go.Proofs.YtmolhljgmaoflaaDoor
