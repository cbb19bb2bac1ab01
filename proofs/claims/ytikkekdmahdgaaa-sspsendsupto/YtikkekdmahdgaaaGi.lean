/- A region that draws its order, by an invariant: what holds whatever operations have been carried out so far. -/
import Derived.Test.YtikkekdmahdgaaaL
import Derived.Orders
import Derived.Deep.Quiet
namespace Go.Proofs.Ytikkekdmahdgaaa
section
variable {P : Program} {ops : Array Oper} {Q : Exit → Act → World → Prop} {md : Region.Mode}

/-- How many operations are still to come. -/
def left (L : Array Bool) : Nat := L.toList.count false

theorem left_set (L : Array Bool) (i : Nat) (h : L.getD i true = false) : left (L.setIfInBounds i true) + 1 = left L := by
  unfold left
  obtain ⟨l⟩ := L
  have hi : i < l.length := by
    rcases Nat.lt_or_ge i l.length with h' | h'
    · exact h'
    · have hn : (l.toArray)[i]? = none := by simpa using h'
      rw [Array.getD_eq_getD_getElem?, hn] at h
      simp at h
  have hv : l[i] = false := by
    rw [Array.getD_eq_getD_getElem?] at h
    simpa [hi] using h
  have hpos : 0 < l.count false := List.count_pos_iff.2 (hv ▸ List.getElem_mem hi)
  simp only [List.setIfInBounds_toArray]
  rw [List.count_set hi]
  simp [hv]
  omega

theorem wpAny_inv (Inv : Array Bool → Act → World → Prop)
    (hstep : ∀ L a w i, Inv L a w → i ∈ Region.ready md ops L → wpOp P ops Q i (Inv (L.setIfInBounds i true)) a w)
    (hend : ∀ L a w, Inv L a w → Region.ready md ops L = [] → Q .normal a w) :
    ∀ (fuel : Nat) (L : Array Bool) (a : Act) (w : World), left L ≤ fuel → Inv L a w → wpAny P md ops Q fuel L a w := by
  intro fuel
  induction fuel with
  | zero =>
    intro L a w hf hI
    have hr : Region.ready md ops L = [] := by
      cases hr : Region.ready md ops L with
      | nil => rfl
      | cons i rs =>
        have hm : i ∈ Region.ready md ops L := by rw [hr]; exact List.mem_cons_self
        have := left_set L i (mem_ready.1 hm).1
        omega
    exact ⟨hr, hend L a w hI hr⟩
  | succ fuel ih =>
    intro L a w hf hI
    refine ⟨fun hr => hend L a w hI hr, fun i hi => ?_⟩
    refine wpOp_mono (fun a' w' h' => ih _ a' w' ?_ h') (hstep L a w i hI hi)
    have := left_set L i (mem_ready.1 hi).1
    omega

/-- THE LAW. -/
theorem wp_region_inv {id : Nat} {a : Act} {w : World} (hm : P.follows .mixedOrders = true) (Inv : Array Bool → Act → World → Prop)
    (h0 : Inv (Array.replicate ops.size false) a w.drew)
    (hstep : ∀ L a w i o, Inv L a w → L.getD i true = false → ops[i]? = some o → (∀ e ∈ o.after, Region.binds .any e = true → L.getD e.on false = true) → wpOp P ops Q i (Inv (L.setIfInBounds i true)) a w)
    (hend : ∀ L a w, Inv L a w → Region.ready .any ops L = [] → Q .normal a w) : (Code.region id ops true).wp P Q a w := by
  refine wp_region_any hm (wpAny_inv Inv (fun L a w i hI hi => ?_) hend ops.size _ _ _ ?_ h0)
  · obtain ⟨h1, o, h2, h3⟩ := mem_ready.1 hi
    exact hstep L a w i o hI h1 h2 h3
  · unfold left
    rw [Array.toList_replicate]
    simp

theorem getD_set (L : Array Bool) (i k : Nat) (h : (L.setIfInBounds i true).getD k false = true) : k = i ∨ L.getD k false = true := by
  by_cases e : k = i
  · exact .inl e
  · right
    rw [Array.getD_eq_getD_getElem?, Array.getElem?_setIfInBounds_ne (fun h => e h.symm)] at h
    rw [Array.getD_eq_getD_getElem?]; exact h

/-- Where nothing is ready all is done. -/
theorem all_done (hB : (List.range ops.size).all (fun i => ((ops[i]?).map fun o => o.after.all fun e => decide (e.on < i)).getD true) = true) (L : Array Bool) (hs : L.size = ops.size)
    (hr : Region.ready md ops L = []) : ∀ i, i < ops.size → L.getD i false = true := by
  intro i
  induction i using Nat.strongRecOn with
  | _ i ih =>
    intro hi
    have hgi : L[i]? = some L[i] := Array.getElem?_eq_getElem (by omega)
    cases hv : L[i] with
    | true => rw [Array.getD_eq_getD_getElem?, hgi, hv]; rfl
    | false =>
      exfalso
      have hm : i ∈ Region.ready md ops L := by
        refine mem_ready.2 ⟨by rw [Array.getD_eq_getD_getElem?, hgi, hv]; rfl, ops[i], Array.getElem?_eq_getElem hi, fun e he _ => ?_⟩
        have h1 := List.all_eq_true.1 hB i (List.mem_range.2 hi)
        rw [Array.getElem?_eq_getElem hi] at h1
        simp only [Option.map_some, Option.getD_some] at h1
        have h2 := Array.all_eq_true_iff_forall_mem.1 h1 e he
        have h3 : e.on < i := by simpa using h2
        exact ih e.on h3 (by omega)
      rw [hr] at hm; cases hm

theorem getD_keep (L : Array Bool) (i k : Nat) (h : L.getD k false = true) : (L.setIfInBounds i true).getD k false = true := by
  rw [Array.getD_eq_getD_getElem?] at *
  rw [Array.getElem?_setIfInBounds]
  split
  · split
    · rfl
    · rename_i h1 h2; subst h1
      rw [Array.getElem?_eq_none (by omega)] at h; simp at h
  · exact h
theorem getD_not {L : Array Bool} {i : Nat} (h : L.getD i true = false) : ¬ L.getD i false = true := by
  rw [Array.getD_eq_getD_getElem?] at *
  cases hv : L[i]? with
  | none => rw [hv] at h; simp at h
  | some v => rw [hv] at h; simp at h; simp [h]
theorem wpOp_plain {i : Nat} {o : Oper} {K : Act → World → Prop} {a : Act} {w : World} (ho : ops[i]? = some o) (hg : o.guard = none) (h : o.wp P a w K Q) : wpOp P ops Q i K a w := by
  unfold wpOp
  rw [ho]
  simp only [Region.wanted, hg, if_true]
  exact .inl h

theorem wp_call {op : Oper} {a : Act} {w : World} {K : Act → World → Prop} (f : FuncId) (args : Array Value) (hrun : (execOp a.eval op).run P w = .ok (.enter f args) w) (v : Value) (R : World → Prop)
    (hc : Calls P f args w (fun e w'' => e = .returned v ∧ R w'')) (h : ∀ w'', R w'' → K (a.put op.dst v) w'') : op.wp P a w K Q := by
  unfold Oper.wp
  rw [hrun]
  exact hc.mono fun e w'' hh => by obtain ⟨rfl, hR⟩ := hh; exact h w'' hR

theorem wp_alloc_row {op : Oper} {a : Act} {w : World} {K : Act → World → Prop} (ty : TypeId) (ho : op.op = .alloc ty) (z : Array Value) (n : Nat) (hz : (P.info? ty).map (fun i => (i.zero, i.size)) = some (some (.agg z), n))
    (h : K (a.put op.dst (.pointer (some ⟨w.heap.size, 0, none⟩))) (w.alloc (.cells z ty))) : op.wp P a w K Q := by
  have hz' := (zero_of_info hz).1 w
  unfold Oper.wp execOp
  simp only [ho, Instr.alloc, Sem.run_bind, Sem.run_pure, hz', Result.andThen_ok, newVar, newRow, Value.cells, run_newObj_alloc]
  exact h

theorem quiet_run {C : World → Prop} {K : Act → Prop} {op : Oper} {a : Act} (u : Value) (hrun : ∀ w, (execOp a.eval op).run P w = .ok (.value u) w) (h : K (a.put op.dst u)) : op.quiet P a C K :=
  ⟨u, fun w _ => by unfold Oper.quietAt; rw [hrun w]; exact ⟨rfl, rfl⟩, h⟩
theorem quiet_call {C : World → Prop} {K : Act → Prop} {op : Oper} {a : Act} (f : FuncId) (args : Array Value) (v : Value) (hrun : ∀ w, (execOp a.eval op).run P w = .ok (.enter f args) w)
    (hc : ∀ w, C w → Calls P f args w (fun e w'' => e = .returned v ∧ C w'')) (h : K (a.put op.dst v)) : op.quiet P a C K :=
  ⟨v, fun w hw => by unfold Oper.quietAt; rw [hrun w]; exact ⟨rfl, hc w hw⟩, h⟩
end
end Go.Proofs.Ytikkekdmahdgaaa
