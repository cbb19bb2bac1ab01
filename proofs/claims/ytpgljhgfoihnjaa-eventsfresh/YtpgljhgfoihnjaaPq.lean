/- Events of one's own marked and emptied one behind the other. -/
import Derived.Test.YtpgljhgfoihnjaaPk
import Derived.Test.YtpgljhgfoihnjaaPn
namespace Go.Proofs.Ytpgljhgfoihnjaa
open Go.RowKit Go.BigFrame
set_option linter.unusedVariables false
set_option linter.unusedSimpArgs false
set_option maxRecDepth 100000

/-- Some cells are written into a row. -/
theorem run_store_part (ty : TypeId) (w : World) (b t o : Nat) (c cs c' : Array Value) (hr : Row w b t c) (hi : (Try.prog.info? ty).map (·.size) = some cs.size) (hfit : o + cs.size ≤ c.size) (h1 : cs.all (·.oneCell') = true) (he : (c.toList.take o ++ cs.toList ++ c.toList.drop (o + cs.size)).toArray = c') :
    (Instr.storeAt ty (.pointer (some ⟨b, o, none⟩)) (.agg cs)).run Try.prog w = .ok () (w.setRow b c') := by
  have hst := run_storeCells_at Try.prog b o t cs.toList 0 c w hr (by simpa using hfit) (fun v hv => (Array.all_eq_true_iff_forall_mem.1 h1) v (by simpa using hv))
  have hs : (sizeOf ty).run Try.prog w = .ok cs.size w := by
    cases hq : Try.prog.info? ty with
    | none => simp [hq] at hi
    | some i => simp [hq] at hi; simp [sizeOf, typeInfo, hq, hi]
  have hl : cs.toList.length = cs.size := by simp
  simp only [Nat.add_zero, hl] at hst
  rw [he] at hst
  simp only [Instr.storeAt, Instr.sureAddr, Sem.run_bind, Sem.run_pure, Result.andThen_ok, storeVar, hs, Value.cells]
  simp [hst]
section
variable {ops : Array Oper} {rest : List Oper} {op : Oper} {a : Act} {w : World} {Q : Exit → Act → World → Prop}
theorem wp_store_part {K : Act → World → Prop} (ty : TypeId) (x z : Operand) (ho : op.op = .store ty x z) (b t o : Nat) (c cs c' : Array Value) (hx : a.eval x = .pointer (some ⟨b, o, none⟩)) (hz : a.eval z = .agg cs) (hr : Row w b t c) (hi : (Try.prog.info? ty).map (·.size) = some cs.size) (hfit : o + cs.size ≤ c.size) (h1 : cs.all (·.oneCell') = true) (he : (c.toList.take o ++ cs.toList ++ c.toList.drop (o + cs.size)).toArray = c')
    (h : K (a.put op.dst undef) (w.setRow b c')) : op.wp Try.prog a w K Q := by
  unfold Oper.wp execOp
  simp only [ho, hx, hz, Sem.run_bind, run_store_part ty w b t o c cs c' hr hi hfit h1 he, Result.andThen_ok, Sem.run_pure]
  exact h
theorem wpList_store_part (hgd : op.guard = none) (ty : TypeId) (x z : Operand) (ho : op.op = .store ty x z) (b t o : Nat) (c cs c' : Array Value) (hx : a.eval x = .pointer (some ⟨b, o, none⟩)) (hz : a.eval z = .agg cs) (hr : Row w b t c) (hi : (Try.prog.info? ty).map (·.size) = some cs.size) (hfit : o + cs.size ≤ c.size) (h1 : cs.all (·.oneCell') = true) (he : (c.toList.take o ++ cs.toList ++ c.toList.drop (o + cs.size)).toArray = c')
    (h : wpList Try.prog ops Q rest (a.put op.dst undef) (w.setRow b c')) : wpList Try.prog ops Q (op :: rest) a w :=
  wpList_plain hgd fun K hK => wp_store_part ty x z ho b t o c cs c' hx hz hr hi hfit h1 he (hK _ _ h)
end
theorem OwnE.at1 {N : Nat} {w : World} {v : Value} {l : List (Ev × Value)} (h : OwnE N w v l) : ∃ a c, v = .slice a l.length c ∧ ∀ k (hk : k < l.length), ∃ b o, a = some ⟨b, o, none⟩ ∧ v.ownBlock = some b ∧ w.cell? ⟨b, o + k * 5 + 1, none⟩ = some (l[k]).2 := by
  rcases h.row.2 with ⟨e, e0⟩ | ⟨g, cap, cur, e1, e2, e3, e4, e5, e6, e7⟩
  · exact ⟨none, 0, by rw [e, e0], fun k hk => by omega⟩
  · refine ⟨_, cap, e1, fun k hk => ⟨g, 0, rfl, by rw [e1]; rfl, ?_⟩⟩
    have hf := flat_at l k 1 hk (by decide)
    have := World.ownsRow.cells h.row (g := g) (by rw [e1]; rfl) (k * 5 + 1) (l[k]).2 (by rw [hf]; rfl)
    rw [Addr.add_mid] at this
    rw [show 0 + k * 5 + 1 = 0 + (k * 5 + 1) by omega]
    exact this
theorem rdE_may (b : List UInt8) : ∀ x ∈ (rdE b).1, x.byt.length ≤ 100000 := by
  unfold rdE
  split
  · simp
  · cases he : evsR b with
    | error x => simp
    | ok p =>
      obtain ⟨xs, r⟩ := p
      cases r with
      | cons c t => simp
      | nil =>
        simp only
        unfold evsR at he
        cases hn : numF b with
        | error x => rw [hn] at he; cases he
        | ok q =>
          rw [hn] at he
          simp only at he
          split at he
          · cases he
          · obtain ⟨_, _, e3⟩ := evlR_form he
            intro x hx
            rcases may_cases (e3 x hx) with ⟨_, q, _⟩ | ⟨_, q, _⟩ | ⟨_, q, _⟩
            · omega
            · rw [q]; simp
            · rw [q]; simp
theorem mayL_byt {l : List Ev} (h : mayL l = true) : ∀ x ∈ l, x.byt.length ≤ 100000 := by
  unfold mayL at h
  rw [Bool.and_eq_true] at h
  have hb : badE l = false := by simpa using h.1
  intro x hx
  rcases may_cases (badE_all.1 hb x hx) with h | h | h
  · omega
  · rw [h.2.1]; simp
  · first | omega | (rw [h.2.1]; simp)
theorem appF_byt (l : List Ev) (d : List UInt8) : ∀ x ∈ (appF l d).1, x.byt.length ≤ 100000 := by
  unfold appF
  split
  · rename_i h
    split
    · simp
    · split
      · simp
      · intro x hx
        rcases List.mem_append.1 hx with h1 | h1
        · exact mayL_byt h x h1
        · exact rdE_may d x h1
  · simp
theorem sinF_byt (l : List Ev) (n : Int) : ∀ x ∈ (sinF l n).1, x.byt.length ≤ 100000 := by
  unfold sinF
  split
  · rename_i h
    exact fun x hx => mayL_byt h.1 x (List.mem_of_mem_drop hx)
  · simp
theorem sinF_len' (l : List Ev) (n : Int) : (sinF l n).1.length ≤ l.length := by
  unfold sinF
  split
  · simp
  · simp
/-- What stands while events of one's own are marked and emptied: k of them are done. -/
structure Sp (N M : Nat) (w5 wr : World) (v : Value) (ps : List (Ev × Value)) (k : Nat) : Prop where
  bel : Below N w5 wr
  oth : ∀ g, M ≤ g → g < w5.heap.size → wr.heap[g]? = w5.heap[g]?
  mn : N ≤ M ∧ M ≤ w5.heap.size
  row : ∀ g, v.ownBlock = some g → g < M ∧ N ≤ g ∧ ∃ cur, Row wr g 48 cur ∧ 5 * ps.length ≤ cur.size ∧ ∀ j (hj : j < ps.length), k ≤ j → cur[j * 5 + 1]? = some (ps[j]).2
  own : ∀ j (hj : j < ps.length), k ≤ j → OwnB N wr (ps[j]).2 (ps[j]).1.byt ∧ ∀ g, (ps[j]).2.ownBlock = some g → g < M
theorem Sp.start {N : Nat} {w2 w3 : World} {v : Value} {ps : List (Ev × Value)} (h : OwnE N w2 v ps) (hN : N ≤ w2.heap.size) (hb : Below w2.heap.size w2 w3) : Sp N w2.heap.size w3 w3 v ps 0 := by
  have h3 := h.below hb
  refine ⟨Below.refl _ _, fun _ _ _ => rfl, ⟨hN, hb.size⟩, fun g hg => ?_, fun j hj _ => ?_⟩
  · obtain ⟨q1, c0, q2⟩ := h.lt g hg
    rcases h3.row.2 with ⟨e, e0⟩ | ⟨g', cap, cur, e1, e2, e3, e4, e5, e6, e7⟩
    · rw [e] at hg; simp [Value.ownBlock] at hg
    · have hgg : g' = g := by rw [e1] at hg; simpa [Value.ownBlock] using hg
      subst hgg
      have hr : Row w3 g' 48 cur := e3
      refine ⟨q2.lt, q1, cur, hr, ?_, fun j hj _ => ?_⟩
      · omega
      · have hf := flat_at ps j 1 hj (by decide)
        have := World.ownsRow.cells h3.row (g := g') hg (j * 5 + 1) (ps[j]).2 (by rw [hf]; rfl)
        rw [Addr.add_mid, Nat.zero_add, hr.cell] at this
        exact this
  · refine ⟨h3.own _ (List.getElem_mem hj), fun g hg => ?_⟩
    obtain ⟨_, cur, q2⟩ := (h.own _ (List.getElem_mem hj)).lt g hg
    exact q2.lt
/-- One event is marked, then emptied. -/
theorem Sp.next {N M : Nat} {w5 wr w6 : World} {v : Value} {ps : List (Ev × Value)} {k g : Nat} {cur c' : Array Value} (h : Sp N M w5 wr v ps k) (hk : k < ps.length) (hd : ps.Pairwise fun p q => ∀ g, p.2.ownBlock = some g → q.2.ownBlock ≠ some g)
    (hg : v.ownBlock = some g) (g6 : wr.grownBy w6 (ps[k]).2.ownBlock) (hr : Row w6 g 48 cur) (hc : cur.size = c'.size) (hcc : ∀ j, (k + 1) * 5 ≤ j → c'[j]? = cur[j]?) (hrw : Row wr g 48 cur) : Sp N M w5 (w6.setRow g c') v ps (k + 1) := by
  obtain ⟨gM, gN, cur', q1, q2, q3⟩ := h.row g hg
  have hcur : cur' = cur := by unfold Row at q1 hrw; rw [q1] at hrw; simpa using hrw
  subst hcur
  obtain ⟨ok, okM⟩ := h.own k hk (Nat.le_refl _)
  have hs6 := g6.size
  have hb6 : ∀ b, b < wr.heap.size → (ps[k]).2.ownBlock ≠ some b → w6.heap[b]? = wr.heap[b]? := fun b hb hne => g6.block b hb fun e => hne (by rw [← e])
  have hset : ∀ b, b ≠ g → (w6.setRow g c').heap[b]? = w6.heap[b]? := fun b hb => setRow_other _ _ _ _ hb
  have hsz : (w6.setRow g c').heap.size = w6.heap.size := setRow_size _ _ _
  refine ⟨⟨?_, ?_, ?_, ?_, fun b hb => ?_⟩, fun b hb hb5 => ?_, h.mn, fun g' hg' => ?_, fun j hj hkj => ?_⟩
  · rw [setRow_os, g6.os]; exact h.bel.os
  · rw [setRow_tape, g6.tape]; exact h.bel.tape
  · rw [setRow_output, g6.output]; exact h.bel.output
  · rw [hsz]; exact Nat.le_trans h.bel.size hs6
  · rw [hset b (by omega), hb6 b (by have := h.bel.size; have := h.mn; omega) fun e => by have := (ok.lt b e).1; omega, h.bel.block b hb]
  · rw [hset b (by omega), hb6 b (by have := h.bel.size; omega) fun e => by have := okM b e; omega, h.oth b hb hb5]
  · rw [hg] at hg'
    injection hg' with hg'
    subst hg'
    refine ⟨gM, gN, c', hr.setRow c', by rw [← hc]; exact q2, fun j hj hkj => ?_⟩
    rw [hcc _ (by omega)]
    exact q3 j hj (by omega)
  · obtain ⟨o1, o2⟩ := h.own j hj (by omega)
    refine ⟨o1.same fun b hb => ?_, o2⟩
    have hrb := o1.lt b hb
    obtain ⟨_, cb, rb⟩ := hrb
    have hbg : b ≠ g := by
      rintro rfl
      unfold Row at rb hrw
      rw [rb] at hrw
      simp at hrw
    rw [hset b hbg]
    exact hb6 b rb.lt fun e => List.pairwise_iff_getElem.1 hd k j hk hj (by omega) b e hb
end Go.Proofs.Ytpgljhgfoihnjaa
