/- Bytes of one's own that grow; bytes that came in; what stays. -/
import Derived.Test.YtikkekdmahdgaaaB
import Derived.Test.YtikkekdmahdgaaaM
import Derived.Laws.AppendOwnNone
namespace Go.Proofs.Ytikkekdmahdgaaa
open Go.RowKit Go.BigFrame

theorem OwnB.below {N : Nat} {w w' : World} {v : Value} {d : List UInt8} (h : OwnB N w v d) (hb : Below w.heap.size w w') : OwnB N w' v d :=
  h.same fun g hg => let ⟨_, _, r⟩ := h.lt g hg; hb.block g r.lt
theorem OwnB.alloc {N : Nat} {w : World} {v : Value} {d : List UInt8} (h : OwnB N w v d) (o : Obj) : OwnB N (w.alloc o) v d := h.below ((Below.refl _ _).alloc (Nat.le_refl _) _)
theorem OwnB.drewN {N : Nat} {w : World} {v : Value} {d : List UInt8} (h : OwnB N w v d) (n : Nat) : OwnB N (w.drewN n) v d := h
theorem OwnB.less {N M : Nat} {w : World} {v : Value} {d : List UInt8} (h : OwnB N w v d) (hM : M ≤ N) : OwnB M w v d := by
  refine ⟨h.1, ?_⟩
  rcases h.2 with h2 | ⟨g, cap, cur, e1, e2, e3⟩
  · exact .inl h2
  · exact .inr ⟨g, cap, cur, e1, Nat.le_trans hM e2, e3⟩
theorem Row.same {w w' : World} {b : Nat} {t : TypeId} {c : Array Value} (h : Row w b t c) (e : w'.heap[b]? = w.heap[b]?) : Row w' b t c := by
  unfold Row; rw [e]; exact h
theorem own_ne {N : Nat} {w : World} {v : Value} {d : List UInt8} (ho : OwnB N w v d) {b : Nat} {t : TypeId} {c : Array Value} (hr : Row w b t c) (ht : t ≠ 5) : ∀ g, v.ownBlock = some g → g ≠ b := by
  rintro g hg rfl
  obtain ⟨-, cur, r⟩ := ho.lt g hg
  unfold Row at r hr
  rw [r] at hr
  simp at hr
  exact ht hr.2.symm
/-- What lies below N stays, and every row that is none of bytes. -/
structure Fr (N : Nat) (w w' : World) : Prop where
  os : w'.os = w.os
  tape : w'.tape = w.tape
  output : w'.output = w.output
  size : w.heap.size ≤ w'.heap.size
  block : ∀ k, k < w.heap.size → (k < N ∨ ∃ t c, Row w k t c ∧ t ≠ 5) → w'.heap[k]? = w.heap[k]?
theorem Fr.refl (N : Nat) (w : World) : Fr N w w := ⟨rfl, rfl, rfl, Nat.le_refl _, fun _ _ _ => rfl⟩
theorem Fr.trans {N : Nat} {a b c : World} (h : Fr N a b) (k : Fr N b c) : Fr N a c :=
  ⟨k.os.trans h.os, k.tape.trans h.tape, k.output.trans h.output, Nat.le_trans h.size k.size, fun i hi hc => by
    have e := h.block i hi hc
    refine (k.block i (Nat.lt_of_lt_of_le hi h.size) ?_).trans e
    rcases hc with hc | ⟨t, q, r, ht⟩
    · exact .inl hc
    · exact .inr ⟨t, q, r.same e, ht⟩⟩
theorem Fr.of {N : Nat} {w w' : World} (h : Below w.heap.size w w') : Fr N w w' := ⟨h.os, h.tape, h.output, h.size, fun k hk _ => h.block k hk⟩
theorem Fr.alloc {N : Nat} {w0 w : World} (h : Fr N w0 w) (o : Obj) : Fr N w0 (w.alloc o) := h.trans (.of ((Below.refl _ _).alloc (Nat.le_refl _) _))
theorem Fr.drewN {N : Nat} {w0 w : World} (h : Fr N w0 w) (n : Nat) : Fr N w0 (w.drewN n) := ⟨h.os, h.tape, h.output, h.size, h.block⟩
theorem Fr.below {N : Nat} {w w' : World} (h : Fr N w w') (hN : N ≤ w.heap.size) : Below N w w' := ⟨h.os, h.tape, h.output, h.size, fun k hk => h.block k (by omega) (.inl hk)⟩
theorem Fr.less {N M : Nat} {w w' : World} (h : Fr N w w') (hM : M ≤ N) : Fr M w w' := ⟨h.os, h.tape, h.output, h.size, fun k hk hc => h.block k hk ((by rcases hc with q | q; exact .inl (by omega); exact .inr q))⟩
theorem Fr.row {N : Nat} {w w' : World} (h : Fr N w w') {b : Nat} {t : TypeId} {c : Array Value} (hr : Row w b t c) (ht : t ≠ 5) : Row w' b t c := hr.same (h.block b hr.lt (.inr ⟨t, c, hr, ht⟩))
theorem Fr.grown {N : Nat} {w w' : World} {v : Value} {d : List UInt8} (ho : OwnB N w v d) (g : w.grownBy w' v.ownBlock) : Fr N w w' :=
  ⟨g.os, g.tape, g.output, g.size, fun k hk hc => g.block k hk (fun e => by
    rcases hc with hc | ⟨t, q, r, ht⟩
    · have := (ho.lt k e.symm).1; omega
    · exact own_ne ho r ht k e.symm rfl)⟩

/-- The slice v has the bytes l, in a block below N, or is nil. -/
def InB (N : Nat) (w : World) (v : Value) (l : List UInt8) : Prop :=
  (v = .slice none 0 0 ∧ l = []) ∨ ∃ b o c, v = .slice (some ⟨b, o, none⟩) l.length c ∧ l.length ≤ c ∧ (l = [] ∨ b < N) ∧ w.rangeAt b o (l.map B)
theorem InB.slice {N : Nat} {w : World} {v : Value} {l : List UInt8} (h : InB N w v l) : ∃ a c, v = .slice a l.length c ∧ l.length ≤ c := by
  rcases h with ⟨rfl, rfl⟩ | ⟨b, o, c, rfl, hc, _⟩
  · exact ⟨_, _, rfl, Nat.le_refl _⟩
  · exact ⟨_, _, rfl, hc⟩
theorem InB.below {N M : Nat} {w w' : World} {v : Value} {l : List UInt8} (h : InB N w v l) (hb : Below M w w') (hN : N ≤ M) : InB N w' v l := by
  rcases h with h | ⟨b, o, c, h1, h2, h3, h4⟩
  · exact .inl h
  · refine .inr ⟨b, o, c, h1, h2, h3, ?_⟩
    rcases h3 with rfl | h3
    · intro j u hu; simp at hu
    · exact range_below h4 hb (by omega)
theorem InB.up {N M : Nat} {w : World} {v : Value} {l : List UInt8} (h : InB N w v l) (hN : N ≤ M) : InB M w v l := by
  rcases h with h | ⟨b, o, c, h1, h2, h3, h4⟩
  · exact .inl h
  · exact .inr ⟨b, o, c, h1, h2, (by rcases h3 with q | q; exact .inl q; exact .inr (by omega)), h4⟩
theorem InB.bts {N : Nat} {w : World} {v : Value} {l : List UInt8} (h : InB N w v l) : Bts (· < N) w v l := by
  rcases h with ⟨rfl, rfl⟩ | ⟨b, o, c, rfl, hc, h3, h4⟩
  · exact ⟨_, _, rfl, Nat.le_refl _, .inl rfl⟩
  · refine ⟨_, _, rfl, hc, ?_⟩
    rcases h3 with h3 | h3
    · exact .inl h3
    · exact .inr ⟨b, o, rfl, h3, h4⟩
/-- A byte of them. -/
theorem InB.cell {N : Nat} {w : World} {v : Value} {l : List UInt8} (h : InB N w v l) {k : Nat} (hk : k < l.length) : ∃ b o c, v = .slice (some ⟨b, o, none⟩) l.length c ∧ b < N ∧ ∀ j, j < l.length → w.cell? ⟨b, o + j, none⟩ = some (.int .u8 ((l.getD j 0).toNat : Int)) := by
  rcases h with ⟨rfl, rfl⟩ | ⟨b, o, c, rfl, hc, h3, h4⟩
  · simp at hk
  · refine ⟨b, o, c, rfl, ?_, fun j hj => ?_⟩
    · rcases h3 with rfl | h3
      · simp at hk
      · exact h3
    · exact h4 j _ (by simp [hj]; rfl)
theorem range_take {w : World} {b o : Nat} {l : List UInt8} (h : w.rangeAt b o (l.map B)) (k : Nat) : w.rangeAt b o ((l.take k).map B) := fun j u hu => h j u (by
  rw [List.map_take] at hu
  have := List.getElem?_eq_some_iff.1 hu
  obtain ⟨h1, h2⟩ := this
  rw [List.length_take] at h1
  rw [List.getElem?_eq_some_iff]
  exact ⟨by omega, by rw [← h2]; simp⟩)
theorem range_drop {w : World} {b o : Nat} {l : List UInt8} (h : w.rangeAt b o (l.map B)) (k : Nat) : w.rangeAt b (o + k) ((l.drop k).map B) := fun j u hu => by
  rw [List.map_drop, List.getElem?_drop] at hu
  have := h _ u hu
  rwa [show o + k + j = o + (k + j) by omega]
theorem OwnB.inB {N : Nat} {w : World} {v : Value} {d : List UInt8} (h : OwnB N w v d) : InB w.heap.size w v d := by
  rcases h.2 with ⟨e, e0⟩ | ⟨g, cap, cur, e1, e2, e3, e4, e5, e6, e7⟩
  · exact .inl ⟨e, List.eq_nil_of_length_eq_zero e0⟩
  · have r : Row w g 5 cur := e3
    refine .inr ⟨g, 0, cap, e1, e4, .inr r.lt, fun j u hu => ?_⟩
    have hj := (List.getElem?_eq_some_iff.1 hu).1
    rw [List.length_map] at hj
    rw [Nat.zero_add, r.cell]
    rw [← e7, List.getElem?_take_of_lt (by omega)] at hu
    simpa using hu
theorem OwnB.bts {N : Nat} {w : World} {v : Value} {d : List UInt8} (h : OwnB N w v d) : Bts (· < w.heap.size) w v d := h.inB.bts
theorem Row.inB {w : World} {g : Nat} {l : List UInt8} {n : Nat} (h : Row w g 5 (ag l)) (hn : l.length = n) : InB w.heap.size w (.slice (some ⟨g, 0, none⟩) n n) l :=
  .inr ⟨g, 0, n, by rw [hn], by omega, .inr h.lt, fun j u hu => by rw [Nat.zero_add, h.cell]; simpa [ag] using hu⟩
theorem wpList_app {ops : Array Oper} {rest : List Oper} {o : Oper} {a : Act} {w : World} {Q : Exit → Act → World → Prop} (hgd : o.guard = none) (s x : Operand)
    (ho : o.op = .call { callee := .builtin .append, args := #[s, x], argTypes := #[39, 39] }) (N M : Nat) (hN : N ≤ w.heap.size)
    (v : Value) (d : List UInt8) (hs : a.eval s = v) (hown : OwnB N w v d) (vx : Value) (l : List UInt8) (hx : a.eval x = vx) (hin : InB M w vx l) (hmax : d.length + l.length ≤ 140737488355328)
    (h : ∀ v' w', OwnB N w' v' (d ++ l) → Fr N w w' → wpList Try.prog ops Q rest (a.put o.dst v') w') : wpList Try.prog ops Q (o :: rest) a w := by
  obtain ⟨i, h1, h2, h3, h4⟩ := Try.info5a
  rcases hin with ⟨rfl, rfl⟩ | ⟨b, off, c, rfl, hc, hb, hr⟩
  · refine wpList_append_own_none hgd s x 39 ho N 5 i 1 Try.underlying39 h1 v d.length (d.map B) hs hown hx ?_
    exact h v w (by rw [List.append_nil]; exact hown) (Fr.refl _ _)
  · obtain ⟨v', w', hr, g2, g3, _⟩ := run_append_own (P := Try.prog) w N 39 o.type 5 i _ 1 1 Try.underlying39 h1 h2 h3 h4 rfl (by decide) v d.length (d.map B) hown ⟨b, off, none⟩ l.length c (l.map B) (by rw [List.length_map, Nat.mul_one]) (fun j u hu => by rw [Addr.add_mid]; exact hr j u hu) (one_By l) (by unfold maxLen; omega) (by omega) hN
    have g2' : OwnB N w' v' (d ++ l) := by unfold OwnB; rw [List.length_append, List.map_append]; exact g2
    refine wpList_plain hgd fun K hK => ?_
    unfold Oper.wp execOp
    simp only [ho, resolve, invoke, builtin, Sem.run_bind, Sem.run_pure, Result.andThen_ok, List.map_toArray, List.map_cons, List.map_nil, hs, hx, hr]
    exact hK _ _ (h v' w' g2' (Fr.grown hown g3))
/-- The slice v has the bytes l, in a block below N, wherever an empty one may point to; or is nil. -/
def InE (N : Nat) (w : World) (v : Value) (l : List UInt8) : Prop :=
  (v = .slice none 0 0 ∧ l = []) ∨ ∃ a c, v = .slice (some a) l.length c ∧ l.length ≤ c ∧ (l = [] ∨ a.block < N) ∧ ∀ j u, (l.map B)[j]? = some u → w.cell? (a.add j) = some u
theorem InB.inE {N : Nat} {w : World} {v : Value} {l : List UInt8} (h : InB N w v l) : InE N w v l := by
  rcases h with h | ⟨b, o, c, h1, h2, h3, h4⟩
  · exact .inl h
  · exact .inr ⟨⟨b, o, none⟩, c, h1, h2, h3, fun j u hu => by rw [Addr.add_mid]; exact h4 j u hu⟩
theorem InE.slice {N : Nat} {w : World} {v : Value} {l : List UInt8} (h : InE N w v l) : ∃ a c, v = .slice a l.length c ∧ l.length ≤ c := by
  rcases h with ⟨rfl, rfl⟩ | ⟨a, c, rfl, hc, _⟩
  · exact ⟨_, _, rfl, Nat.le_refl _⟩
  · exact ⟨_, _, rfl, hc⟩
theorem add_blk (a : Addr) (n : Nat) : (a.add n).block = a.block := by unfold Addr.add; split <;> rfl
theorem InE.below {N M : Nat} {w w' : World} {v : Value} {l : List UInt8} (h : InE N w v l) (hb : Below M w w') (hN : N ≤ M) : InE N w' v l := by
  rcases h with h | ⟨a, c, h1, h2, h3, h4⟩
  · exact .inl h
  · refine .inr ⟨a, c, h1, h2, h3, fun j u hu => ?_⟩
    rcases h3 with rfl | h3
    · simp at hu
    · rw [hb.cell (p := a.add j) (by rw [add_blk]; omega)]; exact h4 j u hu
theorem InE.up {N M : Nat} {w : World} {v : Value} {l : List UInt8} (h : InE N w v l) (hN : N ≤ M) : InE M w v l := by
  rcases h with h | ⟨a, c, h1, h2, h3, h4⟩
  · exact .inl h
  · exact .inr ⟨a, c, h1, h2, (by rcases h3 with q | q; exact .inl q; exact .inr (by omega)), h4⟩
theorem InE.bts {N : Nat} {w : World} {v : Value} {l : List UInt8} (h : InE N w v l) : Bts (· < N) w v l := by
  rcases h with ⟨rfl, rfl⟩ | ⟨a, c, rfl, hc, h3, h4⟩
  · exact ⟨_, _, rfl, Nat.le_refl _, .inl rfl⟩
  · refine ⟨_, _, rfl, hc, ?_⟩
    rcases h3 with h3 | h3
    · exact .inl h3
    · by_cases hl : l = []
      · exact .inl hl
      · right
        obtain ⟨b, o, sp⟩ := a
        have hsp : sp = none := by
          have h0 := h4 0 (B (l[0]'(List.length_pos_iff.2 hl))) (by simp [List.length_pos_iff.2 hl])
          cases sp with
          | none => rfl
          | some q =>
            exfalso
            unfold World.cell? at h0
            split at h0
            · simp [Addr.add] at h0
            · cases h0
        subst hsp
        exact ⟨b, o, rfl, h3, fun j u hu => by rw [← Addr.add_mid]; exact h4 j u hu⟩
theorem wpList_appE {ops : Array Oper} {rest : List Oper} {o : Oper} {a : Act} {w : World} {Q : Exit → Act → World → Prop} (hgd : o.guard = none) (s x : Operand)
    (ho : o.op = .call { callee := .builtin .append, args := #[s, x], argTypes := #[39, 39] }) (N M : Nat) (hN : N ≤ w.heap.size)
    (v : Value) (d : List UInt8) (hs : a.eval s = v) (hown : OwnB N w v d) (vx : Value) (l : List UInt8) (hx : a.eval x = vx) (hin : InE M w vx l) (hmax : d.length + l.length ≤ 140737488355328)
    (h : ∀ v' w', OwnB N w' v' (d ++ l) → Fr N w w' → wpList Try.prog ops Q rest (a.put o.dst v') w') : wpList Try.prog ops Q (o :: rest) a w := by
  obtain ⟨i, h1, h2, h3, h4⟩ := Try.info5a
  rcases hin with ⟨rfl, rfl⟩ | ⟨ad, c, rfl, hc, hb, hr⟩
  · refine wpList_append_own_none hgd s x 39 ho N 5 i 1 Try.underlying39 h1 v d.length (d.map B) hs hown hx ?_
    exact h v w (by rw [List.append_nil]; exact hown) (Fr.refl _ _)
  · obtain ⟨v', w', hr, g2, g3, _⟩ := run_append_own (P := Try.prog) w N 39 o.type 5 i _ 1 1 Try.underlying39 h1 h2 h3 h4 rfl (by decide) v d.length (d.map B) hown ad l.length c (l.map B) (by rw [List.length_map, Nat.mul_one]) hr (one_By l) (by unfold maxLen; omega) (by omega) hN
    have g2' : OwnB N w' v' (d ++ l) := by unfold OwnB; rw [List.length_append, List.map_append]; exact g2
    refine wpList_plain hgd fun K hK => ?_
    unfold Oper.wp execOp
    simp only [ho, resolve, invoke, builtin, Sem.run_bind, Sem.run_pure, Result.andThen_ok, List.map_toArray, List.map_cons, List.map_nil, hs, hx, hr]
    exact hK _ _ (h v' w' g2' (Fr.grown hown g3))
/-- One byte, laid in a block of its own first. -/
theorem one_in (w : World) (x : UInt8) : InB (w.alloc (.cells #[.int .u8 (x.toNat : Int)] 5)).heap.size (w.alloc (.cells #[.int .u8 (x.toNat : Int)] 5)) (.slice (some ⟨w.heap.size, 0, none⟩) 1 1) [x] := (Row.new w 5 (ag [x])).inB (n := 1) rfl
/-- A call whose answer is known up to what it stands for. -/
theorem wp_callE {P : Program} {Q : Exit → Act → World → Prop} {op : Oper} {a : Act} {w : World} {K : Act → World → Prop} (f : FuncId) (args : Array Value) (hrun : (execOp a.eval op).run P w = .ok (.enter f args) w) (R : Value → World → Prop)
    (hc : Calls P f args w (fun e w'' => ∃ v, e = .returned v ∧ R v w'')) (h : ∀ v w'', R v w'' → K (a.put op.dst v) w'') : op.wp P a w K Q := by
  unfold Oper.wp
  rw [hrun]
  exact hc.mono fun e w'' hh => by obtain ⟨v, rfl, hR⟩ := hh; exact h v w'' hR
end Go.Proofs.Ytikkekdmahdgaaa
