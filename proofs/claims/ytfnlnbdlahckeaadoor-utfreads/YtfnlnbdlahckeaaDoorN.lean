/- Runes behind a slice; runes of one's own that grow; what stays. -/
import Derived.Test.YtfnlnbdlahckeaaDoorC
import Derived.Test.YtfnlnbdlahckeaaDoorM
namespace Go.Proofs.YtfnlnbdlahckeaaDoor
open Go.RowKit Go.BigFrame
set_option linter.unusedVariables false
/-- A rune. -/
def R (z : Int) : Value := .int .i32 z
set_option maxRecDepth 100000 in
theorem Tryd.info21a : ∃ i, Tryd.prog.info? 21 = some i ∧ i.zero = some (.int .i32 0) ∧ i.size = 1 ∧ i.bytes = 4 := ⟨_, rfl, rfl, rfl, rfl⟩
/-- The slice v has the bytes l, in a block of S. -/
def BtsR (S : Nat → Prop) (w : World) (v : Value) (l : List Int) : Prop :=
  ∃ a c, v = .slice a l.length c ∧ l.length ≤ c ∧ (l = [] ∨ ∃ b o, a = some ⟨b, o, none⟩ ∧ S b ∧ w.rangeAt b o (l.map R))
theorem BtsR.keep {S S' : Nat → Prop} {w w' : World} {v : Value} {l : List Int} (h : BtsR S w v l) (hk : ∀ b, S b → S' b ∧ w'.heap[b]? = w.heap[b]?) : BtsR S' w' v l := by
  obtain ⟨a, c, h1, h2, h3⟩ := h
  refine ⟨a, c, h1, h2, ?_⟩
  rcases h3 with h3 | ⟨b, o, h4, h5, h6⟩
  · exact .inl h3
  · refine .inr ⟨b, o, h4, (hk b h5).1, fun j u hu => ?_⟩
    have := h6 j u hu
    simp only [World.cell?, (hk b h5).2] at *
    exact this
theorem BtsR.below {S : Nat → Prop} {N : Nat} {w w' : World} {v : Value} {l : List Int} (h : BtsR S w v l) (hb : Below N w w') (hS : ∀ b, S b → b < N) : BtsR S w' v l :=
  h.keep fun b hs => ⟨hs, hb.block b (hS b hs)⟩

/-- A row of bytes of one's own, that grows. -/
def OwnR (N : Nat) (w : World) (v : Value) (d : List Int) : Prop := w.ownsRow N 21 1 v d.length (d.map R)
theorem OwnR.nil (N : Nat) (w : World) : OwnR N w (.slice none 0 0) [] := ⟨rfl, .inl ⟨rfl, rfl⟩⟩
theorem OwnR.same {N : Nat} {w w' : World} {v : Value} {d : List Int} (h : OwnR N w v d) (hb : ∀ g, v.ownBlock = some g → w'.heap[g]? = w.heap[g]?) : OwnR N w' v d := by
  refine ⟨h.1, ?_⟩
  rcases h.2 with h2 | ⟨g, cap, cur, e1, e2, e3, e4⟩
  · exact .inl h2
  · exact .inr ⟨g, cap, cur, e1, e2, by rw [hb g (by rw [e1]; rfl)]; exact e3, e4⟩
theorem OwnR.lt {N : Nat} {w : World} {v : Value} {d : List Int} (h : OwnR N w v d) : ∀ g, v.ownBlock = some g → N ≤ g ∧ ∃ cur, Row w g 21 cur := by
  intro k hk
  rcases h.2 with ⟨e, _⟩ | ⟨g, cap, cur, e1, e2, e3, _⟩
  · rw [e] at hk; simp [Value.ownBlock] at hk
  · rw [e1] at hk; simp [Value.ownBlock] at hk; subst hk; exact ⟨e2, cur, e3⟩
theorem OwnR.slice {N : Nat} {w : World} {v : Value} {d : List Int} (h : OwnR N w v d) : ∃ a c, v = .slice a d.length c := by
  rcases h.2 with ⟨e, e0⟩ | ⟨g, cap, cur, e1, _⟩
  · exact ⟨none, 0, by rw [e, e0]⟩
  · exact ⟨_, _, e1⟩

theorem one_R (l : List Int) : ∀ u ∈ l.map R, u.oneCell' = true := by
  intro u hu
  obtain ⟨x, _, rfl⟩ := List.mem_map.1 hu
  rfl
theorem OwnR.seg {N : Nat} {w : World} {v : Value} {d : List Int} (h : OwnR N w v d) (hd : 0 < d.length) : ∃ g cap, v = .slice (some ⟨g, 0, none⟩) d.length cap ∧ d.length ≤ cap ∧ ∀ k, k < d.length → w.cell? ⟨g, k, none⟩ = some (R (d.getD k 0)) := by
  rcases h.2 with ⟨e, e0⟩ | ⟨g, cap, cur, e1, e2, e3, e4, e5, e6, e7⟩
  · omega
  · refine ⟨g, cap, e1, e4, fun k hk => ?_⟩
    have r : Row w g 21 cur := e3
    have hf : (d.map R)[k]? = some (R (d.getD k 0)) := by simp [hk]
    rw [← e7, List.getElem?_take_of_lt (by omega)] at hf
    rw [r.cell]
    simpa using hf
theorem OwnR.below {N : Nat} {w w' : World} {v : Value} {d : List Int} (h : OwnR N w v d) (hb : Below w.heap.size w w') : OwnR N w' v d :=
  h.same fun g hg => let ⟨_, _, r⟩ := h.lt g hg; hb.block g r.lt
theorem OwnR.alloc {N : Nat} {w : World} {v : Value} {d : List Int} (h : OwnR N w v d) (o : Obj) : OwnR N (w.alloc o) v d := h.below ((Below.refl _ _).alloc (Nat.le_refl _) _)
theorem OwnR.drewN {N : Nat} {w : World} {v : Value} {d : List Int} (h : OwnR N w v d) (n : Nat) : OwnR N (w.drewN n) v d := h
theorem OwnR.less {N M : Nat} {w : World} {v : Value} {d : List Int} (h : OwnR N w v d) (hM : M ≤ N) : OwnR M w v d := by
  refine ⟨h.1, ?_⟩
  rcases h.2 with h2 | ⟨g, cap, cur, e1, e2, e3⟩
  · exact .inl h2
  · exact .inr ⟨g, cap, cur, e1, Nat.le_trans hM e2, e3⟩
theorem own_neR {N : Nat} {w : World} {v : Value} {d : List Int} (ho : OwnR N w v d) {b : Nat} {t : TypeId} {c : Array Value} (hr : Row w b t c) (ht : t ≠ 21) : ∀ g, v.ownBlock = some g → g ≠ b := by
  rintro g hg rfl
  obtain ⟨-, cur, r⟩ := ho.lt g hg
  unfold Row at r hr
  rw [r] at hr
  simp at hr
  exact ht hr.2.symm
/-- What lies below N stays, and every row that is none of bytes. -/
structure FrR (N : Nat) (w w' : World) : Prop where
  os : w'.os = w.os
  tape : w'.tape = w.tape
  output : w'.output = w.output
  size : w.heap.size ≤ w'.heap.size
  block : ∀ k, k < w.heap.size → (k < N ∨ ∃ t c, Row w k t c ∧ t ≠ 21) → w'.heap[k]? = w.heap[k]?
theorem FrR.refl (N : Nat) (w : World) : FrR N w w := ⟨rfl, rfl, rfl, Nat.le_refl _, fun _ _ _ => rfl⟩
theorem FrR.trans {N : Nat} {a b c : World} (h : FrR N a b) (k : FrR N b c) : FrR N a c :=
  ⟨k.os.trans h.os, k.tape.trans h.tape, k.output.trans h.output, Nat.le_trans h.size k.size, fun i hi hc => by
    have e := h.block i hi hc
    refine (k.block i (Nat.lt_of_lt_of_le hi h.size) ?_).trans e
    rcases hc with hc | ⟨t, q, r, ht⟩
    · exact .inl hc
    · exact .inr ⟨t, q, r.same e, ht⟩⟩
theorem FrR.of {N : Nat} {w w' : World} (h : Below w.heap.size w w') : FrR N w w' := ⟨h.os, h.tape, h.output, h.size, fun k hk _ => h.block k hk⟩
theorem FrR.alloc {N : Nat} {w0 w : World} (h : FrR N w0 w) (o : Obj) : FrR N w0 (w.alloc o) := h.trans (.of ((Below.refl _ _).alloc (Nat.le_refl _) _))
theorem FrR.drewN {N : Nat} {w0 w : World} (h : FrR N w0 w) (n : Nat) : FrR N w0 (w.drewN n) := ⟨h.os, h.tape, h.output, h.size, h.block⟩
theorem FrR.below {N : Nat} {w w' : World} (h : FrR N w w') (hN : N ≤ w.heap.size) : Below N w w' := ⟨h.os, h.tape, h.output, h.size, fun k hk => h.block k (by omega) (.inl hk)⟩
theorem FrR.less {N M : Nat} {w w' : World} (h : FrR N w w') (hM : M ≤ N) : FrR M w w' := ⟨h.os, h.tape, h.output, h.size, fun k hk hc => h.block k hk (hc.imp (fun h => by omega) id)⟩
theorem FrR.row {N : Nat} {w w' : World} (h : FrR N w w') {b : Nat} {t : TypeId} {c : Array Value} (hr : Row w b t c) (ht : t ≠ 21) : Row w' b t c := hr.same (h.block b hr.lt (.inr ⟨t, c, hr, ht⟩))
theorem FrR.grown {N : Nat} {w w' : World} {v : Value} {d : List Int} (ho : OwnR N w v d) (g : w.grownBy w' v.ownBlock) : FrR N w w' :=
  ⟨g.os, g.tape, g.output, g.size, fun k hk hc => g.block k hk (fun e => by
    rcases hc with hc | ⟨t, q, r, ht⟩
    · have := (ho.lt k e.symm).1; omega
    · exact own_neR ho r ht k e.symm rfl)⟩

/-- The slice v has the bytes l, in a block below N, or is nil. -/
def InR (N : Nat) (w : World) (v : Value) (l : List Int) : Prop :=
  (v = .slice none 0 0 ∧ l = []) ∨ ∃ b o c, v = .slice (some ⟨b, o, none⟩) l.length c ∧ l.length ≤ c ∧ (l = [] ∨ b < N) ∧ w.rangeAt b o (l.map R)
theorem InR.slice {N : Nat} {w : World} {v : Value} {l : List Int} (h : InR N w v l) : ∃ a c, v = .slice a l.length c ∧ l.length ≤ c := by
  rcases h with ⟨rfl, rfl⟩ | ⟨b, o, c, rfl, hc, _⟩
  · exact ⟨_, _, rfl, Nat.le_refl _⟩
  · exact ⟨_, _, rfl, hc⟩
theorem InR.below {N M : Nat} {w w' : World} {v : Value} {l : List Int} (h : InR N w v l) (hb : Below M w w') (hN : N ≤ M) : InR N w' v l := by
  rcases h with h | ⟨b, o, c, h1, h2, h3, h4⟩
  · exact .inl h
  · refine .inr ⟨b, o, c, h1, h2, h3, ?_⟩
    rcases h3 with rfl | h3
    · intro j u hu; simp at hu
    · exact range_below h4 hb (by omega)
theorem InR.up {N M : Nat} {w : World} {v : Value} {l : List Int} (h : InR N w v l) (hN : N ≤ M) : InR M w v l := by
  rcases h with h | ⟨b, o, c, h1, h2, h3, h4⟩
  · exact .inl h
  · exact .inr ⟨b, o, c, h1, h2, h3.imp id (fun h => by omega), h4⟩
theorem InR.btsR {N : Nat} {w : World} {v : Value} {l : List Int} (h : InR N w v l) : BtsR (· < N) w v l := by
  rcases h with ⟨rfl, rfl⟩ | ⟨b, o, c, rfl, hc, h3, h4⟩
  · exact ⟨_, _, rfl, Nat.le_refl _, .inl rfl⟩
  · refine ⟨_, _, rfl, hc, ?_⟩
    rcases h3 with h3 | h3
    · exact .inl h3
    · exact .inr ⟨b, o, rfl, h3, h4⟩
/-- A byte of them. -/
theorem InR.cell {N : Nat} {w : World} {v : Value} {l : List Int} (h : InR N w v l) {k : Nat} (hk : k < l.length) : ∃ b o c, v = .slice (some ⟨b, o, none⟩) l.length c ∧ b < N ∧ ∀ j, j < l.length → w.cell? ⟨b, o + j, none⟩ = some (.int .i32 (l.getD j 0)) := by
  rcases h with ⟨rfl, rfl⟩ | ⟨b, o, c, rfl, hc, h3, h4⟩
  · simp at hk
  · refine ⟨b, o, c, rfl, ?_, fun j hj => ?_⟩
    · rcases h3 with rfl | h3
      · simp at hk
      · exact h3
    · exact h4 j _ (by simp [hj]; rfl)
theorem OwnR.inR {N : Nat} {w : World} {v : Value} {d : List Int} (h : OwnR N w v d) : InR w.heap.size w v d := by
  rcases h.2 with ⟨e, e0⟩ | ⟨g, cap, cur, e1, e2, e3, e4, e5, e6, e7⟩
  · exact .inl ⟨e, List.eq_nil_of_length_eq_zero e0⟩
  · have r : Row w g 21 cur := e3
    refine .inr ⟨g, 0, cap, e1, e4, .inr r.lt, fun j u hu => ?_⟩
    have hj := (List.getElem?_eq_some_iff.1 hu).1
    rw [List.length_map] at hj
    rw [Nat.zero_add, r.cell]
    rw [← e7, List.getElem?_take_of_lt (by omega)] at hu
    simpa using hu
theorem OwnR.btsR {N : Nat} {w : World} {v : Value} {d : List Int} (h : OwnR N w v d) : BtsR (· < w.heap.size) w v d := h.inR.btsR
theorem wpList_appR {ops : Array Oper} {rest : List Oper} {o : Oper} {a : Act} {w : World} {Q : Exit → Act → World → Prop} (hgd : o.guard = none) (s x : Operand)
    (ho : o.op = .call { callee := .builtin .append, args := #[s, x], argTypes := #[23, 23] }) (N M : Nat) (hN : N ≤ w.heap.size)
    (v : Value) (d : List Int) (hs : a.eval s = v) (hown : OwnR N w v d) (vx : Value) (l : List Int) (hx : a.eval x = vx) (hin : InR M w vx l) (hmax : d.length + l.length ≤ 35184372088832)
    (h : ∀ v' w', OwnR N w' v' (d ++ l) → FrR N w w' → wpList Tryd.prog ops Q rest (a.put o.dst v') w') : wpList Tryd.prog ops Q (o :: rest) a w := by
  obtain ⟨i, h1, h2, h3, h4⟩ := Tryd.info21a
  rcases hin with ⟨rfl, rfl⟩ | ⟨b, off, c, rfl, hc, hb, hr⟩
  · refine wpList_append_own_none hgd s x 23 ho N 21 i 1 Tryd.underlying23 h1 v d.length (d.map R) hs hown hx ?_
    exact h v w (by rw [List.append_nil]; exact hown) (FrR.refl _ _)
  · obtain ⟨v', w', hr, g2, g3, _⟩ := run_append_own (P := Tryd.prog) w N 23 o.type 21 i _ 1 4 Tryd.underlying23 h1 h2 h3 h4 rfl (by decide) v d.length (d.map R) hown ⟨b, off, none⟩ l.length c (l.map R) (by rw [List.length_map, Nat.mul_one]) (fun j u hu => by rw [Addr.add_mid]; exact hr j u hu) (one_R l) (by unfold maxLen; omega) (by omega) hN
    have g2' : OwnR N w' v' (d ++ l) := by unfold OwnR; rw [List.length_append, List.map_append]; exact g2
    refine wpList_plain hgd fun K hK => ?_
    unfold Oper.wp execOp
    simp only [ho, resolve, invoke, builtin, Sem.run_bind, Sem.run_pure, Result.andThen_ok, List.map_toArray, List.map_cons, List.map_nil, hs, hx, hr]
    exact hK _ _ (h v' w' g2' (FrR.grown hown g3))

def agR (l : List Int) : Array Value := (l.map R).toArray
theorem Row.inR {w : World} {g : Nat} {l : List Int} {n : Nat} (h : Row w g 21 (agR l)) (hn : l.length = n) : InR w.heap.size w (.slice (some ⟨g, 0, none⟩) n n) l :=
  .inr ⟨g, 0, n, by rw [hn], by omega, .inr h.lt, fun j u hu => by rw [Nat.zero_add, h.cell]; simpa [agR] using hu⟩
/-- One rune, laid in a block of its own first. -/
theorem one_inR (w : World) (x : Int) : InR (w.alloc (.cells #[.int .i32 x] 21)).heap.size (w.alloc (.cells #[.int .i32 x] 21)) (.slice (some ⟨w.heap.size, 0, none⟩) 1 1) [x] := (Row.new w 21 (agR [x])).inR (n := 1) rfl
end Go.Proofs.YtfnlnbdlahckeaaDoor
