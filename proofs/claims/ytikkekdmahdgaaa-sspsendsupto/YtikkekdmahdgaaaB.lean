/- Bytes that lie behind a slice; the comparing of bytes. -/
import Derived.Test.YtikkekdmahdgaaaRows
import Derived.Test.YtikkekdmahdgaaaL
import Derived.Deep.MidRow
import Derived.Laws.IdiomStrings
import Derived.Laws.BytesArg
import Derived.Laws.AppendOwn
namespace Go.Proofs.Ytikkekdmahdgaaa
open Go.RowKit Go.BigFrame

/-- A fact that the walk does not look through. -/
structure Box' (p : Prop) : Prop where
  out : p

/-- The slice v has the bytes l, in a block of S. -/
def Bts (S : Nat → Prop) (w : World) (v : Value) (l : List UInt8) : Prop :=
  ∃ a c, v = .slice a l.length c ∧ l.length ≤ c ∧ (l = [] ∨ ∃ b o, a = some ⟨b, o, none⟩ ∧ S b ∧ w.rangeAt b o (l.map B))
theorem Bts.keep {S S' : Nat → Prop} {w w' : World} {v : Value} {l : List UInt8} (h : Bts S w v l) (hk : ∀ b, S b → S' b ∧ w'.heap[b]? = w.heap[b]?) : Bts S' w' v l := by
  obtain ⟨a, c, h1, h2, h3⟩ := h
  refine ⟨a, c, h1, h2, ?_⟩
  rcases h3 with h3 | ⟨b, o, h4, h5, h6⟩
  · exact .inl h3
  · refine .inr ⟨b, o, h4, (hk b h5).1, fun j u hu => ?_⟩
    have := h6 j u hu
    simp only [World.cell?, (hk b h5).2] at *
    exact this
theorem Bts.below {S : Nat → Prop} {N : Nat} {w w' : World} {v : Value} {l : List UInt8} (h : Bts S w v l) (hb : Below N w w') (hS : ∀ b, S b → b < N) : Bts S w' v l :=
  h.keep fun b hs => ⟨hs, hb.block b (hS b hs)⟩

theorem range_below {N : Nat} {w w' : World} {b o : Nat} {cs : List Value} (h : w.rangeAt b o cs) (hb : Below N w w') (hn : b < N) : w'.rangeAt b o cs := fun j u hu => by
  have := h j u hu
  simp only [World.cell?, hb.block b hn] at *
  exact this
theorem range_lt {w : World} {b o : Nat} {l : List UInt8} (h : w.rangeAt b o (l.map B)) (hl : 0 < l.length) : b < w.heap.size := by
  have := h 0 (B l[0]) (by simp [hl])
  exact World.block_lt_of_cell? w _ this
theorem conv_bts {S : Nat → Prop} {w : World} {v : Value} {l : List UInt8} (h : Bts S w v l) : (convert 39 9 v).run Try.prog w = .ok (.string ⟨l.toArray⟩) w := by
  obtain ⟨a, c, rfl, _, h3⟩ := h
  rcases h3 with rfl | ⟨b, o, rfl, _, hr⟩
  · cases a with
    | none => exact run_convert_bytes_nil w 39 5 Try.underlying39 Try.underlying5 _ c 9 Try.underlying9
    | some a => exact run_convert_bytes_back w 39 9 5 a c [] Try.underlying39 Try.underlying5 Try.underlying9 (fun j hj => absurd hj (by simp))
  · refine run_convert_bytes_back w 39 9 5 ⟨b, o, none⟩ c l Try.underlying39 Try.underlying5 Try.underlying9 (fun j hj => ?_)
    rw [Addr.add_mid]
    exact hr j _ (by simp [hj]; rfl)
theorem convert_op {P : Program} {op : Oper} {a : Act} (s t : TypeId) (x : Operand) (ho : op.op = .convert s t x) (v : Value) (w : World) (h : (convert s t (a.eval x)).run P w = .ok v w) : (execOp a.eval op).run P w = .ok (.value v) w := by
  unfold execOp
  simp only [ho, Sem.run_bind, h, Result.andThen_ok, Sem.run_pure]
theorem bytes_eq (a b : List UInt8) : ((⟨a.toArray⟩ : ByteArray).toList == (⟨b.toArray⟩ : ByteArray).toList) = decide (a = b) := by
  rw [ByteArray.toList_mk, ByteArray.toList_mk, Bool.eq_iff_iff, beq_iff_eq, decide_eq_true_eq]

set_option maxRecDepth 100000 in
set_option maxHeartbeats 1000000 in
theorem refSame_any (S1 S2 : Nat → Prop) (va vb : Value) (la lb : List UInt8) (w : World) (ha : Bts S1 w va la) (hb : Bts S2 w vb lb) :
    Calls Try.prog 33 #[va, vb] w fun e w' => e = .returned (.bool (decide (la = lb))) ∧ w' = w := by
  have h1 := conv_bts ha
  have h2 := conv_bts hb
  have h3 := bytes_eq la lb
  generalize decide (la = lb) = r at *
  obtain ⟨s1, hs1⟩ : ∃ s1, (⟨la.toArray⟩ : ByteArray) = s1 := ⟨_, rfl⟩
  obtain ⟨s2, hs2⟩ : ∃ s2, (⟨lb.toArray⟩ : ByteArray) = s2 := ⟨_, rfl⟩
  rw [hs1] at h1 h3
  rw [hs2] at h2 h3
  clear hs1 hs2 ha hb
  go_enter Try.func33, Try.ntmps33
  go_wp2_with (first
    | (refine wpList_val rfl _ (convert_op 39 9 (.tmp 5) rfl _ _ h1) ?_)
    | (refine wpList_val rfl _ (convert_op 39 9 (.tmp 7) rfl _ _ h2) ?_)
    | fail)
  go_ret
  exact ⟨by rw [← h3]; rfl, rfl⟩

theorem results_row_slot {P : Program} {w : World} {fn : Func} {p q : Tmp} {ty : TypeId} (hf : fn.results = #[.cell p ty, .tmp q]) (tmps : Array Value) (b : Nat) (hx : tmps.getD p undef = .pointer (some ⟨b, 0, none⟩)) (v : Value) (hq : tmps.getD q undef = v)
    (t : TypeId) (c : Array Value) (hr : Row w b t c) (d : TypeDesc) (hu : P.underlying ty = some d) (hd : (match d with | .struct _ | .array _ _ => true | _ => false) = true) (n : Nat) (hi : (P.info? ty).map (·.size) = some n) (hn : c.size = n) :
    (results fn tmps).run P w = .ok (.tuple #[.agg c, v]) w := by
  have hrun := run_loadVar_row (P := P) w b t ty c (0, 0) d hr hu hd (by rw [hn]; exact hi)
  have hx' : tmps[p]?.getD undef = .pointer (some ⟨b, 0, none⟩) := by simpa using hx
  have hq' : tmps[q]?.getD undef = v := by simpa using hq
  simp only [results, hf]
  simp [hx', hq', asAddr, hrun]
theorem results_slot_row {P : Program} {w : World} {fn : Func} {p q : Tmp} {ty : TypeId} (hf : fn.results = #[.tmp q, .cell p ty]) (tmps : Array Value) (b : Nat) (hx : tmps.getD p undef = .pointer (some ⟨b, 0, none⟩)) (v : Value) (hq : tmps.getD q undef = v)
    (t : TypeId) (c : Array Value) (hr : Row w b t c) (d : TypeDesc) (hu : P.underlying ty = some d) (hd : (match d with | .struct _ | .array _ _ => true | _ => false) = true) (n : Nat) (hi : (P.info? ty).map (·.size) = some n) (hn : c.size = n) :
    (results fn tmps).run P w = .ok (.tuple #[v, .agg c]) w := by
  have hrun := run_loadVar_row (P := P) w b t ty c (0, 0) d hr hu hd (by rw [hn]; exact hi)
  have hx' : tmps[p]?.getD undef = .pointer (some ⟨b, 0, none⟩) := by simpa using hx
  have hq' : tmps[q]?.getD undef = v := by simpa using hq
  simp only [results, hf]
  simp [hx', hq', asAddr, hrun]

theorem bcell {W w1 : World} {N : Nat} (hb : Below N W w1) : (∀ b o, b < N → w1.cell? ⟨b, o, none⟩ = W.cell? ⟨b, o, none⟩) ∧ (∀ b o, b < N → w1.frozen? ⟨b, o, none⟩ = W.frozen? ⟨b, o, none⟩) :=
  ⟨fun b o h => hb.cell (p := ⟨b, o, none⟩) h, fun b o h => hb.frozen (p := ⟨b, o, none⟩) h⟩
/-- A row of bytes of one's own, that grows. -/
def OwnB (N : Nat) (w : World) (v : Value) (d : List UInt8) : Prop := w.ownsRow N 5 1 v d.length (d.map B)
theorem OwnB.nil (N : Nat) (w : World) : OwnB N w (.slice none 0 0) [] := ⟨rfl, .inl ⟨rfl, rfl⟩⟩
theorem OwnB.same {N : Nat} {w w' : World} {v : Value} {d : List UInt8} (h : OwnB N w v d) (hb : ∀ g, v.ownBlock = some g → w'.heap[g]? = w.heap[g]?) : OwnB N w' v d := by
  refine ⟨h.1, ?_⟩
  rcases h.2 with h2 | ⟨g, cap, cur, e1, e2, e3, e4⟩
  · exact .inl h2
  · exact .inr ⟨g, cap, cur, e1, e2, by rw [hb g (by rw [e1]; rfl)]; exact e3, e4⟩
theorem OwnB.lt {N : Nat} {w : World} {v : Value} {d : List UInt8} (h : OwnB N w v d) : ∀ g, v.ownBlock = some g → N ≤ g ∧ ∃ cur, Row w g 5 cur := by
  intro k hk
  rcases h.2 with ⟨e, _⟩ | ⟨g, cap, cur, e1, e2, e3, _⟩
  · rw [e] at hk; simp [Value.ownBlock] at hk
  · rw [e1] at hk; simp [Value.ownBlock] at hk; subst hk; exact ⟨e2, cur, e3⟩
theorem OwnB.slice {N : Nat} {w : World} {v : Value} {d : List UInt8} (h : OwnB N w v d) : ∃ a c, v = .slice a d.length c := by
  rcases h.2 with ⟨e, e0⟩ | ⟨g, cap, cur, e1, _⟩
  · exact ⟨none, 0, by rw [e, e0]⟩
  · exact ⟨_, _, e1⟩

theorem one_By (l : List UInt8) : ∀ u ∈ l.map B, u.oneCell' = true := by
  intro u hu
  obtain ⟨x, _, rfl⟩ := List.mem_map.1 hu
  rfl
set_option maxRecDepth 100000 in
theorem Try.info5a : ∃ i, Try.prog.info? 5 = some i ∧ i.zero = some (.int .u8 0) ∧ i.size = 1 ∧ i.bytes = 1 := ⟨_, rfl, rfl, rfl, rfl⟩
theorem wpList_append_byte {ops : Array Oper} {rest : List Oper} {o : Oper} {a : Act} {w : World} {Q : Exit → Act → World → Prop} (hgd : o.guard = none) (s x : Operand)
    (ho : o.op = .call { callee := .builtin .append, args := #[s, x], argTypes := #[39, 39] }) (N : Nat) (hN : N ≤ w.heap.size)
    (v : Value) (d : List UInt8) (hs : a.eval s = v) (hown : OwnB N w v d) (ad : Addr) (c : Nat) (x0 : UInt8) (hx : a.eval x = .slice (some ad) 1 c)
    (hc : w.cell? ad = some (B x0)) (hmax : d.length + 1 ≤ 1000000)
    (h : ∀ v' w', OwnB N w' v' (d ++ [x0]) → w.grownBy w' v.ownBlock → wpList Try.prog ops Q rest (a.put o.dst v') w') : wpList Try.prog ops Q (o :: rest) a w := by
  obtain ⟨i, h1, h2, h3, h4⟩ := Try.info5a
  obtain ⟨v', w', hr, g2, g3, _⟩ := run_append_own (P := Try.prog) w N 39 o.type 5 i _ 1 1 Try.underlying39 h1 h2 h3 h4 rfl (by decide) v d.length (d.map B) hown ad 1 c ([x0].map B) rfl (fun j y hy => by
    cases j with
    | zero => simp at hy; subst hy; exact hc
    | succ j => simp at hy) (one_By [x0]) (by unfold maxLen; omega) (by omega) hN
  have g2' : OwnB N w' v' (d ++ [x0]) := by unfold OwnB; rw [List.length_append, List.map_append]; exact g2
  refine wpList_plain hgd fun K hK => ?_
  unfold Oper.wp execOp
  simp only [ho, resolve, invoke, builtin, Sem.run_bind, Sem.run_pure, Result.andThen_ok, List.map_toArray, List.map_cons, List.map_nil, hs, hx, hr]
  exact hK _ _ (h v' w' g2' g3)

theorem OwnB.seg {N : Nat} {w : World} {v : Value} {d : List UInt8} (h : OwnB N w v d) (hd : 0 < d.length) : ∃ g cap, v = .slice (some ⟨g, 0, none⟩) d.length cap ∧ d.length ≤ cap ∧ ∀ k, k < d.length → w.cell? ⟨g, k, none⟩ = some (B (d.getD k 0)) := by
  rcases h.2 with ⟨e, e0⟩ | ⟨g, cap, cur, e1, e2, e3, e4, e5, e6, e7⟩
  · omega
  · refine ⟨g, cap, e1, e4, fun k hk => ?_⟩
    have r : Row w g 5 cur := e3
    have hf : (d.map B)[k]? = some (B (d.getD k 0)) := by simp [hk]
    rw [← e7, List.getElem?_take_of_lt (by omega)] at hf
    rw [r.cell]
    simpa using hf
/-- The slice of a row of one's own has its bytes. -/
theorem Row.bts {w : World} {g : Nat} {l : List UInt8} {n : Nat} (h : Row w g 5 (ag l)) (hn : l.length = n) : Bts (· < w.heap.size) w (.slice (some ⟨g, 0, none⟩) n n) l :=
  ⟨_, _, by rw [hn], by omega, .inr ⟨g, 0, rfl, h.lt, fun j u hu => by rw [Nat.zero_add, h.cell]; simpa [ag] using hu⟩⟩

end Go.Proofs.Ytikkekdmahdgaaa
