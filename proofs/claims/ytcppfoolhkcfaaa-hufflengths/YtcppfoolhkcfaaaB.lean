/- Bytes that lie behind a slice; the comparing of bytes. -/
import Derived.Test.YtcppfoolhkcfaaaRows
import Derived.Test.YtcppfoolhkcfaaaL
import Derived.Test.YtcppfoolhkcfaaaM
import Derived.Deep.MidRow
import Derived.Laws.IdiomStrings
import Derived.Laws.BytesArg
namespace Go.Proofs.Ytcppfoolhkcfaaa
open Go.RowKit Go.BigFrame

/-- A fact that the walk does not look through. -/
structure Box' (p : Prop) : Prop where
  out : p

/-- The slice v has the bytes l, in a block of S. -/
def Bts (S : Nat → Prop) (w : World) (v : Value) (l : List UInt8) : Prop :=
  ∃ a c, v = .slice a l.length c ∧ l.length ≤ c ∧ (l = [] ∨ ∃ b o, a = some ⟨b, o, none⟩ ∧ S b ∧ w.rangeAt b o (l.map B))
theorem Bts.keep {S S' : Nat → Prop} {w w' : World} {v : Value} {l : List UInt8} (h : Bts S w v l) (hk : ∀ b, S b → S' b ∧ w'.heap[b]? = w.heap[b]?) : Bts S' w' v l := by
  obtain ⟨a, c, h1, h2, h3⟩ := h
  refine ⟨a, c, h1, h2, ?_⟩
  rcases h3 with h3 | ⟨b, o, h4, h5, h6⟩
  · exact .inl h3
  · refine .inr ⟨b, o, h4, (hk b h5).1, fun j u hu => ?_⟩
    have := h6 j u hu
    simp only [World.cell?, (hk b h5).2] at *
    exact this
theorem Bts.below {S : Nat → Prop} {N : Nat} {w w' : World} {v : Value} {l : List UInt8} (h : Bts S w v l) (hb : Below N w w') (hS : ∀ b, S b → b < N) : Bts S w' v l :=
  h.keep fun b hs => ⟨hs, hb.block b (hS b hs)⟩

theorem range_below {N : Nat} {w w' : World} {b o : Nat} {cs : List Value} (h : w.rangeAt b o cs) (hb : Below N w w') (hn : b < N) : w'.rangeAt b o cs := fun j u hu => by
  have := h j u hu
  simp only [World.cell?, hb.block b hn] at *
  exact this
theorem range_lt {w : World} {b o : Nat} {l : List UInt8} (h : w.rangeAt b o (l.map B)) (hl : 0 < l.length) : b < w.heap.size := by
  have := h 0 (B l[0]) (by simp [hl])
  exact World.block_lt_of_cell? w _ this
theorem conv_bts {S : Nat → Prop} {w : World} {v : Value} {l : List UInt8} (h : Bts S w v l) : (convert 23 9 v).run Try.prog w = .ok (.string ⟨l.toArray⟩) w := by
  obtain ⟨a, c, rfl, _, h3⟩ := h
  rcases h3 with rfl | ⟨b, o, rfl, _, hr⟩
  · cases a with
    | none => exact run_convert_bytes_nil w 23 5 Try.underlying23 Try.underlying5 _ c 9 Try.underlying9
    | some a => exact run_convert_bytes_back w 23 9 5 a c [] Try.underlying23 Try.underlying5 Try.underlying9 (fun j hj => absurd hj (by simp))
  · refine run_convert_bytes_back w 23 9 5 ⟨b, o, none⟩ c l Try.underlying23 Try.underlying5 Try.underlying9 (fun j hj => ?_)
    rw [Addr.add_mid]
    exact hr j _ (by simp [hj]; rfl)
theorem convert_op {P : Program} {op : Oper} {a : Act} (s t : TypeId) (x : Operand) (ho : op.op = .convert s t x) (v : Value) (w : World) (h : (convert s t (a.eval x)).run P w = .ok v w) : (execOp a.eval op).run P w = .ok (.value v) w := by
  unfold execOp
  simp only [ho, Sem.run_bind, h, Result.andThen_ok, Sem.run_pure]
theorem bytes_eq (a b : List UInt8) : ((⟨a.toArray⟩ : ByteArray).toList == (⟨b.toArray⟩ : ByteArray).toList) = decide (a = b) := by
  rw [ByteArray.toList_mk, ByteArray.toList_mk, Bool.eq_iff_iff, beq_iff_eq, decide_eq_true_eq]

theorem results_row_slot {P : Program} {w : World} {fn : Func} {p q : Tmp} {ty : TypeId} (hf : fn.results = #[.cell p ty, .tmp q]) (tmps : Array Value) (b : Nat) (hx : tmps.getD p undef = .pointer (some ⟨b, 0, none⟩)) (v : Value) (hq : tmps.getD q undef = v)
    (t : TypeId) (c : Array Value) (hr : Row w b t c) (d : TypeDesc) (hu : P.underlying ty = some d) (hd : (match d with | .struct _ | .array _ _ => true | _ => false) = true) (n : Nat) (hi : (P.info? ty).map (·.size) = some n) (hn : c.size = n) :
    (results fn tmps).run P w = .ok (.tuple #[.agg c, v]) w := by
  have hrun := run_loadVar_row (P := P) w b t ty c (0, 0) d hr hu hd (by rw [hn]; exact hi)
  have hx' : tmps[p]?.getD undef = .pointer (some ⟨b, 0, none⟩) := by simpa using hx
  have hq' : tmps[q]?.getD undef = v := by simpa using hq
  simp only [results, hf]
  simp [hx', hq', asAddr, hrun]
theorem results_slot_row {P : Program} {w : World} {fn : Func} {p q : Tmp} {ty : TypeId} (hf : fn.results = #[.tmp q, .cell p ty]) (tmps : Array Value) (b : Nat) (hx : tmps.getD p undef = .pointer (some ⟨b, 0, none⟩)) (v : Value) (hq : tmps.getD q undef = v)
    (t : TypeId) (c : Array Value) (hr : Row w b t c) (d : TypeDesc) (hu : P.underlying ty = some d) (hd : (match d with | .struct _ | .array _ _ => true | _ => false) = true) (n : Nat) (hi : (P.info? ty).map (·.size) = some n) (hn : c.size = n) :
    (results fn tmps).run P w = .ok (.tuple #[v, .agg c]) w := by
  have hrun := run_loadVar_row (P := P) w b t ty c (0, 0) d hr hu hd (by rw [hn]; exact hi)
  have hx' : tmps[p]?.getD undef = .pointer (some ⟨b, 0, none⟩) := by simpa using hx
  have hq' : tmps[q]?.getD undef = v := by simpa using hq
  simp only [results, hf]
  simp [hx', hq', asAddr, hrun]

theorem bcell {W w1 : World} {N : Nat} (hb : Below N W w1) : (∀ b o, b < N → w1.cell? ⟨b, o, none⟩ = W.cell? ⟨b, o, none⟩) ∧ (∀ b o, b < N → w1.frozen? ⟨b, o, none⟩ = W.frozen? ⟨b, o, none⟩) :=
  ⟨fun b o h => hb.cell (p := ⟨b, o, none⟩) h, fun b o h => hb.frozen (p := ⟨b, o, none⟩) h⟩
end Go.Proofs.Ytcppfoolhkcfaaa
