/- States that were sent, a sender, a receiver: what they are, how they lie. -/
import Derived.Test.YtikkekdmahdgaaaC
namespace Go.Proofs.Ytikkekdmahdgaaa
open Go.RowKit Go.BigFrame
set_option linter.unusedSimpArgs false
set_option linter.unusedVariables false

def sT (l : List UInt8) : Value := .string ⟨l.toArray⟩
def uV (n : UInt64) : Value := .int .u64 (n.toNat : Int)
/-- A state that was sent: its number, its text, when it was sent last. -/
structure Rw where
  n : UInt64
  t : List UInt8
  a : UInt64
def Rw.zero : Rw := ⟨0, [], 0⟩
def rC (x : Rw) : List Value := [uV x.n, sT x.t, uV x.a]
def rowsC (l : List Rw) : List Value := (l.map rC).flatten
theorem rowsC_len (l : List Rw) : (rowsC l).length = l.length * 3 := by
  induction l with
  | nil => rfl
  | cons x r ih =>
    have e : rowsC (x :: r) = rC x ++ rowsC r := rfl
    rw [e, List.length_append, ih, List.length_cons]
    simp [rC]; omega
theorem rowsC_app (a b : List Rw) : rowsC (a ++ b) = rowsC a ++ rowsC b := by simp [rowsC]
theorem rowsC_at (l : List Rw) (k : Nat) (h : k < l.length) : (rowsC l)[k * 3]? = some (uV (l.getD k Rw.zero).n) ∧ (rowsC l)[k * 3 + 1]? = some (sT (l.getD k Rw.zero).t) ∧ (rowsC l)[k * 3 + 2]? = some (uV (l.getD k Rw.zero).a) := by
  induction l generalizing k with
  | nil => simp at h
  | cons x r ih =>
    have e : rowsC (x :: r) = rC x ++ rowsC r := rfl
    cases k with
    | zero => rw [e]; simp [rC]
    | succ k =>
      have := ih k (by simpa using h)
      rw [e, List.getElem?_append_right (by simp [rC]; omega), List.getElem?_append_right (by simp [rC]; omega), List.getElem?_append_right (by simp [rC]; omega)]
      simp only [rC, List.length_cons, List.length_nil]
      rw [show (k + 1) * 3 - (0 + 1 + 1 + 1) = k * 3 by omega, show (k + 1) * 3 + 1 - (0 + 1 + 1 + 1) = k * 3 + 1 by omega, show (k + 1) * 3 + 2 - (0 + 1 + 1 + 1) = k * 3 + 2 by omega]
      simpa using this
theorem rowsC_drop (l : List Rw) (k : Nat) : (rowsC l).drop (k * 3) = rowsC (l.drop k) := by
  induction k generalizing l with
  | zero => simp
  | succ k ih =>
    cases l with
    | nil => simp [rowsC]
    | cons x r =>
      have e : rowsC (x :: r) = rC x ++ rowsC r := rfl
      rw [e, show (k + 1) * 3 = (rC x).length + k * 3 by simp [rC]; omega, ← List.drop_drop, List.drop_left, ih]
      rfl
theorem rC_one (l : List Rw) : ∀ u ∈ rowsC l, u.oneCell' = true := by
  intro u hu
  simp only [rowsC, List.mem_flatten, List.mem_map] at hu
  obtain ⟨c, ⟨x, _, rfl⟩, hc⟩ := hu
  simp only [rC, List.mem_cons, List.not_mem_nil, or_false] at hc
  rcases hc with rfl | rfl | rfl <;> rfl
/-- The slice v has the states l, in a row of one's own. -/
def OwnR (N : Nat) (w : World) (v : Value) (l : List Rw) : Prop := w.ownsRow N 50 3 v l.length (rowsC l)
theorem OwnR.nil (N : Nat) (w : World) : OwnR N w (.slice none 0 0) [] := World.ownsRow_nil _ _ _ _
theorem OwnR.same {N : Nat} {w w' : World} {v : Value} {l : List Rw} (h : OwnR N w v l) (hb : ∀ g, v.ownBlock = some g → w'.heap[g]? = w.heap[g]?) : OwnR N w' v l := by
  refine ⟨h.1, ?_⟩
  rcases h.2 with q | ⟨g, cap, cur, e1, e2, e3, e4⟩
  · exact .inl q
  · exact .inr ⟨g, cap, cur, e1, e2, (hb g (by rw [e1]; rfl)).trans e3, e4⟩
theorem OwnR.lt {N : Nat} {w : World} {v : Value} {l : List Rw} (h : OwnR N w v l) : ∀ g, v.ownBlock = some g → N ≤ g ∧ g < w.heap.size := World.ownsRow.lt h
theorem OwnR.below {N : Nat} {w w' : World} {v : Value} {l : List Rw} (h : OwnR N w v l) (hb : Below w.heap.size w w') : OwnR N w' v l := h.same fun g hg => hb.block g (h.lt g hg).2
theorem OwnR.less {N M : Nat} {w : World} {v : Value} {l : List Rw} (h : OwnR N w v l) (hM : M ≤ N) : OwnR M w v l := by
  refine ⟨h.1, ?_⟩
  rcases h.2 with q | ⟨g, cap, cur, e1, e2, e3⟩
  · exact .inl q
  · exact .inr ⟨g, cap, cur, e1, Nat.le_trans hM e2, e3⟩
theorem OwnR.slice {N : Nat} {w : World} {v : Value} {l : List Rw} (h : OwnR N w v l) : ∃ a c, v = .slice a l.length c ∧ l.length ≤ c := by
  rcases h.2 with ⟨e, e0⟩ | ⟨g, cap, cur, e1, _, _, e4, _⟩
  · exact ⟨_, _, by rw [e, e0], by omega⟩
  · exact ⟨_, _, e1, e4⟩
theorem OwnR.cells {N : Nat} {w : World} {v : Value} {l : List Rw} (h : OwnR N w v l) (hl : 0 < l.length) : ∃ g c, v = .slice (some ⟨g, 0, none⟩) l.length c ∧ l.length ≤ c ∧ N ≤ g ∧ g < w.heap.size ∧ ∀ j u, (rowsC l)[j]? = some u → w.cell? ⟨g, j, none⟩ = some u := by
  rcases h.2 with ⟨e, e0⟩ | ⟨g, cap, cur, e1, e2, e3, e4, e5, e6, e7⟩
  · omega
  · have r : Row w g 50 cur := e3
    refine ⟨g, cap, e1, e4, e2, r.lt, fun j u hu => ?_⟩
    have hj := (List.getElem?_eq_some_iff.1 hu).1
    rw [rowsC_len] at hj
    rw [r.cell]
    rw [← e7, List.getElem?_take_of_lt (by omega)] at hu
    simpa using hu
/-- What is touched: nothing but F, and what is new. -/
structure Tch (F : Nat → Prop) (w w' : World) : Prop where
  os : w'.os = w.os
  tape : w'.tape = w.tape
  output : w'.output = w.output
  size : w.heap.size ≤ w'.heap.size
  block : ∀ k, k < w.heap.size → ¬ F k → w'.heap[k]? = w.heap[k]?
theorem Tch.refl (F : Nat → Prop) (w : World) : Tch F w w := ⟨rfl, rfl, rfl, Nat.le_refl _, fun _ _ _ => rfl⟩
theorem Tch.of {F : Nat → Prop} {w w' : World} (h : Below w.heap.size w w') : Tch F w w' := ⟨h.os, h.tape, h.output, h.size, fun k hk _ => h.block k hk⟩
theorem Tch.trans {F G : Nat → Prop} {a b c : World} (h : Tch F a b) (k : Tch G b c) (hG : ∀ i, G i → F i ∨ a.heap.size ≤ i) : Tch F a c :=
  ⟨k.os.trans h.os, k.tape.trans h.tape, k.output.trans h.output, Nat.le_trans h.size k.size, fun i hi hn => (k.block i (Nat.lt_of_lt_of_le hi h.size) (fun q => by rcases hG i q with q | q; exact hn q; omega)).trans (h.block i hi hn)⟩
theorem Tch.set {F : Nat → Prop} {a b : World} (h : Tch F a b) (p : Addr) (v : Value) (hp : F p.block ∨ a.heap.size ≤ p.block) : Tch F a (b.setCell p v) :=
  ⟨h.os, h.tape, h.output, by simpa [World.setCell] using h.size, fun i hi hn => by
    rw [Below.heap_setCell _ _ _ _ (fun e => by subst e; rcases hp with q | q; exact hn q; omega)]
    exact h.block i hi hn⟩
theorem Tch.below {F : Nat → Prop} {N : Nat} {w w' : World} (h : Tch F w w') (hN : N ≤ w.heap.size) (hF : ∀ k, F k → N ≤ k) : Below N w w' := ⟨h.os, h.tape, h.output, h.size, fun k hk => h.block k (by omega) (fun q => by have := hF k q; omega)⟩
/-- A sender: the state now, what was sent, whether it ever sent, when last, its latest clock. -/
structure Sd where
  now : List UInt8
  l : List Rw
  any : Bool
  tm : UInt64
  seen : UInt64
def sdA (s : Sd) (v : Value) : Array Value := #[sT s.now, v, .bool s.any, uV s.tm, uV s.seen]
/-- How a sender lies: itself in the block p, its states in a row of one's own. -/
def SnR (w : World) (F : Nat → Prop) (p : Nat) (s : Sd) : Prop := ∃ v, F = (fun k => k = p ∨ v.ownBlock = some k) ∧ Row w p 34 (sdA s v) ∧ OwnR 0 w v s.l ∧ 0 < s.l.length ∧ s.l.length ≤ 32
theorem SnR.keep {w w' : World} {F : Nat → Prop} {p : Nat} {s : Sd} (h : SnR w F p s) (hk : ∀ k, F k → w'.heap[k]? = w.heap[k]?) : SnR w' F p s := by
  obtain ⟨v, rfl, h1, h2, h3⟩ := h
  exact ⟨v, rfl, h1.same (hk p (.inl rfl)), h2.same fun g hg => hk g (.inr hg), h3⟩
theorem SnR.lt {w : World} {F : Nat → Prop} {p : Nat} {s : Sd} (h : SnR w F p s) : ∀ k, F k → k < w.heap.size := by
  obtain ⟨v, rfl, h1, h2, h3⟩ := h
  rintro k (rfl | hk)
  · exact h1.lt
  · exact (h2.lt k hk).2
/-- A receiver's states. -/
def RcR (w : World) (F : Nat → Prop) (p : Nat) (l : List Rw) : Prop := ∃ v, F = (fun k => k = p ∨ v.ownBlock = some k) ∧ Row w p 67 #[v] ∧ OwnR 0 w v l ∧ 0 < l.length ∧ l.length ≤ 100
theorem RcR.keep {w w' : World} {F : Nat → Prop} {p : Nat} {l : List Rw} (h : RcR w F p l) (hk : ∀ k, F k → w'.heap[k]? = w.heap[k]?) : RcR w' F p l := by
  obtain ⟨v, rfl, h1, h2, h3⟩ := h
  exact ⟨v, rfl, h1.same (hk p (.inl rfl)), h2.same fun g hg => hk g (.inr hg), h3⟩
theorem RcR.lt {w : World} {F : Nat → Prop} {p : Nat} {l : List Rw} (h : RcR w F p l) : ∀ k, F k → k < w.heap.size := by
  obtain ⟨v, rfl, h1, h2, h3⟩ := h
  rintro k (rfl | hk)
  · exact h1.lt
  · exact (h2.lt k hk).2
set_option maxRecDepth 100000 in
theorem infoR : ∃ i, Try.prog.info? 50 = some i ∧ i.zero = some (.agg #[.int .u64 0, .string ⟨#[]⟩, .int .u64 0]) ∧ i.size = 3 ∧ i.bytes = 32 := ⟨_, rfl, rfl, rfl, rfl⟩
theorem Try.under32 : Try.prog.underlying 32 = some (.slice 50) := by kernel_rfl
/-- States put behind a row of one's own. -/
theorem run_appR (w : World) (N : Nat) (hN : N ≤ w.heap.size) (ty : TypeId) (v : Value) (l m : List Rw) (hv : OwnR N w v l) (a : Addr) (c : Nat) (hc : ∀ j u, (rowsC m)[j]? = some u → w.cell? (a.add j) = some u) (hl : l.length + m.length ≤ 1048576) :
    ∃ v' w', (Builtin.append_ #[32, 32] ty #[v, .slice (some a) m.length c]).run Try.prog w = .ok v' w' ∧ OwnR N w' v' (l ++ m) ∧ w.grownBy w' v.ownBlock := by
  obtain ⟨i, h1, h2, h3, h4⟩ := infoR
  obtain ⟨v', w', hr, g2, g3, _⟩ := run_append_own (P := Try.prog) w N 32 ty 50 i _ 3 32 Try.under32 h1 h2 h3 h4 rfl (by decide) v l.length (rowsC l) hv a m.length c (rowsC m) (rowsC_len m) hc (rC_one m) (by unfold maxLen; omega) (by omega) hN
  exact ⟨v', w', hr, by unfold OwnR; rw [List.length_append, rowsC_app]; exact g2, g3⟩
theorem wpList_appR {ops : Array Oper} {rest : List Oper} {o : Oper} {a : Act} {w : World} {Q : Exit → Act → World → Prop} (hgd : o.guard = none) (s x : Operand)
    (ho : o.op = .call { callee := .builtin .append, args := #[s, x], argTypes := #[32, 32] }) (N : Nat) (hN : N ≤ w.heap.size) (v : Value) (l m : List Rw) (hs : a.eval s = v) (hv : OwnR N w v l) (ad : Addr) (n c : Nat) (hx : a.eval x = .slice (some ad) n c) (hn : n = m.length)
    (hc : ∀ j u, (rowsC m)[j]? = some u → w.cell? (ad.add j) = some u) (hl : l.length + m.length ≤ 1048576)
    (h : ∀ v' w', OwnR N w' v' (l ++ m) → w.grownBy w' v.ownBlock → wpList Try.prog ops Q rest (a.put o.dst v') w') : wpList Try.prog ops Q (o :: rest) a w := by
  subst hn
  obtain ⟨v', w', hr, h2, h3⟩ := run_appR w N hN o.type v l m hv ad c hc hl
  refine wpList_plain hgd fun K hK => ?_
  unfold Oper.wp execOp
  simp only [ho, resolve, invoke, builtin, Sem.run_bind, Sem.run_pure, Result.andThen_ok, List.map_toArray, List.map_cons, List.map_nil, hs, hx, hr]
  exact hK _ _ (h v' w' h2 h3)
end Go.Proofs.Ytikkekdmahdgaaa
