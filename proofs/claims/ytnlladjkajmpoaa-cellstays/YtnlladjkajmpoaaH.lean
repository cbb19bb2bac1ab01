/- Numbers in a block of one's own. -/
import Derived.Test.YtnlladjkajmpoaaV
import Derived.Laws.AppendOwn
namespace Go.Proofs.Ytnlladjkajmpoaa
open Go.RowKit Go.BigFrame
set_option linter.unusedVariables false
set_option linter.unusedSimpArgs false

set_option maxRecDepth 100000 in
theorem Try.info3' : ∃ i, Try.prog.info? 3 = some i ∧ i.zero = some (.int .i64 0) ∧ i.size = 1 ∧ i.bytes = 8 := ⟨_, rfl, rfl, rfl, rfl⟩
/-- The block g begins with the numbers l. -/
def SegI (w : World) (g : Nat) (l : List Int) : Prop := ∃ cur, Row w g 3 cur ∧ ∀ k, k < l.length → cur[k]? = some (.int .i64 (l.getD k 0))
theorem SegI.cell {w : World} {g : Nat} {l : List Int} (h : SegI w g l) {k : Nat} (hk : k < l.length) : w.cell? ⟨g, k, none⟩ = some (.int .i64 (l.getD k 0)) := by
  obtain ⟨cur, h1, h2⟩ := h
  rw [h1.cell]; exact h2 k hk
theorem SegI.frozen {w : World} {g : Nat} {l : List Int} (h : SegI w g l) (k : Nat) : w.frozen? ⟨g, k, none⟩ = false := by
  obtain ⟨cur, h1, h2⟩ := h
  exact h1.frozen k
theorem SegI.lt {w : World} {g : Nat} {l : List Int} (h : SegI w g l) : g < w.heap.size := let ⟨_, h1, _⟩ := h; h1.lt
theorem SegI.set {w : World} {g : Nat} {l : List Int} (h : SegI w g l) (k : Nat) (x : Int) (hk : k < l.length) : SegI (w.setCell ⟨g, k, none⟩ (.int .i64 x)) g (l.set k x) := by
  obtain ⟨cur, h1, h2⟩ := h
  refine ⟨_, h1.setCell k _, fun j hj => ?_⟩
  rw [List.length_set] at hj
  have hs : k < cur.size := (Array.getElem?_eq_some_iff.1 (h2 k hk)).1
  rw [Array.getElem?_setIfInBounds]
  by_cases e : k = j
  · subst e; rw [if_pos rfl, if_pos hs]; simp [hk]
  · rw [if_neg e, h2 j hj]
    simp [e]
theorem SegI.same {w w' : World} {g : Nat} {l : List Int} (h : SegI w g l) (e : w'.heap[g]? = w.heap[g]?) : SegI w' g l := by
  obtain ⟨cur, h1, h2⟩ := h
  exact ⟨cur, by unfold Row; rw [e]; exact h1, h2⟩
theorem SegI.below {w w' : World} {g : Nat} {l : List Int} (h : SegI w g l) (hb : Below w.heap.size w w') : SegI w' g l := h.same (hb.block g h.lt)
theorem SegI.drew {w : World} {g : Nat} {l : List Int} (h : SegI w g l) : SegI w.drew g l := h
theorem SegI.drewN {w : World} {g : Nat} {l : List Int} (h : SegI w g l) (n : Nat) : SegI (w.drewN n) g l := h
/-- A row of numbers of one's own, that grows. -/
def OwnI (N : Nat) (w : World) (v : Value) (d : List Int) : Prop := w.ownsRow N 3 1 v d.length (d.map (Value.int .i64))
theorem OwnI.nil (N : Nat) (w : World) : OwnI N w (.slice none 0 0) [] := ⟨rfl, .inl ⟨rfl, rfl⟩⟩
theorem OwnI.below {N : Nat} {w w' : World} {v : Value} {d : List Int} (h : OwnI N w v d) (hb : Below w.heap.size w w') : OwnI N w' v d := by
  refine ⟨h.1, ?_⟩
  rcases h.2 with h2 | ⟨g, cap, cur, e1, e2, e3, e4⟩
  · exact .inl h2
  · exact .inr ⟨g, cap, cur, e1, e2, by rw [hb.block g (Array.getElem?_eq_some_iff.1 e3).1]; exact e3, e4⟩
theorem OwnI.alloc {N : Nat} {w : World} {v : Value} {d : List Int} (h : OwnI N w v d) (o : Obj) : OwnI N (w.alloc o) v d := h.below ((Below.refl _ _).alloc (Nat.le_refl _) _)
theorem OwnI.lt {N : Nat} {w : World} {v : Value} {d : List Int} (h : OwnI N w v d) : ∀ g, v.ownBlock = some g → N ≤ g ∧ g < w.heap.size := by
  intro k hk
  rcases h.2 with ⟨e, _⟩ | ⟨g, cap, cur, e1, e2, e3, _⟩
  · rw [e] at hk; simp [Value.ownBlock] at hk
  · rw [e1] at hk; simp [Value.ownBlock] at hk; subst hk; exact ⟨e2, (Array.getElem?_eq_some_iff.1 e3).1⟩
theorem OwnI.seg {N : Nat} {w : World} {v : Value} {d : List Int} (h : OwnI N w v d) (hd : 0 < d.length) : ∃ g cap, v = .slice (some ⟨g, 0, none⟩) d.length cap ∧ N ≤ g ∧ d.length ≤ cap ∧ SegI w g d := by
  rcases h.2 with ⟨e, e0⟩ | ⟨g, cap, cur, e1, e2, e3, e4, e5, e6, e7⟩
  · omega
  · refine ⟨g, cap, e1, e2, e4, cur, e3, fun k hk => ?_⟩
    have hf : (d.map (Value.int .i64))[k]? = some (.int .i64 (d.getD k 0)) := by simp [hk]
    rw [← e7, List.getElem?_take_of_lt (by omega)] at hf
    simpa using hf
theorem one_Ii (l : List Int) : ∀ u ∈ l.map (Value.int .i64), u.oneCell' = true := by
  intro u hu
  obtain ⟨x, _, rfl⟩ := List.mem_map.1 hu
  rfl
theorem wpList_append_ints' {ops : Array Oper} {rest : List Oper} {o : Oper} {a : Act} {w : World} {Q : Exit → Act → World → Prop} (hgd : o.guard = none) (s x : Operand)
    (ho : o.op = .call { callee := .builtin .append, args := #[s, x], argTypes := #[35, 35] }) (N : Nat) (hN : N ≤ w.heap.size)
    (v : Value) (d : List Int) (hs : a.eval s = v) (hown : OwnI N w v d) (ad : Addr) (m c : Nat) (l : List Int) (hx : a.eval x = .slice (some ad) m c) (hm : l.length = m)
    (hc : ∀ j u, (l.map (Value.int .i64))[j]? = some u → w.cell? (ad.add j) = some u) (hmax : d.length + l.length ≤ 17592186044416)
    (h : ∀ v' w', OwnI N w' v' (d ++ l) → Below N w w' → wpList Try.prog ops Q rest (a.put o.dst v') w') : wpList Try.prog ops Q (o :: rest) a w := by
  obtain ⟨i, h1, h2, h3, h4⟩ := Try.info3'
  obtain ⟨v', w', hr, g2, g3, _⟩ := run_append_own (P := Try.prog) w N 35 o.type 3 i _ 1 8 Try.underlying35 h1 h2 h3 h4 rfl (by decide) v d.length _ hown ad m c (l.map (Value.int .i64)) (by rw [List.length_map, hm, Nat.mul_one]) hc (one_Ii l) (by unfold maxLen; omega) (by omega) hN
  have g2' : OwnI N w' v' (d ++ l) := by unfold OwnI; rw [List.length_append, List.map_append, hm]; exact g2
  have hbl : Below N w w' := ⟨g3.os, g3.tape, g3.output, g3.size, fun k hk => g3.block k (by omega) (fun e => by have := (hown.lt k e.symm).1; omega)⟩
  refine wpList_plain hgd fun K hK => ?_
  unfold Oper.wp execOp
  simp only [ho, resolve, invoke, builtin, Sem.run_bind, Sem.run_pure, Result.andThen_ok, List.map_toArray, List.map_cons, List.map_nil, hs, hx, hr]
  exact hK _ _ (h v' w' g2' hbl)
theorem OwnI.down {N M : Nat} {w : World} {v : Value} {d : List Int} (h : OwnI N w v d) (hM : M ≤ N) : OwnI M w v d := by
  refine ⟨h.1, ?_⟩
  rcases h.2 with h2 | ⟨g, cap, cur, e1, e2, e3, e4⟩
  · exact .inl h2
  · exact .inr ⟨g, cap, cur, e1, Nat.le_trans hM e2, e3, e4⟩
theorem OwnI.slice {N : Nat} {w : World} {v : Value} {d : List Int} (h : OwnI N w v d) : ∃ a c, v = .slice a d.length c ∧ d.length ≤ c := by
  rcases h.2 with ⟨e, e0⟩ | ⟨g, cap, cur, e1, e2, e3, e4, _⟩
  · exact ⟨none, 0, by rw [e, e0], by omega⟩
  · exact ⟨_, cap, e1, e4⟩
/-- The numbers of a row of one's own. -/
theorem OwnI.is {N : Nat} {w : World} {v : Value} {d : List Int} (h : OwnI N w v d) : Is w.heap.size w v d := by
  by_cases h0 : 0 < d.length
  · obtain ⟨g, cap, e, _, hc, hs⟩ := h.seg h0
    exact ⟨_, _, e, hc, .inr ⟨g, 0, rfl, hs.lt, fun k hk => by rw [Nat.zero_add]; exact hs.cell hk⟩⟩
  · obtain ⟨a, c, e, hc⟩ := h.slice
    exact ⟨a, c, e, hc, .inl (List.eq_nil_of_length_eq_zero (by omega))⟩
/-- The cells of numbers in a row. -/
theorem Row.icells {w : World} {g : Nat} {t : TypeId} {l : List Int} (h : Row w g t (l.map (Value.int .i64)).toArray) : ∀ j u, (l.map (Value.int .i64))[j]? = some u → w.cell? ((⟨g, 0, none⟩ : Addr).add j) = some u := by
  intro j u hu
  rw [Addr.add_mid, Nat.zero_add, h.cell]
  simpa using hu
/-- A new row. -/
theorem OwnI.made (w : World) (l : List Int) (hl : l.length ≤ 65536) : OwnI w.heap.size (w.alloc (.cells (l.map (Value.int .i64)).toArray 3)) (.slice (some ⟨w.heap.size, 0, none⟩) l.length l.length) l :=
  ⟨by simp, .inr ⟨w.heap.size, l.length, (l.map (Value.int .i64)).toArray, rfl, Nat.le_refl _, Row.new w 3 _, Nat.le_refl _, by unfold maxLen; omega, by simp, by simp; exact List.take_of_length_le (by simp)⟩⟩
end Go.Proofs.Ytnlladjkajmpoaa
