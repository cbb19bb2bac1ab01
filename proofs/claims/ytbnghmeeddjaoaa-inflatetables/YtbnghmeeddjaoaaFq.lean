/- Numbers appended beside the stream; the walk of row. -/
import Derived.Test.YtbnghmeeddjaoaaFp
namespace Go.Proofs.Ytbnghmeeddjaoaa
open Go.RowKit Go.BigFrame Gt

theorem wpList_make_room {ops : Array Oper} {rest : List Oper} {op : Oper} {a : Act} {w : World} {Q : Exit → Act → World → Prop}
    (hgd : op.guard = none) (x y : Operand) (ho : op.op = .makeSlice 35 x y) (C : Int) (n : Nat) (hx : a.eval x = .int .i64 0) (hy : a.eval y = .int .i64 C) (hC : C = (n : Int)) (hn : n ≤ 65536)
    (h : ∀ W, W = w.alloc (.cells (ai (List.replicate n 0)) 3) → wpList Try.prog ops Q rest (a.put op.dst (.slice (some ⟨w.heap.size, 0, none⟩) 0 n)) W) : wpList Try.prog ops Q (op :: rest) a w := by
  obtain ⟨i, h1, h2, h3, h4⟩ := Try.info3'
  have hrun := run_make (P := Try.prog) w 35 3 i _ Try.underlying35 h1 h2 .i64 .i64 0 (n : Int) (by omega) (by omega) (by rw [h4]; omega) (by omega)
  rw [h3, Int.toNat_natCast, Nat.mul_one, show (Value.int .i64 0).cells = #[.int .i64 0] from rfl, made_ints] at hrun
  refine wpList_plain hgd fun K hK' => ?_
  subst hC
  unfold Oper.wp
  simp only [execOp, ho, hx, hy, Sem.run_bind, hrun, Result.andThen_ok]
  exact hK' _ _ (h _ rfl)
theorem OwnI.room (w : World) (n : Nat) (hn : n ≤ 65536) : OwnI w.heap.size (w.alloc (.cells (ai (List.replicate n 0)) 3)) (.slice (some ⟨w.heap.size, 0, none⟩) 0 n) [] :=
  ⟨rfl, .inr ⟨w.heap.size, n, ai (List.replicate n 0), rfl, Nat.le_refl _, Row.new w 3 _, Nat.zero_le _, by unfold maxLen; omega, by simp [ai], by simp⟩⟩
theorem OwnI.same {N : Nat} {w w' : World} {v : Value} {d : List Int} (h : OwnI N w v d) (hb : ∀ g, v.ownBlock = some g → w'.heap[g]? = w.heap[g]?) : OwnI N w' v d := by
  refine ⟨h.1, ?_⟩
  rcases h.2 with h2 | ⟨g, cap, cur, e1, e2, e3, e4⟩
  · exact .inl h2
  · exact .inr ⟨g, cap, cur, e1, e2, by rw [hb g (by rw [e1]; rfl)]; exact e3, e4⟩
theorem OwnI.row {N : Nat} {w : World} {v : Value} {d : List Int} (h : OwnI N w v d) : ∀ g, v.ownBlock = some g → N ≤ g ∧ ∃ cur, Row w g 3 cur := by
  intro k hk
  rcases h.2 with ⟨e, _⟩ | ⟨g, cap, cur, e1, e2, e3, _⟩
  · rw [e] at hk; simp [Value.ownBlock] at hk
  · rw [e1] at hk; simp [Value.ownBlock] at hk; subst hk; exact ⟨e2, cur, e3⟩
theorem wpList_append_intsG {ops : Array Oper} {rest : List Oper} {o : Oper} {a : Act} {w : World} {Q : Exit → Act → World → Prop} (hgd : o.guard = none) (s x : Operand)
    (ho : o.op = .call { callee := .builtin .append, args := #[s, x], argTypes := #[35, 35] }) (N : Nat) (hN : N ≤ w.heap.size)
    (v : Value) (d : List Int) (hs : a.eval s = v) (hown : OwnI N w v d) (ad : Addr) (m c : Nat) (l : List Int) (hx : a.eval x = .slice (some ad) m c) (hm : l.length = m)
    (hc : ∀ j u, (l.map (Value.int .i64))[j]? = some u → w.cell? (ad.add j) = some u) (hmax : d.length + l.length ≤ 17592186044416)
    (h : ∀ v' w', OwnI N w' v' (d ++ l) → w.grownBy w' v.ownBlock → wpList Try.prog ops Q rest (a.put o.dst v') w') : wpList Try.prog ops Q (o :: rest) a w := by
  obtain ⟨i, h1, h2, h3, h4⟩ := Try.info3'
  obtain ⟨v', w', hr, g2, g3, _⟩ := run_append_own (P := Try.prog) w N 35 o.type 3 i _ 1 8 Try.underlying35 h1 h2 h3 h4 rfl (by decide) v d.length _ hown ad m c (l.map (Value.int .i64)) (by rw [List.length_map, hm, Nat.mul_one]) hc (one_Ii l) (by unfold maxLen; omega) (by omega) hN
  have g2' : OwnI N w' v' (d ++ l) := by unfold OwnI; rw [List.length_append, List.map_append, hm]; exact g2
  refine wpList_plain hgd fun K hK => ?_
  unfold Oper.wp execOp
  simp only [ho, resolve, invoke, builtin, Sem.run_bind, Sem.run_pure, Result.andThen_ok, List.map_toArray, List.map_cons, List.map_nil, hs, hx, hr]
  exact hK _ _ (h v' w' g2' g3)
/-- The stream stands where a row of numbers beside it has grown. -/
theorem St.grown {K : Nat → Prop} {N : Nat} {w w' : World} {sb : Nat} {vb : Value} {b : List UInt8} {p : Nat} {out : List UInt8} {most : Nat} {fx : Value} (h : St K N w sb vb b p out most fx) (o : Option Nat) (g3 : w.grownBy w' o) (ho : ∀ g, o = some g → ¬ K g ∧ ∃ cur, Row w g 3 cur) : St K N w' sb vb b p out most fx ∧ Kp K w w' := by
  obtain ⟨vo, hr, hov⟩ := h.row
  have hk : ∀ k, K k → w'.heap[k]? = w.heap[k]? := fun k hk => g3.block k (h.kl k hk) (fun e => (ho k e.symm).1 hk)
  refine ⟨⟨⟨vo, hr.same (g3.block sb hr.lt fun e => ?_), hov.same fun q hq => ?_⟩, kt_keep h.kt hk, h.bts.keep fun q hq => ⟨hq, hk q hq⟩, h.sbK, fun k hk' => Nat.lt_of_lt_of_le (h.kl k hk') g3.size, h.bl, h.pl, h.ol, h.ml, Nat.le_trans h.nl g3.size⟩, ⟨g3.os, g3.tape, g3.output, g3.size, hk⟩⟩
  · obtain ⟨_, cur, r⟩ := ho sb e.symm
    unfold Row at r hr
    rw [r] at hr
    simp at hr
  · obtain ⟨-, c2, r2⟩ := hov.lt q hq
    refine g3.block q r2.lt fun e => ?_
    obtain ⟨_, cur, r⟩ := ho q e.symm
    unfold Row at r r2
    rw [r] at r2
    simp at r2
/-- So many lengths, told by symbols. -/
def rowF (lk : List Int) (b : List UInt8) (count : Nat) : Nat → Nat → List Int → Except Int (Nat × List Int)
  | 0, p, row => .ok (p, row)
  | f + 1, p, row => if row.length < count then
      match rdF lk b p with
      | .error x => .error x
      | .ok (sym, q) =>
        if sym = 16 ∧ row = [] then .error 8
        else if q + (moreF sym).1 ≤ 8 * b.length then
          if (moreF sym).2 + nbr b q (moreF sym).1 ≤ count - row.length then rowF lk b count f (q + (moreF sym).1) (row ++ List.replicate ((moreF sym).2 + nbr b q (moreF sym).1) (whatF sym row))
          else .error 8
        else .error 7
    else .ok (p, row)
theorem row_step (lk : List Int) (b : List UInt8) (count f p : Nat) (row : List Int) (h : row.length < count) : rowF lk b count (f + 1) p row = match rdF lk b p with
      | .error x => .error x
      | .ok (sym, q) =>
        if sym = 16 ∧ row = [] then .error 8
        else if q + (moreF sym).1 ≤ 8 * b.length then
          if (moreF sym).2 + nbr b q (moreF sym).1 ≤ count - row.length then rowF lk b count f (q + (moreF sym).1) (row ++ List.replicate ((moreF sym).2 + nbr b q (moreF sym).1) (whatF sym row))
          else .error 8
        else .error 7 := by
  rw [rowF, if_pos h]
theorem row_done (lk : List Int) (b : List UInt8) (count f p : Nat) (row : List Int) (h : ¬ row.length < count) : rowF lk b count f p row = .ok (p, row) := by
  cases f with
  | zero => rfl
  | succ f => rw [rowF, if_neg h]
end Go.Proofs.Ytbnghmeeddjaoaa
