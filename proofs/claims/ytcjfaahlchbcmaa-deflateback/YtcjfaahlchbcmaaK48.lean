/- Numbers appended beside the stream; the walk of row. The walk of row. -/
import Derived.Test.YtcjfaahlchbcmaaK47
import Derived.Test.YtcjfaahlchbcmaaK05
import Derived.Test.YtcjfaahlchbcmaaK01
import Derived.Defers
import Derived.Recover
import Derived.Laws.Pointers
namespace Go.Proofs.Ytcjfaahlchbcmaa
open Go.RowKit Go.BigFrame Gt
theorem OwnI.same {N : Nat} {w w' : World} {v : Value} {d : List Int} (h : OwnI N w v d) (hb : ∀ g, v.ownBlock = some g → w'.heap[g]? = w.heap[g]?) : OwnI N w' v d := by
  refine ⟨h.1, ?_⟩
  rcases h.2 with h2 | ⟨g, cap, cur, e1, e2, e3, e4⟩
  · exact .inl h2
  · exact .inr ⟨g, cap, cur, e1, e2, by rw [hb g (by rw [e1]; rfl)]; exact e3, e4⟩
theorem OwnI.row {N : Nat} {w : World} {v : Value} {d : List Int} (h : OwnI N w v d) : ∀ g, v.ownBlock = some g → N ≤ g ∧ ∃ cur, Row w g 3 cur := by
  intro k hk
  rcases h.2 with ⟨e, _⟩ | ⟨g, cap, cur, e1, e2, e3, _⟩
  · rw [e] at hk; simp [Value.ownBlock] at hk
  · rw [e1] at hk; simp [Value.ownBlock] at hk; subst hk; exact ⟨e2, cur, e3⟩
theorem wpList_append_intsG {ops : Array Oper} {rest : List Oper} {o : Oper} {a : Act} {w : World} {Q : Exit → Act → World → Prop} (hgd : o.guard = none) (s x : Operand)
    (ho : o.op = .call { callee := .builtin .append, args := #[s, x], argTypes := #[63, 63] }) (N : Nat) (hN : N ≤ w.heap.size)
    (v : Value) (d : List Int) (hs : a.eval s = v) (hown : OwnI N w v d) (ad : Addr) (m c : Nat) (l : List Int) (hx : a.eval x = .slice (some ad) m c) (hm : l.length = m)
    (hc : ∀ j u, (l.map (Value.int .i64))[j]? = some u → w.cell? (ad.add j) = some u) (hmax : d.length + l.length ≤ 17592186044416)
    (h : ∀ v' w', OwnI N w' v' (d ++ l) → w.grownBy w' v.ownBlock → wpList Try.prog ops Q rest (a.put o.dst v') w') : wpList Try.prog ops Q (o :: rest) a w := by
  obtain ⟨i, h1, h2, h3, h4⟩ := Try.info3'
  obtain ⟨v', w', hr, g2, g3, _⟩ := run_append_own (P := Try.prog) w N 63 o.type 3 i _ 1 8 Try.underlying63 h1 h2 h3 h4 rfl (by decide) v d.length _ hown ad m c (l.map (Value.int .i64)) (by rw [List.length_map, hm, Nat.mul_one]) hc (one_Ii l) (by unfold maxLen; omega) (by omega) hN
  have g2' : OwnI N w' v' (d ++ l) := by unfold OwnI; rw [List.length_append, List.map_append, hm]; exact g2
  refine wpList_plain hgd fun K hK => ?_
  unfold Oper.wp execOp
  simp only [ho, resolve, invoke, builtin, Sem.run_bind, Sem.run_pure, Result.andThen_ok, List.map_toArray, List.map_cons, List.map_nil, hs, hx, hr]
  exact hK _ _ (h v' w' g2' g3)
theorem St.grown {K : Nat → Prop} {N : Nat} {w w' : World} {sb : Nat} {vb : Value} {b : List UInt8} {p : Nat} {out : List UInt8} {most : Nat} {fx : Value} (h : St K N w sb vb b p out most fx) (o : Option Nat) (g3 : w.grownBy w' o) (ho : ∀ g, o = some g → ¬ K g ∧ ∃ cur, Row w g 3 cur) : St K N w' sb vb b p out most fx ∧ Kp K w w' := by
  obtain ⟨vo, hr, hov⟩ := h.row
  have hk : ∀ k, K k → w'.heap[k]? = w.heap[k]? := fun k hk => g3.block k (h.kl k hk) (fun e => (ho k e.symm).1 hk)
  refine ⟨⟨⟨vo, hr.same (g3.block sb hr.lt fun e => ?_), hov.same fun q hq => ?_⟩, kt_keep h.kt hk, h.bts.keep fun q hq => ⟨hq, hk q hq⟩, h.sbK, fun k hk' => Nat.lt_of_lt_of_le (h.kl k hk') g3.size, h.bl, h.pl, h.ol, h.ml, Nat.le_trans h.nl g3.size⟩, ⟨g3.os, g3.tape, g3.output, g3.size, hk⟩⟩
  · obtain ⟨_, cur, r⟩ := ho sb e.symm
    unfold Row at r hr
    rw [r] at hr
    simp at hr
  · obtain ⟨-, c2, r2⟩ := hov.lt q hq
    refine g3.block q r2.lt fun e => ?_
    obtain ⟨_, cur, r⟩ := ho q e.symm
    unfold Row at r r2
    rw [r] at r2
    simp at r2
def rowF (lk : List Int) (b : List UInt8) (count : Nat) : Nat → Nat → List Int → Except Int (Nat × List Int)
  | 0, p, row => .ok (p, row)
  | f + 1, p, row => if row.length < count then
      match rdF lk b p with
      | .error x => .error x
      | .ok (sym, q) =>
        if sym = 16 ∧ row = [] then .error 8
        else if q + (moreF sym).1 ≤ 8 * b.length then
          if (moreF sym).2 + nbr b q (moreF sym).1 ≤ count - row.length then rowF lk b count f (q + (moreF sym).1) (row ++ List.replicate ((moreF sym).2 + nbr b q (moreF sym).1) (whatF sym row))
          else .error 8
        else .error 7
    else .ok (p, row)
theorem row_step (lk : List Int) (b : List UInt8) (count f p : Nat) (row : List Int) (h : row.length < count) : rowF lk b count (f + 1) p row = match rdF lk b p with
      | .error x => .error x
      | .ok (sym, q) =>
        if sym = 16 ∧ row = [] then .error 8
        else if q + (moreF sym).1 ≤ 8 * b.length then
          if (moreF sym).2 + nbr b q (moreF sym).1 ≤ count - row.length then rowF lk b count f (q + (moreF sym).1) (row ++ List.replicate ((moreF sym).2 + nbr b q (moreF sym).1) (whatF sym row))
          else .error 8
        else .error 7 := by
  rw [rowF, if_pos h]
theorem row_done (lk : List Int) (b : List UInt8) (count f p : Nat) (row : List Int) (h : ¬ row.length < count) : rowF lk b count f p row = .ok (p, row) := by
  cases f with
  | zero => rfl
  | succ f => rw [rowF, if_neg h]
open Go.RowKit Go.BigFrame Gt
theorem symF_lt (l : List Int) (bit : Nat → Option Nat) : ∀ f n c, (Gf.symF l bit f n c).2.2 = 0 → (Gf.symF l bit f n c).1 < l.length
  | 0, n, c, h => by simp [Gf.symF] at h
  | f + 1, n, c, h => by
    rw [Gf.symF] at h ⊢
    cases hh : Gf.hit l n c with
    | some i =>
      simp only
      exact (Gf.some_hit hh).1
    | none =>
      simp only [hh] at h ⊢
      by_cases hl : Gf.live l n c l.length = true
      · simp only [hl, if_true] at h ⊢
        cases hb : bit n with
        | none => simp [hb] at h
        | some v =>
          simp only [hb] at h ⊢
          exact symF_lt l bit f (n + 1) (2 * c + v) h
      · simp [hl] at h
theorem rdF_lt {l : List Int} {b : List UInt8} {p s q : Nat} (h : rdF l b p = .ok (s, q)) : s < l.length := by
  unfold rdF at h
  split at h
  · rename_i h0
    have := symF_lt l _ _ _ _ h0
    cases h
    exact this
  · cases h
theorem more_le (sym : Nat) (b : List UInt8) (q : Nat) : 1 ≤ (moreF sym).2 + nbr b q (moreF sym).1 ∧ (moreF sym).2 + nbr b q (moreF sym).1 ≤ 200 := by
  have h := nbr_lt b q (moreF sym).1
  have h7 : (moreF sym).1 ≤ 7 ∧ 1 ≤ (moreF sym).2 ∧ (moreF sym).2 ≤ 11 := by
    unfold moreF
    split
    · decide
    split
    · decide
    split <;> decide
  have h8 : nbr b q (moreF sym).1 < 2 ^ 7 := Nat.lt_of_lt_of_le h (Nat.pow_le_pow_right (by decide) h7.1)
  have : (2 : Nat) ^ 7 = 128 := rfl
  omega
theorem Row.cells_ai {w : World} {g : Nat} {l : List Int} (h : Row w g 3 (ai l)) : ∀ j u, (l.map (Value.int .i64))[j]? = some u → w.cell? ((⟨g, 0, none⟩ : Addr).add j) = some u := by
  intro j u hu
  have hj : j < l.length := by
    have := (List.getElem?_eq_some_iff.1 hu).1
    rwa [List.length_map] at this
  rw [Addr.add_mid, Nat.zero_add, h.cell, ai_get hj]
  simpa [hj] using hu
def RowEnds (K : Nat → Prop) (N M : Nat) (w : World) (sb : Nat) (vb : Value) (b out : List UInt8) (most : Nat) (fx : Value) (r : Except Int (Nat × List Int)) (e : Ending) (w' : World) : Prop :=
  Kp K w w' ∧ match r with
      | .ok (q, row) => (∃ g cap, e = .returned (.slice (some ⟨g, 0, none⟩) row.length cap) ∧ M ≤ g ∧ row.length ≤ cap ∧ SegI w' g row) ∧ St K N w' sb vb b q out most fx
      | .error x => e = flt x
theorem RowEnds.bad {K : Nat → Prop} {N M : Nat} {w w' : World} {sb : Nat} {vb : Value} {b out : List UInt8} {most : Nat} {fx : Value} {r : Except Int (Nat × List Int)} {x : Int} (h : r = .error x) (kp : Kp K w w') : RowEnds K N M w sb vb b out most fx r (flt x) w' := by subst h; exact ⟨kp, rfl⟩
theorem RowEnds.good {K : Nat → Prop} {N M : Nat} {w w' : World} {sb : Nat} {vb : Value} {b out : List UInt8} {most : Nat} {fx : Value} {r : Except Int (Nat × List Int)} {q g cap : Nat} {row : List Int} (h : r = .ok (q, row)) (kp : Kp K w w') (hM : M ≤ g) (hc : row.length ≤ cap) (sg : SegI w' g row) (st : St K N w' sb vb b q out most fx) : RowEnds K N M w sb vb b out most fx r (.returned (.slice (some ⟨g, 0, none⟩) row.length cap)) w' := by subst h; exact ⟨kp, ⟨g, cap, rfl, hM, hc, sg⟩, st⟩
open Go.RowKit Go.BigFrame Gt
def meaF (T : Int × Int × Int) (b : List UInt8) (p : Nat) : Except Int (Nat × Nat) :=
  if T.2.2 = 0 then (if p + T.2.1.toNat ≤ 8 * b.length then .ok (T.1.toNat + nbr b p T.2.1.toNat, p + T.2.1.toNat) else .error 7) else .error 8
def toldF (l1 l2 : List Int) (b : List UInt8) (most : Nat) : Nat → Nat → List UInt8 → Except Int (Nat × List UInt8)
  | 0, _, _ => .error 7
  | f + 1, p, out => match rdF l1 b p with
    | .error x => .error x
    | .ok (s, q) =>
      if s = 256 then .ok (q, out)
      else if s < 256 then (if out.length = most then .error 4 else toldF l1 l2 b most f q (out ++ [UInt8.ofNat s]))
      else match meaF (Gf.lenT s) b q with
        | .error x => .error x
        | .ok (len, q1) => match rdF l2 b q1 with
          | .error x => .error x
          | .ok (d, q2) => match meaF (Gf.disT d) b q2 with
            | .error x => .error x
            | .ok (dist, q3) => match againF most q3 len dist out with
              | .error x => .error x
              | .ok (p', out') => toldF l1 l2 b most f p' out'
theorem stp_bd : (∀ n, n < 28 → (Gf.stp 3 4 n).1 ≤ 100000 ∧ (Gf.stp 3 4 n).2 ≤ 16) ∧ (∀ n, n < 30 → 1 ≤ (Gf.stp 1 2 n).1 ∧ (Gf.stp 1 2 n).1 ≤ 30000 ∧ (Gf.stp 1 2 n).2 ≤ 13) := by decide +kernel
theorem lenT_bd (z : Int) : ∃ (base extra : Nat) (e : Int), Gf.lenT z = ((base : Int), (extra : Int), e) ∧ base ≤ 1000 ∧ extra ≤ 16 := by
  have h2 : ∀ n, n < 28 → (Gf.stp 3 4 n).1 ≤ 1000 := by decide +kernel
  unfold Gf.lenT
  split
  · exact ⟨0, 0, 2, rfl, by decide, by decide⟩
  split
  · exact ⟨258, 0, 0, rfl, by decide, by decide⟩
  · exact ⟨_, _, 0, rfl, h2 _ (by omega), (stp_bd.1 _ (by omega)).2⟩
theorem disT_bd (z : Int) : ∃ (base extra : Nat) (e : Int), Gf.disT z = ((base : Int), (extra : Int), e) ∧ base ≤ 30000 ∧ extra ≤ 13 ∧ (e = 0 → 1 ≤ base) := by
  unfold Gf.disT
  split
  · exact ⟨0, 0, 2, rfl, by decide, by decide, by decide⟩
  · have := stp_bd.2 z.toNat (by omega)
    exact ⟨_, _, 0, rfl, this.2.1, this.2.2, fun _ => this.1⟩
theorem rdF_gt {l : List Int} {b : List UInt8} {p s q : Nat} (h : rdF l b p = .ok (s, q)) : p < q := by
  have key : ∀ f n c, (Gf.symF l (Gf.bitAt b p) f n c).2.2 = 0 → 0 < (Gf.symF l (Gf.bitAt b p) f n c).2.1 := by
    intro f
    induction f with
    | zero => intro n c h; simp [Gf.symF] at h
    | succ f ih =>
      intro n c h
      rw [Gf.symF] at h ⊢
      cases hh : Gf.hit l n c with
      | some i =>
        simp only
        have := (Gf.some_hit hh).2.2.1
        omega
      | none =>
        simp only [hh] at h ⊢
        by_cases hl : Gf.live l n c l.length = true
        · simp only [hl, if_true] at h ⊢
          cases hb : Gf.bitAt b p n with
          | none => simp [hb] at h
          | some v =>
            simp only [hb] at h ⊢
            exact ih (n + 1) (2 * c + v) h
        · simp [hl] at h
  unfold rdF at h
  split at h
  · rename_i h0
    have := key _ _ _ h0
    cases h
    omega
  · cases h
def MEnds (K : Nat → Prop) (N : Nat) (w : World) (sb : Nat) (vb : Value) (b out : List UInt8) (most : Nat) (fx : Value) (r : Except Int (Nat × Nat)) (e : Ending) (w' : World) : Prop :=
  Kp K w w' ∧ match r with
      | .ok (s, q) => e = .returned (.int .i64 (s : Int)) ∧ St K N w' sb vb b q out most fx
      | .error x => e = flt x
theorem MEnds.cases {K : Nat → Prop} {N : Nat} {w w' : World} {sb : Nat} {vb : Value} {b out : List UInt8} {most : Nat} {fx : Value} {r : Except Int (Nat × Nat)} {e : Ending} (h : MEnds K N w sb vb b out most fx r e w') :
    Kp K w w' ∧ ((∃ s q, r = .ok (s, q) ∧ e = .returned (.int .i64 (s : Int)) ∧ St K N w' sb vb b q out most fx) ∨ (∃ x, r = .error x ∧ e = flt x)) := by
  obtain ⟨kp, h⟩ := h
  refine ⟨kp, ?_⟩
  cases r with
  | error x => exact .inr ⟨x, rfl, h⟩
  | ok sq => exact .inl ⟨sq.1, sq.2, rfl, h.1, h.2⟩
theorem Ends.cases {K : Nat → Prop} {N : Nat} {w w' : World} {sb : Nat} {vb : Value} {b : List UInt8} {most : Nat} {fx : Value} {r : Except Int (Nat × List UInt8)} {e : Ending} (h : Ends K N w sb vb b most fx r e w') :
    Kp K w w' ∧ ((∃ q o, r = .ok (q, o) ∧ e = .returned (.tuple #[]) ∧ St K N w' sb vb b q o most fx) ∨ (∃ x, r = .error x ∧ e = flt x)) := by
  obtain ⟨kp, h⟩ := h
  refine ⟨kp, ?_⟩
  cases r with
  | error x => exact .inr ⟨x, rfl, h⟩
  | ok sq => exact .inl ⟨sq.1, sq.2, rfl, h.1, h.2⟩
open Go.RowKit Go.BigFrame Gt
open Go.RowKit Go.BigFrame Gt
theorem row_type {w : World} {g : Nat} {t t' : TypeId} {c c' : Array Value} (h : Row w g t c) (h' : Row w g t' c') : t = t' := by
  unfold Row at h h'
  rw [h] at h'
  simp at h'
  exact h'.2
theorem St.setRow {K : Nat → Prop} {N : Nat} {w : World} {sb : Nat} {vb : Value} {b : List UInt8} {p : Nat} {out : List UInt8} {most : Nat} {fx : Value} (h : St K N w sb vb b p out most fx) (g : Nat) (c' : Array Value) {t : TypeId} {cur : Array Value} (r : Row w g t cur) (ht : t ≠ 5) (hs : g ≠ sb) (hg : ¬ K g) : St K N (w.setRow g c') sb vb b p out most fx ∧ Kp K w (w.setRow g c') := by
  obtain ⟨vo, hr, ho⟩ := h.row
  have hk : ∀ k, k ≠ g → (w.setRow g c').heap[k]? = w.heap[k]? := fun k hk => setRow_other _ _ _ _ hk
  have hne : ∀ k, K k → k ≠ g := fun k hk e => hg (e ▸ hk)
  have hsz : (w.setRow g c').heap.size = w.heap.size := by simp [World.setRow]
  refine ⟨⟨⟨vo, hr.same (hk sb (Ne.symm hs)), ho.same fun q hq => hk q ?_⟩, kt_keep h.kt fun k hk' => hk k (hne k hk'), h.bts.keep fun q hq => ⟨hq, hk q (hne q hq)⟩, h.sbK, fun k hk' => by rw [hsz]; exact h.kl k hk', h.bl, h.pl, h.ol, h.ml, by rw [hsz]; exact h.nl⟩, ⟨rfl, rfl, rfl, by rw [hsz]; exact Nat.le_refl _, fun k hk' => hk k (hne k hk')⟩⟩
  rintro rfl
  obtain ⟨-, c2, r2⟩ := ho.lt q hq
  exact ht (row_type r r2)
def dynF (b : List UInt8) (p : Nat) : Except Int (Nat × List Int × List Int) :=
  if p + 5 ≤ 8 * b.length then
    if nbr b p 5 ≤ 29 then
      if p + 5 + 5 ≤ 8 * b.length then
        if nbr b (p + 5) 5 ≤ 29 then
          if p + 5 + 5 + 4 ≤ 8 * b.length then
            if p + 5 + 5 + 4 + 3 * (nbr b (p + 5 + 5) 4 + 4) ≤ 8 * b.length then
              if Gf.chkE (kindL b (p + 5 + 5 + 4) (nbr b (p + 5 + 5) 4 + 4)) = 0 then
                match rowF (kindL b (p + 5 + 5 + 4) (nbr b (p + 5 + 5) 4 + 4)) b (nbr b p 5 + 257 + (nbr b (p + 5) 5 + 1)) (nbr b p 5 + 257 + (nbr b (p + 5) 5 + 1) + 1) (p + 5 + 5 + 4 + 3 * (nbr b (p + 5 + 5) 4 + 4)) [] with
                | .error x => .error x
                | .ok (q, row) => if row.getD 256 0 = 0 then .error 8
                  else if Gf.chkE (row.take (nbr b p 5 + 257)) = 0 ∧ Gf.chkE (row.drop (nbr b p 5 + 257)) = 0 then .ok (q, row.take (nbr b p 5 + 257), row.drop (nbr b p 5 + 257)) else .error 8
              else .error 8
            else .error 7
          else .error 7
        else .error 8
      else .error 7
    else .error 8
  else .error 7
open Go.RowKit Go.BigFrame Gt
theorem RowEnds.cases {K : Nat → Prop} {N M : Nat} {w w' : World} {sb : Nat} {vb : Value} {b out : List UInt8} {most : Nat} {fx : Value} {r : Except Int (Nat × List Int)} {e : Ending} (h : RowEnds K N M w sb vb b out most fx r e w') :
    Kp K w w' ∧ ((∃ q row g cap, r = .ok (q, row) ∧ e = .returned (.slice (some ⟨g, 0, none⟩) row.length cap) ∧ M ≤ g ∧ row.length ≤ cap ∧ SegI w' g row ∧ St K N w' sb vb b q out most fx) ∨ (∃ x, r = .error x ∧ e = flt x)) := by
  obtain ⟨kp, h⟩ := h
  refine ⟨kp, ?_⟩
  cases r with
  | error x => exact .inr ⟨x, rfl, h⟩
  | ok sq => obtain ⟨⟨g, cap, h1, h2, h3, h4⟩, h5⟩ := h; exact .inl ⟨sq.1, sq.2, g, cap, rfl, h1, h2, h3, h4, h5⟩
theorem ints_part {w : World} {g cap : Nat} {row : List Int} (h : SegI w g row) (hc : row.length ≤ cap) (k : Nat) (hk : k ≤ row.length) :
    Ints w.heap.size w (.slice (some ⟨g, 0, none⟩) k cap) (row.take k) ∧ Ints w.heap.size w (.slice (some ⟨g, k, none⟩) (row.length - k) (cap - k)) (row.drop k) := by
  constructor
  · refine ⟨_, _, by rw [List.length_take, Nat.min_eq_left hk], by rw [List.length_take]; omega, .inr ⟨g, 0, rfl, h.lt, fun j hj => ?_⟩⟩
    rw [List.length_take] at hj
    rw [Nat.zero_add, h.cell (by omega)]
    simp [List.getD_eq_getElem?_getD, show j < k by omega]
  · refine ⟨_, _, by rw [List.length_drop], by rw [List.length_drop]; omega, .inr ⟨g, k, rfl, h.lt, fun j hj => ?_⟩⟩
    rw [List.length_drop] at hj
    rw [h.cell (by omega)]
    simp [List.getD_eq_getElem?_getD, List.getElem?_drop]
open Go.RowKit Go.BigFrame Gt
def blockF (b : List UInt8) (most p : Nat) (out : List UInt8) : Except Int (Nat × List UInt8) :=
  if p + 2 ≤ 8 * b.length then
    if nbr b p 2 = 0 then storedF b most (p + 2) out
    else if nbr b p 2 = 1 then toldF fixS fixD b most (8 * b.length + 1) (p + 2) out
    else if nbr b p 2 = 2 then
      match dynF b (p + 2) with
      | .error x => .error x
      | .ok (q, l1, l2) => toldF l1 l2 b most (8 * b.length + 1) q out
    else .error 8
  else .error 7
theorem St.fix {K : Nat → Prop} {N : Nat} {w : World} {sb : Nat} {vb : Value} {b : List UInt8} {p : Nat} {out : List UInt8} {most : Nat} {fx : Value} (h : St K N w sb vb b p out most fx) (v : Value) : St K N (w.setCell ⟨sb, 4, none⟩ v) sb vb b p out most v := by
  obtain ⟨vo, hr, ho⟩ := h.row
  have hk : ∀ k, K k → (w.setCell ⟨sb, 4, none⟩ v).heap[k]? = w.heap[k]? := fun k hk => Below.heap_setCell _ _ _ _ (fun e => h.sbK (by have e : k = sb := e; rw [← e]; exact hk))
  exact ⟨⟨vo, by simpa using hr.setCell 4 v, ho.same fun g hg => Below.heap_setCell _ _ _ _ (St.ne ho hr g hg)⟩, kt_keep h.kt hk, h.bts.keep fun g hg => ⟨hg, hk g hg⟩, h.sbK, fun k hk => by simpa [World.setCell] using h.kl k hk, h.bl, h.pl, h.ol, h.ml, by simpa [World.setCell] using h.nl⟩
theorem chk_fixS : Gf.chkE fixS = 0 := by decide +kernel
theorem chk_fixD : Gf.chkE fixD = 0 := by decide +kernel
open Go.RowKit Go.BigFrame Gt
open Go.RowKit Go.BigFrame Gt
open Go.RowKit Go.BigFrame Gt
def blocksF (b : List UInt8) (most : Nat) : Nat → Nat → List UInt8 → Except Int (Nat × List UInt8)
  | 0, _, _ => .error 7
  | f + 1, p, out => if p + 1 ≤ 8 * b.length then
      match blockF b most (p + 1) out with
      | .error x => .error x
      | .ok (q, o) => if nbr b p 1 = 1 then .ok (q, o) else blocksF b most f q o
    else .error 7
def Up {α : Type} (p : Nat) (r : Except Int (Nat × α)) : Prop := match r with
  | .ok (q, _) => p ≤ q
  | .error x => x ≠ 0
theorem Up.le {α : Type} {p p' : Nat} {r : Except Int (Nat × α)} (h : Up p r) (hp : p' ≤ p) : Up p' r := by
  cases r with
  | error x => exact h
  | ok q => have : p ≤ q.1 := h; exact (Nat.le_trans hp this : p' ≤ q.1)
theorem up_puts (b : List UInt8) (most : Nat) : ∀ k p out, Up p (putsF b most k p out)
  | 0, p, out => Nat.le_refl p
  | k + 1, p, out => by
    rw [putsF]
    split
    · split
      · exact (by decide : (4 : Int) ≠ 0)
      · exact (up_puts b most k (p + 8) _).le (by omega)
    · exact (by decide : (7 : Int) ≠ 0)
theorem up_stored (b : List UInt8) (most p : Nat) (out : List UInt8) : Up p (storedF b most p out) := by
  unfold storedF
  split
  · split
    · split
      · exact (up_puts b most _ _ out).le (by omega)
      · exact (by decide : (8 : Int) ≠ 0)
    · exact (by decide : (7 : Int) ≠ 0)
  · exact (by decide : (7 : Int) ≠ 0)
theorem up_rd (l : List Int) (b : List UInt8) (p : Nat) : match rdF l b p with
    | .ok (_, q) => p < q
    | .error x => x ≠ 0 := by
  cases h : rdF l b p with
  | ok sq => exact rdF_gt h
  | error x =>
    unfold rdF at h
    split at h
    · cases h
    · cases h; assumption
theorem up_mea (T : Int × Int × Int) (b : List UInt8) (p : Nat) : match meaF T b p with
    | .ok (_, q) => p ≤ q
    | .error x => x ≠ 0 := by
  cases h : meaF T b p with
  | ok lq =>
    unfold meaF at h
    split at h
    · split at h
      · cases h; exact Nat.le_add_right _ _
      · cases h
    · cases h
  | error x =>
    unfold meaF at h
    split at h
    · split at h
      · cases h
      · cases h; exact (by decide : (7 : Int) ≠ 0)
    · cases h; exact (by decide : (8 : Int) ≠ 0)
theorem up_tell (most dist : Nat) : ∀ k out x, tellF most dist k out = .error x → x ≠ 0
  | 0, out, x, h => by cases h
  | k + 1, out, x, h => by
    rw [tell_step] at h
    split at h
    · cases h; decide
    · exact up_tell most dist k _ x h
theorem up_again (most p len dist : Nat) (out : List UInt8) : Up p (againF most p len dist out) := by
  unfold againF
  split
  · exact (by decide : (8 : Int) ≠ 0)
  · cases h : tellF most dist len out with
    | error x => exact up_tell most dist len out x h
    | ok o => show p ≤ p; exact Nat.le_refl p
theorem told_zero (l1 l2 : List Int) (b : List UInt8) (most p : Nat) (out : List UInt8) : toldF l1 l2 b most 0 p out = .error 7 := rfl
set_option maxRecDepth 100000 in
set_option maxHeartbeats 4000000 in
theorem told_step (l1 l2 : List Int) (b : List UInt8) (most f p : Nat) (out : List UInt8) : Box' (toldF l1 l2 b most (f + 1) p out = match rdF l1 b p with
    | .error x => .error x
    | .ok (s, q) =>
      if s = 256 then .ok (q, out)
      else if s < 256 then (if out.length = most then .error 4 else toldF l1 l2 b most f q (out ++ [UInt8.ofNat s]))
      else match meaF (Gf.lenT s) b q with
        | .error x => .error x
        | .ok (len, q1) => match rdF l2 b q1 with
          | .error x => .error x
          | .ok (d, q2) => match meaF (Gf.disT d) b q2 with
            | .error x => .error x
            | .ok (dist, q3) => match againF most q3 len dist out with
              | .error x => .error x
              | .ok (p', out') => toldF l1 l2 b most f p' out') := ⟨rfl⟩
set_option maxRecDepth 100000 in
set_option maxHeartbeats 1000000 in
theorem up_told (l1 l2 : List Int) (b : List UInt8) (most : Nat) : ∀ f p out, Up p (toldF l1 l2 b most f p out) := by
  intro f
  induction f with
  | zero =>
    intro p out
    rw [told_zero]
    exact (by decide : (7 : Int) ≠ 0)
  | succ f ih =>
    intro p out
    rw [(told_step l1 l2 b most f p out).out]
    have h1 := up_rd l1 b p
    cases hr : rdF l1 b p with
    | error x => rw [hr] at h1; exact h1
    | ok sq =>
      obtain ⟨s, q⟩ := sq
      rw [hr] at h1
      have h1 : p < q := h1
      simp only
      split
      · exact Nat.le_of_lt h1
      split
      · split
        · exact (by decide : (4 : Int) ≠ 0)
        · exact (ih q _).le (by omega)
      · have h2 := up_mea (Gf.lenT s) b q
        cases hm : meaF (Gf.lenT s) b q with
        | error x => rw [hm] at h2; exact h2
        | ok lq =>
          obtain ⟨len, q1⟩ := lq
          rw [hm] at h2
          have h2 : q ≤ q1 := h2
          simp only
          have h3 := up_rd l2 b q1
          cases hd : rdF l2 b q1 with
          | error x => rw [hd] at h3; exact h3
          | ok dq =>
            obtain ⟨d, q2⟩ := dq
            rw [hd] at h3
            have h3 : q1 < q2 := h3
            simp only
            have h4 := up_mea (Gf.disT d) b q2
            cases he : meaF (Gf.disT d) b q2 with
            | error x => rw [he] at h4; exact h4
            | ok eq =>
              obtain ⟨dist, q3⟩ := eq
              rw [he] at h4
              have h4 : q2 ≤ q3 := h4
              simp only
              have h5 := up_again most q3 len dist out
              cases ha : againF most q3 len dist out with
              | error x => rw [ha] at h5; exact h5
              | ok po =>
                obtain ⟨p', out'⟩ := po
                rw [ha] at h5
                have h5 : q3 ≤ p' := h5
                exact (ih p' out').le (by omega)
theorem up_row (lk : List Int) (b : List UInt8) (count : Nat) : ∀ f p row, Up p (rowF lk b count f p row)
  | 0, p, row => Nat.le_refl p
  | f + 1, p, row => by
    rw [rowF]
    split
    · have h1 := up_rd lk b p
      cases hr : rdF lk b p with
      | error x => rw [hr] at h1; exact h1
      | ok sq =>
        obtain ⟨s, q⟩ := sq
        rw [hr] at h1
        have h1 : p < q := h1
        simp only
        split
        · exact (by decide : (8 : Int) ≠ 0)
        split
        · split
          · exact (up_row lk b count f _ _).le (by omega)
          · exact (by decide : (8 : Int) ≠ 0)
        · exact (by decide : (7 : Int) ≠ 0)
    · exact Nat.le_refl p
theorem up_dyn (b : List UInt8) (p : Nat) : Up p (dynF b p) := by
  unfold dynF
  split
  case isFalse => exact (by decide : (7 : Int) ≠ 0)
  split
  case isFalse => exact (by decide : (8 : Int) ≠ 0)
  split
  case isFalse => exact (by decide : (7 : Int) ≠ 0)
  split
  case isFalse => exact (by decide : (8 : Int) ≠ 0)
  split
  case isFalse => exact (by decide : (7 : Int) ≠ 0)
  split
  case isFalse => exact (by decide : (7 : Int) ≠ 0)
  split
  case isFalse => exact (by decide : (8 : Int) ≠ 0)
  have h := up_row (kindL b (p + 5 + 5 + 4) (nbr b (p + 5 + 5) 4 + 4)) b (nbr b p 5 + 257 + (nbr b (p + 5) 5 + 1)) (nbr b p 5 + 257 + (nbr b (p + 5) 5 + 1) + 1) (p + 5 + 5 + 4 + 3 * (nbr b (p + 5 + 5) 4 + 4)) []
  split
  · rename_i x hx; rw [hx] at h; exact h
  · rename_i q row hx
    rw [hx] at h
    have h : p + 5 + 5 + 4 + 3 * (nbr b (p + 5 + 5) 4 + 4) ≤ q := h
    split
    · exact (by decide : (8 : Int) ≠ 0)
    split
    · show p ≤ q; omega
    · exact (by decide : (8 : Int) ≠ 0)
set_option maxRecDepth 100000 in
theorem up_block (b : List UInt8) (most p : Nat) (out : List UInt8) : Up p (blockF b most p out) := by
  unfold blockF
  split
  case isFalse => exact (by decide : (7 : Int) ≠ 0)
  split
  · exact (up_stored b most (p + 2) out).le (by omega)
  split
  · exact (up_told fixS fixD b most (8 * b.length + 1) (p + 2) out).le (by omega)
  split
  · have h := up_dyn b (p + 2)
    split
    · rename_i x hx; rw [hx] at h; exact h
    · rename_i q l1 l2 hx
      rw [hx] at h
      have h : p + 2 ≤ q := h
      exact (up_told l1 l2 b most (8 * b.length + 1) q out).le (by omega)
  · exact (by decide : (8 : Int) ≠ 0)
open Go.RowKit Go.BigFrame Gt
theorem St.back2 {K K' : Nat → Prop} {N : Nat} {w w' : World} {sb : Nat} {vb : Value} {b : List UInt8} {p p' : Nat} {out out' : List UInt8} {most : Nat} {fx fx' : Value} (h : St K N w sb vb b p out most fx) (h' : St K' N w' sb vb b p' out' most fx') (kp : Kp K w w') : St K N w' sb vb b p' out' most fx' :=
  ⟨h'.row, kt_keep h.kt kp.block, h.bts.keep fun g hg => ⟨hg, kp.block g hg⟩, h.sbK, fun k hk => Nat.lt_of_lt_of_le (h.kl k hk) kp.size, h'.bl, h'.pl, h'.ol, h'.ml, h'.nl⟩
def LEnds (K : Nat → Prop) (N : Nat) (w : World) (sb : Nat) (vb : Value) (b : List UInt8) (most : Nat) (r : Except Int (Nat × List UInt8)) (e : Ending) (w' : World) : Prop :=
  Kp K w w' ∧ match r with
    | .ok (p, out) => e = .returned (.int .i64 0) ∧ ∃ fx, St K N w' sb vb b p out most fx
    | .error x => e = .returned (.int .i64 x)
theorem LEnds.bad {K : Nat → Prop} {N : Nat} {w w' : World} {sb : Nat} {vb : Value} {b : List UInt8} {most : Nat} {r : Except Int (Nat × List UInt8)} {x : Int} (h : r = .error x) (kp : Kp K w w') : LEnds K N w sb vb b most r (.returned (.int .i64 x)) w' := by subst h; exact ⟨kp, rfl⟩
theorem LEnds.good {K : Nat → Prop} {N : Nat} {w w' : World} {sb : Nat} {vb : Value} {b : List UInt8} {most : Nat} {fx : Value} {r : Except Int (Nat × List UInt8)} {p : Nat} {out : List UInt8} (h : r = .ok (p, out)) (kp : Kp K w w') (st : St K N w' sb vb b p out most fx) : LEnds K N w sb vb b most r (.returned (.int .i64 0)) w' := by subst h; exact ⟨kp, rfl, fx, st⟩
def mz (v : Value) (n : Nat) : Nat := match v with
  | .bool true => 0
  | _ => n + 1
open Go.RowKit Go.BigFrame Gt
def infR (b : List UInt8) (most : Int) : List UInt8 × Nat × Int :=
  if most < 0 ∨ 65536 < most then ([], 0, 2) else match blocksF b most.toNat (8 * b.length + 1) 0 [] with
    | .ok (q, o) => (o, (q + 7) / 8, 0)
    | .error x => ([], 0, x)
theorem LEnds.cases {K : Nat → Prop} {N : Nat} {w w' : World} {sb : Nat} {vb : Value} {b : List UInt8} {most : Nat} {r : Except Int (Nat × List UInt8)} {e : Ending} (h : LEnds K N w sb vb b most r e w') :
    Kp K w w' ∧ ((∃ q o fx, r = .ok (q, o) ∧ e = .returned (.int .i64 0) ∧ St K N w' sb vb b q o most fx) ∨ (∃ x, r = .error x ∧ e = .returned (.int .i64 x))) := by
  obtain ⟨kp, h⟩ := h
  refine ⟨kp, ?_⟩
  cases r with
  | error x => exact .inr ⟨x, rfl, h⟩
  | ok sq => obtain ⟨h1, fx, h2⟩ := h; exact .inl ⟨sq.1, sq.2, fx, rfl, h1, h2⟩
def IEnds (w : World) (R : List UInt8 × Nat × Int) (e : Ending) (w' : World) : Prop :=
  ∃ u, e = .returned (.tuple #[u, .int .i64 (R.2.1 : Int), .int .i64 R.2.2]) ∧ OwnB w.heap.size w' u R.1 ∧ Below w.heap.size w w'
end Go.Proofs.Ytcjfaahlchbcmaa
