/- Numbers appended beside the stream; the walk of row. The walk of row. -/
import Derived.Test.YtbnghmeeddjaoaaFp
namespace Go.Proofs.Ytbnghmeeddjaoaa
open Go.RowKit Go.BigFrame Gt

theorem wpList_make_room {ops : Array Oper} {rest : List Oper} {op : Oper} {a : Act} {w : World} {Q : Exit → Act → World → Prop}
    (hgd : op.guard = none) (x y : Operand) (ho : op.op = .makeSlice 35 x y) (C : Int) (n : Nat) (hx : a.eval x = .int .i64 0) (hy : a.eval y = .int .i64 C) (hC : C = (n : Int)) (hn : n ≤ 65536)
    (h : ∀ W, W = w.alloc (.cells (ai (List.replicate n 0)) 3) → wpList Try.prog ops Q rest (a.put op.dst (.slice (some ⟨w.heap.size, 0, none⟩) 0 n)) W) : wpList Try.prog ops Q (op :: rest) a w := by
  obtain ⟨i, h1, h2, h3, h4⟩ := Try.info3'
  have hrun := run_make (P := Try.prog) w 35 3 i _ Try.underlying35 h1 h2 .i64 .i64 0 (n : Int) (by omega) (by omega) (by rw [h4]; omega) (by omega)
  rw [h3, Int.toNat_natCast, Nat.mul_one, show (Value.int .i64 0).cells = #[.int .i64 0] from rfl, made_ints] at hrun
  refine wpList_plain hgd fun K hK' => ?_
  subst hC
  unfold Oper.wp
  simp only [execOp, ho, hx, hy, Sem.run_bind, hrun, Result.andThen_ok]
  exact hK' _ _ (h _ rfl)
theorem OwnI.room (w : World) (n : Nat) (hn : n ≤ 65536) : OwnI w.heap.size (w.alloc (.cells (ai (List.replicate n 0)) 3)) (.slice (some ⟨w.heap.size, 0, none⟩) 0 n) [] :=
  ⟨rfl, .inr ⟨w.heap.size, n, ai (List.replicate n 0), rfl, Nat.le_refl _, Row.new w 3 _, Nat.zero_le _, by unfold maxLen; omega, by simp [ai], by simp⟩⟩
theorem OwnI.same {N : Nat} {w w' : World} {v : Value} {d : List Int} (h : OwnI N w v d) (hb : ∀ g, v.ownBlock = some g → w'.heap[g]? = w.heap[g]?) : OwnI N w' v d := by
  refine ⟨h.1, ?_⟩
  rcases h.2 with h2 | ⟨g, cap, cur, e1, e2, e3, e4⟩
  · exact .inl h2
  · exact .inr ⟨g, cap, cur, e1, e2, by rw [hb g (by rw [e1]; rfl)]; exact e3, e4⟩
theorem OwnI.row {N : Nat} {w : World} {v : Value} {d : List Int} (h : OwnI N w v d) : ∀ g, v.ownBlock = some g → N ≤ g ∧ ∃ cur, Row w g 3 cur := by
  intro k hk
  rcases h.2 with ⟨e, _⟩ | ⟨g, cap, cur, e1, e2, e3, _⟩
  · rw [e] at hk; simp [Value.ownBlock] at hk
  · rw [e1] at hk; simp [Value.ownBlock] at hk; subst hk; exact ⟨e2, cur, e3⟩
theorem wpList_append_intsG {ops : Array Oper} {rest : List Oper} {o : Oper} {a : Act} {w : World} {Q : Exit → Act → World → Prop} (hgd : o.guard = none) (s x : Operand)
    (ho : o.op = .call { callee := .builtin .append, args := #[s, x], argTypes := #[35, 35] }) (N : Nat) (hN : N ≤ w.heap.size)
    (v : Value) (d : List Int) (hs : a.eval s = v) (hown : OwnI N w v d) (ad : Addr) (m c : Nat) (l : List Int) (hx : a.eval x = .slice (some ad) m c) (hm : l.length = m)
    (hc : ∀ j u, (l.map (Value.int .i64))[j]? = some u → w.cell? (ad.add j) = some u) (hmax : d.length + l.length ≤ 17592186044416)
    (h : ∀ v' w', OwnI N w' v' (d ++ l) → w.grownBy w' v.ownBlock → wpList Try.prog ops Q rest (a.put o.dst v') w') : wpList Try.prog ops Q (o :: rest) a w := by
  obtain ⟨i, h1, h2, h3, h4⟩ := Try.info3'
  obtain ⟨v', w', hr, g2, g3, _⟩ := run_append_own (P := Try.prog) w N 35 o.type 3 i _ 1 8 Try.underlying35 h1 h2 h3 h4 rfl (by decide) v d.length _ hown ad m c (l.map (Value.int .i64)) (by rw [List.length_map, hm, Nat.mul_one]) hc (one_Ii l) (by unfold maxLen; omega) (by omega) hN
  have g2' : OwnI N w' v' (d ++ l) := by unfold OwnI; rw [List.length_append, List.map_append, hm]; exact g2
  refine wpList_plain hgd fun K hK => ?_
  unfold Oper.wp execOp
  simp only [ho, resolve, invoke, builtin, Sem.run_bind, Sem.run_pure, Result.andThen_ok, List.map_toArray, List.map_cons, List.map_nil, hs, hx, hr]
  exact hK _ _ (h v' w' g2' g3)
/-- The stream stands where a row of numbers beside it has grown. -/
theorem St.grown {K : Nat → Prop} {N : Nat} {w w' : World} {sb : Nat} {vb : Value} {b : List UInt8} {p : Nat} {out : List UInt8} {most : Nat} {fx : Value} (h : St K N w sb vb b p out most fx) (o : Option Nat) (g3 : w.grownBy w' o) (ho : ∀ g, o = some g → ¬ K g ∧ ∃ cur, Row w g 3 cur) : St K N w' sb vb b p out most fx ∧ Kp K w w' := by
  obtain ⟨vo, hr, hov⟩ := h.row
  have hk : ∀ k, K k → w'.heap[k]? = w.heap[k]? := fun k hk => g3.block k (h.kl k hk) (fun e => (ho k e.symm).1 hk)
  refine ⟨⟨⟨vo, hr.same (g3.block sb hr.lt fun e => ?_), hov.same fun q hq => ?_⟩, kt_keep h.kt hk, h.bts.keep fun q hq => ⟨hq, hk q hq⟩, h.sbK, fun k hk' => Nat.lt_of_lt_of_le (h.kl k hk') g3.size, h.bl, h.pl, h.ol, h.ml, Nat.le_trans h.nl g3.size⟩, ⟨g3.os, g3.tape, g3.output, g3.size, hk⟩⟩
  · obtain ⟨_, cur, r⟩ := ho sb e.symm
    unfold Row at r hr
    rw [r] at hr
    simp at hr
  · obtain ⟨-, c2, r2⟩ := hov.lt q hq
    refine g3.block q r2.lt fun e => ?_
    obtain ⟨_, cur, r⟩ := ho q e.symm
    unfold Row at r r2
    rw [r] at r2
    simp at r2
/-- So many lengths, told by symbols. -/
def rowF (lk : List Int) (b : List UInt8) (count : Nat) : Nat → Nat → List Int → Except Int (Nat × List Int)
  | 0, p, row => .ok (p, row)
  | f + 1, p, row => if row.length < count then
      match rdF lk b p with
      | .error x => .error x
      | .ok (sym, q) =>
        if sym = 16 ∧ row = [] then .error 8
        else if q + (moreF sym).1 ≤ 8 * b.length then
          if (moreF sym).2 + nbr b q (moreF sym).1 ≤ count - row.length then rowF lk b count f (q + (moreF sym).1) (row ++ List.replicate ((moreF sym).2 + nbr b q (moreF sym).1) (whatF sym row))
          else .error 8
        else .error 7
    else .ok (p, row)
theorem row_step (lk : List Int) (b : List UInt8) (count f p : Nat) (row : List Int) (h : row.length < count) : rowF lk b count (f + 1) p row = match rdF lk b p with
      | .error x => .error x
      | .ok (sym, q) =>
        if sym = 16 ∧ row = [] then .error 8
        else if q + (moreF sym).1 ≤ 8 * b.length then
          if (moreF sym).2 + nbr b q (moreF sym).1 ≤ count - row.length then rowF lk b count f (q + (moreF sym).1) (row ++ List.replicate ((moreF sym).2 + nbr b q (moreF sym).1) (whatF sym row))
          else .error 8
        else .error 7 := by
  rw [rowF, if_pos h]
theorem row_done (lk : List Int) (b : List UInt8) (count f p : Nat) (row : List Int) (h : ¬ row.length < count) : rowF lk b count f p row = .ok (p, row) := by
  cases f with
  | zero => rfl
  | succ f => rw [rowF, if_neg h]
end Go.Proofs.Ytbnghmeeddjaoaa
namespace Go.Proofs.Ytbnghmeeddjaoaa
open Go.RowKit Go.BigFrame Gt

theorem symF_lt (l : List Int) (bit : Nat → Option Nat) : ∀ f n c, (Gf.symF l bit f n c).2.2 = 0 → (Gf.symF l bit f n c).1 < l.length
  | 0, n, c, h => by simp [Gf.symF] at h
  | f + 1, n, c, h => by
    rw [Gf.symF] at h ⊢
    cases hh : Gf.hit l n c with
    | some i =>
      simp only
      exact (Gf.some_hit hh).1
    | none =>
      simp only [hh] at h ⊢
      by_cases hl : Gf.live l n c l.length = true
      · simp only [hl, if_true] at h ⊢
        cases hb : bit n with
        | none => simp [hb] at h
        | some v =>
          simp only [hb] at h ⊢
          exact symF_lt l bit f (n + 1) (2 * c + v) h
      · simp [hl] at h
theorem rdF_lt {l : List Int} {b : List UInt8} {p s q : Nat} (h : rdF l b p = .ok (s, q)) : s < l.length := by
  unfold rdF at h
  split at h
  · rename_i h0
    have := symF_lt l _ _ _ _ h0
    cases h
    exact this
  · cases h
theorem more_le (sym : Nat) (b : List UInt8) (q : Nat) : 1 ≤ (moreF sym).2 + nbr b q (moreF sym).1 ∧ (moreF sym).2 + nbr b q (moreF sym).1 ≤ 200 := by
  have h := nbr_lt b q (moreF sym).1
  have h7 : (moreF sym).1 ≤ 7 ∧ 1 ≤ (moreF sym).2 ∧ (moreF sym).2 ≤ 11 := by
    unfold moreF
    split
    · decide
    split
    · decide
    split <;> decide
  have h8 : nbr b q (moreF sym).1 < 2 ^ 7 := Nat.lt_of_lt_of_le h (Nat.pow_le_pow_right (by decide) h7.1)
  have : (2 : Nat) ^ 7 = 128 := rfl
  omega
theorem Row.cells_ai {w : World} {g : Nat} {l : List Int} (h : Row w g 3 (ai l)) : ∀ j u, (l.map (Value.int .i64))[j]? = some u → w.cell? ((⟨g, 0, none⟩ : Addr).add j) = some u := by
  intro j u hu
  have hj : j < l.length := by
    have := (List.getElem?_eq_some_iff.1 hu).1
    rwa [List.length_map] at this
  rw [Addr.add_mid, Nat.zero_add, h.cell, ai_get hj]
  simpa [hj] using hu
def lenV : Value → Nat
  | .slice _ n _ => n
  | _ => 0

/-- How the reading of a row of lengths ends. -/
def RowEnds (K : Nat → Prop) (N M : Nat) (w : World) (sb : Nat) (vb : Value) (b out : List UInt8) (most : Nat) (fx : Value) (r : Except Int (Nat × List Int)) (e : Ending) (w' : World) : Prop :=
  Kp K w w' ∧ match r with
      | .ok (q, row) => (∃ g cap, e = .returned (.slice (some ⟨g, 0, none⟩) row.length cap) ∧ M ≤ g ∧ row.length ≤ cap ∧ SegI w' g row) ∧ St K N w' sb vb b q out most fx
      | .error x => e = flt x
theorem RowEnds.bad {K : Nat → Prop} {N M : Nat} {w w' : World} {sb : Nat} {vb : Value} {b out : List UInt8} {most : Nat} {fx : Value} {r : Except Int (Nat × List Int)} {x : Int} (h : r = .error x) (kp : Kp K w w') : RowEnds K N M w sb vb b out most fx r (flt x) w' := by subst h; exact ⟨kp, rfl⟩
theorem RowEnds.good {K : Nat → Prop} {N M : Nat} {w w' : World} {sb : Nat} {vb : Value} {b out : List UInt8} {most : Nat} {fx : Value} {r : Except Int (Nat × List Int)} {q g cap : Nat} {row : List Int} (h : r = .ok (q, row)) (kp : Kp K w w') (hM : M ≤ g) (hc : row.length ≤ cap) (sg : SegI w' g row) (st : St K N w' sb vb b q out most fx) : RowEnds K N M w sb vb b out most fx r (.returned (.slice (some ⟨g, 0, none⟩) row.length cap)) w' := by subst h; exact ⟨kp, ⟨g, cap, rfl, hM, hc, sg⟩, st⟩

set_option maxRecDepth 100000 in
set_option maxHeartbeats 4000000 in
theorem row_any (K : Nat → Prop) (N : Nat) (w : World) (sb : Nat) (vb : Value) (b : List UInt8) (p : Nat) (out : List UInt8) (most : Nat) (fx : Value) (lk : List Int) (fb xb : Nat) (hchk : Gf.chkE lk = 0) (hR : RdK K w sb lk fb xb) (count : Nat) (hc1 : 1 ≤ count) (hc : count ≤ 1000) (h : St K N w sb vb b p out most fx) :
    Calls Try.prog 52 #[.pointer (some ⟨sb, 0, none⟩), .func (.func 48) #[] #[.pointer (some ⟨fb, 0, none⟩), .pointer (some ⟨xb, 0, none⟩)], .int .i64 (count : Int)] w (RowEnds K N w.heap.size w sb vb b out most fx (rowF lk b count (count + 1) p [])) := by
  have h512 := (good_of hchk).2.2
  have HCH := Box'.mk hchk
  have HR := Box'.mk hR
  have H := Box'.mk h
  have RS := Box'.mk (row_step lk b count)
  have RD := Box'.mk (row_done lk b count)
  have KL : Box' (∀ k, K k → k < w.heap.size) := ⟨h.kl⟩
  obtain ⟨R0, hR0⟩ : ∃ R0, R0 = rowF lk b count (count + 1) p [] := ⟨_, rfl⟩
  rw [← hR0]
  have HR0 := Box'.mk hR0
  have OR := Box'.mk (OwnI.room w count (by omega))
  have ST0 := Box'.mk (h.alloc (.cells (ai (List.replicate count 0)) 3))
  have KP0 : Box' (Kp K w (w.alloc (.cells (ai (List.replicate count 0)) 3))) := ⟨Kp.below ((Below.refl _ _).alloc (Nat.le_refl _) _) h.kl⟩
  clear hchk hR h hR0
  generalize hM : w.heap.size = M at *
  have HM := Box'.mk hM
  clear hM
  go_enter Try.func52, Try.ntmps52
  go_wp2_with (refine wpList_make_room rfl _ _ rfl _ count rfl rfl rfl (by omega) ?_; intro W hW)
  rw [HM.out]
  go_loopw [7] (fun r wr => ∃ (f p' : Nat) (row : List Int) (g cap : Nat), r = .slice (some ⟨g, 0, none⟩) row.length cap ∧ Box' (row.length ≤ count ∧ count + 1 ≤ row.length + f) ∧ Box' (R0 = rowF lk b count f p' row) ∧ Box' (OwnI M wr r row) ∧ Box' (St K N wr sb vb b p' out most fx) ∧ Box' (Kp K w wr)) (fun r _ => count - lenV r)
  case atStart => exact ⟨count + 1, p, [], M, count, rfl, ⟨by simp⟩, HR0, OR, ST0, KP0⟩
  case round =>
    clear H HR0 OR ST0 KP0
    obtain ⟨f, p', row, g, cap, rfl, HF, HE, HO, ST, KP⟩ := hrel
    by_cases hlt : row.length < count
    · obtain ⟨f', rfl⟩ : ∃ f', f = f' + 1 := ⟨f - 1, by have := HF.out.2; omega⟩
      have EK := HE.out
      rw [RS.out f' p' row hlt] at EK
      have EKB := Box'.mk EK
      obtain ⟨hMg, cur, rg⟩ := HO.out.row g rfl
      have hgs : g ≠ sb := by
        rintro rfl
        obtain ⟨vo, hr, _⟩ := ST.out.row
        unfold Row at rg hr
        rw [rg] at hr
        simp at hr
      have st' := ST.out.more g rg (by decide) hgs
      have rd' : RdK (fun k => K k ∨ k = g) wr sb lk fb xb := (HR.out.keep KP.out).more fun _ hk => .inl hk
      have hnx := next_any _ N wr sb vb b p' out most fx lk fb xb HCH.out rd' st'
      have hnK : ¬ K g := fun hk => by have := KL.out g hk; omega
      have SG : Box' (row = [] ∨ SegI wr g row) := ⟨by
        by_cases hr0 : row = []
        · exact .inl hr0
        · obtain ⟨g', c', e, _, _, sg⟩ := HO.out.seg (List.length_pos_iff.2 hr0)
          cases e
          exact .inr sg⟩
      clear EK HE rd' rg st'
      have hML := Box'.mk hlt
      cases hrd : rdF lk b p' with
      | error x =>
        rw [hrd] at hnx EKB
        have HNX := Box'.mk hnx
        clear hrd hnx
        generalize row.length = L at *
        go_wp2_with fail
        refine HNX.out.mono ?_
        rintro e w1 ⟨kp, rfl⟩
        have e0 : R0 = .error x := EKB.out
        exact ⟨rfl, RowEnds.bad e0 (KP.out.trans (kp.less fun _ hk => .inl hk))⟩
      | ok sq =>
        obtain ⟨sym, q⟩ := sq
        have hsy := rdF_lt hrd
        rw [hrd] at hnx EKB
        have HNX := Box'.mk hnx
        have hsy2 : sym ≤ 1000 := by omega
        clear hrd hnx
        have LG : Box' (∀ w1, Kp (fun k => K k ∨ k = g) wr w1 → St (fun k => K k ∨ k = g) N w1 sb vb b q out most fx → Calls Try.prog 57 #[.pointer (some ⟨sb, 0, none⟩), .int .i64 (sym : Int), .slice (some ⟨g, 0, none⟩) row.length cap] w1 fun e w' => Kp (fun k => K k ∨ k = g) w1 w' ∧
            ((sym = 16 ∧ row = [] ∧ e = flt 8) ∨ (¬ (sym = 16 ∧ row = []) ∧ q + (moreF sym).1 ≤ 8 * b.length ∧ e = .returned (.tuple #[.int .i64 (whatF sym row), .int .i64 (((moreF sym).2 + nbr b q (moreF sym).1 : Nat) : Int)]) ∧ St (fun k => K k ∨ k = g) N w' sb vb b (q + (moreF sym).1) out most fx) ∨ (¬ (sym = 16 ∧ row = []) ∧ ¬ q + (moreF sym).1 ≤ 8 * b.length ∧ e = flt 7))) := ⟨fun w1 kp st => lengths_any _ N w1 sb vb b q out most fx sym hsy2 (some ⟨g, 0, none⟩) cap row (by omega) (SG.out.imp id fun sg => ⟨g, rfl, .inr rfl, sg.same (kp.block g (.inr rfl))⟩) st⟩
        have ML := Box'.mk (more_le sym b q)
        have HLB := Box'.mk HF.out
        generalize hL : row.length = L at *
        have HL := Box'.mk hL
        clear hL SG
        go_wp2_with fail
        refine HNX.out.mono ?_
        clear HNX
        rintro e w1 ⟨kp1, rfl, st1⟩
        have hlg := LG.out w1 kp1 st1
        clear LG
        have KP1 := Box'.mk kp1
        clear kp1 st1
        go_wp2_with fail
        refine hlg.mono ?_
        clear hlg
        rintro e w2 ⟨kp2, ⟨h1, h2, rfl⟩ | ⟨h1, h2, rfl, st2⟩ | ⟨h1, h2, rfl⟩⟩
        · have e0 : R0 = .error 8 := by rw [EKB.out, if_pos ⟨h1, h2⟩]
          exact ⟨rfl, RowEnds.bad e0 (KP.out.trans ((KP1.out.trans kp2).less fun _ hk => .inl hk))⟩
        · have EK := EKB.out
          rw [if_neg h1, if_pos h2] at EK
          have EKC := Box'.mk EK
          have KP2 := Box'.mk (KP1.out.trans kp2)
          have ST2 := Box'.mk (ST.out.back st2 (KP2.out.less fun _ hk => .inl hk))
          have O2 := Box'.mk (HO.out.same fun k hk => KP2.out.block k (.inr (by cases hk; rfl)))
          clear EK EKB kp2 st2 h1 h2 KP1 ST HO
          obtain ⟨hm1, hm2⟩ := ML.out
          clear ML
          generalize (moreF sym).2 + nbr b q (moreF sym).1 = tm at *
          generalize q + (moreF sym).1 = q2 at *
          generalize whatF sym row = x at *
          by_cases htm : tm ≤ count - L
          · have htm' : decide ((count : Int) - (L : Int) < (tm : Int)) = false := decide_eq_false (by omega)
            have hrep := repeated_any x tm (by omega) w2
            have EK := EKC.out
            rw [if_pos htm] at EK
            have EKD := Box'.mk EK
            clear EK EKC
            go_wp2_with fail
            refine hrep.mono ?_
            clear hrep
            rintro e w3 ⟨g', rfl, hg', r', b3⟩
            have ST3 := Box'.mk (ST2.out.below b3)
            have KP3 := Box'.mk ((KP.out.trans (KP2.out.less fun _ hk => .inl hk)).trans (Kp.below b3 ST2.out.kl))
            have O3 : OwnI M w3 (.slice (some ⟨g, 0, none⟩) L cap) row := O2.out.same fun k hk => b3.block k (by obtain ⟨_, cur, r⟩ := O2.out.row k hk; exact r.lt)
            have hN3 : M ≤ w3.heap.size := by have := KP3.out.size; have := HM.out; omega
            have hcl := r'.cells_ai
            have HMX : Box' (row.length + (List.replicate tm x).length ≤ 17592186044416) := ⟨by rw [HL.out]; simp; omega⟩
            have HTL : Box' ((List.replicate tm x).length = tm) := ⟨by simp⟩
            have GR : Box' (∀ v' w4, OwnI M w4 v' (row ++ List.replicate tm x) → w3.grownBy w4 (Value.slice (some ⟨g, 0, none⟩) L cap).ownBlock → Box' (St K N w4 sb vb b q2 out most fx) ∧ Box' (Kp K w w4) ∧ ∃ g4 c4, v' = .slice (some ⟨g4, 0, none⟩) (row ++ List.replicate tm x).length c4) := ⟨fun v' w4 o4 g4 => by
              obtain ⟨s4, k4⟩ := ST3.out.grown _ g4 (fun k hk => by cases hk; exact ⟨hnK, (O3.row g rfl).2⟩)
              obtain ⟨g5, c5, e5, _⟩ := o4.seg (by rw [List.length_append, HTL.out]; omega)
              exact ⟨⟨s4⟩, ⟨KP3.out.trans k4⟩, g5, c5, e5⟩⟩
            have HRL : Box' ((row ++ List.replicate tm x).length = L + tm) := ⟨by rw [List.length_append, HL.out, HTL.out]⟩
            clear ST2 KP2 O2 ST3 KP3 b3 r' KP
            go_wp2_with (refine wpList_append_intsG rfl (.tmp 31) (.tmp 34) rfl M hN3 _ row rfl O3 _ _ _ (List.replicate tm x) rfl HTL.out hcl HMX.out ?_; intro v4 w4 o4 g4; obtain ⟨s4, k4, g5, c5, e5⟩ := GR.out v4 w4 o4 g4; rw [HRL.out] at e5; subst e5; have O4 := Box'.mk o4; clear GR o4 g4 O3 hcl hN3)
            have HF2 : Box' ((row ++ List.replicate tm x).length ≤ count ∧ count + 1 ≤ (row ++ List.replicate tm x).length + f') := ⟨by rw [HRL.out]; have := HLB.out; omega⟩
            exact ⟨⟨f', q2, row ++ List.replicate tm x, g5, c5, by rw [HRL.out], HF2, EKD, O4, s4, k4⟩, by show count - (L + tm) < count - L; have := hML.out; omega⟩
          · have htm' : (count : Int) - (L : Int) < (tm : Int) := by omega
            have EK := EKC.out
            rw [if_neg htm] at EK
            have EKD := Box'.mk EK
            have hf := fail_any 8 w2
            have KP3 := Box'.mk (KP.out.trans (KP2.out.less fun _ hk => .inl hk))
            clear EK EKC htm ST2 KP2 O2 KP
            go_wp2_with fail
            refine hf.mono ?_
            rintro e w' ⟨rfl, rfl⟩
            have e0 : R0 = .error 8 := EKD.out
            exact ⟨rfl, RowEnds.bad e0 KP3.out⟩
        · have e0 : R0 = .error 7 := by rw [EKB.out, if_neg h1, if_neg h2]
          exact ⟨rfl, RowEnds.bad e0 (KP.out.trans ((KP1.out.trans kp2).less fun _ hk => .inl hk))⟩
    · have EK := HE.out
      rw [RD.out f p' row hlt] at EK
      have hpos : 0 < row.length := by omega
      obtain ⟨g', c', e, hMg, hcl, sg⟩ := HO.out.seg hpos
      have e' := e
      cases e'
      have RES := Box'.mk (RowEnds.good EK KP.out hMg hcl sg ST.out)
      clear EK HE HO ST KP sg e RS RD HCH HR
      generalize row.length = L at *
      go_wp2_with fail
      go_ret
      exact RES.out
end Go.Proofs.Ytbnghmeeddjaoaa
