/- Closures as values, kept; what the lengths of a block of its own tell. The walk of dynamic. -/
import Derived.Test.YtbnghmeeddjaoaaFt
namespace Go.Proofs.Ytbnghmeeddjaoaa
open Go.RowKit Go.BigFrame Gt

theorem RdV.keep {N : Nat} {w w' : World} {sb : Nat} {l : List Int} {u : Value} (h : RdV N w sb l u) (hk : ∀ k, N ≤ k → k < w.heap.size → w'.heap[k]? = w.heap[k]?) : RdV N w' sb l u := by
  obtain ⟨fb, xb, fv, rfl, h1, h2, r1, r2, ho⟩ := h
  exact ⟨fb, xb, fv, rfl, h1, h2, r1.same (hk fb h1 r1.lt), r2.same (hk xb h2 r2.lt), ho.same fun g hg => hk g (ho.lt g hg).1 (ho.lt g hg).2⟩
theorem RdV.mono {N M : Nat} {w : World} {sb : Nat} {l : List Int} {u : Value} (h : RdV N w sb l u) (hM : M ≤ N) : RdV M w sb l u := by
  obtain ⟨fb, xb, fv, rfl, h1, h2, r1, r2, ho⟩ := h
  refine ⟨fb, xb, fv, rfl, by omega, by omega, r1, r2, ho.1, ?_⟩
  rcases ho.2 with h2 | ⟨q, cap, cur, e1, e2, e3⟩
  · exact .inl h2
  · exact .inr ⟨q, cap, cur, e1, by omega, e3⟩
theorem RdV.below {N : Nat} {w w' : World} {sb : Nat} {l : List Int} {u : Value} (h : RdV N w sb l u) (hb : Below w.heap.size w w') : RdV N w' sb l u := h.keep fun k _ hk => hb.block k hk
theorem row_type {w : World} {g : Nat} {t t' : TypeId} {c c' : Array Value} (h : Row w g t c) (h' : Row w g t' c') : t = t' := by
  unfold Row at h h'
  rw [h] at h'
  simp at h'
  exact h'.2
theorem treeB_pos (l : List Int) (hchk : Gf.chkE l = 0) : 0 < (treeB l l.length).length := by
  obtain ⟨hA, hW, _⟩ := good_of hchk
  obtain ⟨P, hT⟩ := tree_ok hA hW l.length (Nat.le_refl _)
  exact hT.len
/-- A closure beside the stream: its blocks are kept from now on. -/
theorem RdV.toK {K : Nat → Prop} {M N : Nat} {w : World} {sb : Nat} {vb : Value} {b : List UInt8} {p : Nat} {out : List UInt8} {most : Nat} {fx : Value} {l : List Int} {u : Value} (h : RdV M w sb l u) (hchk : Gf.chkE l = 0) (st : St K N w sb vb b p out most fx) :
    ∃ (K' : Nat → Prop) (fb xb : Nat), (∀ k, K k → K' k) ∧ (∀ k, K' k → K k ∨ M ≤ k) ∧ u = .func (.func 48) #[] #[.pointer (some ⟨fb, 0, none⟩), .pointer (some ⟨xb, 0, none⟩)] ∧ RdK K' w sb l fb xb ∧ St K' N w sb vb b p out most fx := by
  obtain ⟨fb, xb, fv, rfl, h1, h2, r1, r2, ho⟩ := h
  obtain ⟨g, cap, rfl, hg, hcap, hgl, hcl, _⟩ := ho.seg (treeB_pos l hchk)
  obtain ⟨cur, rg⟩ := ho.row g rfl
  obtain ⟨vo, hr, _⟩ := st.row
  have n1 : fb ≠ sb := fun e => by subst e; exact absurd (row_type r1 hr) (by decide)
  have n2 : xb ≠ sb := fun e => by subst e; exact absurd (row_type r2 hr) (by decide)
  have n3 : g ≠ sb := fun e => by subst e; exact absurd (row_type rg hr) (by decide)
  refine ⟨fun k => ((K k ∨ k = fb) ∨ k = xb) ∨ k = g, fb, xb, fun k hk => .inl (.inl (.inl hk)), ?_, rfl, ⟨g, cap, .inl (.inl (.inr rfl)), .inl (.inr rfl), .inr rfl, r1, r2, hcap, hcl⟩, ((st.more fb r1 (by decide) n1).more xb r2 (by decide) n2).more g rg (by decide) n3⟩
  rintro k (((hk | rfl) | rfl) | rfl)
  · exact .inl hk
  · exact .inr h1
  · exact .inr h2
  · exact .inr hg
theorem St.setRow {K : Nat → Prop} {N : Nat} {w : World} {sb : Nat} {vb : Value} {b : List UInt8} {p : Nat} {out : List UInt8} {most : Nat} {fx : Value} (h : St K N w sb vb b p out most fx) (g : Nat) (c' : Array Value) {t : TypeId} {cur : Array Value} (r : Row w g t cur) (ht : t ≠ 5) (hs : g ≠ sb) (hg : ¬ K g) : St K N (w.setRow g c') sb vb b p out most fx ∧ Kp K w (w.setRow g c') := by
  obtain ⟨vo, hr, ho⟩ := h.row
  have hk : ∀ k, k ≠ g → (w.setRow g c').heap[k]? = w.heap[k]? := fun k hk => setRow_other _ _ _ _ hk
  have hne : ∀ k, K k → k ≠ g := fun k hk e => hg (e ▸ hk)
  have hsz : (w.setRow g c').heap.size = w.heap.size := by simp [World.setRow]
  refine ⟨⟨⟨vo, hr.same (hk sb (Ne.symm hs)), ho.same fun q hq => hk q ?_⟩, kt_keep h.kt fun k hk' => hk k (hne k hk'), h.bts.keep fun q hq => ⟨hq, hk q (hne q hq)⟩, h.sbK, fun k hk' => by rw [hsz]; exact h.kl k hk', h.bl, h.pl, h.ol, h.ml, by rw [hsz]; exact h.nl⟩, ⟨rfl, rfl, rfl, by rw [hsz]; exact Nat.le_refl _, fun k hk' => hk k (hne k hk')⟩⟩
  rintro rfl
  obtain ⟨-, c2, r2⟩ := ho.lt q hq
  exact ht (row_type r r2)
theorem row_len (lk : List Int) (b : List UInt8) (count : Nat) : ∀ (f p : Nat) (row : List Int) (q : Nat) (row' : List Int), row.length ≤ count → count < row.length + f → rowF lk b count f p row = .ok (q, row') → row'.length = count
  | 0, p, row, q, row', h1, h2, h => by omega
  | f + 1, p, row, q, row', h1, h2, h => by
    by_cases hl : row.length < count
    · rw [row_step _ _ _ _ _ _ hl] at h
      cases hr : rdF lk b p with
      | error x => rw [hr] at h; cases h
      | ok sq =>
        rw [hr] at h
        simp only at h
        split at h
        · cases h
        split at h
        · split at h
          · rename_i ht
            have hm := (more_le sq.1 b sq.2).1
            exact row_len lk b count f _ _ q row' (by rw [List.length_append, List.length_replicate]; omega) (by rw [List.length_append, List.length_replicate]; omega) h
          · cases h
        · cases h
    · rw [row_done _ _ _ _ _ _ hl] at h
      cases h
      omega
/-- The lengths that a block tells of its own: of symbols, of distances. -/
def dynF (b : List UInt8) (p : Nat) : Except Int (Nat × List Int × List Int) :=
  if p + 5 ≤ 8 * b.length then
    if nbr b p 5 ≤ 29 then
      if p + 5 + 5 ≤ 8 * b.length then
        if nbr b (p + 5) 5 ≤ 29 then
          if p + 5 + 5 + 4 ≤ 8 * b.length then
            if p + 5 + 5 + 4 + 3 * (nbr b (p + 5 + 5) 4 + 4) ≤ 8 * b.length then
              if Gf.chkE (kindL b (p + 5 + 5 + 4) (nbr b (p + 5 + 5) 4 + 4)) = 0 then
                match rowF (kindL b (p + 5 + 5 + 4) (nbr b (p + 5 + 5) 4 + 4)) b (nbr b p 5 + 257 + (nbr b (p + 5) 5 + 1)) (nbr b p 5 + 257 + (nbr b (p + 5) 5 + 1) + 1) (p + 5 + 5 + 4 + 3 * (nbr b (p + 5 + 5) 4 + 4)) [] with
                | .error x => .error x
                | .ok (q, row) => if row.getD 256 0 = 0 then .error 8
                  else if Gf.chkE (row.take (nbr b p 5 + 257)) = 0 ∧ Gf.chkE (row.drop (nbr b p 5 + 257)) = 0 then .ok (q, row.take (nbr b p 5 + 257), row.drop (nbr b p 5 + 257)) else .error 8
              else .error 8
            else .error 7
          else .error 7
        else .error 8
      else .error 7
    else .error 8
  else .error 7
end Go.Proofs.Ytbnghmeeddjaoaa
namespace Go.Proofs.Ytbnghmeeddjaoaa
open Go.RowKit Go.BigFrame Gt

/-- How the reading of a block's own lengths ends: two closures that read by them. -/
def DynEnds (K : Nat → Prop) (N : Nat) (w : World) (sb : Nat) (vb : Value) (b out : List UInt8) (most : Nat) (fx : Value) (r : Except Int (Nat × List Int × List Int)) (e : Ending) (w' : World) : Prop :=
  Kp K w w' ∧ match r with
    | .ok (q, l1, l2) => Gf.chkE l1 = 0 ∧ Gf.chkE l2 = 0 ∧ ∃ (K' : Nat → Prop) (f1 x1 f2 x2 : Nat), (∀ k, K k → K' k) ∧ e = .returned (.agg #[.func (.func 48) #[] #[.pointer (some ⟨f1, 0, none⟩), .pointer (some ⟨x1, 0, none⟩)], .func (.func 48) #[] #[.pointer (some ⟨f2, 0, none⟩), .pointer (some ⟨x2, 0, none⟩)]]) ∧ RdK K' w' sb l1 f1 x1 ∧ RdK K' w' sb l2 f2 x2 ∧ St K' N w' sb vb b q out most fx
    | .error x => e = flt x
theorem DynEnds.bad {K : Nat → Prop} {N : Nat} {w w' : World} {sb : Nat} {vb : Value} {b out : List UInt8} {most : Nat} {fx : Value} {r : Except Int (Nat × List Int × List Int)} {x : Int} (h : r = .error x) (kp : Kp K w w') : DynEnds K N w sb vb b out most fx r (flt x) w' := by subst h; exact ⟨kp, rfl⟩
theorem RowEnds.cases {K : Nat → Prop} {N M : Nat} {w w' : World} {sb : Nat} {vb : Value} {b out : List UInt8} {most : Nat} {fx : Value} {r : Except Int (Nat × List Int)} {e : Ending} (h : RowEnds K N M w sb vb b out most fx r e w') :
    Kp K w w' ∧ ((∃ q row g cap, r = .ok (q, row) ∧ e = .returned (.slice (some ⟨g, 0, none⟩) row.length cap) ∧ M ≤ g ∧ row.length ≤ cap ∧ SegI w' g row ∧ St K N w' sb vb b q out most fx) ∨ (∃ x, r = .error x ∧ e = flt x)) := by
  obtain ⟨kp, h⟩ := h
  refine ⟨kp, ?_⟩
  cases r with
  | error x => exact .inr ⟨x, rfl, h⟩
  | ok sq => obtain ⟨⟨g, cap, h1, h2, h3, h4⟩, h5⟩ := h; exact .inl ⟨sq.1, sq.2, g, cap, rfl, h1, h2, h3, h4, h5⟩

theorem wp_call_or {P : Program} {Q : Exit → Act → World → Prop} {op : Oper} {a : Act} {w : World} {K : Act → World → Prop} (f : FuncId) (args : Array Value) (hrun : (execOp a.eval op).run P w = .ok (.enter f args) w) (x : Int)
    (hc : Calls P f args w (fun e w'' => (∃ v, e = .returned v ∧ K (a.put op.dst v) w'') ∨ (e = flt x ∧ Q (.panic [{ v := .iface 60 (.agg #[.int .i64 x]), recovered := false }]) a w''))) : op.wp P a w K Q := by
  unfold Oper.wp
  rw [hrun]
  refine hc.mono fun e w'' hh => ?_
  rcases hh with ⟨v, rfl, h⟩ | ⟨rfl, h⟩
  · exact h
  · exact h
theorem DynEnds.good {K K' : Nat → Prop} {N : Nat} {w w' : World} {sb : Nat} {vb : Value} {b out : List UInt8} {most : Nat} {fx : Value} {r : Except Int (Nat × List Int × List Int)} {q : Nat} {l1 l2 : List Int} {f1 x1 f2 x2 : Nat} (h : r = .ok (q, l1, l2)) (kp : Kp K w w') (h1 : Gf.chkE l1 = 0) (h2 : Gf.chkE l2 = 0) (hK : ∀ k, K k → K' k) (r1 : RdK K' w' sb l1 f1 x1) (r2 : RdK K' w' sb l2 f2 x2) (st : St K' N w' sb vb b q out most fx) :
    DynEnds K N w sb vb b out most fx r (.returned (.agg #[.func (.func 48) #[] #[.pointer (some ⟨f1, 0, none⟩), .pointer (some ⟨x1, 0, none⟩)], .func (.func 48) #[] #[.pointer (some ⟨f2, 0, none⟩), .pointer (some ⟨x2, 0, none⟩)]])) w' := by subst h; exact ⟨kp, h1, h2, K', f1, x1, f2, x2, hK, rfl, r1, r2, st⟩
theorem Try.size72 : (Try.prog.info? 72).map (·.size) = some 2 := by kernel_rfl
theorem ints_part {w : World} {g cap : Nat} {row : List Int} (h : SegI w g row) (hc : row.length ≤ cap) (k : Nat) (hk : k ≤ row.length) :
    Ints w.heap.size w (.slice (some ⟨g, 0, none⟩) k cap) (row.take k) ∧ Ints w.heap.size w (.slice (some ⟨g, k, none⟩) (row.length - k) (cap - k)) (row.drop k) := by
  constructor
  · refine ⟨_, _, by rw [List.length_take, Nat.min_eq_left hk], by rw [List.length_take]; omega, .inr ⟨g, 0, rfl, h.lt, fun j hj => ?_⟩⟩
    rw [List.length_take] at hj
    rw [Nat.zero_add, h.cell (by omega)]
    simp [List.getD_eq_getElem?_getD, show j < k by omega]
  · refine ⟨_, _, by rw [List.length_drop], by rw [List.length_drop]; omega, .inr ⟨g, k, rfl, h.lt, fun j hj => ?_⟩⟩
    rw [List.length_drop] at hj
    rw [h.cell (by omega)]
    simp [List.getD_eq_getElem?_getD, List.getElem?_drop]

set_option maxRecDepth 100000 in
set_option maxHeartbeats 4000000 in
theorem dynamic_any (K : Nat → Prop) (N : Nat) (w : World) (sb : Nat) (vb : Value) (b : List UInt8) (p : Nat) (out : List UInt8) (most : Nat) (fx : Value) (h : St K N w sb vb b p out most fx) :
    Calls Try.prog 39 #[.pointer (some ⟨sb, 0, none⟩)] w (DynEnds K N w sb vb b out most fx (dynF b p)) := by
  have DF := Box'.mk (dynF.eq_1 b p)
  generalize dynF b p = R0 at *
  obtain ⟨w0, hw0⟩ : ∃ w0, w0 = w.alloc (.cells #[.nilFunc, .nilFunc] 72) := ⟨_, rfl⟩
  have rt : Row w0 w.heap.size 72 #[.nilFunc, .nilFunc] := by rw [hw0]; exact Row.new _ _ _
  have hsbl : sb < w.heap.size := by obtain ⟨vo, hr, _⟩ := h.row; exact hr.lt
  have st0 : St (fun k => K k ∨ k = w.heap.size) N w0 sb vb b p out most fx := St.more (by rw [hw0]; exact h.alloc _) w.heap.size rt (by decide) (by omega)
  have kp0 : Kp K w w0 := by rw [hw0]; exact Kp.below ((Below.refl _ _).alloc (Nat.le_refl _) _) h.kl
  have BP : Box' (∀ w', Kp (fun k => K k ∨ k = w.heap.size) w0 w' → Kp K w w') := ⟨fun w' kp => kp0.trans (kp.less fun _ hk => .inl hk)⟩
  have RT : Box' (∀ w', Kp (fun k => K k ∨ k = w.heap.size) w0 w' → Row w' w.heap.size 72 #[.nilFunc, .nilFunc]) := ⟨fun w' kp => rt.same (kp.block w.heap.size (.inr rfl))⟩
  have HNK : Box' (¬ K w.heap.size) := ⟨fun hk => Nat.lt_irrefl _ (h.kl _ hk)⟩
  have HSB := Box'.mk hsbl
  have K1K : Box' (∀ k, K k → (fun k => K k ∨ k = w.heap.size) k) := ⟨fun k hk => .inl hk⟩
  have K1R : Box' ((fun k => K k ∨ k = w.heap.size) w.heap.size) := ⟨.inr rfl⟩
  have K1L : Box' (∀ k, (fun k => K k ∨ k = w.heap.size) k → K k ∨ k = w.heap.size) := ⟨fun k hk => hk⟩
  have HH := Box'.mk h
  generalize (fun k => K k ∨ k = w.heap.size) = K1 at *
  have cn1 := count_any K1 N w0 sb vb b p out most fx st0
  clear h rt hsbl st0 kp0
  go_enter Try.func39, Try.ntmps39
  go_wp2_with fail
  rw [← hw0]
  clear hw0
  generalize hrb : w.heap.size = rb at *
  clear hrb
  refine cn1.mono ?_
  clear cn1
  rintro e w1 ⟨kp1, ⟨h1, h2, rfl, st1⟩ | ⟨h1, h2, rfl⟩ | ⟨h1, rfl⟩⟩
  case inr.inr => exact ⟨rfl, DynEnds.bad (by rw [DF.out, if_neg h1]) (BP.out _ kp1)⟩
  case inr.inl => exact ⟨rfl, DynEnds.bad (by rw [DF.out, if_pos h1, if_neg (by omega)]) (BP.out _ kp1)⟩
  have DF1 := DF.out
  rw [if_pos h1, if_pos h2] at DF1
  have DFB := Box'.mk DF1
  have KP1 := Box'.mk kp1
  have cn2 := count_any K1 N w1 sb vb b (p + 5) out most fx st1
  clear DF1 DF kp1 st1 h1
  generalize nbr b p 5 = n1 at *
  go_wp2_with fail
  refine cn2.mono ?_
  clear cn2
  rintro e w2 ⟨kp2, ⟨h1, h2', rfl, st2⟩ | ⟨h1, h2', rfl⟩ | ⟨h1, rfl⟩⟩
  case inr.inr => exact ⟨rfl, DynEnds.bad (by rw [DFB.out, if_neg h1]) (BP.out _ (KP1.out.trans kp2))⟩
  case inr.inl => exact ⟨rfl, DynEnds.bad (by rw [DFB.out, if_pos h1, if_neg (by omega)]) (BP.out _ (KP1.out.trans kp2))⟩
  have DF1 := DFB.out
  rw [if_pos h1, if_pos h2'] at DF1
  have DFC := Box'.mk DF1
  have KP2 := Box'.mk (KP1.out.trans kp2)
  have nm := number_any K1 N w2 sb vb b (p + 5 + 5) out most fx 4 (by decide) st2
  clear DF1 DFB kp2 st2 h1 KP1
  generalize nbr b (p + 5) 5 = n2 at *
  go_wp2_with fail
  refine nm.mono ?_
  clear nm
  rintro e w3 ⟨kp3, ⟨h1, rfl, st3⟩ | ⟨h1, rfl⟩⟩
  case inr => exact ⟨rfl, DynEnds.bad (by rw [DFC.out, if_neg h1]) (BP.out _ (KP2.out.trans kp3))⟩
  have DF1 := DFC.out
  rw [if_pos h1] at DF1
  have DFD := Box'.mk DF1
  have KP3 := Box'.mk (KP2.out.trans kp3)
  have hn3 : nbr b (p + 5 + 5) 4 < 16 := nbr_lt b (p + 5 + 5) 4
  have kd := kinds_any K1 N w3 sb vb b (p + 5 + 5 + 4) out most fx (nbr b (p + 5 + 5) 4 + 4) (by omega) st3
  rw [Int.natCast_add] at kd
  clear DF1 DFC kp3 st3 h1 KP2
  generalize nbr b (p + 5 + 5) 4 = n3 at *
  go_wp2_with fail
  refine kd.mono ?_
  clear kd
  rintro e w4 ⟨kp4, ⟨h1, g4, rfl, hg4, r4, st4⟩ | ⟨h1, rfl⟩⟩
  case inr => exact ⟨rfl, DynEnds.bad (by rw [DFD.out, if_neg h1]) (BP.out _ (KP3.out.trans kp4))⟩
  have DF1 := DFD.out
  rw [if_pos h1] at DF1
  have DFE := Box'.mk DF1
  have KP4 := Box'.mk (KP3.out.trans kp4)
  have hkl := kindL_len b (p + 5 + 5 + 4) (n3 + 4)
  generalize kindL b (p + 5 + 5 + 4) (n3 + 4) = lk at *
  generalize p + 5 + 5 + 4 + 3 * (n3 + 4) = p4 at *
  have rd := reader_any sb (.slice (some ⟨g4, 0, none⟩) 19 19) lk (by omega) w4 (r4.ints hkl)
  have ST4 := Box'.mk st4
  clear DF1 DFD kp4 st4 h1 KP3 r4 hg4
  go_wp2_with fail
  refine rd.mono ?_
  clear rd
  rintro e w5 ⟨b5, ⟨hck, u, rfl, rv⟩ | ⟨hck, rfl⟩⟩
  case inr => exact ⟨rfl, DynEnds.bad (by rw [DFE.out, if_neg hck]) (BP.out _ (KP4.out.trans (Kp.below b5 ST4.out.kl)))⟩
  have DF1 := DFE.out
  rw [if_pos hck] at DF1
  have DFF := Box'.mk DF1
  have KP5 := Box'.mk (KP4.out.trans (Kp.below b5 ST4.out.kl))
  obtain ⟨K2, fb, xb, hK12, hK21, rfl, rk, st5⟩ := rv.toK hck (ST4.out.below b5)
  have ST5 := Box'.mk st5
  have HK12 := Box'.mk hK12
  have rw5 := row_any K2 N w5 sb vb b p4 out most fx lk fb xb hck rk (n1 + 257 + (n2 + 1)) (by omega) (by omega) st5
  have RL := Box'.mk (row_len lk b (n1 + 257 + (n2 + 1)) (n1 + 257 + (n2 + 1) + 1) p4 [])
  rw [show ((n1 + 257 + (n2 + 1) : Nat) : Int) = (n1 : Int) + 257 + ((n2 : Int) + 1) by omega] at rw5
  clear DF1 DFE st5 hK12 hK21 b5 rv rk hck KP4 ST4
  generalize rowF lk b (n1 + 257 + (n2 + 1)) (n1 + 257 + (n2 + 1) + 1) p4 [] = RR at *
  go_wp2_with fail
  refine rw5.mono ?_
  clear rw5
  intro e w6 hh
  obtain ⟨kp6, ⟨q, row, g, cap, hrr, rfl, hgM, hcap, sg, st6⟩ | ⟨x, hrr, rfl⟩⟩ := hh.cases
  case inr =>
    have e0 : R0 = .error x := by rw [DFF.out, hrr]
    exact ⟨rfl, DynEnds.bad e0 (BP.out _ (KP5.out.trans (kp6.less HK12.out)))⟩
  case inl =>
  have hrl := RL.out q row (by simp) (by simp) hrr
  have DF1 := DFF.out
  rw [hrr] at DF1
  have DFG : Box' (R0 = if row.getD 256 0 = 0 then .error 8 else if Gf.chkE (row.take (n1 + 257)) = 0 ∧ Gf.chkE (row.drop (n1 + 257)) = 0 then .ok (q, row.take (n1 + 257), row.drop (n1 + 257)) else .error 8) := ⟨DF1⟩
  have KP6 := Box'.mk (KP5.out.trans (kp6.less HK12.out))
  have ST6 := Box'.mk st6
  have SG := Box'.mk sg
  have c256 : w6.cell? ⟨g, 256, none⟩ = some (.int .i64 (row.getD 256 0)) := sg.cell (by omega)
  have IP := Box'.mk fun w1 (hs : SegI w1 g row) => ints_part hs hcap (n1 + 257) (by omega)
  have hl1 : (row.take (n1 + 257)).length ≤ 1000 := by rw [List.length_take]; omega
  have hl2 : (row.drop (n1 + 257)).length ≤ 1000 := by rw [List.length_drop]; omega
  have HL1 := Box'.mk hl1
  have HL2 := Box'.mk hl2
  rw [hrl] at hcap IP ⊢
  have hsub : n1 + 257 + (n2 + 1) - (n1 + 257) = n2 + 1 := by omega
  rw [hsub] at IP
  clear DF1 DFF hrr hh kp6 st6 sg KP5 RL hrl hl1 hl2 hsub hgM ST5
  generalize row.take (n1 + 257) = L1 at *
  generalize row.drop (n1 + 257) = L2 at *
  generalize hx256 : row.getD 256 0 = x256 at *
  clear hx256
  by_cases hz : x256 = 0
  · subst hz
    have e0 : R0 = .error 8 := DFG.out
    have hf := fail_any 8 w6
    have RES := Box'.mk (DynEnds.bad (N := N) (sb := sb) (vb := vb) (b := b) (out := out) (most := most) (fx := fx) e0 (BP.out _ KP6.out))
    clear DFG e0 IP SG ST6 KP6
    go_wp2_with fail
    refine hf.mono ?_
    rintro e w' ⟨rfl, rfl⟩
    exact ⟨rfl, RES.out⟩
  have DF1 := DFG.out
  rw [if_neg hz] at DF1
  have DFH := Box'.mk DF1
  have hz' : (x256 == 0) = false := by rw [beq_eq_false_iff_ne]; exact hz
  have CS : Box' (∀ w1, Below w6.heap.size w6 w1 → SegI w1 g row ∧ St K2 N w1 sb vb b q out most fx ∧ Kp K1 w0 w1) := ⟨fun w1 hb => ⟨SG.out.below hb, ST6.out.below hb, KP6.out.trans ((Kp.below hb ST6.out.kl).less HK12.out)⟩⟩
  obtain ⟨V1, hV1⟩ : ∃ V1 : World → Value → Prop, V1 = fun w1 v => Gf.chkE L1 = 0 ∧ RdV w6.heap.size w1 sb L1 v := ⟨_, rfl⟩
  obtain ⟨V2, hV2⟩ : ∃ V2 : World → Value → Prop, V2 = fun w1 v => Gf.chkE L2 = 0 ∧ RdV w6.heap.size w1 sb L2 v := ⟨_, rfl⟩
  have VK1 : Box' (∀ v w1 w2, Below w1.heap.size w1 w2 → V1 w1 v → V1 w2 v) := ⟨fun v w1 w2 hb h => by rw [hV1] at *; exact ⟨h.1, h.2.below hb⟩⟩
  have VK2 : Box' (∀ v w1 w2, Below w1.heap.size w1 w2 → V2 w1 v → V2 w2 v) := ⟨fun v w1 w2 hb h => by rw [hV2] at *; exact ⟨h.1, h.2.below hb⟩⟩
  have RDR : Box' (∀ w1, Below w6.heap.size w6 w1 → (Calls Try.prog 37 #[.pointer (some ⟨sb, 0, none⟩), .slice (some ⟨g, 0, none⟩) (n1 + 257) cap] w1 fun e w' => (∃ u, e = .returned u ∧ V1 w' u ∧ Below w1.heap.size w1 w') ∨ (e = flt 8 ∧ DynEnds K N w sb vb b out most fx R0 (flt 8) w')) ∧ (Calls Try.prog 37 #[.pointer (some ⟨sb, 0, none⟩), .slice (some ⟨g, n1 + 257, none⟩) (n2 + 1) (cap - (n1 + 257))] w1 fun e w' => (∃ u, e = .returned u ∧ V2 w' u ∧ Below w1.heap.size w1 w') ∨ (e = flt 8 ∧ DynEnds K N w sb vb b out most fx R0 (flt 8) w'))) := ⟨fun w1 hb => by
    obtain ⟨sg1, _, kp1⟩ := CS.out w1 hb
    obtain ⟨i1, i2⟩ := IP.out w1 sg1
    refine ⟨(reader_any sb _ L1 (by have := HL1.out; omega) w1 i1).mono ?_, (reader_any sb _ L2 (by have := HL2.out; omega) w1 i2).mono ?_⟩
    · rintro e w' ⟨b', ⟨hck, u, rfl, rv⟩ | ⟨hck, rfl⟩⟩
      · exact .inl ⟨u, rfl, by rw [hV1]; exact ⟨hck, rv.mono hb.size⟩, b'⟩
      · refine .inr ⟨rfl, DynEnds.bad (by rw [DFH.out, if_neg fun hh => hck hh.1]) (BP.out _ (CS.out w' (hb.trans (b'.mono hb.size))).2.2)⟩
    · rintro e w' ⟨b', ⟨hck, u, rfl, rv⟩ | ⟨hck, rfl⟩⟩
      · exact .inl ⟨u, rfl, by rw [hV2]; exact ⟨hck, rv.mono hb.size⟩, b'⟩
      · refine .inr ⟨rfl, DynEnds.bad (by rw [DFH.out, if_neg fun hh => hck hh.2]) (BP.out _ (CS.out w' (hb.trans (b'.mono hb.size))).2.2)⟩⟩
  have US1 : Box' (∀ w u, V1 w u → ∃ f x, u = .func (.func 48) #[] #[.pointer (some ⟨f, 0, none⟩), .pointer (some ⟨x, 0, none⟩)]) := ⟨fun w u h => by rw [hV1] at h; obtain ⟨_, f, x, _, e, _⟩ := h; exact ⟨f, x, e⟩⟩
  have US2 : Box' (∀ w u, V2 w u → ∃ f x, u = .func (.func 48) #[] #[.pointer (some ⟨f, 0, none⟩), .pointer (some ⟨x, 0, none⟩)]) := ⟨fun w u h => by rw [hV2] at h; obtain ⟨_, f, x, _, e, _⟩ := h; exact ⟨f, x, e⟩⟩
  have hM6 : Below w6.heap.size w6 w6.drew := (Below.refl _ _).drew
  have HM6 := Box'.mk hM6
  clear DF1 DFG hz IP hM6
  go_wp2_with fail
  refine wp_region_grow 11 (by kernel_rfl) (by kernel_rfl) (fun w1 w2 => Below w1.heap.size w1 w2) (fun w1 => Below w6.heap.size w6 w1) (fun k w1 v => match k with
    | 0 => v = .pointer (some ⟨sb, 0, none⟩)
    | 1 => v = .slice (some ⟨g, 0, none⟩) (n1 + 257 + (n2 + 1)) cap
    | 2 => v = .int .i64 ((n1 : Int) + 257)
    | 3 => v = .slice (some ⟨g, 0, none⟩) (n1 + 257) cap
    | 4 => V1 w1 v
    | 5 => v = .pointer (some ⟨sb, 0, none⟩)
    | 6 => v = .slice (some ⟨g, 0, none⟩) (n1 + 257 + (n2 + 1)) cap
    | 7 => v = .int .i64 ((n1 : Int) + 257)
    | 8 => v = .slice (some ⟨g, n1 + 257, none⟩) (n2 + 1) (cap - (n1 + 257))
    | 9 => V2 w1 v
    | 10 => ∃ u1 u2, v = .agg #[u1, u2] ∧ V1 w1 u1 ∧ V2 w1 u2
    | _ => True) ?_ ?_ ?_ ?_ ?_
  · intro w1 w2 hg hc
    exact hc.trans (hg.mono hc.size)
  · intro k v w1 w2 hC1 hb h
    match k, h with
    | 0, h => exact h
    | 1, h => exact h
    | 2, h => exact h
    | 3, h => exact h
    | 4, h => exact VK1.out _ _ _ hb h
    | 5, h => exact h
    | 6, h => exact h
    | 7, h => exact h
    | 8, h => exact h
    | 9, h => exact VK2.out _ _ _ hb h
    | 10, ⟨u1, u2, e, h1, h2⟩ => exact ⟨u1, u2, e, VK1.out _ _ _ hb h1, VK2.out _ _ _ hb h2⟩
    | k + 11, h => trivial
  · exact HM6.out
  · refine ⟨?_, ?_, ?_, ?_, ?_, ?_, ?_, ?_, ?_, ?_, ?_, trivial⟩
    · intro f w1 hC hd KK hK
      simp only [List.take_succ_cons, List.take_zero, setAll, List.setIfInBounds_toArray, List.set_cons_succ, List.set_cons_zero, Nat.zero_add, Nat.reduceAdd] at hK ⊢
      refine wp_of_quiet rfl ?_
      go_big_quiet_step (fail)
      exact wpQuiet_nil (hK _ _ rfl (Below.refl _ _))
    · intro f w1 hC hd KK hK
      simp only [List.take_succ_cons, List.take_zero, setAll, List.setIfInBounds_toArray, List.set_cons_succ, List.set_cons_zero, Nat.zero_add, Nat.reduceAdd] at hK ⊢
      refine wp_of_quiet rfl ?_
      go_big_quiet_step (fail)
      exact wpQuiet_nil (hK _ _ rfl (Below.refl _ _))
    · intro f w1 hC hd KK hK
      simp only [List.take_succ_cons, List.take_zero, setAll, List.setIfInBounds_toArray, List.set_cons_succ, List.set_cons_zero, Nat.zero_add, Nat.reduceAdd] at hK ⊢
      refine wp_of_quiet rfl ?_
      go_big_quiet_step (fail)
      exact wpQuiet_nil (hK _ _ rfl (Below.refl _ _))
    · intro f w1 hC hd KK hK
      have g1 : f 1 = _ := hd 1 rfl
      have g2 : f 2 = _ := hd 2 rfl
      simp only [List.take_succ_cons, List.take_zero, setAll, List.setIfInBounds_toArray, List.set_cons_succ, List.set_cons_zero, Nat.zero_add, Nat.reduceAdd, g1, g2] at hK ⊢
      refine wp_of_quiet rfl ?_
      go_big_quiet_step (fail)
      exact wpQuiet_nil (hK _ _ rfl (Below.refl _ _))
    · intro f w1 hC hd KK hK
      have g0 : f 0 = _ := hd 0 rfl
      have g3 : f 3 = _ := hd 3 rfl
      simp only [List.take_succ_cons, List.take_zero, setAll, List.setIfInBounds_toArray, List.set_cons_succ, List.set_cons_zero, Nat.zero_add, Nat.reduceAdd, g0, g3] at hK ⊢
      exact wp_call_or 37 #[.pointer (some ⟨sb, 0, none⟩), .slice (some ⟨g, 0, none⟩) (n1 + 257) cap] (by simp [go_sem]) 8 (((RDR.out w1 hC).1).mono fun e w' hh => by
        rcases hh with ⟨u, rfl, hv, hb⟩ | ⟨rfl, hp⟩
        · exact .inl ⟨u, rfl, hK _ _ hv hb⟩
        · exact .inr ⟨rfl, rfl, hp⟩)
    · intro f w1 hC hd KK hK
      simp only [List.take_succ_cons, List.take_zero, setAll, List.setIfInBounds_toArray, List.set_cons_succ, List.set_cons_zero, Nat.zero_add, Nat.reduceAdd] at hK ⊢
      refine wp_of_quiet rfl ?_
      go_big_quiet_step (fail)
      exact wpQuiet_nil (hK _ _ rfl (Below.refl _ _))
    · intro f w1 hC hd KK hK
      simp only [List.take_succ_cons, List.take_zero, setAll, List.setIfInBounds_toArray, List.set_cons_succ, List.set_cons_zero, Nat.zero_add, Nat.reduceAdd] at hK ⊢
      refine wp_of_quiet rfl ?_
      go_big_quiet_step (fail)
      exact wpQuiet_nil (hK _ _ rfl (Below.refl _ _))
    · intro f w1 hC hd KK hK
      simp only [List.take_succ_cons, List.take_zero, setAll, List.setIfInBounds_toArray, List.set_cons_succ, List.set_cons_zero, Nat.zero_add, Nat.reduceAdd] at hK ⊢
      refine wp_of_quiet rfl ?_
      go_big_quiet_step (fail)
      exact wpQuiet_nil (hK _ _ rfl (Below.refl _ _))
    · intro f w1 hC hd KK hK
      have g6 : f 6 = _ := hd 6 rfl
      have g7 : f 7 = _ := hd 7 rfl
      simp only [List.take_succ_cons, List.take_zero, setAll, List.setIfInBounds_toArray, List.set_cons_succ, List.set_cons_zero, Nat.zero_add, Nat.reduceAdd, g6, g7] at hK ⊢
      refine wp_of_quiet rfl ?_
      go_big_quiet_step (fail)
      exact wpQuiet_nil (hK _ _ (by rw [show n1 + 257 + (n2 + 1) - (n1 + 257) = n2 + 1 by omega]) (Below.refl _ _))
    · intro f w1 hC hd KK hK
      have g5 : f 5 = _ := hd 5 rfl
      have g8 : f 8 = _ := hd 8 rfl
      simp only [List.take_succ_cons, List.take_zero, setAll, List.setIfInBounds_toArray, List.set_cons_succ, List.set_cons_zero, Nat.zero_add, Nat.reduceAdd, g5, g8] at hK ⊢
      exact wp_call_or 37 #[.pointer (some ⟨sb, 0, none⟩), .slice (some ⟨g, n1 + 257, none⟩) (n2 + 1) (cap - (n1 + 257))] (by simp [go_sem]) 8 (((RDR.out w1 hC).2).mono fun e w' hh => by
        rcases hh with ⟨u, rfl, hv, hb⟩ | ⟨rfl, hp⟩
        · exact .inl ⟨u, rfl, hK _ _ hv hb⟩
        · exact .inr ⟨rfl, rfl, hp⟩)
    · intro f w1 hC hd KK hK
      have g4 : V1 w1 (f 4) := hd 4 rfl
      have g9 : V2 w1 (f 9) := hd 9 rfl
      obtain ⟨fa, xa, ea⟩ := US1.out _ _ g4
      obtain ⟨fc, xc, ec⟩ := US2.out _ _ g9
      rw [ea] at g4
      rw [ec] at g9
      simp only [List.take_succ_cons, List.take_zero, setAll, List.setIfInBounds_toArray, List.set_cons_succ, List.set_cons_zero, Nat.zero_add, Nat.reduceAdd, ea, ec] at hK ⊢
      refine wp_of_quiet rfl ?_
      go_big_quiet_step (fail)
      exact wpQuiet_nil (hK _ _ ⟨_, _, rfl, g4, g9⟩ (Below.refl _ _))
  · intro f w1 hC hv
    obtain ⟨u1, u2, e10, v1, v2⟩ : ∃ u1 u2, f 10 = .agg #[u1, u2] ∧ V1 w1 u1 ∧ V2 w1 u2 := hv 10 (by decide)
    obtain ⟨sg1, st1, kp1⟩ := CS.out w1 hC
    rw [hV1] at v1
    rw [hV2] at v2
    have kpK := BP.out _ kp1
    have rbr := RT.out _ kp1
    have hrb6 : rb < w6.heap.size := by have := RT.out _ KP6.out; exact this.lt
    have hrs : rb ≠ sb := by have := HSB.out; omega
    obtain ⟨stS, kpS⟩ := (HH.out.back st1 kpK).setRow rb #[u1, u2] rbr (by decide) hrs HNK.out
    have hso : ∀ k, w6.heap.size ≤ k → k < w1.heap.size → (w1.setRow rb #[u1, u2]).heap[k]? = w1.heap[k]? := fun k hk _ => setRow_other _ _ _ _ (by omega)
    obtain ⟨K3, fa, xa, hK3, hK3', ea, rka, st3⟩ := (v1.2.keep hso).toK v1.1 stS
    obtain ⟨K4, fc, xc, hK4, hK4', ec, rkc, st4⟩ := (v2.2.keep hso).toK v2.1 st3
    subst ea ec
    have RES := Box'.mk (DynEnds.good (DFH.out.trans (if_pos ⟨v1.1, v2.1⟩)) (kpK.trans kpS) v1.1 v2.1 (fun k hk => hK4 k (hK3 k hk)) (rka.more hK4) rkc st4)
    have RM : Room w1 rb 72 2 := rbr.room rfl
    have RR2 := Box'.mk (rbr.setRow #[.func (.func 48) #[] #[.pointer (some ⟨fa, 0, none⟩), .pointer (some ⟨xa, 0, none⟩)], .func (.func 48) #[] #[.pointer (some ⟨fc, 0, none⟩), .pointer (some ⟨xc, 0, none⟩)]])
    simp only [List.take_succ_cons, List.take_zero, List.drop_succ_cons, List.drop_zero, setAll, List.setIfInBounds_toArray, List.set_cons_succ, List.set_cons_zero, Nat.zero_add, Nat.reduceAdd, e10]
    clear e10 v1 v2 rka rkc st3 st4 stS kpS kpK rbr hso hK3 hK3' hK4 hK4' sg1 st1 kp1 hv hV1 hV2 US1 US2 VK1 VK2 RDR CS
    have ONE : (#[Value.func (.func 48) #[] #[.pointer (some ⟨fa, 0, none⟩), .pointer (some ⟨xa, 0, none⟩)], .func (.func 48) #[] #[.pointer (some ⟨fc, 0, none⟩), .pointer (some ⟨xc, 0, none⟩)]]).all (·.oneCell') = true := by simp [Value.oneCell']
    refine wpList_store_row rfl 72 (.tmp 2) (.tmp 39) rfl rb rfl _ rfl 72 2 RM Try.size72 rfl ONE ?_
    go_wp2_with fail
    exact bodyPost_ret (results_row rfl _ _ rfl _ _ RR2.out _ Try.underlying72 rfl 2 Try.size72 rfl) rfl RES.out
end Go.Proofs.Ytbnghmeeddjaoaa
