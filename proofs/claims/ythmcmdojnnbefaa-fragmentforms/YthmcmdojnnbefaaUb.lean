/- The reference's Write. -/
import Derived.Test.YthmcmdojnnbefaaUa
import Derived.Test.YthmcmdojnnbefaaGs
namespace Go.Proofs.Ythmcmdojnnbefaa
open Go.RowKit Go.BigFrame
set_option linter.unusedVariables false
set_option linter.unusedSimpArgs false

/-- append, by itself: only one's own row is turned. -/
theorem wp_app {o : Oper} {a : Act} {w : World} {K : Act → World → Prop} {Q : Exit → Act → World → Prop} (s x : Operand)
    (ho : o.op = .call { callee := .builtin .append, args := #[s, x], argTypes := #[23, 23] }) (N M : Nat) (hN : N ≤ w.heap.size)
    (v : Value) (d : List UInt8) (hs : a.eval s = v) (hown : OwnB N w v d) (vx : Value) (l : List UInt8) (hx : a.eval x = vx) (hin : InB M w vx l) (hl : 0 < l.length) (hmax : d.length + l.length ≤ 140737488355328)
    (h : ∀ v' w', OwnB N w' v' (d ++ l) → Fr N w w' → (∀ k, k < w.heap.size → v.ownBlock ≠ some k → w'.heap[k]? = w.heap[k]?) → K (a.put o.dst v') w') : o.wp Try.prog a w K Q := by
  obtain ⟨i, h1, h2, h3, h4⟩ := Try.info5a
  rcases hin with ⟨rfl, rfl⟩ | ⟨b, off, c, rfl, hc, hb, hr⟩
  · simp at hl
  · obtain ⟨v', w', hr, g2, g3, _⟩ := run_append_own (P := Try.prog) w N 23 o.type 5 i _ 1 1 Try.underlying23 h1 h2 h3 h4 rfl (by decide) v d.length (d.map B) hown ⟨b, off, none⟩ l.length c (l.map B) (by rw [List.length_map, Nat.mul_one]) (fun j u hu => by rw [Addr.add_mid]; exact hr j u hu) (one_By l) (by unfold maxLen; omega) (by omega) hN
    have g2' : OwnB N w' v' (d ++ l) := by unfold OwnB; rw [List.length_append, List.map_append]; exact g2
    unfold Oper.wp execOp
    simp only [ho, resolve, invoke, builtin, Sem.run_bind, Sem.run_pure, Result.andThen_ok, List.map_toArray, List.map_cons, List.map_nil, hs, hx, hr]
    exact h v' w' g2' (Fr.grown hown g3) (fun k hk hn => g3.block k hk (fun e => hn e.symm))
set_option maxRecDepth 1000000 in
set_option maxHeartbeats 4000000 in
theorem rwReg (M pb id m : Nat) (va : Option Addr) (ln vc : Nat) (d : List UInt8) (w0 : World) (u0 u2 u3 u5 u6 u7 u8 u9 u10 u11 u12 u13 u14 u15 u16 u17 u18 u19 u20 u21 u22 u23 u24 : Value) (w : World) (hM : M ≤ w0.heap.size) (h0 : Fr M w0 w) (hC0 : ∀ w1, Fr M w0 w1 → w1.cell? ⟨pb, 0, none⟩ = some (.int .u64 (id : Int))) (hC3 : ∀ w1, Fr M w0 w1 → w1.cell? ⟨pb, 3, none⟩ = some (.slice va ln vc)) (hid : id < 18446744073709551616) (hm : m < 18446744073709551616) (hI : ∀ w1, Fr M w0 w1 → InB M w1 (.slice va ln vc) d) (hdl : d.length ≤ 1024) :
    Code.wp Try.prog ((Try.f9.body.bind (regOf' 6)).getD .skip) (fun e a' w' => e = .normal ∧ ∃ v2 v3 v16 v17 v18 v19 v20 v21 v22 v23 v24 : Value, a' = ⟨List.toArray (u0 :: .pointer (some ⟨pb, 0, none⟩) :: v2 :: v3 :: .int .u64 (m : Int) :: u5 :: u6 :: u7 :: u8 :: u9 :: u10 :: u11 :: u12 :: u13 :: u14 :: u15 :: v16 :: v17 :: v18 :: v19 :: v20 :: v21 :: v22 :: v23 :: v24 :: []), []⟩ ∧ OwnB M w' v2 ((uf id ++ uf m) ++ d) ∧ v3 = .int .i64 0 ∧ Fr M w0 w') ⟨List.toArray (u0 :: .pointer (some ⟨pb, 0, none⟩) :: u2 :: u3 :: .int .u64 (m : Int) :: u5 :: u6 :: u7 :: u8 :: u9 :: u10 :: u11 :: u12 :: u13 :: u14 :: u15 :: u16 :: u17 :: u18 :: u19 :: u20 :: u21 :: u22 :: u23 :: u24 :: []), []⟩ w := by
  conv => arg 2; whnf
  have HC0 := Box'.mk hC0
  have HC3 := Box'.mk hC3
  have U1 := Box'.mk (fun w1 => refUint_any id hid w1)
  have U2 := Box'.mk (fun w1 => refUint_any m hm w1)
  have HL : Box' (0 < (uf m).length ∧ (uf id).length + (uf m).length ≤ 140737488355328) := ⟨⟨List.length_pos_iff.2 (uf_ne m), by have := uf_len64 hid; have := uf_len64 hm; omega⟩⟩
  have HI := Box'.mk hI
  have HD : Box' ((uf id ++ uf m).length + d.length ≤ 140737488355328) := ⟨by rw [List.length_append]; have := uf_len64 hid; have := uf_len64 hm; omega⟩
  clear hC0 hC3 hI hdl hid hm
  refine wp_region_spent 8 5 (fun k => k == 2 || k == 4) (by kernel_rfl) (by kernel_rfl) _ rfl (by kernel_rfl) (fun a b => Below a.heap.size a b) (fun a b => Fr M a b) (fun w1 => Fr M w0 w1) (fun k w1 v => match k with
      | 0 => v = .pointer (some ⟨pb, 0, none⟩)
      | 1 => v = .int .u64 (id : Int)
      | 2 => OwnB M w1 v (uf id)
      | 3 => v = .int .u64 (m : Int)
      | 4 => OwnB M w1 v (uf m)
      | 5 => OwnB M w1 v (uf id ++ uf m)
      | 6 => v = .pointer (some ⟨pb, 3, none⟩)
      | 7 => v = .slice va ln vc
      | _ => True) ?_ ?_ ?_ ?_ ?_ ?_ ?_ ?_
  · intro a b' hb hC; exact hC.trans (Fr.of hb)
  · intro k v w1 w2 hC1 hb h
    match k, h with
    | 0, h => exact h
    | 1, h => exact h
    | 2, h => exact h.below hb
    | 3, h => exact h
    | 4, h => exact h.below hb
    | 5, h => exact h.below hb
    | 6, h => exact h
    | 7, h => exact h
    | k + 8, h => trivial
  · intro a b' hb hC; exact hC.trans hb
  · intro k v w1 w2 hne hsp hC1 hb h
    match k, hne, hsp, h with
    | 0, _, _, h => exact h
    | 1, _, _, h => exact h
    | 2, _, hsp, h => exact absurd hsp (by decide)
    | 3, _, _, h => exact h
    | 4, _, hsp, h => exact absurd hsp (by decide)
    | 5, hne, _, h => exact absurd rfl hne
    | 6, _, _, h => exact h
    | 7, _, _, h => exact h
    | k + 8, _, _, h => trivial
  · exact ⟨h0.os, h0.tape, h0.output, h0.size, h0.block⟩
  · refine ⟨?_, ?_, ?_, ?_, ?_, ?_, ?_, ?_, trivial⟩
    · intro hj f w1 hC hd KK hK
      clear hd
      simp only [List.take_succ_cons, List.take_zero, setAll, List.setIfInBounds_toArray, List.set_cons_succ, List.set_cons_zero, Nat.zero_add, Nat.reduceAdd] at hK ⊢
      refine wp_of_quiet rfl ?_
      go_big_quiet_step (fail)
      exact wpQuiet_nil (hK _ _ rfl (Below.refl _ _))
    · intro hj f w1 hC hd KK hK
      have g0 : f 0 = _ := hd 0 (by kernel_rfl)
      clear hd
      simp only [List.take_succ_cons, List.take_zero, setAll, List.setIfInBounds_toArray, List.set_cons_succ, List.set_cons_zero, Nat.zero_add, Nat.reduceAdd, g0] at hK ⊢
      have cc := HC0.out w1 hC
      refine wp_of_quiet rfl ?_
      go_big_quiet_step (fail)
      exact wpQuiet_nil (hK _ _ rfl (Below.refl _ _))
    · intro hj f w1 hC hd KK hK
      have g1 : f 1 = _ := hd 1 (by kernel_rfl)
      clear hd
      simp only [List.take_succ_cons, List.take_zero, setAll, List.setIfInBounds_toArray, List.set_cons_succ, List.set_cons_zero, Nat.zero_add, Nat.reduceAdd, g1] at hK ⊢
      refine wp_callE 26 #[.int .u64 (id : Int)] (by simp [go_sem]) (fun v w' => OwnB w1.heap.size w' v (uf id) ∧ Below w1.heap.size w1 w') ?_ ?_
      · exact ((U1.out w1).mono fun e w' h => by obtain ⟨u, rfl, h1, h2⟩ := h; exact ⟨_, rfl, h1, h2⟩)
      · intro v w' hr
        exact hK _ _ (hr.1.less (Nat.le_trans hM hC.size)) hr.2
    · intro hj f w1 hC hd KK hK
      clear hd
      simp only [List.take_succ_cons, List.take_zero, setAll, List.setIfInBounds_toArray, List.set_cons_succ, List.set_cons_zero, Nat.zero_add, Nat.reduceAdd] at hK ⊢
      refine wp_of_quiet rfl ?_
      go_big_quiet_step (fail)
      exact wpQuiet_nil (hK _ _ rfl (Below.refl _ _))
    · intro hj f w1 hC hd KK hK
      have g3 : f 3 = _ := hd 3 (by kernel_rfl)
      clear hd
      simp only [List.take_succ_cons, List.take_zero, setAll, List.setIfInBounds_toArray, List.set_cons_succ, List.set_cons_zero, Nat.zero_add, Nat.reduceAdd, g3] at hK ⊢
      refine wp_callE 26 #[.int .u64 (m : Int)] (by simp [go_sem]) (fun v w' => OwnB w1.heap.size w' v (uf m) ∧ Below w1.heap.size w1 w') ?_ ?_
      · exact ((U2.out w1).mono fun e w' h => by obtain ⟨u, rfl, h1, h2⟩ := h; exact ⟨_, rfl, h1, h2⟩)
      · intro v w' hr
        exact hK _ _ (hr.1.less (Nat.le_trans hM hC.size)) hr.2
    · intro hj; exact absurd rfl hj
    · intro hj f w1 hC hd KK hK
      clear hd
      simp only [List.take_succ_cons, List.take_zero, setAll, List.setIfInBounds_toArray, List.set_cons_succ, List.set_cons_zero, Nat.zero_add, Nat.reduceAdd] at hK ⊢
      refine wp_of_quiet rfl ?_
      go_big_quiet_step (fail)
      exact wpQuiet_nil (hK _ _ rfl (Below.refl _ _))
    · intro hj f w1 hC hd KK hK
      have g6 : f 6 = _ := hd 6 (by kernel_rfl)
      clear hd
      simp only [List.take_succ_cons, List.take_zero, setAll, List.setIfInBounds_toArray, List.set_cons_succ, List.set_cons_zero, Nat.zero_add, Nat.reduceAdd, g6] at hK ⊢
      have cc := HC3.out w1 hC
      refine wp_of_quiet rfl ?_
      go_big_quiet_step (fail)
      exact wpQuiet_nil (hK _ _ rfl (Below.refl _ _))
  · intro f w1 hC hd KK hK
    have p2 : OwnB M w1 (f 2) (uf id) := hd 2 (by kernel_rfl)
    have p4 : OwnB M w1 (f 4) (uf m) := hd 4 (by kernel_rfl)
    clear hd
    simp only [List.take_succ_cons, List.take_zero, setAll, List.setIfInBounds_toArray, List.set_cons_succ, List.set_cons_zero, Nat.zero_add, Nat.reduceAdd] at hK ⊢
    refine wp_app (.tmp 18) (.tmp 20) rfl M w1.heap.size (Nat.le_trans hM hC.size) _ (uf id) rfl p2 _ (uf m) rfl p4.inB HL.out.1 HL.out.2 (fun v' w' q1 q2 q3 => hK _ _ q1 q2)
  · intro f w1 hC hv
    have g0 : f 0 = _ := hv 0 (by decide) (by decide)
    have g1 : f 1 = _ := hv 1 (by decide) (by decide)
    have g3 : f 3 = _ := hv 3 (by decide) (by decide)
    have p5 : OwnB M w1 (f 5) (uf id ++ uf m) := hv 5 (by decide) (by decide)
    have g6 : f 6 = _ := hv 6 (by decide) (by decide)
    have g7 : f 7 = _ := hv 7 (by decide) (by decide)
    simp only [List.take_succ_cons, List.take_zero, List.drop_succ_cons, List.drop_zero, setAll, List.setIfInBounds_toArray, List.set_cons_succ, List.set_cons_zero, Nat.zero_add, Nat.reduceAdd, g0, g1, g3, g6, g7]
    clear g0 g1 g3 g6 g7 hv
    have i5 := HI.out w1 hC
    have hz := Nat.le_trans hM hC.size
    have O5 := Box'.mk p5
    have F5 := Box'.mk hC
    have I5 := Box'.mk i5
    clear p5 i5 hC
    generalize f 5 = x5 at *
    generalize f 2 = x2 at *
    generalize f 4 = x4 at *
    obtain ⟨a5, c5, hx5⟩ := O5.out.slice
    subst hx5
    generalize hq5 : (uf id ++ uf m).length = l5 at *
    have HQ5 := Box'.mk hq5
    clear hq5
    go_wp2_with (refine wpList_app rfl (.tmp 21) (.tmp 23) rfl M M hz _ (uf id ++ uf m) rfl O5.out _ d rfl I5.out (by have := HD.out; rw [HQ5.out]; omega) ?_; intro v6 w6 o6 f6; have O6 := Box'.mk o6; have F6 := Box'.mk (F5.out.trans f6); clear o6 f6)
    exact ⟨_, _, ⟨rfl, rfl⟩, by rw [← List.append_assoc]; exact O6.out, rfl, F6.out⟩

set_option maxRecDepth 100000 in
set_option maxHeartbeats 4000000 in
theorem refWrite_any (N : Nat) (w : World) (p : Prt) (hp : p.id < 18446744073709551616) (vd : Value) (hN : N ≤ w.heap.size) (hi : InB N w vd p.d) :
    Calls Try.prog 9 #[pv p vd] w fun e w' => ∃ u, e = .returned (.tuple #[u, .int .i64 (wrF p).2]) ∧ OwnB w.heap.size w' u (wrF p).1 ∧ Below w.heap.size w w' := by
  obtain ⟨pi, pn, pl, pd⟩ := p
  unfold pv
  simp only at hp hi ⊢
  obtain ⟨a1, c1, rfl, _⟩ := hi.slice
  have HR : Box' (wrF ⟨pi, pn, pl, pd⟩ = if mayN pn pl pd.length then (frm ⟨pi, pn, pl, pd⟩, 0) else ([], 2)) := ⟨rfl⟩
  generalize wrF ⟨pi, pn, pl, pd⟩ = R at *
  obtain ⟨w0, hw0⟩ : ∃ w0, w0 = w.alloc (.cells #[.int .u64 (pi : Int), .int .i64 pn, .bool pl, .slice a1 pd.length c1] 25) := ⟨_, rfl⟩
  have b0 : Below w.heap.size w w0 := by rw [hw0]; exact (Below.refl _ _).alloc (Nat.le_refl _) _
  have r0 : Row w0 w.heap.size 25 #[.int .u64 (pi : Int), .int .i64 pn, .bool pl, .slice a1 pd.length c1] := by rw [hw0]; exact Row.new _ _ _
  have HM := Box'.mk (fun w1 => refMay_any pi pn pl a1 pd.length c1 w1)
  have HI := Box'.mk hi
  have HB0 := Box'.mk b0
  have HR0 := Box'.mk r0
  have HN := Box'.mk hN
  clear hi b0 r0 hN
  generalize hln : pd.length = ln at *
  have HLN := Box'.mk hln
  clear hln
  have LR0 := HR0
  rw [hw0] at LR0
  go_enter Try.func9, Try.ntmps9
  go_wp2_with (refine wpList_load_row rfl 25 (.tmp 1) rfl _ rfl 25 _ LR0.out _ Try.underlying25 rfl 4 Try.info25 rfl ?_)
  rw [← hw0]
  clear hw0 LR0
  refine (HM.out _).mono ?_
  rintro e2 w2 ⟨rfl, b2⟩
  clear HM
  have HB2 := Box'.mk (HB0.out.trans (b2.mono HB0.out.size))
  have HR2 := Box'.mk (HR0.out.below b2 HR0.out.lt)
  clear HB0 HR0 b2
  cases hmy : mayN pn pl ln with
  | false =>
    have e := HR.out
    rw [hmy, if_neg (by simp)] at e
    subst e
    clear HR
    go_wp2_with fail
    go_ret2
    exact ⟨_, rfl, OwnB.nil _ _, HB2.out⟩
  | true =>
    have e := HR.out
    rw [hmy, if_pos rfl] at e
    have hmn : 0 ≤ pn ∧ pn < 256 ∧ ln ≤ 1024 := by unfold mayN at hmy; rw [decide_eq_true_eq] at hmy; exact ⟨hmy.1, hmy.2.1, hmy.2.2.1⟩
    obtain ⟨n, rfl⟩ : ∃ n : Nat, pn = (n : Int) := ⟨pn.toNat, by omega⟩
    have hn : n < 256 := by omega
    have hl : ln ≤ 1024 := hmn.2.2
    have HE := Box'.mk e
    clear HR hmy hmn e
    have cp1 : w2.cell? ⟨w.heap.size, 1, none⟩ = some (.int .i64 (n : Int)) := by rw [HR2.out.cell]; rfl
    have cp2 : w2.cell? ⟨w.heap.size, 2, none⟩ = some (.bool pl) := by rw [HR2.out.cell]; rfl
    obtain ⟨m, hm⟩ : ∃ m, m = numP ⟨pi, (n : Int), pl, pd⟩ := ⟨_, rfl⟩
    have hm2 : m = 2 * n + (if pl then 1 else 0) := by rw [hm]; rfl
    have hfr : frm ⟨pi, (n : Int), pl, pd⟩ = (uf pi ++ uf m) ++ pd := by rw [hm]; rfl
    have hm64 : m < 18446744073709551616 := by rw [hm2]; split <;> omega
    have HFR := Box'.mk hfr
    have HM2 := Box'.mk hm2
    have H3 : Box' (∀ w3, Fr w.heap.size w2 w3 → w3.cell? ⟨w.heap.size, 0, none⟩ = some (.int .u64 (pi : Int)) ∧ w3.cell? ⟨w.heap.size, 3, none⟩ = some (.slice a1 ln c1) ∧ InB w.heap.size w3 (.slice a1 ln c1) pd) := ⟨fun w3 f3 => by
      have r3 := f3.row HR2.out (by decide)
      exact ⟨by rw [r3.cell]; rfl, by rw [r3.cell]; rfl, (((HI.out.below HB2.out HN.out).below (f3.below HB2.out.size) HN.out).up HN.out)⟩⟩
    clear hfr hm hm2
    cases pl with
    | true =>
      have e1 : m = 2 * n + 1 := by rw [HM2.out]; rfl
      have HMI : Box' (2 * (n : Int) + 1 = (m : Int)) := ⟨by omega⟩
      clear HM2 e1
      go_upto_region 6 with fail
      simp only [HMI.out]
      refine wp_mono (rwReg w.heap.size w.heap.size pi m a1 ln c1 pd w2 _ _ _ _ _ _ _ _ _ _ _ _ _ _ _ _ _ _ _ _ _ _ _ _ HB2.out.size (Fr.refl _ _) (fun w1 f1 => (H3.out w1 f1).1) (fun w1 f1 => (H3.out w1 f1).2.1) hp hm64 (fun w1 f1 => (H3.out w1 f1).2.2) (by rw [HLN.out]; exact hl)) ?_
      rintro r a' w3 ⟨rfl, v2, v3, v16, v17, v18, v19, v20, v21, v22, v23, v24, rfl, o3, rfl, f3⟩
      have B3 : Below w.heap.size w w3 := HB2.out.trans (f3.below HB2.out.size)
      rw [← HFR.out] at o3
      have e := HE.out
      subst e
      clear H3 HB2 f3
      go_wp2_with fail
      go_ret2
      exact ⟨_, rfl, o3, B3⟩
    | false =>
      have e1 : m = 2 * n := by rw [HM2.out]; rfl
      have HMI : Box' (2 * (n : Int) = (m : Int)) := ⟨by omega⟩
      clear HM2 e1
      go_upto_region 6 with fail
      simp only [HMI.out]
      refine wp_mono (rwReg w.heap.size w.heap.size pi m a1 ln c1 pd w2 _ _ _ _ _ _ _ _ _ _ _ _ _ _ _ _ _ _ _ _ _ _ _ _ HB2.out.size (Fr.refl _ _) (fun w1 f1 => (H3.out w1 f1).1) (fun w1 f1 => (H3.out w1 f1).2.1) hp hm64 (fun w1 f1 => (H3.out w1 f1).2.2) (by rw [HLN.out]; exact hl)) ?_
      rintro r a' w3 ⟨rfl, v2, v3, v16, v17, v18, v19, v20, v21, v22, v23, v24, rfl, o3, rfl, f3⟩
      have B3 : Below w.heap.size w w3 := HB2.out.trans (f3.below HB2.out.size)
      rw [← HFR.out] at o3
      have e := HE.out
      subst e
      clear H3 HB2 f3
      go_wp2_with fail
      go_ret2
      exact ⟨_, rfl, o3, B3⟩

end Go.Proofs.Ythmcmdojnnbefaa
