/- The reference's Split. -/
import Derived.Test.YthmcmdojnnbefaaUc
import Derived.Test.YthmcmdojnnbefaaGt
namespace Go.Proofs.Ythmcmdojnnbefaa
open Go.RowKit Go.BigFrame
set_option linter.unusedVariables false
set_option linter.unusedSimpArgs false

theorem grown_trans {a b c : World} {r : Option Nat} (h : a.grownBy b r) (k : b.grownBy c r) : a.grownBy c r :=
  ⟨k.os.trans h.os, k.tape.trans h.tape, k.output.trans h.output, Nat.le_trans h.size k.size, fun i hi hn => (k.block i (Nat.lt_of_lt_of_le hi h.size) hn).trans (h.block i hi hn)⟩
theorem grown_below {a b : World} {r : Option Nat} (h : Below a.heap.size a b) : a.grownBy b r := ⟨h.os, h.tape, h.output, h.size, fun k hk _ => h.block k hk⟩
theorem run_buildB (w : World) (n : Int) : (Instr.buildSlice 23 1 #[(0, .int .u8 n)]).run Try.prog w = .ok (.slice (some ⟨w.heap.size, 0, none⟩) 1 1) (w.alloc (.cells #[.int .u8 n] 5)) := by
  simp [go_sem, Instr.buildSlice]
theorem wp_buildB {op : Oper} {a : Act} {w : World} {K : Act → World → Prop} {Q : Exit → Act → World → Prop} (x : Operand) (ho : op.op = .buildSlice 23 1 #[(0, x)]) (y : UInt8) (hx : a.eval x = .int .u8 (y.toNat : Int))
    (h : K (a.put op.dst (.slice (some ⟨w.heap.size, 0, none⟩) 1 1)) (w.alloc (.cells (ag [y]) 5))) : op.wp Try.prog a w K Q := by
  have hr := run_buildB w (y.toNat : Int)
  unfold Oper.wp execOp
  simp only [ho, Sem.run_bind, List.map_toArray, List.map_cons, List.map_nil, hx, hr, Result.andThen_ok, Sem.run_pure]
  exact h
theorem wp_appAt {o : Oper} {a : Act} {w : World} {K : Act → World → Prop} {Q : Exit → Act → World → Prop} (s x : Operand)
    (ho : o.op = .call { callee := .builtin .append, args := #[s, x], argTypes := #[23, 23] }) (N : Nat) (hN : N ≤ w.heap.size)
    (v : Value) (d : List UInt8) (hs : a.eval s = v) (hown : OwnB N w v d) (q c : Nat) (hx : a.eval x = .slice (some ⟨q, 0, none⟩) 1 c) (y : UInt8) (hr : Row w q 5 (ag [y])) (hmax : d.length + 1 ≤ 140737488355328)
    (h : ∀ v' w', OwnB N w' v' (d ++ [y]) → w.grownBy w' v.ownBlock → (v'.ownBlock = v.ownBlock ∨ ∀ g, v'.ownBlock = some g → w.heap.size ≤ g) → K (a.put o.dst v') w') : o.wp Try.prog a w K Q := by
  obtain ⟨i, h1, h2, h3, h4⟩ := Try.info5a
  have hnews : ∀ j u, ([y].map B)[j]? = some u → w.cell? ((⟨q, 0, none⟩ : Addr).add j) = some u := fun j u hu => by rw [Addr.add_mid, Nat.zero_add, hr.cell]; simpa [ag] using hu
  obtain ⟨v', w', hrun, g2, g3, _⟩ := run_append_own (P := Try.prog) w N 23 o.type 5 i _ 1 1 Try.underlying23 h1 h2 h3 h4 rfl (by decide) v d.length (d.map B) hown ⟨q, 0, none⟩ 1 c ([y].map B) rfl hnews (one_By [y]) (by unfold maxLen; omega) (by omega) hN
  have g2' : OwnB N w' v' (d ++ [y]) := by unfold OwnB; rw [List.length_append, List.map_append]; exact g2
  have hv : v'.ownBlock = v.ownBlock ∨ ∀ g, v'.ownBlock = some g → w.heap.size ≤ g := by
    rcases g2.2 with ⟨e, e0⟩ | ⟨g', cap', cur', e1', hbg', hg', hnc', hcm', hcs', htake'⟩
    · exact absurd e0 (by omega)
    · by_cases hlt : g' < w.heap.size
      · left
        rcases hown.2 with ⟨e', e0⟩ | ⟨g1, cap1, cur, e1, hbg, hg, hnc, hcm, hcs, htake⟩
        · exfalso
          subst e'
          have hd0 : d = [] := List.eq_nil_of_length_eq_zero e0
          subst hd0
          obtain ⟨v2, w2, hrun2, g22, _, _⟩ := run_append_own (P := Try.prog) w w.heap.size 23 o.type 5 i _ 1 1 Try.underlying23 h1 h2 h3 h4 rfl (by decide) (.slice none 0 0) 0 [] ⟨rfl, .inl ⟨rfl, rfl⟩⟩ ⟨q, 0, none⟩ 1 c ([y].map B) rfl hnews (one_By [y]) (by unfold maxLen; omega) (by omega) (Nat.le_refl _)
          rw [hrun] at hrun2
          injection hrun2 with q1 q2
          rcases g22.2 with ⟨e, e0⟩ | ⟨g2x, capx, curx, e1x, hbgx, _⟩
          · exact absurd e0 (by omega)
          · rw [← q1, e1'] at e1x
            injection e1x with r1
            injection r1 with r1
            injection r1 with r1
            omega
        · by_cases hroom : d.length + 1 ≤ cap1
          · have hfit : d.length * i.size + ([y].map B).length ≤ cur.size := by rw [hcs, h3]; simp; omega
            have hr' := run_append_room (P := Try.prog) w 23 o.type 5 i Try.underlying23 h1 g1 d.length cap1 cur hg ⟨q, 0, none⟩ 1 c ([y].map B) (by rw [h3]; rfl) hnews (one_By [y]) hroom hfit
            rw [← e1, hrun] at hr'
            injection hr' with q1 q2
            rw [q1, e1]
            rfl
          · exfalso
            have holds : ∀ j u, (d.map B)[j]? = some u → w.cell? ((⟨g1, 0, none⟩ : Addr).add j) = some u := hown.cells (g := g1) (by rw [e1]; rfl)
            have hr' := run_append_grow (P := Try.prog) w 23 o.type 5 i _ Try.underlying23 h1 h2 ⟨g1, 0, none⟩ d.length cap1 (d.map B) (by rw [h3]; exact hown.1) holds ⟨q, 0, none⟩ 1 c ([y].map B) (by rw [h3]; rfl) hnews (by omega) (by omega) (growslice_fits (by omega) (by rw [h4]; omega))
            rw [← e1, hrun] at hr'
            injection hr' with q1 q2
            rw [e1'] at q1
            injection q1 with q1
            injection q1 with q1
            injection q1 with q1
            omega
      · right
        intro g hg
        rw [e1'] at hg
        simp [Value.ownBlock] at hg
        omega
  unfold Oper.wp execOp
  simp only [ho, resolve, invoke, builtin, Sem.run_bind, Sem.run_pure, Result.andThen_ok, List.map_toArray, List.map_cons, List.map_nil, hs, hx, hrun]
  exact h v' w' g2' g3 hv
set_option maxRecDepth 1000000 in
set_option maxHeartbeats 4000000 in
theorem rsReg (N gq kc cq gb ob bl cb ic dl cv : Nat) (av : Option Addr) (x : UInt8) (d : List UInt8) (u0 u2 u3 u4 u5 u6 u7 u10 u11 u12 u13 u14 u15 u16 u17 u18 u19 u20 u21 u22 u23 u24 u25 u26 u27 u28 u29 u30 u31 u32 u33 u34 u35 u36 u37 u38 u39 u40 u41 u42 u43 u44 u45 u46 u47 u48 u49 u50 u51 u52 u53 u54 u55 u56 u57 u58 u59 u60 u61 u62 u63 u64 u65 u66 u67 u68 u69 u70 u71 u72 : Value) (w : World) (hk : kc ≤ 262145) (hic : ic < bl) (hN : N ≤ w.heap.size) (hO : OwnB N w (.slice av dl cv) d) (hCL : ∀ w1, w.grownBy w1 (Value.ownBlock (.slice av dl cv)) → w1.cell? ⟨gq, kc * 4 + 3, none⟩ = some (.slice av dl cv)) (hFZ : ∀ w1, w.grownBy w1 (Value.ownBlock (.slice av dl cv)) → ∀ j, w1.frozen? ⟨gq, j, none⟩ = false) (hBY : ∀ w1, w.grownBy w1 (Value.ownBlock (.slice av dl cv)) → w1.cell? ⟨gb, ob + ic, none⟩ = some (.int .u8 (x.toNat : Int))) (hMX : d.length + 1 ≤ 140737488355328) :
    Code.wp Try.prog ((Try.f13.body.bind (regOf' 11)).getD .skip) (fun e a' w' => e = .normal ∧ ∃ v47 v48 v49 v50 v51 v52 v53 v54 v55 v56 v57 v58 v59 v60 v61 v62 v63 v64 v65 : Value, a' = ⟨List.toArray (u0 :: .slice (some ⟨gb, ob, none⟩) bl cb :: u2 :: u3 :: u4 :: u5 :: u6 :: u7 :: .slice (some ⟨gq, 0, none⟩) (kc + 1) cq :: .int .i64 (ic : Int) :: u10 :: u11 :: u12 :: u13 :: u14 :: u15 :: u16 :: u17 :: u18 :: u19 :: u20 :: u21 :: u22 :: u23 :: u24 :: u25 :: u26 :: u27 :: u28 :: u29 :: u30 :: u31 :: u32 :: u33 :: u34 :: u35 :: u36 :: u37 :: u38 :: u39 :: u40 :: u41 :: u42 :: u43 :: u44 :: u45 :: u46 :: v47 :: v48 :: v49 :: v50 :: v51 :: v52 :: v53 :: v54 :: v55 :: v56 :: v57 :: v58 :: v59 :: v60 :: v61 :: v62 :: v63 :: v64 :: v65 :: u66 :: u67 :: u68 :: u69 :: u70 :: u71 :: u72 :: []), []⟩ ∧ ∃ vd w1, w.grownBy w1 (Value.ownBlock (.slice av dl cv)) ∧ OwnB N w1 vd (d ++ [x]) ∧ (vd.ownBlock = Value.ownBlock (.slice av dl cv) ∨ ∀ g, vd.ownBlock = some g → w.heap.size ≤ g) ∧ w' = w1.setCell ⟨gq, kc * 4 + 3, none⟩ vd) ⟨List.toArray (u0 :: .slice (some ⟨gb, ob, none⟩) bl cb :: u2 :: u3 :: u4 :: u5 :: u6 :: u7 :: .slice (some ⟨gq, 0, none⟩) (kc + 1) cq :: .int .i64 (ic : Int) :: u10 :: u11 :: u12 :: u13 :: u14 :: u15 :: u16 :: u17 :: u18 :: u19 :: u20 :: u21 :: u22 :: u23 :: u24 :: u25 :: u26 :: u27 :: u28 :: u29 :: u30 :: u31 :: u32 :: u33 :: u34 :: u35 :: u36 :: u37 :: u38 :: u39 :: u40 :: u41 :: u42 :: u43 :: u44 :: u45 :: u46 :: u47 :: u48 :: u49 :: u50 :: u51 :: u52 :: u53 :: u54 :: u55 :: u56 :: u57 :: u58 :: u59 :: u60 :: u61 :: u62 :: u63 :: u64 :: u65 :: u66 :: u67 :: u68 :: u69 :: u70 :: u71 :: u72 :: []), []⟩ w := by
  conv => arg 2; whnf
  have HCL := Box'.mk hCL
  have HFZ := Box'.mk hFZ
  have HBY := Box'.mk hBY
  have HMX := Box'.mk hMX
  have h0 : w.grownBy w.drew (Value.ownBlock (.slice av dl cv)) := ⟨rfl, rfl, rfl, Nat.le_refl _, fun _ _ _ => rfl⟩
  clear hCL hFZ hBY hMX
  refine wp_region_spentA 17 16 (fun k => k == 10 || k == 15) (by kernel_rfl) (by kernel_rfl) _ rfl (by kernel_rfl) (fun a b => Below a.heap.size a b) (fun a b => a.grownBy b (Value.ownBlock (.slice av dl cv))) (fun w1 => w.grownBy w1 (Value.ownBlock (.slice av dl cv))) (fun w1 => OwnB N w1 (.slice av dl cv) d) (fun k w1 v => match k with
      | 0 => v = .slice (some ⟨gq, 0, none⟩) (kc + 1) cq
      | 1 => v = .slice (some ⟨gq, 0, none⟩) (kc + 1) cq
      | 2 => v = .int .i64 ((kc + 1 : Nat) : Int)
      | 3 => v = .int .i64 (kc : Int)
      | 4 => v = .slice (some ⟨gq, 0, none⟩) (kc + 1) cq
      | 5 => v = .slice (some ⟨gq, 0, none⟩) (kc + 1) cq
      | 6 => v = .int .i64 ((kc + 1 : Nat) : Int)
      | 7 => v = .int .i64 (kc : Int)
      | 8 => v = .pointer (some ⟨gq, kc * 4, none⟩)
      | 9 => v = .pointer (some ⟨gq, kc * 4 + 3, none⟩)
      | 10 => v = .slice av dl cv ∧ OwnB N w1 (.slice av dl cv) d
      | 11 => v = .slice (some ⟨gb, ob, none⟩) bl cb
      | 12 => v = .int .i64 (ic : Int)
      | 13 => v = .pointer (some ⟨gb, ob + ic, none⟩)
      | 14 => v = .int .u8 (x.toNat : Int)
      | 15 => ∃ q, v = .slice (some ⟨q, 0, none⟩) 1 1 ∧ Row w1 q 5 (ag [x])
      | 16 => OwnB N w1 v (d ++ [x]) ∧ (v.ownBlock = Value.ownBlock (.slice av dl cv) ∨ ∀ g, v.ownBlock = some g → w.heap.size ≤ g)
      | _ => True) ?_ ?_ ?_ ?_ ?_ ?_ ?_ ?_ ?_ ?_
  · intro a b' hb hC; exact grown_trans hC (grown_below hb)
  · intro a b' hC hb h; exact h.below hb
  · intro k v w1 w2 hC1 hb h
    match k, h with
    | 0, h => exact h
    | 1, h => exact h
    | 2, h => exact h
    | 3, h => exact h
    | 4, h => exact h
    | 5, h => exact h
    | 6, h => exact h
    | 7, h => exact h
    | 8, h => exact h
    | 9, h => exact h
    | 10, h => exact ⟨h.1, h.2.below hb⟩
    | 11, h => exact h
    | 12, h => exact h
    | 13, h => exact h
    | 14, h => exact h
    | 15, h => exact Exists.elim h fun q hq => ⟨q, hq.1, hq.2.below hb hq.2.lt⟩
    | 16, h => exact ⟨h.1.below hb, h.2⟩
    | k + 17, h => trivial
  · intro a b' hb hC; exact grown_trans hC hb
  · intro k v w1 w2 hne hsp hC1 hb h
    match k, hne, hsp, h with
    | 0, _, _, h => exact h
    | 1, _, _, h => exact h
    | 2, _, _, h => exact h
    | 3, _, _, h => exact h
    | 4, _, _, h => exact h
    | 5, _, _, h => exact h
    | 6, _, _, h => exact h
    | 7, _, _, h => exact h
    | 8, _, _, h => exact h
    | 9, _, _, h => exact h
    | 10, _, hsp, h => exact absurd hsp (by decide)
    | 11, _, _, h => exact h
    | 12, _, _, h => exact h
    | 13, _, _, h => exact h
    | 14, _, _, h => exact h
    | 15, _, hsp, h => exact absurd hsp (by decide)
    | 16, hne, _, h => exact absurd rfl hne
    | k + 17, _, _, h => trivial
  · exact h0
  · exact hO
  · refine ⟨?_, ?_, ?_, ?_, ?_, ?_, ?_, ?_, ?_, ?_, ?_, ?_, ?_, ?_, ?_, ?_, ?_, trivial⟩
    · intro hj f w1 hC hA hd KK hK
      clear hd
      simp only [List.take_succ_cons, List.take_zero, setAll, List.setIfInBounds_toArray, List.set_cons_succ, List.set_cons_zero, Nat.zero_add, Nat.reduceAdd] at hK ⊢
      refine wp_of_quiet rfl ?_
      go_big_quiet_step (fail)
      exact wpQuiet_nil (hK _ _ rfl (Below.refl _ _))
    · intro hj f w1 hC hA hd KK hK
      clear hd
      simp only [List.take_succ_cons, List.take_zero, setAll, List.setIfInBounds_toArray, List.set_cons_succ, List.set_cons_zero, Nat.zero_add, Nat.reduceAdd] at hK ⊢
      refine wp_of_quiet rfl ?_
      go_big_quiet_step (fail)
      exact wpQuiet_nil (hK _ _ rfl (Below.refl _ _))
    · intro hj f w1 hC hA hd KK hK
      have g1 : f 1 = _ := hd 1 (by kernel_rfl)
      clear hd
      simp only [List.take_succ_cons, List.take_zero, setAll, List.setIfInBounds_toArray, List.set_cons_succ, List.set_cons_zero, Nat.zero_add, Nat.reduceAdd, g1] at hK ⊢
      refine wp_of_quiet rfl ?_
      go_big_quiet_step (fail)
      exact wpQuiet_nil (hK _ _ (by first | rfl | (congr 1)) (Below.refl _ _))
    · intro hj f w1 hC hA hd KK hK
      have g2 : f 2 = _ := hd 2 (by kernel_rfl)
      clear hd
      simp only [List.take_succ_cons, List.take_zero, setAll, List.setIfInBounds_toArray, List.set_cons_succ, List.set_cons_zero, Nat.zero_add, Nat.reduceAdd, g2] at hK ⊢
      have i1 : IntKind.i64.wrap (((kc + 1 : Nat) : Int) - 1) = (kc : Int) := by rw [show ((kc + 1 : Nat) : Int) - 1 = (kc : Int) by omega]; simp [IntKind.wrap, IntKind.bits, IntKind.signed]; omega
      refine wp_of_quiet rfl ?_
      go_big_quiet_step (fail)
      exact wpQuiet_nil (hK _ _ (by first | rfl | exact congrArg _ (by omega) | exact congrArg _ i1) (Below.refl _ _))
    · intro hj f w1 hC hA hd KK hK
      clear hd
      simp only [List.take_succ_cons, List.take_zero, setAll, List.setIfInBounds_toArray, List.set_cons_succ, List.set_cons_zero, Nat.zero_add, Nat.reduceAdd] at hK ⊢
      refine wp_of_quiet rfl ?_
      go_big_quiet_step (fail)
      exact wpQuiet_nil (hK _ _ rfl (Below.refl _ _))
    · intro hj f w1 hC hA hd KK hK
      clear hd
      simp only [List.take_succ_cons, List.take_zero, setAll, List.setIfInBounds_toArray, List.set_cons_succ, List.set_cons_zero, Nat.zero_add, Nat.reduceAdd] at hK ⊢
      refine wp_of_quiet rfl ?_
      go_big_quiet_step (fail)
      exact wpQuiet_nil (hK _ _ rfl (Below.refl _ _))
    · intro hj f w1 hC hA hd KK hK
      have g5 : f 5 = _ := hd 5 (by kernel_rfl)
      clear hd
      simp only [List.take_succ_cons, List.take_zero, setAll, List.setIfInBounds_toArray, List.set_cons_succ, List.set_cons_zero, Nat.zero_add, Nat.reduceAdd, g5] at hK ⊢
      refine wp_of_quiet rfl ?_
      go_big_quiet_step (fail)
      exact wpQuiet_nil (hK _ _ (by first | rfl | (congr 1)) (Below.refl _ _))
    · intro hj f w1 hC hA hd KK hK
      have g6 : f 6 = _ := hd 6 (by kernel_rfl)
      clear hd
      simp only [List.take_succ_cons, List.take_zero, setAll, List.setIfInBounds_toArray, List.set_cons_succ, List.set_cons_zero, Nat.zero_add, Nat.reduceAdd, g6] at hK ⊢
      have i1 : IntKind.i64.wrap (((kc + 1 : Nat) : Int) - 1) = (kc : Int) := by rw [show ((kc + 1 : Nat) : Int) - 1 = (kc : Int) by omega]; simp [IntKind.wrap, IntKind.bits, IntKind.signed]; omega
      refine wp_of_quiet rfl ?_
      go_big_quiet_step (fail)
      exact wpQuiet_nil (hK _ _ (by first | rfl | exact congrArg _ (by omega) | exact congrArg _ i1) (Below.refl _ _))
    · intro hj f w1 hC hA hd KK hK
      have g4 : f 4 = _ := hd 4 (by kernel_rfl)
      have g7 : f 7 = _ := hd 7 (by kernel_rfl)
      clear hd
      simp only [List.take_succ_cons, List.take_zero, setAll, List.setIfInBounds_toArray, List.set_cons_succ, List.set_cons_zero, Nat.zero_add, Nat.reduceAdd, g4, g7] at hK ⊢
      refine wp_of_quiet rfl ?_
      go_big_quiet_step (fail)
      exact wpQuiet_nil (hK _ _ (by first | rfl | simp) (Below.refl _ _))
    · intro hj f w1 hC hA hd KK hK
      have g8 : f 8 = _ := hd 8 (by kernel_rfl)
      clear hd
      simp only [List.take_succ_cons, List.take_zero, setAll, List.setIfInBounds_toArray, List.set_cons_succ, List.set_cons_zero, Nat.zero_add, Nat.reduceAdd, g8] at hK ⊢
      refine wp_of_quiet rfl ?_
      go_big_quiet_step (fail)
      exact wpQuiet_nil (hK _ _ (by first | rfl | simp) (Below.refl _ _))
    · intro hj f w1 hC hA hd KK hK
      have g9 : f 9 = _ := hd 9 (by kernel_rfl)
      clear hd
      simp only [List.take_succ_cons, List.take_zero, setAll, List.setIfInBounds_toArray, List.set_cons_succ, List.set_cons_zero, Nat.zero_add, Nat.reduceAdd, g9] at hK ⊢
      have cc := HCL.out w1 hC
      refine wp_of_quiet rfl ?_
      go_big_quiet_step (fail)
      exact wpQuiet_nil (hK _ _ ⟨rfl, hA (by kernel_rfl)⟩ (Below.refl _ _))
    · intro hj f w1 hC hA hd KK hK
      clear hd
      simp only [List.take_succ_cons, List.take_zero, setAll, List.setIfInBounds_toArray, List.set_cons_succ, List.set_cons_zero, Nat.zero_add, Nat.reduceAdd] at hK ⊢
      refine wp_of_quiet rfl ?_
      go_big_quiet_step (fail)
      exact wpQuiet_nil (hK _ _ rfl (Below.refl _ _))
    · intro hj f w1 hC hA hd KK hK
      clear hd
      simp only [List.take_succ_cons, List.take_zero, setAll, List.setIfInBounds_toArray, List.set_cons_succ, List.set_cons_zero, Nat.zero_add, Nat.reduceAdd] at hK ⊢
      refine wp_of_quiet rfl ?_
      go_big_quiet_step (fail)
      exact wpQuiet_nil (hK _ _ rfl (Below.refl _ _))
    · intro hj f w1 hC hA hd KK hK
      have g11 : f 11 = _ := hd 11 (by kernel_rfl)
      have g12 : f 12 = _ := hd 12 (by kernel_rfl)
      clear hd
      simp only [List.take_succ_cons, List.take_zero, setAll, List.setIfInBounds_toArray, List.set_cons_succ, List.set_cons_zero, Nat.zero_add, Nat.reduceAdd, g11, g12] at hK ⊢
      refine wp_of_quiet rfl ?_
      go_big_quiet_step (fail)
      exact wpQuiet_nil (hK _ _ (by first | rfl | simp) (Below.refl _ _))
    · intro hj f w1 hC hA hd KK hK
      have g13 : f 13 = _ := hd 13 (by kernel_rfl)
      clear hd
      simp only [List.take_succ_cons, List.take_zero, setAll, List.setIfInBounds_toArray, List.set_cons_succ, List.set_cons_zero, Nat.zero_add, Nat.reduceAdd, g13] at hK ⊢
      have cc := HBY.out w1 hC
      refine wp_of_quiet rfl ?_
      go_big_quiet_step (fail)
      exact wpQuiet_nil (hK _ _ rfl (Below.refl _ _))
    · intro hj f w1 hC hA hd KK hK
      have g14 : f 14 = _ := hd 14 (by kernel_rfl)
      clear hd
      simp only [List.take_succ_cons, List.take_zero, setAll, List.setIfInBounds_toArray, List.set_cons_succ, List.set_cons_zero, Nat.zero_add, Nat.reduceAdd, g14] at hK ⊢
      refine wp_buildB _ rfl _ rfl ?_
      exact hK _ _ ⟨_, rfl, Row.new _ _ _⟩ ((Below.refl _ _).alloc (Nat.le_refl _) _)
    · intro hj; exact absurd rfl hj
  · intro f w1 hC hA hd KK hK
    have x10 : (f 10) = .slice av dl cv ∧ OwnB N w1 (.slice av dl cv) d := hd 10 (by kernel_rfl)
    have x15 : ∃ q, (f 15) = .slice (some ⟨q, 0, none⟩) 1 1 ∧ Row w1 q 5 (ag [x]) := hd 15 (by kernel_rfl)
    clear hd
    have g10 := x10.1
    have z100 := x10.2
    clear x10
    have p10 := z100
    clear z100
    cases x15 with | intro u15 y150 =>
    have g15 := y150.1
    have z150 := y150.2
    clear y150
    have p15 := z150
    clear z150
    simp only [List.take_succ_cons, List.take_zero, setAll, List.setIfInBounds_toArray, List.set_cons_succ, List.set_cons_zero, Nat.zero_add, Nat.reduceAdd, g10, g15] at hK ⊢
    refine wp_appAt (.tmp 57) (.tmp 62) rfl N (Nat.le_trans hN hC.size) _ d rfl p10 u15 1 rfl x p15 HMX.out (fun v' w' q1 q2 q3 => hK _ _ ⟨q1, q3.imp id (fun h g hg => Nat.le_trans hC.size (h g hg))⟩ q2)
  · intro f w1 hC hv
    have g0 : f 0 = _ := hv 0 (by decide) (by decide)
    have g1 : f 1 = _ := hv 1 (by decide) (by decide)
    have g2 : f 2 = _ := hv 2 (by decide) (by decide)
    have g3 : f 3 = _ := hv 3 (by decide) (by decide)
    have g4 : f 4 = _ := hv 4 (by decide) (by decide)
    have g5 : f 5 = _ := hv 5 (by decide) (by decide)
    have g6 : f 6 = _ := hv 6 (by decide) (by decide)
    have g7 : f 7 = _ := hv 7 (by decide) (by decide)
    have g8 : f 8 = _ := hv 8 (by decide) (by decide)
    have g9 : f 9 = _ := hv 9 (by decide) (by decide)
    have g11 : f 11 = _ := hv 11 (by decide) (by decide)
    have g12 : f 12 = _ := hv 12 (by decide) (by decide)
    have g13 : f 13 = _ := hv 13 (by decide) (by decide)
    have g14 : f 14 = _ := hv 14 (by decide) (by decide)
    have p16 : OwnB N w1 (f 16) (d ++ [x]) ∧ ((f 16).ownBlock = Value.ownBlock (.slice av dl cv) ∨ ∀ g, (f 16).ownBlock = some g → w.heap.size ≤ g) := hv 16 (by decide) (by decide)
    simp only [List.take_succ_cons, List.take_zero, List.drop_succ_cons, List.drop_zero, setAll, List.setIfInBounds_toArray, List.set_cons_succ, List.set_cons_zero, Nat.zero_add, Nat.reduceAdd, g0, g1, g2, g3, g4, g5, g6, g7, g8, g9, g11, g12, g13, g14]
    clear g0 g1 g2 g3 g4 g5 g6 g7 g8 g9 g11 g12 g13 g14 hv
    have C1 := Box'.mk hC
    have O1 := Box'.mk p16
    have cc := HCL.out w1 hC
    have ff := HFZ.out w1 hC
    clear p16 hC
    generalize f 10 = x10 at *
    generalize f 15 = x15 at *
    generalize f 16 = x16 at *
    obtain ⟨a16, c16, hx16⟩ := O1.out.1.slice
    subst hx16
    generalize hl16 : (d ++ [x]).length = l16 at *
    clear hl16
    go_wp2_with fail
    exact ⟨_, w1, C1.out, O1.out.1, O1.out.2, rfl⟩

end Go.Proofs.Ythmcmdojnnbefaa
