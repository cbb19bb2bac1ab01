/- The walks of the reference's Write and of sameInstruction. -/
import Derived.Test.YtciiaopbghjcnaaX
namespace Go.Proofs.Ytciiaopbghjcnaa
open Go.RowKit Go.BigFrame
set_option linter.unusedSimpArgs false

/-- append, by itself: only one's own row is turned. -/
theorem wp_app {o : Oper} {a : Act} {w : World} {K : Act → World → Prop} {Q : Exit → Act → World → Prop} (s x : Operand)
    (ho : o.op = .call { callee := .builtin .append, args := #[s, x], argTypes := #[23, 23] }) (N M : Nat) (hN : N ≤ w.heap.size)
    (v : Value) (d : List UInt8) (hs : a.eval s = v) (hown : OwnB N w v d) (vx : Value) (l : List UInt8) (hx : a.eval x = vx) (hin : InB M w vx l) (hl : 0 < l.length) (hmax : d.length + l.length ≤ 140737488355328)
    (h : ∀ v' w', OwnB N w' v' (d ++ l) → Fr N w w' → (∀ k, k < w.heap.size → v.ownBlock ≠ some k → w'.heap[k]? = w.heap[k]?) → K (a.put o.dst v') w') : o.wp Try.prog a w K Q := by
  obtain ⟨i, h1, h2, h3, h4⟩ := Try.info5a
  rcases hin with ⟨rfl, rfl⟩ | ⟨b, off, c, rfl, hc, hb, hr⟩
  · simp at hl
  · obtain ⟨v', w', hr, g2, g3, _⟩ := run_append_own (P := Try.prog) w N 23 o.type 5 i _ 1 1 Try.underlying23 h1 h2 h3 h4 rfl (by decide) v d.length (d.map B) hown ⟨b, off, none⟩ l.length c (l.map B) (by rw [List.length_map, Nat.mul_one]) (fun j u hu => by rw [Addr.add_mid]; exact hr j u hu) (one_By l) (by unfold maxLen; omega) (by omega) hN
    have g2' : OwnB N w' v' (d ++ l) := by unfold OwnB; rw [List.length_append, List.map_append]; exact g2
    unfold Oper.wp execOp
    simp only [ho, resolve, invoke, builtin, Sem.run_bind, Sem.run_pure, Result.andThen_ok, List.map_toArray, List.map_cons, List.map_nil, hs, hx, hr]
    exact h v' w' g2' (Fr.grown hown g3) (fun k hk hn => g3.block k hk (fun e => hn e.symm))
/-- Blocks from M on stay. -/
def Hi (M : Nat) (w w' : World) : Prop := ∀ k, M ≤ k → k < w.heap.size → w'.heap[k]? = w.heap[k]?
theorem OwnB.hi {M : Nat} {w w' : World} {v : Value} {d : List UInt8} (h : OwnB M w v d) (hh : Hi M w w') : OwnB M w' v d :=
  h.same fun g hg => let ⟨h1, _, r⟩ := h.lt g hg; hh g h1 r.lt
theorem OwnB.low {N : Nat} {w : World} {v : Value} {d : List UInt8} (h : OwnB N w v d) {k : Nat} (hk : w.heap.size ≤ k) : v.ownBlock ≠ some k := fun e => by
  obtain ⟨_, cur, r⟩ := h.lt k e
  have := r.lt
  omega
theorem OwnB.hiOf {N M : Nat} {w w1 w' : World} {v : Value} {d : List UInt8} (h : OwnB N w v d) (hM : w.heap.size ≤ M) (g : ∀ k, k < w1.heap.size → v.ownBlock ≠ some k → w'.heap[k]? = w1.heap[k]?) : Hi M w1 w' := fun k hk hl => g k hl (h.low (Nat.le_trans hM hk))

set_option maxRecDepth 100000 in
set_option maxHeartbeats 4000000 in
theorem refWrite_any (N : Nat) (w : World) (vd : Value) (x : Ins) (hx : x.ok) (hN : N ≤ w.heap.size) (hi : InB N w vd x.dif) :
    Calls Try.prog 16 #[.agg #[.int .u64 (x.old : Int), .int .u64 (x.new : Int), .int .u64 (x.ack : Int), .int .u64 (x.thr : Int), vd]] w fun e w' => ∃ u, e = .returned (.tuple #[u, .int .i64 (wrF x).2]) ∧ OwnB w.heap.size w' u (wrF x).1 ∧ Below w.heap.size w w' := by
  obtain ⟨x0, x1, x2, x3, l⟩ := x
  obtain ⟨h0, h1, h2, h3⟩ := hx
  simp only at h0 h1 h2 h3 hi ⊢
  have HW : Box' (wrF ⟨x0, x1, x2, x3, l⟩ = if 65536 < l.length then ([], 2) else (insF ⟨x0, x1, x2, x3, l⟩, 0)) := ⟨rfl⟩
  generalize wrF ⟨x0, x1, x2, x3, l⟩ = R at *
  by_cases hl : 65536 < l.length
  · have e := HW.out
    rw [if_pos hl] at e
    subst e
    obtain ⟨a1, c1, rfl, _⟩ := hi.slice
    clear HW hi
    generalize l.length = n at *
    go_enter Try.func16, Try.ntmps16
    go_wp2_with fail
    go_ret2
    exact ⟨_, rfl, OwnB.nil _ _, (Below.refl _ _).alloc (Nat.le_refl _) _⟩
  · have HE : Box' (R = (((uf x0 ++ uf x1) ++ uf x2 ++ uf x3) ++ tx l, 0)) := ⟨by rw [HW.out, if_neg hl]; simp [insF]⟩
    clear HW
    obtain ⟨w0, hw0⟩ : ∃ w0, w0 = w.alloc (.cells #[.int .u64 (x0 : Int), .int .u64 (x1 : Int), .int .u64 (x2 : Int), .int .u64 (x3 : Int), vd] 34) := ⟨_, rfl⟩
    have b0 : Below w.heap.size w w0 := by rw [hw0]; exact (Below.refl _ _).alloc (Nat.le_refl _) _
    have r0 : Row w0 w.heap.size 34 #[.int .u64 (x0 : Int), .int .u64 (x1 : Int), .int .u64 (x2 : Int), .int .u64 (x3 : Int), vd] := by rw [hw0]; exact Row.new _ _ _
    have i0 := hi.below b0 hN
    have hll : l.length ≤ 65536 := by omega
    have LT := Box'.mk (tx_len hll)
    have LL := Box'.mk hll
    have L0 := Box'.mk (uf_len64 h0)
    have L1 := Box'.mk (uf_len64 h1)
    have L2 := Box'.mk (uf_len64 h2)
    have L3 := Box'.mk (uf_len64 h3)
    have UI := Box'.mk refUint_any
    have B0 := Box'.mk b0
    have R0 := Box'.mk r0
    have I0 := Box'.mk i0
    have U0 := Box'.mk (uf_pos x0)
    have U1 := Box'.mk (uf_pos x1)
    have U2 := Box'.mk (uf_pos x2)
    have U3 := Box'.mk (uf_pos x3)
    obtain ⟨a1, c1, rfl, _⟩ := hi.slice
    clear hi b0 r0 i0
    generalize hln : l.length = ln at R0 I0 hl ⊢
    go_enter Try.func16, Try.ntmps16
    go_wp2_with fail
    rw [← hln, ← hw0]
    rw [← hln] at R0 I0
    clear hln hw0 hll hl
    generalize hpb : w.heap.size = pb at *
    have ZP : Box' (pb < w0.heap.size) := ⟨R0.out.lt⟩
    obtain ⟨M, hM⟩ : ∃ M, M = w0.heap.size := ⟨_, rfl⟩
    have HM := Box'.mk hM
    clear hM
    refine wp_region_grow 6 (by kernel_rfl) (by kernel_rfl) (fun wa wb => Below wa.heap.size wa wb) (fun wa => Below M w0 wa) (fun kc wa v => match kc with
      | 0 => v = .pointer (some ⟨pb, 0, none⟩)
      | 1 => v = .int .u64 (x0 : Int)
      | 2 => OwnB M wa v (uf x0)
      | 3 => v = .pointer (some ⟨pb, 1, none⟩)
      | 4 => v = .int .u64 (x1 : Int)
      | 5 => OwnB M wa v (uf x1)
      | _ => True) ?_ ?_ ?_ ?_ ?_
    · rintro wa wb hb q2
      exact q2.trans (hb.mono (by rw [HM.out]; exact q2.size))
    · intro kc v wa wb hC1 hb h
      match kc, h with
      | 0, h => exact h
      | 1, h => exact h
      | 2, h => exact OwnB.below h hb
      | 3, h => exact h
      | 4, h => exact h
      | 5, h => exact OwnB.below h hb
      | kc + 6, h => trivial
    · exact (Below.refl _ _).drew
    · refine ⟨?_, ?_, ?_, ?_, ?_, ?_, trivial⟩
      · intro f wq hC hd KK hK
        simp only [List.take_succ_cons, List.take_zero, setAll, List.setIfInBounds_toArray, List.set_cons_succ, List.set_cons_zero, Nat.zero_add, Nat.reduceAdd] at hK ⊢
        refine wp_of_quiet rfl ?_
        go_big_quiet_step (fail)
        exact wpQuiet_nil (hK _ _ rfl (Below.refl _ _))
      · intro f wq hC hd KK hK
        have g0 : f 0 = .pointer (some ⟨pb, 0, none⟩) := hd 0 rfl
        have cx : wq.cell? ⟨pb, 0, none⟩ = some (.int .u64 (x0 : Int)) := by rw [(R0.out.below hC (by rw [HM.out]; exact ZP.out)).cell]; rfl
        simp only [List.take_succ_cons, List.take_zero, setAll, List.setIfInBounds_toArray, List.set_cons_succ, List.set_cons_zero, Nat.zero_add, Nat.reduceAdd, g0] at hK ⊢
        refine wp_of_quiet rfl ?_
        go_big_quiet_step (fail)
        exact wpQuiet_nil (hK _ _ rfl (Below.refl _ _))
      · intro f wq hC hd KK hK
        have g1 : f 1 = .int .u64 (x0 : Int) := hd 1 rfl
        simp only [List.take_succ_cons, List.take_zero, setAll, List.setIfInBounds_toArray, List.set_cons_succ, List.set_cons_zero, Nat.zero_add, Nat.reduceAdd, g1] at hK ⊢
        exact wp_callE 13 #[.int .u64 (x0 : Int)] (by simp [go_sem]) _ (UI.out x0 h0 wq) (fun v w' hR => hK _ _ (hR.1.less (by rw [HM.out]; exact hC.size)) hR.2)
      · intro f wq hC hd KK hK
        simp only [List.take_succ_cons, List.take_zero, setAll, List.setIfInBounds_toArray, List.set_cons_succ, List.set_cons_zero, Nat.zero_add, Nat.reduceAdd] at hK ⊢
        refine wp_of_quiet rfl ?_
        go_big_quiet_step (fail)
        exact wpQuiet_nil (hK _ _ rfl (Below.refl _ _))
      · intro f wq hC hd KK hK
        have g3 : f 3 = .pointer (some ⟨pb, 1, none⟩) := hd 3 rfl
        have cx : wq.cell? ⟨pb, 1, none⟩ = some (.int .u64 (x1 : Int)) := by rw [(R0.out.below hC (by rw [HM.out]; exact ZP.out)).cell]; rfl
        simp only [List.take_succ_cons, List.take_zero, setAll, List.setIfInBounds_toArray, List.set_cons_succ, List.set_cons_zero, Nat.zero_add, Nat.reduceAdd, g3] at hK ⊢
        refine wp_of_quiet rfl ?_
        go_big_quiet_step (fail)
        exact wpQuiet_nil (hK _ _ rfl (Below.refl _ _))
      · intro f wq hC hd KK hK
        have g4 : f 4 = .int .u64 (x1 : Int) := hd 4 rfl
        simp only [List.take_succ_cons, List.take_zero, setAll, List.setIfInBounds_toArray, List.set_cons_succ, List.set_cons_zero, Nat.zero_add, Nat.reduceAdd, g4] at hK ⊢
        exact wp_callE 13 #[.int .u64 (x1 : Int)] (by simp [go_sem]) _ (UI.out x1 h1 wq) (fun v w' hR => hK _ _ (hR.1.less (by rw [HM.out]; exact hC.size)) hR.2)
    · intro f w1 hC hv
      have p0 : f 0 = .pointer (some ⟨pb, 0, none⟩) := hv 0 (by decide)
      have p1 : f 1 = .int .u64 (x0 : Int) := hv 1 (by decide)
      have p2 : OwnB M w1 (f 2) (uf x0) := hv 2 (by decide)
      have p3 : f 3 = .pointer (some ⟨pb, 1, none⟩) := hv 3 (by decide)
      have p4 : f 4 = .int .u64 (x1 : Int) := hv 4 (by decide)
      have p5 : OwnB M w1 (f 5) (uf x1) := hv 5 (by decide)
      simp only [List.take_succ_cons, List.take_zero, List.drop_succ_cons, List.drop_zero, setAll, List.setIfInBounds_toArray, List.set_cons_succ, List.set_cons_zero, Nat.zero_add, Nat.reduceAdd, p0, p1, p3, p4]
      generalize f 2 = va at *
      generalize f 5 = vb at *
      clear hv p0 p1 p3 p4
      have hM1 : M ≤ w1.heap.size := by rw [HM.out]; exact hC.size
      have HL : Box' ((uf x0).length + (uf x1).length ≤ 140737488355328) := ⟨by have := L0.out; have := L1.out; omega⟩
      have HCC := Box'.mk (Fr.of (N := M) (by rw [HM.out] at hC; exact hC))
      go_wp2_with (refine wpList_app rfl (.tmp 11) (.tmp 14) rfl M w1.heap.size hM1 _ (uf x0) rfl p2 _ (uf x1) rfl p5.inB HL.out ?_; intro v2 w2 o2 f2; have O2 := Box'.mk o2; have F2 := Box'.mk (HCC.out.trans f2); clear p2 p5 hC o2 f2 hM1 HL HCC)
      obtain ⟨a2, c2, hv2⟩ := O2.out.slice
      subst hv2
      have M2 : Box' (M ≤ w2.heap.size) := ⟨by rw [HM.out]; exact F2.out.size⟩
      have L12 : Box' ((uf x0 ++ uf x1).length ≤ 20) := ⟨by rw [List.length_append]; have := L0.out; have := L1.out; omega⟩
      generalize uf x0 ++ uf x1 = d2 at *
      generalize hd2 : d2.length = n2 at O2 ⊢
      clear hd2
      refine wp_region_once 8 4 (by kernel_rfl) (by kernel_rfl) _ rfl (fun wa wb => Below wa.heap.size wa wb) (fun wa wb => Fr M wa wb ∧ Hi w2.heap.size wa wb) (fun wa => Fr M w2 wa) (fun wa => OwnB M wa (.slice a2 n2 c2) d2) (fun kc wa v => match kc with
        | 0 => v = .slice a2 n2 c2
        | 1 => v = .pointer (some ⟨pb, 2, none⟩)
        | 2 => v = .int .u64 (x2 : Int)
        | 3 => OwnB w2.heap.size wa v (uf x2)
        | 4 => OwnB M wa v (d2 ++ uf x2)
        | 5 => v = .pointer (some ⟨pb, 3, none⟩)
        | 6 => v = .int .u64 (x3 : Int)
        | 7 => OwnB w2.heap.size wa v (uf x3)
        | _ => True) ?_ ?_ ?_ ?_ ?_ ?_ ?_ ?_ ?_ ?_
      · intro wa wb h1 h2; exact h2.trans (Fr.of h1)
      · intro wa wb h1 h2 h3; exact h3.below h2
      · intro kc v wa wb h1 h2 h3
        match kc, h3 with
        | 0, h3 => exact h3
        | 1, h3 => exact h3
        | 2, h3 => exact h3
        | 3, h3 => exact OwnB.below h3 h2
        | 4, h3 => exact OwnB.below h3 h2
        | 5, h3 => exact h3
        | 6, h3 => exact h3
        | 7, h3 => exact OwnB.below h3 h2
        | kc + 8, _ => trivial
      · intro wa wb h1 h2 _; exact h2.trans h1.1
      · intro kc v wa wb hne h1 h2 h3 h4
        match kc, hne, h4 with
        | 0, _, h4 => exact h4
        | 1, _, h4 => exact h4
        | 2, _, h4 => exact h4
        | 3, _, h4 => exact OwnB.hi h4 h3.2
        | 4, hne, _ => exact absurd rfl hne
        | 5, _, h4 => exact h4
        | 6, _, h4 => exact h4
        | 7, _, h4 => exact OwnB.hi h4 h3.2
        | kc + 8, _, _ => trivial
      · exact (Fr.refl _ _).drewN 1
      · exact O2.out.drewN 1
      · refine ⟨?_, ?_, ?_, ?_, ?_, ?_, ?_, ?_, trivial⟩
        · intro hj f wq hC hd KK hK
          simp only [List.take_succ_cons, List.take_zero, setAll, List.setIfInBounds_toArray, List.set_cons_succ, List.set_cons_zero, Nat.zero_add, Nat.reduceAdd] at hK ⊢
          refine wp_of_quiet rfl ?_
          go_big_quiet_step (fail)
          exact wpQuiet_nil (hK _ _ rfl (Below.refl _ _))
        · intro hj f wq hC hd KK hK
          simp only [List.take_succ_cons, List.take_zero, setAll, List.setIfInBounds_toArray, List.set_cons_succ, List.set_cons_zero, Nat.zero_add, Nat.reduceAdd] at hK ⊢
          refine wp_of_quiet rfl ?_
          go_big_quiet_step (fail)
          exact wpQuiet_nil (hK _ _ rfl (Below.refl _ _))
        · intro hj f wq hC hd KK hK
          have g1 : f 1 = .pointer (some ⟨pb, 2, none⟩) := hd 1 rfl
          have cx : wq.cell? ⟨pb, 2, none⟩ = some (.int .u64 (x2 : Int)) := by rw [((F2.out.trans hC).row R0.out (by decide)).cell]; rfl
          simp only [List.take_succ_cons, List.take_zero, setAll, List.setIfInBounds_toArray, List.set_cons_succ, List.set_cons_zero, Nat.zero_add, Nat.reduceAdd, g1] at hK ⊢
          refine wp_of_quiet rfl ?_
          go_big_quiet_step (fail)
          exact wpQuiet_nil (hK _ _ rfl (Below.refl _ _))
        · intro hj f wq hC hd KK hK
          have g2 : f 2 = .int .u64 (x2 : Int) := hd 2 rfl
          simp only [List.take_succ_cons, List.take_zero, setAll, List.setIfInBounds_toArray, List.set_cons_succ, List.set_cons_zero, Nat.zero_add, Nat.reduceAdd, g2] at hK ⊢
          exact wp_callE 13 #[.int .u64 (x2 : Int)] (by simp [go_sem]) _ (UI.out x2 h2 wq) (fun v w' hR => hK _ _ (hR.1.less hC.size) hR.2)
        · intro hj; exact absurd rfl hj
        · intro hj f wq hC hd KK hK
          simp only [List.take_succ_cons, List.take_zero, setAll, List.setIfInBounds_toArray, List.set_cons_succ, List.set_cons_zero, Nat.zero_add, Nat.reduceAdd] at hK ⊢
          refine wp_of_quiet rfl ?_
          go_big_quiet_step (fail)
          exact wpQuiet_nil (hK _ _ rfl (Below.refl _ _))
        · intro hj f wq hC hd KK hK
          have g5 : f 5 = .pointer (some ⟨pb, 3, none⟩) := hd 5 rfl
          have cx : wq.cell? ⟨pb, 3, none⟩ = some (.int .u64 (x3 : Int)) := by rw [((F2.out.trans hC).row R0.out (by decide)).cell]; rfl
          simp only [List.take_succ_cons, List.take_zero, setAll, List.setIfInBounds_toArray, List.set_cons_succ, List.set_cons_zero, Nat.zero_add, Nat.reduceAdd, g5] at hK ⊢
          refine wp_of_quiet rfl ?_
          go_big_quiet_step (fail)
          exact wpQuiet_nil (hK _ _ rfl (Below.refl _ _))
        · intro hj f wq hC hd KK hK
          have g6 : f 6 = .int .u64 (x3 : Int) := hd 6 rfl
          simp only [List.take_succ_cons, List.take_zero, setAll, List.setIfInBounds_toArray, List.set_cons_succ, List.set_cons_zero, Nat.zero_add, Nat.reduceAdd, g6] at hK ⊢
          exact wp_callE 13 #[.int .u64 (x3 : Int)] (by simp [go_sem]) _ (UI.out x3 h3 wq) (fun v w' hR => hK _ _ (hR.1.less hC.size) hR.2)
      · intro f wq hC hA hd KK hK
        have g0 : f 0 = .slice a2 n2 c2 := hd 0 rfl
        have g3 : OwnB w2.heap.size wq (f 3) (uf x2) := hd 3 rfl
        simp only [List.take_succ_cons, List.take_zero, setAll, List.setIfInBounds_toArray, List.set_cons_succ, List.set_cons_zero, Nat.zero_add, Nat.reduceAdd, g0] at hK ⊢
        generalize f 3 = v3 at *
        have hq : M ≤ wq.heap.size := Nat.le_trans M2.out hC.size
        refine wp_app (.tmp 16) (.tmp 19) rfl M wq.heap.size hq _ d2 rfl hA _ (uf x2) rfl g3.inB U2.out (by have := L12.out; have := L2.out; omega) (fun v' w' q1 q2 q3 => hK _ _ q1 ⟨q2, O2.out.hiOf (Nat.le_refl _) q3⟩)
      · intro f wq hC hv
        have p0 : f 0 = .slice a2 n2 c2 := hv 0 (by decide)
        have p1 : f 1 = .pointer (some ⟨pb, 2, none⟩) := hv 1 (by decide)
        have p2 : f 2 = .int .u64 (x2 : Int) := hv 2 (by decide)
        have p3 : OwnB w2.heap.size wq (f 3) (uf x2) := hv 3 (by decide)
        have p4 : OwnB M wq (f 4) (d2 ++ uf x2) := hv 4 (by decide)
        have p5 : f 5 = .pointer (some ⟨pb, 3, none⟩) := hv 5 (by decide)
        have p6 : f 6 = .int .u64 (x3 : Int) := hv 6 (by decide)
        have p7 : OwnB w2.heap.size wq (f 7) (uf x3) := hv 7 (by decide)
        simp only [List.take_succ_cons, List.take_zero, List.drop_succ_cons, List.drop_zero, setAll, List.setIfInBounds_toArray, List.set_cons_succ, List.set_cons_zero, Nat.zero_add, Nat.reduceAdd, p0, p1, p2, p5, p6]
        generalize f 3 = v3 at *
        generalize f 4 = v4 at *
        generalize f 7 = v7 at *
        clear hv p0 p1 p2 p3 p5 p6
        have hq : M ≤ wq.heap.size := Nat.le_trans M2.out hC.size
        have L3q : Box' ((d2 ++ uf x2).length ≤ 30) := ⟨by rw [List.length_append]; have := L12.out; have := L2.out; omega⟩
        have FQ := Box'.mk (F2.out.trans hC)
        have HL : Box' ((d2 ++ uf x2).length + (uf x3).length ≤ 140737488355328) := ⟨by have := L3q.out; have := L3.out; omega⟩
        go_wp2_with (refine wpList_app rfl (.tmp 20) (.tmp 23) rfl M wq.heap.size hq _ (d2 ++ uf x2) rfl p4 _ (uf x3) rfl p7.inB HL.out ?_; intro v8 w8 o8 f8; have O8 := Box'.mk o8; have F8 := Box'.mk (FQ.out.trans f8); have k4 : w8.cell? ⟨pb, 4, none⟩ = some (.slice a1 l.length c1) := (by rw [(F8.out.row R0.out (by decide)).cell]; rfl); clear p4 p7 hC o8 f8 hq HL FQ)
        have i8 : InB N w8 (.slice a1 l.length c1) l := I0.out.below (F8.out.below (Nat.le_of_eq HM.out)) (by rw [HM.out]; have := ZP.out; omega)
        have hN8 : N ≤ w8.heap.size := by have := F8.out.size; have := ZP.out; omega
        have M8 : Box' (M ≤ w8.heap.size) := ⟨by rw [HM.out]; exact F8.out.size⟩
        have tt := text_any N w8 _ l hN8 i8.inE LL.out
        have L8 : Box' ((d2 ++ uf x2 ++ uf x3).length + (tx l).length ≤ 140737488355328) := ⟨by rw [List.length_append]; have := L3q.out; have := L3.out; have := LT.out; have := LL.out; omega⟩
        generalize d2 ++ uf x2 ++ uf x3 = d8 at *
        clear i8 hN8 k4
        refine tt.mono ?_
        rintro e w9 ⟨v9, rfl, o9, b9⟩
        have o8' := O8.out.below b9
        have F9 := Box'.mk (F8.out.trans (Fr.of b9))
        have hM9 : M ≤ w9.heap.size := Nat.le_trans M8.out b9.size
        clear tt b9
        go_wp2_with (refine wpList_app rfl (.tmp 25) (.tmp 28) rfl M w9.heap.size hM9 _ d8 rfl o8' _ (tx l) rfl o9.inB L8.out ?_; intro v10 w10 o10 f10; have O10 := Box'.mk o10; have F10 := Box'.mk (F9.out.trans f10); clear o8' o9 o10 f10 hM9 F9)
        have e := HE.out
        subst e
        have BF : Below pb w w10 := B0.out.trans ((F10.out.below (Nat.le_of_eq HM.out)).mono (by rw [HM.out]; exact Nat.le_of_lt ZP.out))
        have OF : OwnB pb w10 v10 (d8 ++ tx l) := O10.out.less (by rw [HM.out]; exact Nat.le_of_lt ZP.out)
        go_ret2
        exact ⟨_, rfl, by rw [hpb]; exact OF, by rw [hpb]; exact BF⟩

set_option maxRecDepth 100000 in
set_option maxHeartbeats 4000000 in
theorem sameIns_any (S1 S2 : Nat → Prop) (w : World) (v1 v2 : Value) (x : Ins) (hS1 : ∀ b, S1 b → b < w.heap.size) (hS2 : ∀ b, S2 b → b < w.heap.size) (h1 : Bts S1 w v1 x.dif) (h2 : Bts S2 w v2 x.dif) :
    Calls Try.prog 19 #[.agg #[.int .u64 (x.old : Int), .int .u64 (x.new : Int), .int .u64 (x.ack : Int), .int .u64 (x.thr : Int), v1], .agg #[.int .u64 (x.old : Int), .int .u64 (x.new : Int), .int .u64 (x.ack : Int), .int .u64 (x.thr : Int), v2]] w fun e w' => e = .returned (.bool true) ∧ Below w.heap.size w w' := by
  obtain ⟨x0, x1, x2, x3, l⟩ := x
  simp only at h1 h2 ⊢
  have hb : ∀ o o', Below w.heap.size w ((w.alloc o).alloc o') := fun o o' => ((Below.refl _ _).alloc (Nat.le_refl _) _).alloc (by simp) _
  have sm : ∀ o o', Calls Try.prog 11 #[v1, v2] ((w.alloc o).alloc o') fun e w' => e = .returned (.bool true) ∧ w' = (w.alloc o).alloc o' := fun o o' => by
    have := refSame_any S1 S2 _ _ _ _ _ (h1.below (hb o o') hS1) (h2.below (hb o o') hS2)
    rwa [decide_eq_true rfl] at this
  have HB := Box'.mk hb
  have SM := Box'.mk sm
  obtain ⟨ad1, cp1, rfl, _⟩ := h1
  obtain ⟨ad2, cp2, rfl, _⟩ := h2
  clear hb sm hS1 hS2
  generalize l.length = n at *
  go_enter Try.func19, Try.ntmps19
  go_wp2_with fail
  refine (SM.out _ _).mono ?_
  rintro e w1 ⟨rfl, rfl⟩
  go_wp2_with fail
  go_ret
  exact ⟨rfl, HB.out _ _⟩

set_option maxRecDepth 100000 in
set_option maxHeartbeats 4000000 in
theorem instructions_any (w : World) (vx vb : Value) (x : Ins) (b : List UInt8) (hx : x.ok) (hb : b.length ≤ 140737488351232) (h1 : InB w.heap.size w vx x.dif) (h2 : InB w.heap.size w vb b) :
    Calls Try.prog 4 #[.agg #[.int .u64 (x.old : Int), .int .u64 (x.new : Int), .int .u64 (x.ack : Int), .int .u64 (x.thr : Int), vx], vb] w fun e w' => e = .returned (.bool true) ∧ Below w.heap.size w w' := by
  obtain ⟨w0, hw0⟩ : ∃ w0, w0 = w.alloc (.cells #[.int .u64 (x.old : Int), .int .u64 (x.new : Int), .int .u64 (x.ack : Int), .int .u64 (x.thr : Int), vx] 34) := ⟨_, rfl⟩
  have b0 : Below w.heap.size w w0 := by rw [hw0]; exact (Below.refl _ _).alloc (Nat.le_refl _) _
  have r0 : Row w0 w.heap.size 34 #[.int .u64 (x.old : Int), .int .u64 (x.new : Int), .int .u64 (x.ack : Int), .int .u64 (x.thr : Int), vx] := by rw [hw0]; exact Row.new _ _ _
  have e1 := write_any w.heap.size w0 vx x hx b0.size (h1.below b0 (Nat.le_refl _))
  have E2 : Box' (∀ w1, Below w0.heap.size w0 w1 → Calls Try.prog 16 #[.agg #[.int .u64 (x.old : Int), .int .u64 (x.new : Int), .int .u64 (x.ack : Int), .int .u64 (x.thr : Int), vx]] w1 fun e w' => ∃ u, e = .returned (.tuple #[u, .int .i64 (wrF x).2]) ∧ OwnB w1.heap.size w' u (wrF x).1 ∧ Below w1.heap.size w1 w') := ⟨fun w1 q => refWrite_any w.heap.size w1 vx x hx (Nat.le_trans b0.size q.size) ((h1.below b0 (Nat.le_refl _)).below q b0.size)⟩
  have E3 : Box' (∀ w1, Below w0.heap.size w0 w1 → Calls Try.prog 17 #[vb] w1 (IEnd w1 (rdI b))) := ⟨fun w1 q => read_any w1 vb b (by omega) (((h2.below b0 (Nat.le_refl _)).below q b0.size).up (Nat.le_trans b0.size q.size))⟩
  have E4 : Box' (∀ w1, Below w0.heap.size w0 w1 → Calls Try.prog 18 #[vb] w1 (IEnd w1 (rdI b))) := ⟨fun w1 q => refRead_any w1 vb b hb (((h2.below b0 (Nat.le_refl _)).below q b0.size).up (Nat.le_trans b0.size q.size))⟩
  have B0 := Box'.mk b0
  have R0 := Box'.mk r0
  rw [hw0] at e1
  obtain ⟨x0, x1, x2, x3, dif⟩ := x
  simp only at e1 E2 R0 h1 hw0 ⊢
  generalize wrF ⟨x0, x1, x2, x3, dif⟩ = WR at *
  obtain ⟨WB, WE⟩ := WR
  generalize rdI b = RI at *
  obtain ⟨⟨y0, y1, y2, y3, ydif⟩, ye⟩ := RI
  simp only at e1 E2
  obtain ⟨a1, c1, rfl, _⟩ := h1.slice
  obtain ⟨a2, c2, rfl, _⟩ := h2.slice
  clear h1 h2 b0 r0
  generalize dif.length = dn at *
  generalize b.length = bn at *
  go_enter Try.func4, Try.ntmps4
  go_wp2_with fail
  refine e1.mono ?_
  rw [← hw0]
  rintro e w1 ⟨u1, rfl, o1, b1⟩
  have e2 := E2.out w1 b1
  have r1 := R0.out.below b1 R0.out.lt
  have k0 : w1.cell? ⟨w.heap.size, 0, none⟩ = some (.int .u64 (x0 : Int)) := by rw [r1.cell]; rfl
  have k1 : w1.cell? ⟨w.heap.size, 1, none⟩ = some (.int .u64 (x1 : Int)) := by rw [r1.cell]; rfl
  have k2 : w1.cell? ⟨w.heap.size, 2, none⟩ = some (.int .u64 (x2 : Int)) := by rw [r1.cell]; rfl
  have k3 : w1.cell? ⟨w.heap.size, 3, none⟩ = some (.int .u64 (x3 : Int)) := by rw [r1.cell]; rfl
  have k4 : w1.cell? ⟨w.heap.size, 4, none⟩ = some (.slice a1 dn c1) := by rw [r1.cell]; rfl
  have B1 := Box'.mk b1
  have O1 := Box'.mk o1
  clear e1 E2 r1 b1 o1 hw0 R0
  go_wp2_with fail
  refine e2.mono ?_
  rintro e w2 ⟨u2, rfl, o2, b2⟩
  have B2 := Box'.mk (B1.out.trans (b2.mono B1.out.size))
  have O12 := Box'.mk (O1.out.below b2)
  have O2 := Box'.mk o2
  have e3 := E3.out w2 B2.out
  clear e2 E3 b2 o2 B1 O1 k0 k1 k2 k3 k4
  go_wp2_with fail
  refine e3.mono ?_
  rintro e w3 ⟨v3, rfl, o3, b3⟩
  simp only at o3 ⊢
  obtain ⟨w4, hw4⟩ : ∃ w4, w4 = w3.alloc (.cells #[.int .u64 (y0 : Int), .int .u64 (y1 : Int), .int .u64 (y2 : Int), .int .u64 (y3 : Int), v3] 34) := ⟨_, rfl⟩
  have b4 : Below w3.heap.size w3 w4 := by rw [hw4]; exact (Below.refl _ _).alloc (Nat.le_refl _) _
  have R4 : Box' (Row w4 w3.heap.size 34 #[.int .u64 (y0 : Int), .int .u64 (y1 : Int), .int .u64 (y2 : Int), .int .u64 (y3 : Int), v3]) := ⟨by rw [hw4]; exact Row.new _ _ _⟩
  have B34 : Box' (Below w2.heap.size w2 w4) := ⟨b3.trans (b4.mono b3.size)⟩
  have B4 := Box'.mk (B2.out.trans (B34.out.mono B2.out.size))
  have O14 := Box'.mk (O12.out.below B34.out)
  have O24 := Box'.mk (O2.out.below B34.out)
  have O3 := Box'.mk (o3.below b4)
  have e4 := E4.out w4 B4.out
  obtain ⟨a3, c3, rfl⟩ := o3.slice
  clear e3 E4 b3 o3 b4 B34 B2 O12 O2
  generalize ydif.length = yn at *
  rw [hw4] at e4
  go_wp2_with fail
  refine e4.mono ?_
  rw [← hw4]
  rintro e w5 ⟨v5, rfl, o5, b5⟩
  simp only at o5 ⊢
  obtain ⟨w6, hw6⟩ : ∃ w6, w6 = w5.alloc (.cells #[.int .u64 (y0 : Int), .int .u64 (y1 : Int), .int .u64 (y2 : Int), .int .u64 (y3 : Int), v5] 34) := ⟨_, rfl⟩
  have b6 : Below w5.heap.size w5 w6 := by rw [hw6]; exact (Below.refl _ _).alloc (Nat.le_refl _) _
  have R6 : Box' (Row w6 w5.heap.size 34 #[.int .u64 (y0 : Int), .int .u64 (y1 : Int), .int .u64 (y2 : Int), .int .u64 (y3 : Int), v5]) := ⟨by rw [hw6]; exact Row.new _ _ _⟩
  have B46 : Box' (Below w4.heap.size w4 w6) := ⟨b5.trans (b6.mono b5.size)⟩
  have B6 := Box'.mk (B4.out.trans (B46.out.mono B4.out.size))
  have O16 := Box'.mk (O14.out.below B46.out)
  have O26 := Box'.mk (O24.out.below B46.out)
  have O36 := Box'.mk (O3.out.below B46.out)
  have O5 := Box'.mk (o5.below b6)
  have R46 := Box'.mk (R4.out.below B46.out R4.out.lt)
  have s1 := refSame_any _ _ _ _ _ _ w6 O16.out.bts O26.out.bts
  rw [decide_eq_true rfl] at s1
  obtain ⟨a5, c5, rfl⟩ := o5.slice
  generalize ydif.length = yn2 at *
  generalize w3.heap.size = pb3 at *
  have zz : w5.heap.size = w5.heap.size := rfl
  rw [hw6] at s1
  clear e4 b5 o5 b6 B46 B4 O14 O24 O3 R4 hw4
  go_wp2_with fail
  refine s1.mono ?_
  rw [← hw6]
  rintro e w7 ⟨rfl, rfl⟩
  have m0 : w7.cell? ⟨pb3, 0, none⟩ = some (.int .u64 (y0 : Int)) := by rw [R46.out.cell]; rfl
  have m1 : w7.cell? ⟨pb3, 1, none⟩ = some (.int .u64 (y1 : Int)) := by rw [R46.out.cell]; rfl
  have m2 : w7.cell? ⟨pb3, 2, none⟩ = some (.int .u64 (y2 : Int)) := by rw [R46.out.cell]; rfl
  have m3 : w7.cell? ⟨pb3, 3, none⟩ = some (.int .u64 (y3 : Int)) := by rw [R46.out.cell]; rfl
  have m4 : w7.cell? ⟨pb3, 4, none⟩ = some (.slice a3 yn c3) := by rw [R46.out.cell]; rfl
  have q0 : w7.cell? ⟨w5.heap.size, 0, none⟩ = some (.int .u64 (y0 : Int)) := by rw [R6.out.cell]; rfl
  have q1 : w7.cell? ⟨w5.heap.size, 1, none⟩ = some (.int .u64 (y1 : Int)) := by rw [R6.out.cell]; rfl
  have q2 : w7.cell? ⟨w5.heap.size, 2, none⟩ = some (.int .u64 (y2 : Int)) := by rw [R6.out.cell]; rfl
  have q3 : w7.cell? ⟨w5.heap.size, 3, none⟩ = some (.int .u64 (y3 : Int)) := by rw [R6.out.cell]; rfl
  have q4 : w7.cell? ⟨w5.heap.size, 4, none⟩ = some (.slice a5 yn2 c5) := by rw [R6.out.cell]; rfl
  have s2 := sameIns_any _ _ w7 _ _ ⟨y0, y1, y2, y3, ydif⟩ (fun _ h => h) (fun _ h => h) O36.out.bts O5.out.bts
  clear s1 O16 O26 O36 O5 R46 R6 hw6 zz
  simp only at s2
  generalize w5.heap.size = pb5 at *
  go_wp2_with fail
  refine s2.mono ?_
  rintro e w8 ⟨rfl, b8⟩
  have B8 := Box'.mk (B6.out.trans (b8.mono B6.out.size))
  have h9 := anchored_any w8
  clear s2 b8 B6 m0 m1 m2 m3 m4 q0 q1 q2 q3 q4
  go_wp2_with fail
  refine h9.mono ?_
  rintro e w9 ⟨rfl, b9⟩
  have B9 := Box'.mk (B0.out.trans ((B8.out.trans (b9.mono B8.out.size)).mono B0.out.size))
  clear h9 b9 B8 B0
  go_wp2_with fail
  go_ret
  exact ⟨rfl, B9.out⟩
end Go.Proofs.Ytciiaopbghjcnaa
