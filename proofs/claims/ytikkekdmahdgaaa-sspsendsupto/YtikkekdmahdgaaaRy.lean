/- The walk of SspSends. -/
import Derived.Test.YtikkekdmahdgaaaRx
namespace Go.Proofs.Ytikkekdmahdgaaa
open Go.RowKit Go.BigFrame
set_option linter.unusedSimpArgs false
set_option linter.unusedVariables false
theorem SnR.now {w : World} {F : Nat → Prop} {p : Nat} {s : Sd} (h : SnR w F p s) (t : List UInt8) : SnR (w.setCell ⟨p, 0, none⟩ (sT t)) F p { s with now := t } ∧ Tch F w (w.setCell ⟨p, 0, none⟩ (sT t)) ∧ w.cell? ⟨p, 0, none⟩ = some (sT s.now) ∧ w.frozen? ⟨p, 0, none⟩ = false := by
  obtain ⟨v, hF, hr, ho, h1, h2⟩ := h
  obtain ⟨g, c, rfl, _⟩ := ho.cells h1
  obtain ⟨cur, rg⟩ := ho.row
  have hpg : p ≠ g := row_ne hr rg (by decide)
  exact ⟨⟨_, hF, hr.setCell 0 _, ho.other ⟨p, 0, none⟩ _ hpg, h1, h2⟩, (Tch.refl F w).set ⟨p, 0, none⟩ _ (.inl (by rw [hF]; exact .inl rfl)), hr.cell 0, hr.frozen 0⟩

set_option maxRecDepth 100000 in
set_option maxHeartbeats 8000000 in
theorem sends_walk (RS : World → (Nat → Prop) → Nat → Sd → Prop) (KR : KeepR RS) (HN : NewSC 8 RS) (HS : SetSC 10 RS) (HA : AckSC 11 RS) (HT : TickSC 13 RS) (HD : ToldSC 16 RS) (w : World) (t : List UInt8) (v : Value) (xs : List Op') (h : OpsL w.heap.size w v xs) (hn : xs.length ≤ 1048576) (hs : t.length + txtK xs xs.length ≤ 4398046511104) :
    Calls Try.prog 3 #[sT t, v] w fun e w' => e = .returned (.bool true) ∧ Below w.heap.size w w' := by
  have HX := Box'.mk h
  have HAN := Box'.mk (fun w => anch23 RS KR HN HS HA HT w)
  have KR := Box'.mk KR
  have HS := Box'.mk HS
  have HA := Box'.mk HA
  have HT := Box'.mk HT
  have HD := Box'.mk HD
  have TS := Box'.mk (txtK_step xs)
  have TL := Box'.mk (txtK_le xs)
  obtain ⟨a, c, rfl, hc, _⟩ := h
  generalize hm : xs.length = m at *
  have HM := Box'.mk hm
  clear hm
  have n1 := HN t w
  unfold sT at n1 ⊢
  go_enter Try.func3, Try.ntmps3
  go_wp2_with fail
  refine n1.mono ?_
  rintro e w1 ⟨p1, F1, rfl, hP, hB, hF⟩
  have P1 := Box'.mk hP
  have B1 := Box'.mk hB
  have G1 := Box'.mk hF
  clear n1 hP hB hF HN
  have n2 := newSender_any t w1
  unfold sT at n2
  go_wp2_with fail
  refine n2.mono ?_
  rintro e w2 ⟨p2, F2, rfl, hP, hB, hF⟩
  have TW : Box' (Tw RS w w2 p1 p2 F1 F2 (newS t) (t.length + txtK xs 0)) := ⟨⟨KR.out.below P1.out hB, hP, fun j hj => ⟨G1.out j hj, fun h2 => by have := hF j h2; have := KR.out.2 _ _ _ _ P1.out j hj; omega⟩, fun j hj => Nat.le_trans B1.out.size (hF j hj), B1.out.trans (hB.mono B1.out.size), by simp [newS, txtK], fun y hy => by simp [newS] at hy; rw [hy]; simp [txtK]⟩⟩
  clear n2 hP hB hF P1 B1 G1
  generalize newS t = s0 at *
  go_wp2_with fail
  go_loopw [7, 8] (fun u i wr => ∃ (k : Nat) (nw : UInt64) (sd : Sd) (F1 F2 : Nat → Prop), u = .int .u64 (nw.toNat : Int) ∧ i = .int .i64 (k : Int) ∧ k ≤ m ∧ Box' (Tw RS w wr p1 p2 F1 F2 sd (t.length + txtK xs k))) (fun _ i _ => m - (intOf i).toNat)
  case atStart => exact ⟨0, 0, s0, F1, F2, rfl, rfl, Nat.zero_le _, TW⟩
  case round =>
    clear TW
    rename World => wr
    obtain ⟨k, nw, sd, F1, F2, rfl, rfl, hk, TW⟩ := hrel
    by_cases hlt : k < m
    · obtain ⟨a', c', e, _, H3⟩ := HX.out.below TW.out.be
      obtain ⟨b, o, ha, hbN, q0, q1, q2, q3, q4, hb1, hb2, hd1, hd2⟩ := H3 k (by rw [HM.out]; exact hlt)
      injection e with e1 e3 e2
      clear e3 H3
      subst e2
      rw [ha] at e1
      subst e1
      have ts := TS.out k (by first | exact hlt | (rw [HM.out]; exact hlt))
      have tl := TL.out (k + 1)
      generalize xs.getD k Op'.none = x at *
      obtain ⟨xc, xa, xb, xd, xt⟩ := x
      simp only at q0 q1 q2 q3 q4 hb1 hb2 hd1 hd2 ts
      have BX : Box' (t.length + txtK xs k + xt.length + 1 = t.length + txtK xs (k + 1)) := ⟨by rw [ts]; omega⟩
      have BM : Box' (t.length + txtK xs (k + 1) ≤ 4398046511104) := ⟨by omega⟩
      have ba : Below wr.heap.size wr (wr.alloc (.cells #[.int .u8 (xc.toNat : Int), .int .u64 (xa.toNat : Int), .int .i64 xb, .int .i64 xd, .string ⟨xt.toArray⟩] 31)) := (Below.refl _ _).alloc (Nat.le_refl _) _
      have TWA := Box'.mk (TW.out.below KR.out ba)
      have RA := Box'.mk (Row.new wr 31 #[.int .u8 (xc.toNat : Int), .int .u64 (xa.toNat : Int), .int .i64 xb, .int .i64 xd, .string ⟨xt.toArray⟩])
      have NA : Box' (¬ F1 wr.heap.size ∧ ¬ F2 wr.heap.size) := ⟨⟨fun h => by have := KR.out.2 _ _ _ _ TW.out.a _ h; omega, fun h => by have := TW.out.b.lt _ h; omega⟩⟩
      have hxa := xa.toNat_lt
      have hxc := xc.toNat_lt
      have hnw := nw.toNat_lt
      clear ts tl ba TW TS TL
      by_cases e0 : xc.toNat = 0
      · obtain rfl : xc = 0 := UInt8.toNat_inj.1 (by simpa using e0)
        rw [show (((0 : UInt8).toNat : Nat) : Int) = 0 from rfl] at TWA RA q0
        clear e0 hxc
        have sb := TWA.out.b
        obtain ⟨v2, hF2, hr, ho, hp, hm2⟩ := sb
        have C0 : Box' (∀ wa, Below (wr.alloc (.cells #[.int .u8 0, .int .u64 (xa.toNat : Int), .int .i64 xb, .int .i64 xd, .string ⟨xt.toArray⟩] 31)).heap.size (wr.alloc (.cells #[.int .u8 0, .int .u64 (xa.toNat : Int), .int .i64 xb, .int .i64 xd, .string ⟨xt.toArray⟩] 31)) wa → wa.cell? ⟨p2, 0, none⟩ = some (.string ⟨sd.now.toArray⟩)) := ⟨fun wa hb => (hr.below hb hr.lt).cell 0⟩
        have X4 : Box' (∀ wa, Below (wr.alloc (.cells #[.int .u8 0, .int .u64 (xa.toNat : Int), .int .i64 xb, .int .i64 xd, .string ⟨xt.toArray⟩] 31)).heap.size (wr.alloc (.cells #[.int .u8 0, .int .u64 (xa.toNat : Int), .int .i64 xb, .int .i64 xd, .string ⟨xt.toArray⟩] 31)) wa → wa.cell? ⟨wr.heap.size, 4, none⟩ = some (.string ⟨xt.toArray⟩)) := ⟨fun wa hb => (RA.out.below hb RA.out.lt).cell 4⟩
        have htn : sd.now.length + xt.length ≤ 4398046511104 := by have := TWA.out.tn; have := BX.out; have := BM.out; omega
        obtain ⟨tn, htn0⟩ : ∃ tn, sd.now = tn := ⟨_, rfl⟩
        rw [htn0] at C0 htn
        have HTN := Box'.mk htn0
        clear hr ho hp hm2 hF2 htn0
        go_upto_region 14 with (fail)
        clear q0 q1 q2 q3 q4
        refine wp_region_lex (fun wa => Below (wr.alloc (.cells #[.int .u8 0, .int .u64 (xa.toNat : Int), .int .i64 xb, .int .i64 xd, .string ⟨xt.toArray⟩] 31)).heap.size (wr.alloc (.cells #[.int .u8 0, .int .u64 (xa.toNat : Int), .int .i64 xb, .int .i64 xd, .string ⟨xt.toArray⟩] 31)) wa) (by kernel_rfl) (by kernel_rfl) (Below.refl _ _).drew ?_
        go_big_quiet_want
        go_big_quiet_op
        first | go_big_quiet_on | (refine ⟨_, fun _ _ => rfl, ?_⟩; go_big_quiet_on) | (refine ⟨_, fun _ _ _ => rfl, ?_⟩; go_big_quiet_on)
        go_big_quiet_want
        go_big_quiet_op
        first | go_big_quiet_on | (refine ⟨_, fun _ _ => rfl, ?_⟩; go_big_quiet_on) | (refine ⟨_, fun _ _ _ => rfl, ?_⟩; go_big_quiet_on)
        go_big_quiet_want
        go_big_quiet_op
        first | go_big_quiet_on | (refine ⟨_, fun _ _ => rfl, ?_⟩; go_big_quiet_on) | (refine ⟨_, fun _ _ _ => rfl, ?_⟩; go_big_quiet_on)
        go_big_quiet_want
        refine qC_load9 (.tmp 50) rfl p2 0 _ rfl C0.out ?_
        simp only [Act.put, List.setIfInBounds_toArray, List.set_cons_succ, List.set_cons_zero]
        go_big_quiet_on
        go_big_quiet_want
        go_big_quiet_op
        first | go_big_quiet_on | (refine ⟨_, fun _ _ => rfl, ?_⟩; go_big_quiet_on) | (refine ⟨_, fun _ _ _ => rfl, ?_⟩; go_big_quiet_on)
        go_big_quiet_want
        refine qC_load9 (.tmp 52) rfl wr.heap.size 4 _ rfl X4.out ?_
        simp only [Act.put, List.setIfInBounds_toArray, List.set_cons_succ, List.set_cons_zero]
        go_big_quiet_on
        go_big_quiet_want
        refine qC_of (.string ⟨(tn ++ xt).toArray⟩) (fun wq hC => by unfold execOp; simp [go_sem, str_app]; omega) ?_
        simp only [Act.put, List.setIfInBounds_toArray, List.set_cons_succ, List.set_cons_zero]
        go_big_quiet_on
        go_big_quiet_want
        go_big_quiet_op
        first | go_big_quiet_on | (refine ⟨_, fun _ _ => rfl, ?_⟩; go_big_quiet_on) | (refine ⟨_, fun _ _ _ => rfl, ?_⟩; go_big_quiet_on)
        refine wpQuiet_nil ?_
        intro wz hz
        replace TWA := Box'.mk (TWA.out.below KR.out hz)
        have hs := HS.out wz F1 p1 sd (tn ++ xt) TWA.out.a
        unfold sT at hs
        clear hz C0 X4 RA NA
        go_wp2_with fail
        refine hs.mono ?_
        rintro e w3 ⟨F1', rfl, hP, hT, hN⟩
        have o := TWA.out.first hT hN
        have sn := o.1.now (tn ++ xt)
        have cs := sn.2.2.1
        have fs := sn.2.2.2
        have TWX := Box'.mk (Tw.second (B' := t.length + txtK xs (k + 1)) KR.out hP o.2.1 TWA.out.d2 o.2.2 sn.1 sn.2.1 (fun j hj => .inl hj) (by show (tn ++ xt).length ≤ _; have := BX.out; have := TWA.out.tn; rw [HTN.out] at this; rw [List.length_append]; omega) (fun y hy => by have := TWA.out.tl y hy; have := BX.out; omega))
        clear hs hP hT hN o sn TWA
        unfold sT at TWX cs
        have tdl := HD.out _ F1' p1 { sd with now := tn ++ xt } TWX.out.a TWX.out.pos.1 TWX.out.pos.2
        unfold uV at tdl
        generalize hf0 : (({ sd with now := tn ++ xt }).l.getD 0 Rw.zero).n = f0 at tdl
        generalize hl0 : (lastR ({ sd with now := tn ++ xt }).l).n = l0 at tdl
        have HF0 := Box'.mk hf0
        have HL0 := Box'.mk hl0
        clear hf0 hl0
        go_wp2_with fail
        refine tdl.mono ?_
        rintro e w7 ⟨rfl, hb⟩
        have TW7 := Box'.mk (TWX.out.below KR.out hb)
        have TW8 := TW7.out.b
        obtain ⟨v2, hF2, hr, ho, hp, hm2⟩ := TW8
        obtain ⟨g, c2, rfl, hc2, _, hg, hcl⟩ := ho.cells hp
        generalize hln : ({ sd with now := tn ++ xt }).l.length = n at *
        have HLN := Box'.mk hln
        clear hln
        have C6 : Box' (∀ wa, Below w7.heap.size w7 wa → wa.cell? ⟨p2, 1, none⟩ = some (.slice (some ⟨g, 0, none⟩) n c2)) := ⟨fun wa hb => (hr.below hb hr.lt).cell 1⟩
        have M0 : Box' (∀ wa, Below w7.heap.size w7 wa → wa.cell? ⟨g, 0, none⟩ = some (.int .u64 (f0.toNat : Int))) := ⟨fun wa hb => (hb.cell (p := ⟨g, 0, none⟩) hg).trans ((hcl _ _ (rowsC_at ({ sd with now := tn ++ xt }).l 0 (by rw [HLN.out]; exact hp)).1).trans (by rw [HF0.out]; rfl))⟩
        have M6 : Box' (∀ wa, Below w7.heap.size w7 wa → wa.cell? ⟨g, (n - 1) * 3, none⟩ = some (.int .u64 (l0.toNat : Int))) := ⟨fun wa hb => (hb.cell (p := ⟨g, (n - 1) * 3, none⟩) hg).trans ((hcl _ _ (rowsC_at ({ sd with now := tn ++ xt }).l (n - 1) (by rw [HLN.out]; omega)).1).trans (by have := HL0.out; unfold lastR at this; rw [HLN.out] at this; rw [this]; rfl))⟩
        clear tdl hb hr ho hcl TWX HF0 HL0 hF2
        go_upto_region 32 with (fail)
        refine wp_region_lex (fun wa => Below w7.heap.size w7 wa) (by kernel_rfl) (by kernel_rfl) (Below.refl _ _).drew ?_
        go_big_quiet_want
        go_big_quiet_op
        first | go_big_quiet_on | (refine ⟨_, fun _ _ => rfl, ?_⟩; go_big_quiet_on) | (refine ⟨_, fun _ _ _ => rfl, ?_⟩; go_big_quiet_on)
        go_big_quiet_want
        go_big_quiet_op
        first | go_big_quiet_on | (refine ⟨_, fun _ _ => rfl, ?_⟩; go_big_quiet_on) | (refine ⟨_, fun _ _ _ => rfl, ?_⟩; go_big_quiet_on)
        go_big_quiet_want
        go_big_quiet_op
        first | go_big_quiet_on | (refine ⟨_, fun _ _ => rfl, ?_⟩; go_big_quiet_on) | (refine ⟨_, fun _ _ _ => rfl, ?_⟩; go_big_quiet_on)
        go_big_quiet_want
        go_big_quiet_op
        first | go_big_quiet_on | (refine ⟨_, fun _ _ => rfl, ?_⟩; go_big_quiet_on) | (refine ⟨_, fun _ _ _ => rfl, ?_⟩; go_big_quiet_on)
        go_big_quiet_want
        refine qC_load32 (.tmp 138) rfl p2 1 _ rfl C6.out ?_
        simp only [Act.put, List.setIfInBounds_toArray, List.set_cons_succ, List.set_cons_zero]
        go_big_quiet_on
        go_big_quiet_want
        go_big_quiet_op
        first | go_big_quiet_on | (refine ⟨_, fun _ _ => rfl, ?_⟩; go_big_quiet_on) | (refine ⟨_, fun _ _ _ => rfl, ?_⟩; go_big_quiet_on)
        go_big_quiet_want
        go_big_quiet_op
        first | go_big_quiet_on | (refine ⟨_, fun _ _ => rfl, ?_⟩; go_big_quiet_on) | (refine ⟨_, fun _ _ _ => rfl, ?_⟩; go_big_quiet_on)
        go_big_quiet_want
        refine qC_load29 (.tmp 141) rfl g 0 _ rfl M0.out ?_
        simp only [Act.put, List.setIfInBounds_toArray, List.set_cons_succ, List.set_cons_zero]
        go_big_quiet_on
        go_big_quiet_want
        refine qC_of (.bool false) (fun wq hC => by unfold execOp; simp [go_sem]) ?_
        simp only [Act.put, List.setIfInBounds_toArray, List.set_cons_succ, List.set_cons_zero]
        go_big_quiet_on
        go_big_quiet_want
        go_big_quiet_op
        first | go_big_quiet_on | (refine ⟨_, fun _ _ => rfl, ?_⟩; go_big_quiet_on) | (refine ⟨_, fun _ _ _ => rfl, ?_⟩; go_big_quiet_on)
        go_big_quiet_want
        go_big_quiet_op
        first | go_big_quiet_on | (refine ⟨_, fun _ _ => rfl, ?_⟩; go_big_quiet_on) | (refine ⟨_, fun _ _ _ => rfl, ?_⟩; go_big_quiet_on)
        go_big_quiet_want
        go_big_quiet_op
        first | go_big_quiet_on | (refine ⟨_, fun _ _ => rfl, ?_⟩; go_big_quiet_on) | (refine ⟨_, fun _ _ _ => rfl, ?_⟩; go_big_quiet_on)
        go_big_quiet_want
        go_big_quiet_op
        first | go_big_quiet_on | (refine ⟨_, fun _ _ => rfl, ?_⟩; go_big_quiet_on) | (refine ⟨_, fun _ _ _ => rfl, ?_⟩; go_big_quiet_on)
        go_big_quiet_want
        go_big_quiet_op
        first | go_big_quiet_on | (refine ⟨_, fun _ _ => rfl, ?_⟩; go_big_quiet_on) | (refine ⟨_, fun _ _ _ => rfl, ?_⟩; go_big_quiet_on)
        go_big_quiet_want
        refine qC_load32 (.tmp 148) rfl p2 1 _ rfl C6.out ?_
        simp only [Act.put, List.setIfInBounds_toArray, List.set_cons_succ, List.set_cons_zero]
        go_big_quiet_on
        go_big_quiet_want
        go_big_quiet_op
        first | go_big_quiet_on | (refine ⟨_, fun _ _ => rfl, ?_⟩; go_big_quiet_on) | (refine ⟨_, fun _ _ _ => rfl, ?_⟩; go_big_quiet_on)
        go_big_quiet_want
        go_big_quiet_op
        first | go_big_quiet_on | (refine ⟨_, fun _ _ => rfl, ?_⟩; go_big_quiet_on) | (refine ⟨_, fun _ _ _ => rfl, ?_⟩; go_big_quiet_on)
        go_big_quiet_want
        go_big_quiet_op
        first | go_big_quiet_on | (refine ⟨_, fun _ _ => rfl, ?_⟩; go_big_quiet_on) | (refine ⟨_, fun _ _ _ => rfl, ?_⟩; go_big_quiet_on)
        go_big_quiet_want
        refine qC_load32 (.tmp 152) rfl p2 1 _ rfl C6.out ?_
        simp only [Act.put, List.setIfInBounds_toArray, List.set_cons_succ, List.set_cons_zero]
        go_big_quiet_on
        go_big_quiet_want
        go_big_quiet_op
        first | go_big_quiet_on | (refine ⟨_, fun _ _ => rfl, ?_⟩; go_big_quiet_on) | (refine ⟨_, fun _ _ _ => rfl, ?_⟩; go_big_quiet_on)
        go_big_quiet_want
        go_big_quiet_op
        first | go_big_quiet_on | (refine ⟨_, fun _ _ => rfl, ?_⟩; go_big_quiet_on) | (refine ⟨_, fun _ _ _ => rfl, ?_⟩; go_big_quiet_on)
        go_big_quiet_want
        go_big_quiet_op
        first | go_big_quiet_on | (refine ⟨_, fun _ _ => rfl, ?_⟩; go_big_quiet_on) | (refine ⟨_, fun _ _ _ => rfl, ?_⟩; go_big_quiet_on)
        go_big_quiet_want
        go_big_quiet_op
        first | go_big_quiet_on | (refine ⟨_, fun _ _ => rfl, ?_⟩; go_big_quiet_on) | (refine ⟨_, fun _ _ _ => rfl, ?_⟩; go_big_quiet_on)
        go_big_quiet_want
        refine qC_load29 (.tmp 157) rfl g ((n - 1) * 3) _ rfl M6.out ?_
        simp only [Act.put, List.setIfInBounds_toArray, List.set_cons_succ, List.set_cons_zero]
        go_big_quiet_on
        go_big_quiet_want
        refine qC_of (.bool false) (fun wq hC => by unfold execOp; simp [go_sem]) ?_
        simp only [Act.put, List.setIfInBounds_toArray, List.set_cons_succ, List.set_cons_zero]
        go_big_quiet_on
        go_big_quiet_want
        go_big_quiet_op
        first | go_big_quiet_on | (refine ⟨_, fun _ _ => rfl, ?_⟩; go_big_quiet_on) | (refine ⟨_, fun _ _ _ => rfl, ?_⟩; go_big_quiet_on)
        go_big_quiet_want
        go_big_quiet_op
        first | go_big_quiet_on | (refine ⟨_, fun _ _ => rfl, ?_⟩; go_big_quiet_on) | (refine ⟨_, fun _ _ _ => rfl, ?_⟩; go_big_quiet_on)
        go_big_quiet_want
        go_big_quiet_op
        first | go_big_quiet_on | (refine ⟨_, fun _ _ => rfl, ?_⟩; go_big_quiet_on) | (refine ⟨_, fun _ _ _ => rfl, ?_⟩; go_big_quiet_on)
        go_big_quiet_want
        go_big_quiet_op
        first | go_big_quiet_on | (refine ⟨_, fun _ _ => rfl, ?_⟩; go_big_quiet_on) | (refine ⟨_, fun _ _ _ => rfl, ?_⟩; go_big_quiet_on)
        go_big_quiet_want
        go_big_quiet_op
        first | go_big_quiet_on | (refine ⟨_, fun _ _ => rfl, ?_⟩; go_big_quiet_on) | (refine ⟨_, fun _ _ _ => rfl, ?_⟩; go_big_quiet_on)
        go_big_quiet_want
        go_big_quiet_op
        first | go_big_quiet_on | (refine ⟨_, fun _ _ => rfl, ?_⟩; go_big_quiet_on) | (refine ⟨_, fun _ _ _ => rfl, ?_⟩; go_big_quiet_on)
        go_big_quiet_want
        refine qC_load32 (.tmp 165) rfl p2 1 _ rfl C6.out ?_
        simp only [Act.put, List.setIfInBounds_toArray, List.set_cons_succ, List.set_cons_zero]
        go_big_quiet_on
        go_big_quiet_want
        go_big_quiet_op
        first | go_big_quiet_on | (refine ⟨_, fun _ _ => rfl, ?_⟩; go_big_quiet_on) | (refine ⟨_, fun _ _ _ => rfl, ?_⟩; go_big_quiet_on)
        go_big_quiet_want
        refine qC_of (.bool false) (fun wq hC => by unfold execOp; simp [go_sem]) ?_
        simp only [Act.put, List.setIfInBounds_toArray, List.set_cons_succ, List.set_cons_zero]
        go_big_quiet_on
        go_big_quiet_want
        go_big_quiet_op
        first | go_big_quiet_on | (refine ⟨_, fun _ _ => rfl, ?_⟩; go_big_quiet_on) | (refine ⟨_, fun _ _ _ => rfl, ?_⟩; go_big_quiet_on)
        refine wpQuiet_nil ?_
        intro wz hz
        have TWZ := Box'.mk (TW7.out.below KR.out hz)
        clear hz C6 M0 M6 TW7
        go_wp2_with fail
        exact ⟨⟨k + 1, nw, { sd with now := tn ++ xt }, F1', F2, rfl, by go_num, by omega, TWZ⟩, by simp [intOf]; omega⟩
      by_cases e3 : xc.toNat = 3
      · obtain rfl : xc = 3 := UInt8.toNat_inj.1 (by simpa using e3)
        rw [show (((3 : UInt8).toNat : Nat) : Int) = 3 from rfl] at TWA RA q0
        clear e0 e3 hxc
        have hs := HS.out _ F1 p1 sd xt TWA.out.a
        unfold sT at hs
        go_wp2_with fail
        refine hs.mono ?_
        rintro e w3 ⟨F1', rfl, hP, hT, hN⟩
        have o := TWA.out.first hT hN
        have sn := o.1.now xt
        have cs := sn.2.2.1
        have fs := sn.2.2.2
        have TWX := Box'.mk (Tw.second (B' := t.length + txtK xs (k + 1)) KR.out hP o.2.1 TWA.out.d2 o.2.2 sn.1 sn.2.1 (fun j hj => .inl hj) (by show xt.length ≤ _; have := BX.out; omega) (fun y hy => by have := TWA.out.tl y hy; have := BX.out; omega))
        clear hs hP hT hN o sn TWA
        unfold sT at TWX cs
        have tdl := HD.out _ F1' p1 { sd with now := xt } TWX.out.a TWX.out.pos.1 TWX.out.pos.2
        unfold uV at tdl
        generalize hf0 : (({ sd with now := xt }).l.getD 0 Rw.zero).n = f0 at tdl
        generalize hl0 : (lastR ({ sd with now := xt }).l).n = l0 at tdl
        have HF0 := Box'.mk hf0
        have HL0 := Box'.mk hl0
        clear hf0 hl0
        go_wp2_with fail
        refine tdl.mono ?_
        rintro e w7 ⟨rfl, hb⟩
        have TW7 := Box'.mk (TWX.out.below KR.out hb)
        have TW8 := TW7.out.b
        obtain ⟨v2, hF2, hr, ho, hp, hm2⟩ := TW8
        obtain ⟨g, c2, rfl, hc2, _, hg, hcl⟩ := ho.cells hp
        generalize hln : ({ sd with now := xt }).l.length = n at *
        have HLN := Box'.mk hln
        clear hln
        have C6 : Box' (∀ wa, Below w7.heap.size w7 wa → wa.cell? ⟨p2, 1, none⟩ = some (.slice (some ⟨g, 0, none⟩) n c2)) := ⟨fun wa hb => (hr.below hb hr.lt).cell 1⟩
        have M0 : Box' (∀ wa, Below w7.heap.size w7 wa → wa.cell? ⟨g, 0, none⟩ = some (.int .u64 (f0.toNat : Int))) := ⟨fun wa hb => (hb.cell (p := ⟨g, 0, none⟩) hg).trans ((hcl _ _ (rowsC_at ({ sd with now := xt }).l 0 (by rw [HLN.out]; exact hp)).1).trans (by rw [HF0.out]; rfl))⟩
        have M6 : Box' (∀ wa, Below w7.heap.size w7 wa → wa.cell? ⟨g, (n - 1) * 3, none⟩ = some (.int .u64 (l0.toNat : Int))) := ⟨fun wa hb => (hb.cell (p := ⟨g, (n - 1) * 3, none⟩) hg).trans ((hcl _ _ (rowsC_at ({ sd with now := xt }).l (n - 1) (by rw [HLN.out]; omega)).1).trans (by have := HL0.out; unfold lastR at this; rw [HLN.out] at this; rw [this]; rfl))⟩
        clear tdl hb hr ho hcl TWX HF0 HL0 hF2
        go_upto_region 32 with (fail)
        refine wp_region_lex (fun wa => Below w7.heap.size w7 wa) (by kernel_rfl) (by kernel_rfl) (Below.refl _ _).drew ?_
        go_big_quiet_want
        go_big_quiet_op
        first | go_big_quiet_on | (refine ⟨_, fun _ _ => rfl, ?_⟩; go_big_quiet_on) | (refine ⟨_, fun _ _ _ => rfl, ?_⟩; go_big_quiet_on)
        go_big_quiet_want
        go_big_quiet_op
        first | go_big_quiet_on | (refine ⟨_, fun _ _ => rfl, ?_⟩; go_big_quiet_on) | (refine ⟨_, fun _ _ _ => rfl, ?_⟩; go_big_quiet_on)
        go_big_quiet_want
        go_big_quiet_op
        first | go_big_quiet_on | (refine ⟨_, fun _ _ => rfl, ?_⟩; go_big_quiet_on) | (refine ⟨_, fun _ _ _ => rfl, ?_⟩; go_big_quiet_on)
        go_big_quiet_want
        go_big_quiet_op
        first | go_big_quiet_on | (refine ⟨_, fun _ _ => rfl, ?_⟩; go_big_quiet_on) | (refine ⟨_, fun _ _ _ => rfl, ?_⟩; go_big_quiet_on)
        go_big_quiet_want
        refine qC_load32 (.tmp 138) rfl p2 1 _ rfl C6.out ?_
        simp only [Act.put, List.setIfInBounds_toArray, List.set_cons_succ, List.set_cons_zero]
        go_big_quiet_on
        go_big_quiet_want
        go_big_quiet_op
        first | go_big_quiet_on | (refine ⟨_, fun _ _ => rfl, ?_⟩; go_big_quiet_on) | (refine ⟨_, fun _ _ _ => rfl, ?_⟩; go_big_quiet_on)
        go_big_quiet_want
        go_big_quiet_op
        first | go_big_quiet_on | (refine ⟨_, fun _ _ => rfl, ?_⟩; go_big_quiet_on) | (refine ⟨_, fun _ _ _ => rfl, ?_⟩; go_big_quiet_on)
        go_big_quiet_want
        refine qC_load29 (.tmp 141) rfl g 0 _ rfl M0.out ?_
        simp only [Act.put, List.setIfInBounds_toArray, List.set_cons_succ, List.set_cons_zero]
        go_big_quiet_on
        go_big_quiet_want
        refine qC_of (.bool false) (fun wq hC => by unfold execOp; simp [go_sem]) ?_
        simp only [Act.put, List.setIfInBounds_toArray, List.set_cons_succ, List.set_cons_zero]
        go_big_quiet_on
        go_big_quiet_want
        go_big_quiet_op
        first | go_big_quiet_on | (refine ⟨_, fun _ _ => rfl, ?_⟩; go_big_quiet_on) | (refine ⟨_, fun _ _ _ => rfl, ?_⟩; go_big_quiet_on)
        go_big_quiet_want
        go_big_quiet_op
        first | go_big_quiet_on | (refine ⟨_, fun _ _ => rfl, ?_⟩; go_big_quiet_on) | (refine ⟨_, fun _ _ _ => rfl, ?_⟩; go_big_quiet_on)
        go_big_quiet_want
        go_big_quiet_op
        first | go_big_quiet_on | (refine ⟨_, fun _ _ => rfl, ?_⟩; go_big_quiet_on) | (refine ⟨_, fun _ _ _ => rfl, ?_⟩; go_big_quiet_on)
        go_big_quiet_want
        go_big_quiet_op
        first | go_big_quiet_on | (refine ⟨_, fun _ _ => rfl, ?_⟩; go_big_quiet_on) | (refine ⟨_, fun _ _ _ => rfl, ?_⟩; go_big_quiet_on)
        go_big_quiet_want
        go_big_quiet_op
        first | go_big_quiet_on | (refine ⟨_, fun _ _ => rfl, ?_⟩; go_big_quiet_on) | (refine ⟨_, fun _ _ _ => rfl, ?_⟩; go_big_quiet_on)
        go_big_quiet_want
        refine qC_load32 (.tmp 148) rfl p2 1 _ rfl C6.out ?_
        simp only [Act.put, List.setIfInBounds_toArray, List.set_cons_succ, List.set_cons_zero]
        go_big_quiet_on
        go_big_quiet_want
        go_big_quiet_op
        first | go_big_quiet_on | (refine ⟨_, fun _ _ => rfl, ?_⟩; go_big_quiet_on) | (refine ⟨_, fun _ _ _ => rfl, ?_⟩; go_big_quiet_on)
        go_big_quiet_want
        go_big_quiet_op
        first | go_big_quiet_on | (refine ⟨_, fun _ _ => rfl, ?_⟩; go_big_quiet_on) | (refine ⟨_, fun _ _ _ => rfl, ?_⟩; go_big_quiet_on)
        go_big_quiet_want
        go_big_quiet_op
        first | go_big_quiet_on | (refine ⟨_, fun _ _ => rfl, ?_⟩; go_big_quiet_on) | (refine ⟨_, fun _ _ _ => rfl, ?_⟩; go_big_quiet_on)
        go_big_quiet_want
        refine qC_load32 (.tmp 152) rfl p2 1 _ rfl C6.out ?_
        simp only [Act.put, List.setIfInBounds_toArray, List.set_cons_succ, List.set_cons_zero]
        go_big_quiet_on
        go_big_quiet_want
        go_big_quiet_op
        first | go_big_quiet_on | (refine ⟨_, fun _ _ => rfl, ?_⟩; go_big_quiet_on) | (refine ⟨_, fun _ _ _ => rfl, ?_⟩; go_big_quiet_on)
        go_big_quiet_want
        go_big_quiet_op
        first | go_big_quiet_on | (refine ⟨_, fun _ _ => rfl, ?_⟩; go_big_quiet_on) | (refine ⟨_, fun _ _ _ => rfl, ?_⟩; go_big_quiet_on)
        go_big_quiet_want
        go_big_quiet_op
        first | go_big_quiet_on | (refine ⟨_, fun _ _ => rfl, ?_⟩; go_big_quiet_on) | (refine ⟨_, fun _ _ _ => rfl, ?_⟩; go_big_quiet_on)
        go_big_quiet_want
        go_big_quiet_op
        first | go_big_quiet_on | (refine ⟨_, fun _ _ => rfl, ?_⟩; go_big_quiet_on) | (refine ⟨_, fun _ _ _ => rfl, ?_⟩; go_big_quiet_on)
        go_big_quiet_want
        refine qC_load29 (.tmp 157) rfl g ((n - 1) * 3) _ rfl M6.out ?_
        simp only [Act.put, List.setIfInBounds_toArray, List.set_cons_succ, List.set_cons_zero]
        go_big_quiet_on
        go_big_quiet_want
        refine qC_of (.bool false) (fun wq hC => by unfold execOp; simp [go_sem]) ?_
        simp only [Act.put, List.setIfInBounds_toArray, List.set_cons_succ, List.set_cons_zero]
        go_big_quiet_on
        go_big_quiet_want
        go_big_quiet_op
        first | go_big_quiet_on | (refine ⟨_, fun _ _ => rfl, ?_⟩; go_big_quiet_on) | (refine ⟨_, fun _ _ _ => rfl, ?_⟩; go_big_quiet_on)
        go_big_quiet_want
        go_big_quiet_op
        first | go_big_quiet_on | (refine ⟨_, fun _ _ => rfl, ?_⟩; go_big_quiet_on) | (refine ⟨_, fun _ _ _ => rfl, ?_⟩; go_big_quiet_on)
        go_big_quiet_want
        go_big_quiet_op
        first | go_big_quiet_on | (refine ⟨_, fun _ _ => rfl, ?_⟩; go_big_quiet_on) | (refine ⟨_, fun _ _ _ => rfl, ?_⟩; go_big_quiet_on)
        go_big_quiet_want
        go_big_quiet_op
        first | go_big_quiet_on | (refine ⟨_, fun _ _ => rfl, ?_⟩; go_big_quiet_on) | (refine ⟨_, fun _ _ _ => rfl, ?_⟩; go_big_quiet_on)
        go_big_quiet_want
        go_big_quiet_op
        first | go_big_quiet_on | (refine ⟨_, fun _ _ => rfl, ?_⟩; go_big_quiet_on) | (refine ⟨_, fun _ _ _ => rfl, ?_⟩; go_big_quiet_on)
        go_big_quiet_want
        go_big_quiet_op
        first | go_big_quiet_on | (refine ⟨_, fun _ _ => rfl, ?_⟩; go_big_quiet_on) | (refine ⟨_, fun _ _ _ => rfl, ?_⟩; go_big_quiet_on)
        go_big_quiet_want
        refine qC_load32 (.tmp 165) rfl p2 1 _ rfl C6.out ?_
        simp only [Act.put, List.setIfInBounds_toArray, List.set_cons_succ, List.set_cons_zero]
        go_big_quiet_on
        go_big_quiet_want
        go_big_quiet_op
        first | go_big_quiet_on | (refine ⟨_, fun _ _ => rfl, ?_⟩; go_big_quiet_on) | (refine ⟨_, fun _ _ _ => rfl, ?_⟩; go_big_quiet_on)
        go_big_quiet_want
        refine qC_of (.bool false) (fun wq hC => by unfold execOp; simp [go_sem]) ?_
        simp only [Act.put, List.setIfInBounds_toArray, List.set_cons_succ, List.set_cons_zero]
        go_big_quiet_on
        go_big_quiet_want
        go_big_quiet_op
        first | go_big_quiet_on | (refine ⟨_, fun _ _ => rfl, ?_⟩; go_big_quiet_on) | (refine ⟨_, fun _ _ _ => rfl, ?_⟩; go_big_quiet_on)
        refine wpQuiet_nil ?_
        intro wz hz
        have TWZ := Box'.mk (TW7.out.below KR.out hz)
        clear hz C6 M0 M6 TW7
        go_wp2_with fail
        exact ⟨⟨k + 1, nw, { sd with now := xt }, F1', F2, rfl, by go_num, by omega, TWZ⟩, by simp [intOf]; omega⟩
      by_cases e1 : xc.toNat = 1
      · obtain rfl : xc = 1 := UInt8.toNat_inj.1 (by simpa using e1)
        rw [show (((1 : UInt8).toNat : Nat) : Int) = 1 from rfl] at TWA RA q0
        clear e0 e3 e1 hxc
        obtain ⟨wx, hwx⟩ : ∃ wx, wx = wr.alloc (.cells #[.int .u8 1, .int .u64 (xa.toNat : Int), .int .i64 xb, .int .i64 xd, .string ⟨xt.toArray⟩] 31) := ⟨_, rfl⟩
        rw [← hwx] at TWA RA
        go_upto_region 19 with (fail)
        rw [← hwx]
        clear q0 q1 q2 q3 q4 hwx
        have TWD := Box'.mk (TWA.out.below KR.out ((Below.refl wx.heap.size wx).drew))
        have hB : ¬ F1 wr.heap.size := NA.out.1
        have hBx : wr.heap.size < wx.heap.size := RA.out.lt
        have CX : wx.drew.cell? ⟨wr.heap.size, 1, none⟩ = some (.int .u64 (xa.toNat : Int)) := RA.out.cell 1
        have RD : Row wx.drew wr.heap.size 31 #[.int .u8 1, .int .u64 (xa.toNat : Int), .int .i64 xb, .int .i64 xd, .string ⟨xt.toArray⟩] := RA.out
        have ak := HA.out wx.drew F1 p1 sd xa TWD.out.a TWD.out.pos.1 TWD.out.pos.2
        unfold uV at ak
        have AK : Calls Try.prog 11 #[.pointer (some ⟨p1, 0, none⟩), .int .u64 (xa.toNat : Int)] wx.drew fun e w' => ∃ v, e = .returned v ∧ (v = .int .i64 (ackF sd xa).2 ∧ ∃ F1', RS w' F1' p1 (ackF sd xa).1 ∧ Tch F1 wx.drew w' ∧ ∀ k, F1' k → F1 k ∨ wx.drew.heap.size ≤ k) ∧ w'.cell? ⟨wr.heap.size, 1, none⟩ = some (.int .u64 (xa.toNat : Int)) := ak.mono fun e w' ⟨F', q1, q2, q3, q4⟩ => ⟨_, q1, ⟨rfl, F', q2, q3, q4⟩, (RD.same (q3.block _ hBx hB)).cell 1⟩
        generalize hr1 : (ackF sd xa).2 = r1 at *
        have HR1 := Box'.mk hr1
        have AKB := Box'.mk AK
        clear ak hr1 AK
        refine wp_region_once 7 3 (by kernel_rfl) (by kernel_rfl) _ rfl (fun wa wb => wb = wa) (fun wa wb => (∃ F1', RS wb F1' p1 (ackF sd xa).1 ∧ Tch F1 wx.drew wb ∧ ∀ k, F1' k → F1 k ∨ wx.drew.heap.size ≤ k) ∧ wb.cell? ⟨wr.heap.size, 1, none⟩ = some (.int .u64 (xa.toNat : Int))) (fun wa => wa.cell? ⟨wr.heap.size, 1, none⟩ = some (.int .u64 (xa.toNat : Int))) (fun wa => wa = wx.drew) (fun kc wa v => match kc with
          | 0 => v = .pointer (some ⟨p1, 0, none⟩)
          | 1 => v = .pointer (some ⟨wr.heap.size, 1, none⟩)
          | 2 => v = .int .u64 (xa.toNat : Int)
          | 3 => v = .int .i64 r1 ∧ ∃ F1', RS wa F1' p1 (ackF sd xa).1 ∧ Tch F1 wx.drew wa ∧ ∀ k, F1' k → F1 k ∨ wx.drew.heap.size ≤ k
          | 4 => v = .pointer (some ⟨p2, 0, none⟩)
          | 5 => v = .pointer (some ⟨wr.heap.size, 1, none⟩)
          | 6 => v = .int .u64 (xa.toNat : Int)
          | _ => True) ?_ ?_ ?_ ?_ ?_ CX rfl ?_ ?_ ?_
        · intro wa wb hg h; subst hg; exact h
        · intro wa wb _ hg h; subst hg; exact h
        · intro kc v wa wb _ hg h; subst hg; exact h
        · intro wa wb hg _ _; exact hg.2
        · intro kc v wa wb hk _ _ _ h
          match kc, hk, h with
          | 0, _, h => exact h
          | 1, _, h => exact h
          | 2, _, h => exact h
          | 3, hk, h => exact absurd rfl hk
          | 4, _, h => exact h
          | 5, _, h => exact h
          | 6, _, h => exact h
          | kc + 7, _, h => trivial
        · refine ⟨?_, ?_, ?_, fun h => absurd rfl h, ?_, ?_, ?_, trivial⟩
          · intro _ f wq hC hd KK hK
            simp only [List.take_succ_cons, List.take_zero, setAll, List.setIfInBounds_toArray, List.set_cons_succ, List.set_cons_zero, Nat.zero_add, Nat.reduceAdd] at hK ⊢
            refine wp_of_quiet rfl ?_
            go_big_quiet_step (fail)
            exact wpQuiet_nil (hK _ _ rfl rfl)
          · intro _ f wq hC hd KK hK
            simp only [List.take_succ_cons, List.take_zero, setAll, List.setIfInBounds_toArray, List.set_cons_succ, List.set_cons_zero, Nat.zero_add, Nat.reduceAdd] at hK ⊢
            refine wp_of_quiet rfl ?_
            go_big_quiet_step (fail)
            exact wpQuiet_nil (hK _ _ rfl rfl)
          · intro _ f wq hC hd KK hK
            have g1 : f 1 = .pointer (some ⟨wr.heap.size, 1, none⟩) := hd 1 (by kernel_rfl)
            have cx := hC
            simp only [List.take_succ_cons, List.take_zero, setAll, List.setIfInBounds_toArray, List.set_cons_succ, List.set_cons_zero, Nat.zero_add, Nat.reduceAdd, g1] at hK ⊢
            refine wp_of_quiet rfl ?_
            go_big_quiet_step (fail)
            exact wpQuiet_nil (hK _ _ rfl rfl)
          · intro _ f wq hC hd KK hK
            simp only [List.take_succ_cons, List.take_zero, setAll, List.setIfInBounds_toArray, List.set_cons_succ, List.set_cons_zero, Nat.zero_add, Nat.reduceAdd] at hK ⊢
            refine wp_of_quiet rfl ?_
            go_big_quiet_step (fail)
            exact wpQuiet_nil (hK _ _ rfl rfl)
          · intro _ f wq hC hd KK hK
            simp only [List.take_succ_cons, List.take_zero, setAll, List.setIfInBounds_toArray, List.set_cons_succ, List.set_cons_zero, Nat.zero_add, Nat.reduceAdd] at hK ⊢
            refine wp_of_quiet rfl ?_
            go_big_quiet_step (fail)
            exact wpQuiet_nil (hK _ _ rfl rfl)
          · intro _ f wq hC hd KK hK
            have g5 : f 5 = .pointer (some ⟨wr.heap.size, 1, none⟩) := hd 5 (by kernel_rfl)
            have cx := hC
            simp only [List.take_succ_cons, List.take_zero, setAll, List.setIfInBounds_toArray, List.set_cons_succ, List.set_cons_zero, Nat.zero_add, Nat.reduceAdd, g5] at hK ⊢
            refine wp_of_quiet rfl ?_
            go_big_quiet_step (fail)
            exact wpQuiet_nil (hK _ _ rfl rfl)
        · intro f wq hC hA hd KK hK
          have g0 : f 0 = .pointer (some ⟨p1, 0, none⟩) := hd 0 (by kernel_rfl)
          have g2 : f 2 = .int .u64 (xa.toNat : Int) := hd 2 (by kernel_rfl)
          subst hA
          simp only [List.take_succ_cons, List.take_zero, setAll, List.setIfInBounds_toArray, List.set_cons_succ, List.set_cons_zero, Nat.zero_add, Nat.reduceAdd, g0, g2] at hK ⊢
          exact wp_callE 11 #[.pointer (some ⟨p1, 0, none⟩), .int .u64 (xa.toNat : Int)] (by simp [go_sem]) _ AKB.out (fun v w' hR => hK _ _ hR.1 ⟨hR.1.2, hR.2⟩)
        · intro f wq hC hv
          have g0 : f 0 = .pointer (some ⟨p1, 0, none⟩) := hv 0 (by decide)
          have g1 : f 1 = .pointer (some ⟨wr.heap.size, 1, none⟩) := hv 1 (by decide)
          have g2 : f 2 = .int .u64 (xa.toNat : Int) := hv 2 (by decide)
          have g4 : f 4 = .pointer (some ⟨p2, 0, none⟩) := hv 4 (by decide)
          have g5 : f 5 = .pointer (some ⟨wr.heap.size, 1, none⟩) := hv 5 (by decide)
          have g6 : f 6 = .int .u64 (xa.toNat : Int) := hv 6 (by decide)
          have g3 : f 3 = .int .i64 r1 ∧ ∃ F1', RS wq F1' p1 (ackF sd xa).1 ∧ Tch F1 wx.drew wq ∧ ∀ k, F1' k → F1 k ∨ wx.drew.heap.size ≤ k := hv 3 (by decide)
          obtain ⟨e3, F1', hP, hT, hN⟩ := g3
          simp only [List.take_succ_cons, List.take_zero, List.drop_succ_cons, List.drop_zero, setAll, List.setIfInBounds_toArray, List.set_cons_succ, List.set_cons_zero, Nat.zero_add, Nat.reduceAdd, g0, g1, g2, e3, g4, g5, g6]
          clear g0 g1 g2 e3 g4 g5 g6 hv hC AKB CX RD hB
          have o := TWD.out.first hT hN
          have P3 := Box'.mk hP
          have O3 := Box'.mk o
          have k2 := ack_any wq F2 p2 sd xa o.1
          unfold uV at k2
          have tx := ackF_txt sd xa _ TWD.out.tn TWD.out.tl
          have TX := Box'.mk tx
          rw [HR1.out] at k2
          clear hP hT hN o tx
          go_wp2_with fail
          refine k2.mono ?_
          rintro e w4 ⟨F2', rfl, hP, hT, hN⟩
          have TWX := Box'.mk ((Tw.second (B' := t.length + txtK xs k) KR.out P3.out O3.out.2.1 TWD.out.d2 O3.out.2.2 hP hT hN TX.out.1 TX.out.2).more (B' := t.length + txtK xs (k + 1)) (by have := BX.out; omega))
          clear k2 hP hT hN P3 O3 TX TWD TWA RA NA HR1
          generalize ackF sd xa = AA at *
          have tdl := HD.out _ F1' p1 AA.1 TWX.out.a TWX.out.pos.1 TWX.out.pos.2
          unfold uV at tdl
          generalize hf0 : ((AA.1).l.getD 0 Rw.zero).n = f0 at tdl
          generalize hl0 : (lastR (AA.1).l).n = l0 at tdl
          have HF0 := Box'.mk hf0
          have HL0 := Box'.mk hl0
          clear hf0 hl0
          go_wp2_with fail
          refine tdl.mono ?_
          rintro e w7 ⟨rfl, hb⟩
          have TW7 := Box'.mk (TWX.out.below KR.out hb)
          have TW8 := TW7.out.b
          obtain ⟨v2, hF2, hr, ho, hp, hm2⟩ := TW8
          obtain ⟨g, c2, rfl, hc2, _, hg, hcl⟩ := ho.cells hp
          generalize hln : (AA.1).l.length = n at *
          have HLN := Box'.mk hln
          clear hln
          have C6 : Box' (∀ wa, Below w7.heap.size w7 wa → wa.cell? ⟨p2, 1, none⟩ = some (.slice (some ⟨g, 0, none⟩) n c2)) := ⟨fun wa hb => (hr.below hb hr.lt).cell 1⟩
          have M0 : Box' (∀ wa, Below w7.heap.size w7 wa → wa.cell? ⟨g, 0, none⟩ = some (.int .u64 (f0.toNat : Int))) := ⟨fun wa hb => (hb.cell (p := ⟨g, 0, none⟩) hg).trans ((hcl _ _ (rowsC_at (AA.1).l 0 (by rw [HLN.out]; exact hp)).1).trans (by rw [HF0.out]; rfl))⟩
          have M6 : Box' (∀ wa, Below w7.heap.size w7 wa → wa.cell? ⟨g, (n - 1) * 3, none⟩ = some (.int .u64 (l0.toNat : Int))) := ⟨fun wa hb => (hb.cell (p := ⟨g, (n - 1) * 3, none⟩) hg).trans ((hcl _ _ (rowsC_at (AA.1).l (n - 1) (by rw [HLN.out]; omega)).1).trans (by have := HL0.out; unfold lastR at this; rw [HLN.out] at this; rw [this]; rfl))⟩
          clear tdl hb hr ho hcl TWX HF0 HL0 hF2
          go_upto_region 32 with (fail)
          refine wp_region_lex (fun wa => Below w7.heap.size w7 wa) (by kernel_rfl) (by kernel_rfl) (Below.refl _ _).drew ?_
          go_big_quiet_want
          go_big_quiet_op
          first | go_big_quiet_on | (refine ⟨_, fun _ _ => rfl, ?_⟩; go_big_quiet_on) | (refine ⟨_, fun _ _ _ => rfl, ?_⟩; go_big_quiet_on)
          go_big_quiet_want
          go_big_quiet_op
          first | go_big_quiet_on | (refine ⟨_, fun _ _ => rfl, ?_⟩; go_big_quiet_on) | (refine ⟨_, fun _ _ _ => rfl, ?_⟩; go_big_quiet_on)
          go_big_quiet_want
          go_big_quiet_op
          first | go_big_quiet_on | (refine ⟨_, fun _ _ => rfl, ?_⟩; go_big_quiet_on) | (refine ⟨_, fun _ _ _ => rfl, ?_⟩; go_big_quiet_on)
          go_big_quiet_want
          go_big_quiet_op
          first | go_big_quiet_on | (refine ⟨_, fun _ _ => rfl, ?_⟩; go_big_quiet_on) | (refine ⟨_, fun _ _ _ => rfl, ?_⟩; go_big_quiet_on)
          go_big_quiet_want
          refine qC_load32 (.tmp 138) rfl p2 1 _ rfl C6.out ?_
          simp only [Act.put, List.setIfInBounds_toArray, List.set_cons_succ, List.set_cons_zero]
          go_big_quiet_on
          go_big_quiet_want
          go_big_quiet_op
          first | go_big_quiet_on | (refine ⟨_, fun _ _ => rfl, ?_⟩; go_big_quiet_on) | (refine ⟨_, fun _ _ _ => rfl, ?_⟩; go_big_quiet_on)
          go_big_quiet_want
          go_big_quiet_op
          first | go_big_quiet_on | (refine ⟨_, fun _ _ => rfl, ?_⟩; go_big_quiet_on) | (refine ⟨_, fun _ _ _ => rfl, ?_⟩; go_big_quiet_on)
          go_big_quiet_want
          refine qC_load29 (.tmp 141) rfl g 0 _ rfl M0.out ?_
          simp only [Act.put, List.setIfInBounds_toArray, List.set_cons_succ, List.set_cons_zero]
          go_big_quiet_on
          go_big_quiet_want
          refine qC_of (.bool false) (fun wq hC => by unfold execOp; simp [go_sem]) ?_
          simp only [Act.put, List.setIfInBounds_toArray, List.set_cons_succ, List.set_cons_zero]
          go_big_quiet_on
          go_big_quiet_want
          go_big_quiet_op
          first | go_big_quiet_on | (refine ⟨_, fun _ _ => rfl, ?_⟩; go_big_quiet_on) | (refine ⟨_, fun _ _ _ => rfl, ?_⟩; go_big_quiet_on)
          go_big_quiet_want
          go_big_quiet_op
          first | go_big_quiet_on | (refine ⟨_, fun _ _ => rfl, ?_⟩; go_big_quiet_on) | (refine ⟨_, fun _ _ _ => rfl, ?_⟩; go_big_quiet_on)
          go_big_quiet_want
          go_big_quiet_op
          first | go_big_quiet_on | (refine ⟨_, fun _ _ => rfl, ?_⟩; go_big_quiet_on) | (refine ⟨_, fun _ _ _ => rfl, ?_⟩; go_big_quiet_on)
          go_big_quiet_want
          go_big_quiet_op
          first | go_big_quiet_on | (refine ⟨_, fun _ _ => rfl, ?_⟩; go_big_quiet_on) | (refine ⟨_, fun _ _ _ => rfl, ?_⟩; go_big_quiet_on)
          go_big_quiet_want
          go_big_quiet_op
          first | go_big_quiet_on | (refine ⟨_, fun _ _ => rfl, ?_⟩; go_big_quiet_on) | (refine ⟨_, fun _ _ _ => rfl, ?_⟩; go_big_quiet_on)
          go_big_quiet_want
          refine qC_load32 (.tmp 148) rfl p2 1 _ rfl C6.out ?_
          simp only [Act.put, List.setIfInBounds_toArray, List.set_cons_succ, List.set_cons_zero]
          go_big_quiet_on
          go_big_quiet_want
          go_big_quiet_op
          first | go_big_quiet_on | (refine ⟨_, fun _ _ => rfl, ?_⟩; go_big_quiet_on) | (refine ⟨_, fun _ _ _ => rfl, ?_⟩; go_big_quiet_on)
          go_big_quiet_want
          go_big_quiet_op
          first | go_big_quiet_on | (refine ⟨_, fun _ _ => rfl, ?_⟩; go_big_quiet_on) | (refine ⟨_, fun _ _ _ => rfl, ?_⟩; go_big_quiet_on)
          go_big_quiet_want
          go_big_quiet_op
          first | go_big_quiet_on | (refine ⟨_, fun _ _ => rfl, ?_⟩; go_big_quiet_on) | (refine ⟨_, fun _ _ _ => rfl, ?_⟩; go_big_quiet_on)
          go_big_quiet_want
          refine qC_load32 (.tmp 152) rfl p2 1 _ rfl C6.out ?_
          simp only [Act.put, List.setIfInBounds_toArray, List.set_cons_succ, List.set_cons_zero]
          go_big_quiet_on
          go_big_quiet_want
          go_big_quiet_op
          first | go_big_quiet_on | (refine ⟨_, fun _ _ => rfl, ?_⟩; go_big_quiet_on) | (refine ⟨_, fun _ _ _ => rfl, ?_⟩; go_big_quiet_on)
          go_big_quiet_want
          go_big_quiet_op
          first | go_big_quiet_on | (refine ⟨_, fun _ _ => rfl, ?_⟩; go_big_quiet_on) | (refine ⟨_, fun _ _ _ => rfl, ?_⟩; go_big_quiet_on)
          go_big_quiet_want
          go_big_quiet_op
          first | go_big_quiet_on | (refine ⟨_, fun _ _ => rfl, ?_⟩; go_big_quiet_on) | (refine ⟨_, fun _ _ _ => rfl, ?_⟩; go_big_quiet_on)
          go_big_quiet_want
          go_big_quiet_op
          first | go_big_quiet_on | (refine ⟨_, fun _ _ => rfl, ?_⟩; go_big_quiet_on) | (refine ⟨_, fun _ _ _ => rfl, ?_⟩; go_big_quiet_on)
          go_big_quiet_want
          refine qC_load29 (.tmp 157) rfl g ((n - 1) * 3) _ rfl M6.out ?_
          simp only [Act.put, List.setIfInBounds_toArray, List.set_cons_succ, List.set_cons_zero]
          go_big_quiet_on
          go_big_quiet_want
          refine qC_of (.bool false) (fun wq hC => by unfold execOp; simp [go_sem]) ?_
          simp only [Act.put, List.setIfInBounds_toArray, List.set_cons_succ, List.set_cons_zero]
          go_big_quiet_on
          go_big_quiet_want
          go_big_quiet_op
          first | go_big_quiet_on | (refine ⟨_, fun _ _ => rfl, ?_⟩; go_big_quiet_on) | (refine ⟨_, fun _ _ _ => rfl, ?_⟩; go_big_quiet_on)
          go_big_quiet_want
          go_big_quiet_op
          first | go_big_quiet_on | (refine ⟨_, fun _ _ => rfl, ?_⟩; go_big_quiet_on) | (refine ⟨_, fun _ _ _ => rfl, ?_⟩; go_big_quiet_on)
          go_big_quiet_want
          go_big_quiet_op
          first | go_big_quiet_on | (refine ⟨_, fun _ _ => rfl, ?_⟩; go_big_quiet_on) | (refine ⟨_, fun _ _ _ => rfl, ?_⟩; go_big_quiet_on)
          go_big_quiet_want
          go_big_quiet_op
          first | go_big_quiet_on | (refine ⟨_, fun _ _ => rfl, ?_⟩; go_big_quiet_on) | (refine ⟨_, fun _ _ _ => rfl, ?_⟩; go_big_quiet_on)
          go_big_quiet_want
          go_big_quiet_op
          first | go_big_quiet_on | (refine ⟨_, fun _ _ => rfl, ?_⟩; go_big_quiet_on) | (refine ⟨_, fun _ _ _ => rfl, ?_⟩; go_big_quiet_on)
          go_big_quiet_want
          go_big_quiet_op
          first | go_big_quiet_on | (refine ⟨_, fun _ _ => rfl, ?_⟩; go_big_quiet_on) | (refine ⟨_, fun _ _ _ => rfl, ?_⟩; go_big_quiet_on)
          go_big_quiet_want
          refine qC_load32 (.tmp 165) rfl p2 1 _ rfl C6.out ?_
          simp only [Act.put, List.setIfInBounds_toArray, List.set_cons_succ, List.set_cons_zero]
          go_big_quiet_on
          go_big_quiet_want
          go_big_quiet_op
          first | go_big_quiet_on | (refine ⟨_, fun _ _ => rfl, ?_⟩; go_big_quiet_on) | (refine ⟨_, fun _ _ _ => rfl, ?_⟩; go_big_quiet_on)
          go_big_quiet_want
          refine qC_of (.bool false) (fun wq hC => by unfold execOp; simp [go_sem]) ?_
          simp only [Act.put, List.setIfInBounds_toArray, List.set_cons_succ, List.set_cons_zero]
          go_big_quiet_on
          go_big_quiet_want
          go_big_quiet_op
          first | go_big_quiet_on | (refine ⟨_, fun _ _ => rfl, ?_⟩; go_big_quiet_on) | (refine ⟨_, fun _ _ _ => rfl, ?_⟩; go_big_quiet_on)
          refine wpQuiet_nil ?_
          intro wz hz
          have TWZ := Box'.mk (TW7.out.below KR.out hz)
          clear hz C6 M0 M6 TW7
          go_wp2_with fail
          exact ⟨⟨k + 1, nw, AA.1, F1', F2', rfl, by go_num, by omega, TWZ⟩, by simp [intOf]; omega⟩
      by_cases e2 : xc.toNat = 2
      · obtain rfl : xc = 2 := UInt8.toNat_inj.1 (by simpa using e2)
        rw [show (((2 : UInt8).toNat : Nat) : Int) = 2 from rfl] at TWA RA q0
        clear e0 e3 e1 e2 hxc
        obtain ⟨wx, hwx⟩ : ∃ wx, wx = wr.alloc (.cells #[.int .u8 2, .int .u64 (xa.toNat : Int), .int .i64 xb, .int .i64 xd, .string ⟨xt.toArray⟩] 31) := ⟨_, rfl⟩
        rw [← hwx] at TWA RA
        have HWX := Box'.mk hwx
        have x1 : wx.cell? ⟨wr.heap.size, 1, none⟩ = some (.int .u64 (xa.toNat : Int)) := RA.out.cell 1
        have x2 : wx.cell? ⟨wr.heap.size, 2, none⟩ = some (.int .i64 xb) := RA.out.cell 2
        have x3 : wx.cell? ⟨wr.heap.size, 3, none⟩ = some (.int .i64 xd) := RA.out.cell 3
        rw [hwx] at x1 x2 x3
        have TN : Box' (sd.now.length ≤ 4398046511104 ∧ ∀ y, y ∈ sd.l → y.t.length ≤ 4398046511104 ∧ y.n.toNat ≤ 4398046511104) := ⟨⟨by have := TWA.out.tn; have := BX.out; have := BM.out; omega, fun y hy => by have := TWA.out.tl y hy; have := BX.out; have := BM.out; omega⟩⟩
        clear hwx
        by_cases hov : nw.toNat + xa.toNat < 18446744073709551616
        · have hy : (((nw + xa).toNat : Nat) : Int) = (nw.toNat : Int) + (xa.toNat : Int) := by rw [UInt64.toNat_add]; omega
          have HY := Box'.mk hy
          clear hy
          by_cases h7 : xb = -7
          · subst h7
            have t1 := HT.out wx F1 p1 sd xa (-7) xd TWA.out.a TWA.out.pos.1 TWA.out.pos.2 TN.out.1 TN.out.2 hb1 hb2 hd1 hd2
            have T2 := Box'.mk (fun wz (hz : SnR wz F2 p2 sd) => tick_any wz F2 p2 sd xa (-7) xd hz (fun y hy => (TN.out.2 y hy).1) TN.out.1 hb1 hb2 hd1 hd2)
            have TX := Box'.mk (tickF_txt sd xa (-7) xd _ TWA.out.pos.1 TWA.out.tn TWA.out.tl)
            unfold uV at t1 T2
            generalize tickF sd xa (-7) xd = TT at *
            obtain ⟨sd', ⟨i0, i1, i2, i3, dif⟩, ok, er⟩ := TT
            simp only at t1 T2 TX
            rw [HWX.out] at t1
            go_wp2_with fail
            refine t1.mono ?_
            rw [← HWX.out]
            rintro e w3 ⟨F1', vx, rfl, hP, hi, hT, hN⟩
            have o := TWA.out.first hT hN
            obtain ⟨ax, cx, rfl⟩ := hi.slice
            have ba : Below w3.heap.size w3 (w3.alloc (.cells #[.int .u64 (i0.toNat : Int), .int .u64 (i1.toNat : Int), .int .u64 (i2.toNat : Int), .int .u64 (i3.toNat : Int), (.slice ax dif.length cx)] 41)) := (Below.refl _ _).alloc (Nat.le_refl _) _
            have ra := (RA.out.past NA.out.1 hT hN).1
            have RA3 := Box'.mk (ra.below ba ra.lt)
            have RX := Box'.mk (Row.new w3 41 #[.int .u64 (i0.toNat : Int), .int .u64 (i1.toNat : Int), .int .u64 (i2.toNat : Int), .int .u64 (i3.toNat : Int), (.slice ax dif.length cx)])
            have HP := Box'.mk (KR.out.below hP ba)
            have sn := SnR.keepR.below o.1 ba
            have BE := Box'.mk (o.2.2.trans (ba.mono o.2.2.size))
            have D1 := Box'.mk o.2.1
            have IX : Box' (InX (fun b => wx.heap.size ≤ b ∧ b < w3.heap.size) (w3.alloc (.cells #[.int .u64 (i0.toNat : Int), .int .u64 (i1.toNat : Int), .int .u64 (i2.toNat : Int), .int .u64 (i3.toNat : Int), (.slice ax dif.length cx)] 41)) (.slice ax dif.length cx) dif) := ⟨hi.keep fun b ⟨h1, h2, h3⟩ => ⟨⟨h1, h2⟩, ba.block b h2⟩⟩
            have hs3 := hT.size
            have SZ : Box' (wx.heap.size ≤ w3.heap.size ∧ (w3.alloc (.cells #[.int .u64 (i0.toNat : Int), .int .u64 (i1.toNat : Int), .int .u64 (i2.toNat : Int), .int .u64 (i3.toNat : Int), (.slice ax dif.length cx)] 41)).heap.size = w3.heap.size + 1) := ⟨⟨hs3, by simp⟩⟩
            have t2 := T2.out _ sn
            have y2 : (w3.alloc (.cells #[.int .u64 (i0.toNat : Int), .int .u64 (i1.toNat : Int), .int .u64 (i2.toNat : Int), .int .u64 (i3.toNat : Int), (.slice ax dif.length cx)] 41)).cell? ⟨wr.heap.size, 2, none⟩ = some (.int .i64 (-7)) := RA3.out.cell 2
            have y3 : (w3.alloc (.cells #[.int .u64 (i0.toNat : Int), .int .u64 (i1.toNat : Int), .int .u64 (i2.toNat : Int), .int .u64 (i3.toNat : Int), (.slice ax dif.length cx)] 41)).cell? ⟨wr.heap.size, 3, none⟩ = some (.int .i64 xd) := RA3.out.cell 3
            clear t1 hP hi hT hN o ba ra sn T2 hs3 x1 x2 x3 RA
            unfold insA uV at *
            simp only at t2
            go_wp2_with fail
            refine t2.mono ?_
            generalize w3.heap.size = bx at *
            rintro e w4 ⟨F2', vy, rfl, hP, hi, hT, hN⟩
            have TWX := Box'.mk ((Tw.second (B' := t.length + txtK xs k + 1) KR.out HP.out D1.out TWA.out.d2 BE.out hP hT hN TX.out.1 TX.out.2).more (B' := t.length + txtK xs (k + 1)) (by have := BX.out; omega))
            have N2 : ∀ b, wx.heap.size ≤ b → ¬ F2 b := fun b hb h => by have := TWA.out.b.lt b h; omega
            have jx : InB w4.heap.size w4 (.slice ax dif.length cx) dif := (IX.out.keep (S' := fun b => b < w4.heap.size) fun b ⟨h1, h2⟩ => by
              have s1 := SZ.out.2
              have s2 := hT.size
              exact ⟨by omega, hT.block b (by omega) (N2 b h1)⟩).inB fun b h => h
            have rx4 := (RX.out.past (N2 _ SZ.out.1) hT hN).1
            obtain ⟨ay, cy, rfl⟩ := hi.slice
            have jy : InB w4.heap.size w4 (.slice ay dif.length cy) dif := hi.inB fun b h => h.2.1
            have bb : Below w4.heap.size w4 (w4.alloc (.cells #[.int .u64 (i0.toNat : Int), .int .u64 (i1.toNat : Int), .int .u64 (i2.toNat : Int), .int .u64 (i3.toNat : Int), (.slice ay dif.length cy)] 41)) := (Below.refl _ _).alloc (Nat.le_refl _) _
            have i1' := instr_eq ⟨i0, i1, i2, i3, dif⟩ (.slice ax dif.length cx) (.slice ay dif.length cy) _ ((jx.below bb (Nat.le_refl _)).up bb.size) ((jy.below bb (Nat.le_refl _)).up bb.size)
            have rx5 := rx4.below bb rx4.lt
            have ry5 := Row.new w4 41 #[.int .u64 (i0.toNat : Int), .int .u64 (i1.toNat : Int), .int .u64 (i2.toNat : Int), .int .u64 (i3.toNat : Int), (.slice ay dif.length cy)]
            have a0 : (w4.alloc (.cells #[.int .u64 (i0.toNat : Int), .int .u64 (i1.toNat : Int), .int .u64 (i2.toNat : Int), .int .u64 (i3.toNat : Int), (.slice ay dif.length cy)] 41)).cell? ⟨bx, 0, none⟩ = some (.int .u64 (i0.toNat : Int)) := rx5.cell 0
            have a1 : (w4.alloc (.cells #[.int .u64 (i0.toNat : Int), .int .u64 (i1.toNat : Int), .int .u64 (i2.toNat : Int), .int .u64 (i3.toNat : Int), (.slice ay dif.length cy)] 41)).cell? ⟨bx, 1, none⟩ = some (.int .u64 (i1.toNat : Int)) := rx5.cell 1
            have a2 : (w4.alloc (.cells #[.int .u64 (i0.toNat : Int), .int .u64 (i1.toNat : Int), .int .u64 (i2.toNat : Int), .int .u64 (i3.toNat : Int), (.slice ay dif.length cy)] 41)).cell? ⟨bx, 2, none⟩ = some (.int .u64 (i2.toNat : Int)) := rx5.cell 2
            have a3 : (w4.alloc (.cells #[.int .u64 (i0.toNat : Int), .int .u64 (i1.toNat : Int), .int .u64 (i2.toNat : Int), .int .u64 (i3.toNat : Int), (.slice ay dif.length cy)] 41)).cell? ⟨bx, 3, none⟩ = some (.int .u64 (i3.toNat : Int)) := rx5.cell 3
            have a4 : (w4.alloc (.cells #[.int .u64 (i0.toNat : Int), .int .u64 (i1.toNat : Int), .int .u64 (i2.toNat : Int), .int .u64 (i3.toNat : Int), (.slice ay dif.length cy)] 41)).cell? ⟨bx, 4, none⟩ = some (.slice ax dif.length cx) := rx5.cell 4
            replace TWX := Box'.mk (TWX.out.below KR.out bb)
            unfold insA uV at i1'
            simp only at i1'
            clear t2 hP hi hT hN N2 jx jy rx4 rx5 ry5 bb HP D1 BE IX SZ RX RA3 TX TWA TN HWX y2 y3 NA
            go_wp2_with fail
            refine i1'.mono ?_
            rintro e w5 ⟨rfl, hb⟩
            replace TWX := Box'.mk (TWX.out.below KR.out hb)
            clear i1' hb a0 a1 a2 a3 a4
            have tdl := HD.out _ F1' p1 sd' TWX.out.a TWX.out.pos.1 TWX.out.pos.2
            unfold uV at tdl
            generalize hf0 : ((sd').l.getD 0 Rw.zero).n = f0 at tdl
            generalize hl0 : (lastR (sd').l).n = l0 at tdl
            have HF0 := Box'.mk hf0
            have HL0 := Box'.mk hl0
            clear hf0 hl0
            go_wp2_with fail
            refine tdl.mono ?_
            rintro e w7 ⟨rfl, hb⟩
            have TW7 := Box'.mk (TWX.out.below KR.out hb)
            have TW8 := TW7.out.b
            obtain ⟨v2, hF2, hr, ho, hp, hm2⟩ := TW8
            obtain ⟨g, c2, rfl, hc2, _, hg, hcl⟩ := ho.cells hp
            generalize hln : (sd').l.length = n at *
            have HLN := Box'.mk hln
            clear hln
            have C6 : Box' (∀ wa, Below w7.heap.size w7 wa → wa.cell? ⟨p2, 1, none⟩ = some (.slice (some ⟨g, 0, none⟩) n c2)) := ⟨fun wa hb => (hr.below hb hr.lt).cell 1⟩
            have M0 : Box' (∀ wa, Below w7.heap.size w7 wa → wa.cell? ⟨g, 0, none⟩ = some (.int .u64 (f0.toNat : Int))) := ⟨fun wa hb => (hb.cell (p := ⟨g, 0, none⟩) hg).trans ((hcl _ _ (rowsC_at (sd').l 0 (by rw [HLN.out]; exact hp)).1).trans (by rw [HF0.out]; rfl))⟩
            have M6 : Box' (∀ wa, Below w7.heap.size w7 wa → wa.cell? ⟨g, (n - 1) * 3, none⟩ = some (.int .u64 (l0.toNat : Int))) := ⟨fun wa hb => (hb.cell (p := ⟨g, (n - 1) * 3, none⟩) hg).trans ((hcl _ _ (rowsC_at (sd').l (n - 1) (by rw [HLN.out]; omega)).1).trans (by have := HL0.out; unfold lastR at this; rw [HLN.out] at this; rw [this]; rfl))⟩
            clear tdl hb hr ho hcl TWX HF0 HL0 hF2
            go_upto_region 32 with (fail)
            refine wp_region_lex (fun wa => Below w7.heap.size w7 wa) (by kernel_rfl) (by kernel_rfl) (Below.refl _ _).drew ?_
            go_big_quiet_want
            go_big_quiet_op
            first | go_big_quiet_on | (refine ⟨_, fun _ _ => rfl, ?_⟩; go_big_quiet_on) | (refine ⟨_, fun _ _ _ => rfl, ?_⟩; go_big_quiet_on)
            go_big_quiet_want
            go_big_quiet_op
            first | go_big_quiet_on | (refine ⟨_, fun _ _ => rfl, ?_⟩; go_big_quiet_on) | (refine ⟨_, fun _ _ _ => rfl, ?_⟩; go_big_quiet_on)
            go_big_quiet_want
            go_big_quiet_op
            first | go_big_quiet_on | (refine ⟨_, fun _ _ => rfl, ?_⟩; go_big_quiet_on) | (refine ⟨_, fun _ _ _ => rfl, ?_⟩; go_big_quiet_on)
            go_big_quiet_want
            go_big_quiet_op
            first | go_big_quiet_on | (refine ⟨_, fun _ _ => rfl, ?_⟩; go_big_quiet_on) | (refine ⟨_, fun _ _ _ => rfl, ?_⟩; go_big_quiet_on)
            go_big_quiet_want
            refine qC_load32 (.tmp 138) rfl p2 1 _ rfl C6.out ?_
            simp only [Act.put, List.setIfInBounds_toArray, List.set_cons_succ, List.set_cons_zero]
            go_big_quiet_on
            go_big_quiet_want
            go_big_quiet_op
            first | go_big_quiet_on | (refine ⟨_, fun _ _ => rfl, ?_⟩; go_big_quiet_on) | (refine ⟨_, fun _ _ _ => rfl, ?_⟩; go_big_quiet_on)
            go_big_quiet_want
            go_big_quiet_op
            first | go_big_quiet_on | (refine ⟨_, fun _ _ => rfl, ?_⟩; go_big_quiet_on) | (refine ⟨_, fun _ _ _ => rfl, ?_⟩; go_big_quiet_on)
            go_big_quiet_want
            refine qC_load29 (.tmp 141) rfl g 0 _ rfl M0.out ?_
            simp only [Act.put, List.setIfInBounds_toArray, List.set_cons_succ, List.set_cons_zero]
            go_big_quiet_on
            go_big_quiet_want
            refine qC_of (.bool false) (fun wq hC => by unfold execOp; simp [go_sem]) ?_
            simp only [Act.put, List.setIfInBounds_toArray, List.set_cons_succ, List.set_cons_zero]
            go_big_quiet_on
            go_big_quiet_want
            go_big_quiet_op
            first | go_big_quiet_on | (refine ⟨_, fun _ _ => rfl, ?_⟩; go_big_quiet_on) | (refine ⟨_, fun _ _ _ => rfl, ?_⟩; go_big_quiet_on)
            go_big_quiet_want
            go_big_quiet_op
            first | go_big_quiet_on | (refine ⟨_, fun _ _ => rfl, ?_⟩; go_big_quiet_on) | (refine ⟨_, fun _ _ _ => rfl, ?_⟩; go_big_quiet_on)
            go_big_quiet_want
            go_big_quiet_op
            first | go_big_quiet_on | (refine ⟨_, fun _ _ => rfl, ?_⟩; go_big_quiet_on) | (refine ⟨_, fun _ _ _ => rfl, ?_⟩; go_big_quiet_on)
            go_big_quiet_want
            go_big_quiet_op
            first | go_big_quiet_on | (refine ⟨_, fun _ _ => rfl, ?_⟩; go_big_quiet_on) | (refine ⟨_, fun _ _ _ => rfl, ?_⟩; go_big_quiet_on)
            go_big_quiet_want
            go_big_quiet_op
            first | go_big_quiet_on | (refine ⟨_, fun _ _ => rfl, ?_⟩; go_big_quiet_on) | (refine ⟨_, fun _ _ _ => rfl, ?_⟩; go_big_quiet_on)
            go_big_quiet_want
            refine qC_load32 (.tmp 148) rfl p2 1 _ rfl C6.out ?_
            simp only [Act.put, List.setIfInBounds_toArray, List.set_cons_succ, List.set_cons_zero]
            go_big_quiet_on
            go_big_quiet_want
            go_big_quiet_op
            first | go_big_quiet_on | (refine ⟨_, fun _ _ => rfl, ?_⟩; go_big_quiet_on) | (refine ⟨_, fun _ _ _ => rfl, ?_⟩; go_big_quiet_on)
            go_big_quiet_want
            go_big_quiet_op
            first | go_big_quiet_on | (refine ⟨_, fun _ _ => rfl, ?_⟩; go_big_quiet_on) | (refine ⟨_, fun _ _ _ => rfl, ?_⟩; go_big_quiet_on)
            go_big_quiet_want
            go_big_quiet_op
            first | go_big_quiet_on | (refine ⟨_, fun _ _ => rfl, ?_⟩; go_big_quiet_on) | (refine ⟨_, fun _ _ _ => rfl, ?_⟩; go_big_quiet_on)
            go_big_quiet_want
            refine qC_load32 (.tmp 152) rfl p2 1 _ rfl C6.out ?_
            simp only [Act.put, List.setIfInBounds_toArray, List.set_cons_succ, List.set_cons_zero]
            go_big_quiet_on
            go_big_quiet_want
            go_big_quiet_op
            first | go_big_quiet_on | (refine ⟨_, fun _ _ => rfl, ?_⟩; go_big_quiet_on) | (refine ⟨_, fun _ _ _ => rfl, ?_⟩; go_big_quiet_on)
            go_big_quiet_want
            go_big_quiet_op
            first | go_big_quiet_on | (refine ⟨_, fun _ _ => rfl, ?_⟩; go_big_quiet_on) | (refine ⟨_, fun _ _ _ => rfl, ?_⟩; go_big_quiet_on)
            go_big_quiet_want
            go_big_quiet_op
            first | go_big_quiet_on | (refine ⟨_, fun _ _ => rfl, ?_⟩; go_big_quiet_on) | (refine ⟨_, fun _ _ _ => rfl, ?_⟩; go_big_quiet_on)
            go_big_quiet_want
            go_big_quiet_op
            first | go_big_quiet_on | (refine ⟨_, fun _ _ => rfl, ?_⟩; go_big_quiet_on) | (refine ⟨_, fun _ _ _ => rfl, ?_⟩; go_big_quiet_on)
            go_big_quiet_want
            refine qC_load29 (.tmp 157) rfl g ((n - 1) * 3) _ rfl M6.out ?_
            simp only [Act.put, List.setIfInBounds_toArray, List.set_cons_succ, List.set_cons_zero]
            go_big_quiet_on
            go_big_quiet_want
            refine qC_of (.bool false) (fun wq hC => by unfold execOp; simp [go_sem]) ?_
            simp only [Act.put, List.setIfInBounds_toArray, List.set_cons_succ, List.set_cons_zero]
            go_big_quiet_on
            go_big_quiet_want
            go_big_quiet_op
            first | go_big_quiet_on | (refine ⟨_, fun _ _ => rfl, ?_⟩; go_big_quiet_on) | (refine ⟨_, fun _ _ _ => rfl, ?_⟩; go_big_quiet_on)
            go_big_quiet_want
            go_big_quiet_op
            first | go_big_quiet_on | (refine ⟨_, fun _ _ => rfl, ?_⟩; go_big_quiet_on) | (refine ⟨_, fun _ _ _ => rfl, ?_⟩; go_big_quiet_on)
            go_big_quiet_want
            go_big_quiet_op
            first | go_big_quiet_on | (refine ⟨_, fun _ _ => rfl, ?_⟩; go_big_quiet_on) | (refine ⟨_, fun _ _ _ => rfl, ?_⟩; go_big_quiet_on)
            go_big_quiet_want
            go_big_quiet_op
            first | go_big_quiet_on | (refine ⟨_, fun _ _ => rfl, ?_⟩; go_big_quiet_on) | (refine ⟨_, fun _ _ _ => rfl, ?_⟩; go_big_quiet_on)
            go_big_quiet_want
            go_big_quiet_op
            first | go_big_quiet_on | (refine ⟨_, fun _ _ => rfl, ?_⟩; go_big_quiet_on) | (refine ⟨_, fun _ _ _ => rfl, ?_⟩; go_big_quiet_on)
            go_big_quiet_want
            go_big_quiet_op
            first | go_big_quiet_on | (refine ⟨_, fun _ _ => rfl, ?_⟩; go_big_quiet_on) | (refine ⟨_, fun _ _ _ => rfl, ?_⟩; go_big_quiet_on)
            go_big_quiet_want
            refine qC_load32 (.tmp 165) rfl p2 1 _ rfl C6.out ?_
            simp only [Act.put, List.setIfInBounds_toArray, List.set_cons_succ, List.set_cons_zero]
            go_big_quiet_on
            go_big_quiet_want
            go_big_quiet_op
            first | go_big_quiet_on | (refine ⟨_, fun _ _ => rfl, ?_⟩; go_big_quiet_on) | (refine ⟨_, fun _ _ _ => rfl, ?_⟩; go_big_quiet_on)
            go_big_quiet_want
            refine qC_of (.bool false) (fun wq hC => by unfold execOp; simp [go_sem]) ?_
            simp only [Act.put, List.setIfInBounds_toArray, List.set_cons_succ, List.set_cons_zero]
            go_big_quiet_on
            go_big_quiet_want
            go_big_quiet_op
            first | go_big_quiet_on | (refine ⟨_, fun _ _ => rfl, ?_⟩; go_big_quiet_on) | (refine ⟨_, fun _ _ _ => rfl, ?_⟩; go_big_quiet_on)
            refine wpQuiet_nil ?_
            intro wz hz
            have TWZ := Box'.mk (TW7.out.below KR.out hz)
            clear hz C6 M0 M6 TW7
            go_wp2_with fail
            exact ⟨⟨k + 1, (nw + xa), sd', F1', F2', by rw [HY.out], by go_num, by omega, TWZ⟩, by simp [intOf]; omega⟩
          · have t1 := HT.out wx F1 p1 sd (nw + xa) xb xd TWA.out.a TWA.out.pos.1 TWA.out.pos.2 TN.out.1 TN.out.2 hb1 hb2 hd1 hd2
            have T2 := Box'.mk (fun wz (hz : SnR wz F2 p2 sd) => tick_any wz F2 p2 sd (nw + xa) xb xd hz (fun y hy => (TN.out.2 y hy).1) TN.out.1 hb1 hb2 hd1 hd2)
            have TX := Box'.mk (tickF_txt sd (nw + xa) xb xd _ TWA.out.pos.1 TWA.out.tn TWA.out.tl)
            unfold uV at t1 T2
            rw [HY.out] at t1
            have T2' := T2.out
            simp only [HY.out] at T2'
            replace T2 := Box'.mk T2'
            clear T2'
            generalize tickF sd (nw + xa) xb xd = TT at *
            obtain ⟨sd', ⟨i0, i1, i2, i3, dif⟩, ok, er⟩ := TT
            simp only at t1 T2 TX
            rw [HWX.out] at t1
            go_wp2_with fail
            refine t1.mono ?_
            rw [← HWX.out]
            rintro e w3 ⟨F1', vx, rfl, hP, hi, hT, hN⟩
            have o := TWA.out.first hT hN
            obtain ⟨ax, cx, rfl⟩ := hi.slice
            have ba : Below w3.heap.size w3 (w3.alloc (.cells #[.int .u64 (i0.toNat : Int), .int .u64 (i1.toNat : Int), .int .u64 (i2.toNat : Int), .int .u64 (i3.toNat : Int), (.slice ax dif.length cx)] 41)) := (Below.refl _ _).alloc (Nat.le_refl _) _
            have ra := (RA.out.past NA.out.1 hT hN).1
            have RA3 := Box'.mk (ra.below ba ra.lt)
            have RX := Box'.mk (Row.new w3 41 #[.int .u64 (i0.toNat : Int), .int .u64 (i1.toNat : Int), .int .u64 (i2.toNat : Int), .int .u64 (i3.toNat : Int), (.slice ax dif.length cx)])
            have HP := Box'.mk (KR.out.below hP ba)
            have sn := SnR.keepR.below o.1 ba
            have BE := Box'.mk (o.2.2.trans (ba.mono o.2.2.size))
            have D1 := Box'.mk o.2.1
            have IX : Box' (InX (fun b => wx.heap.size ≤ b ∧ b < w3.heap.size) (w3.alloc (.cells #[.int .u64 (i0.toNat : Int), .int .u64 (i1.toNat : Int), .int .u64 (i2.toNat : Int), .int .u64 (i3.toNat : Int), (.slice ax dif.length cx)] 41)) (.slice ax dif.length cx) dif) := ⟨hi.keep fun b ⟨h1, h2, h3⟩ => ⟨⟨h1, h2⟩, ba.block b h2⟩⟩
            have hs3 := hT.size
            have SZ : Box' (wx.heap.size ≤ w3.heap.size ∧ (w3.alloc (.cells #[.int .u64 (i0.toNat : Int), .int .u64 (i1.toNat : Int), .int .u64 (i2.toNat : Int), .int .u64 (i3.toNat : Int), (.slice ax dif.length cx)] 41)).heap.size = w3.heap.size + 1) := ⟨⟨hs3, by simp⟩⟩
            have t2 := T2.out _ sn
            have y2 : (w3.alloc (.cells #[.int .u64 (i0.toNat : Int), .int .u64 (i1.toNat : Int), .int .u64 (i2.toNat : Int), .int .u64 (i3.toNat : Int), (.slice ax dif.length cx)] 41)).cell? ⟨wr.heap.size, 2, none⟩ = some (.int .i64 xb) := RA3.out.cell 2
            have y3 : (w3.alloc (.cells #[.int .u64 (i0.toNat : Int), .int .u64 (i1.toNat : Int), .int .u64 (i2.toNat : Int), .int .u64 (i3.toNat : Int), (.slice ax dif.length cx)] 41)).cell? ⟨wr.heap.size, 3, none⟩ = some (.int .i64 xd) := RA3.out.cell 3
            clear t1 hP hi hT hN o ba ra sn T2 hs3 x1 x2 x3 RA
            unfold insA uV at *
            simp only at t2
            go_wp2_with fail
            refine t2.mono ?_
            generalize w3.heap.size = bx at *
            rintro e w4 ⟨F2', vy, rfl, hP, hi, hT, hN⟩
            have TWX := Box'.mk ((Tw.second (B' := t.length + txtK xs k + 1) KR.out HP.out D1.out TWA.out.d2 BE.out hP hT hN TX.out.1 TX.out.2).more (B' := t.length + txtK xs (k + 1)) (by have := BX.out; omega))
            have N2 : ∀ b, wx.heap.size ≤ b → ¬ F2 b := fun b hb h => by have := TWA.out.b.lt b h; omega
            have jx : InB w4.heap.size w4 (.slice ax dif.length cx) dif := (IX.out.keep (S' := fun b => b < w4.heap.size) fun b ⟨h1, h2⟩ => by
              have s1 := SZ.out.2
              have s2 := hT.size
              exact ⟨by omega, hT.block b (by omega) (N2 b h1)⟩).inB fun b h => h
            have rx4 := (RX.out.past (N2 _ SZ.out.1) hT hN).1
            obtain ⟨ay, cy, rfl⟩ := hi.slice
            have jy : InB w4.heap.size w4 (.slice ay dif.length cy) dif := hi.inB fun b h => h.2.1
            have bb : Below w4.heap.size w4 (w4.alloc (.cells #[.int .u64 (i0.toNat : Int), .int .u64 (i1.toNat : Int), .int .u64 (i2.toNat : Int), .int .u64 (i3.toNat : Int), (.slice ay dif.length cy)] 41)) := (Below.refl _ _).alloc (Nat.le_refl _) _
            have i1' := instr_eq ⟨i0, i1, i2, i3, dif⟩ (.slice ax dif.length cx) (.slice ay dif.length cy) _ ((jx.below bb (Nat.le_refl _)).up bb.size) ((jy.below bb (Nat.le_refl _)).up bb.size)
            have rx5 := rx4.below bb rx4.lt
            have ry5 := Row.new w4 41 #[.int .u64 (i0.toNat : Int), .int .u64 (i1.toNat : Int), .int .u64 (i2.toNat : Int), .int .u64 (i3.toNat : Int), (.slice ay dif.length cy)]
            have a0 : (w4.alloc (.cells #[.int .u64 (i0.toNat : Int), .int .u64 (i1.toNat : Int), .int .u64 (i2.toNat : Int), .int .u64 (i3.toNat : Int), (.slice ay dif.length cy)] 41)).cell? ⟨bx, 0, none⟩ = some (.int .u64 (i0.toNat : Int)) := rx5.cell 0
            have a1 : (w4.alloc (.cells #[.int .u64 (i0.toNat : Int), .int .u64 (i1.toNat : Int), .int .u64 (i2.toNat : Int), .int .u64 (i3.toNat : Int), (.slice ay dif.length cy)] 41)).cell? ⟨bx, 1, none⟩ = some (.int .u64 (i1.toNat : Int)) := rx5.cell 1
            have a2 : (w4.alloc (.cells #[.int .u64 (i0.toNat : Int), .int .u64 (i1.toNat : Int), .int .u64 (i2.toNat : Int), .int .u64 (i3.toNat : Int), (.slice ay dif.length cy)] 41)).cell? ⟨bx, 2, none⟩ = some (.int .u64 (i2.toNat : Int)) := rx5.cell 2
            have a3 : (w4.alloc (.cells #[.int .u64 (i0.toNat : Int), .int .u64 (i1.toNat : Int), .int .u64 (i2.toNat : Int), .int .u64 (i3.toNat : Int), (.slice ay dif.length cy)] 41)).cell? ⟨bx, 3, none⟩ = some (.int .u64 (i3.toNat : Int)) := rx5.cell 3
            have a4 : (w4.alloc (.cells #[.int .u64 (i0.toNat : Int), .int .u64 (i1.toNat : Int), .int .u64 (i2.toNat : Int), .int .u64 (i3.toNat : Int), (.slice ay dif.length cy)] 41)).cell? ⟨bx, 4, none⟩ = some (.slice ax dif.length cx) := rx5.cell 4
            replace TWX := Box'.mk (TWX.out.below KR.out bb)
            unfold insA uV at i1'
            simp only at i1'
            clear t2 hP hi hT hN N2 jx jy rx4 rx5 ry5 bb HP D1 BE IX SZ RX RA3 TX TWA TN HWX y2 y3 NA
            go_wp2_with fail
            refine i1'.mono ?_
            rintro e w5 ⟨rfl, hb⟩
            replace TWX := Box'.mk (TWX.out.below KR.out hb)
            clear i1' hb a0 a1 a2 a3 a4
            have tdl := HD.out _ F1' p1 sd' TWX.out.a TWX.out.pos.1 TWX.out.pos.2
            unfold uV at tdl
            generalize hf0 : ((sd').l.getD 0 Rw.zero).n = f0 at tdl
            generalize hl0 : (lastR (sd').l).n = l0 at tdl
            have HF0 := Box'.mk hf0
            have HL0 := Box'.mk hl0
            clear hf0 hl0
            go_wp2_with fail
            refine tdl.mono ?_
            rintro e w7 ⟨rfl, hb⟩
            have TW7 := Box'.mk (TWX.out.below KR.out hb)
            have TW8 := TW7.out.b
            obtain ⟨v2, hF2, hr, ho, hp, hm2⟩ := TW8
            obtain ⟨g, c2, rfl, hc2, _, hg, hcl⟩ := ho.cells hp
            generalize hln : (sd').l.length = n at *
            have HLN := Box'.mk hln
            clear hln
            have C6 : Box' (∀ wa, Below w7.heap.size w7 wa → wa.cell? ⟨p2, 1, none⟩ = some (.slice (some ⟨g, 0, none⟩) n c2)) := ⟨fun wa hb => (hr.below hb hr.lt).cell 1⟩
            have M0 : Box' (∀ wa, Below w7.heap.size w7 wa → wa.cell? ⟨g, 0, none⟩ = some (.int .u64 (f0.toNat : Int))) := ⟨fun wa hb => (hb.cell (p := ⟨g, 0, none⟩) hg).trans ((hcl _ _ (rowsC_at (sd').l 0 (by rw [HLN.out]; exact hp)).1).trans (by rw [HF0.out]; rfl))⟩
            have M6 : Box' (∀ wa, Below w7.heap.size w7 wa → wa.cell? ⟨g, (n - 1) * 3, none⟩ = some (.int .u64 (l0.toNat : Int))) := ⟨fun wa hb => (hb.cell (p := ⟨g, (n - 1) * 3, none⟩) hg).trans ((hcl _ _ (rowsC_at (sd').l (n - 1) (by rw [HLN.out]; omega)).1).trans (by have := HL0.out; unfold lastR at this; rw [HLN.out] at this; rw [this]; rfl))⟩
            clear tdl hb hr ho hcl TWX HF0 HL0 hF2
            go_upto_region 32 with (fail)
            refine wp_region_lex (fun wa => Below w7.heap.size w7 wa) (by kernel_rfl) (by kernel_rfl) (Below.refl _ _).drew ?_
            go_big_quiet_want
            go_big_quiet_op
            first | go_big_quiet_on | (refine ⟨_, fun _ _ => rfl, ?_⟩; go_big_quiet_on) | (refine ⟨_, fun _ _ _ => rfl, ?_⟩; go_big_quiet_on)
            go_big_quiet_want
            go_big_quiet_op
            first | go_big_quiet_on | (refine ⟨_, fun _ _ => rfl, ?_⟩; go_big_quiet_on) | (refine ⟨_, fun _ _ _ => rfl, ?_⟩; go_big_quiet_on)
            go_big_quiet_want
            go_big_quiet_op
            first | go_big_quiet_on | (refine ⟨_, fun _ _ => rfl, ?_⟩; go_big_quiet_on) | (refine ⟨_, fun _ _ _ => rfl, ?_⟩; go_big_quiet_on)
            go_big_quiet_want
            go_big_quiet_op
            first | go_big_quiet_on | (refine ⟨_, fun _ _ => rfl, ?_⟩; go_big_quiet_on) | (refine ⟨_, fun _ _ _ => rfl, ?_⟩; go_big_quiet_on)
            go_big_quiet_want
            refine qC_load32 (.tmp 138) rfl p2 1 _ rfl C6.out ?_
            simp only [Act.put, List.setIfInBounds_toArray, List.set_cons_succ, List.set_cons_zero]
            go_big_quiet_on
            go_big_quiet_want
            go_big_quiet_op
            first | go_big_quiet_on | (refine ⟨_, fun _ _ => rfl, ?_⟩; go_big_quiet_on) | (refine ⟨_, fun _ _ _ => rfl, ?_⟩; go_big_quiet_on)
            go_big_quiet_want
            go_big_quiet_op
            first | go_big_quiet_on | (refine ⟨_, fun _ _ => rfl, ?_⟩; go_big_quiet_on) | (refine ⟨_, fun _ _ _ => rfl, ?_⟩; go_big_quiet_on)
            go_big_quiet_want
            refine qC_load29 (.tmp 141) rfl g 0 _ rfl M0.out ?_
            simp only [Act.put, List.setIfInBounds_toArray, List.set_cons_succ, List.set_cons_zero]
            go_big_quiet_on
            go_big_quiet_want
            refine qC_of (.bool false) (fun wq hC => by unfold execOp; simp [go_sem]) ?_
            simp only [Act.put, List.setIfInBounds_toArray, List.set_cons_succ, List.set_cons_zero]
            go_big_quiet_on
            go_big_quiet_want
            go_big_quiet_op
            first | go_big_quiet_on | (refine ⟨_, fun _ _ => rfl, ?_⟩; go_big_quiet_on) | (refine ⟨_, fun _ _ _ => rfl, ?_⟩; go_big_quiet_on)
            go_big_quiet_want
            go_big_quiet_op
            first | go_big_quiet_on | (refine ⟨_, fun _ _ => rfl, ?_⟩; go_big_quiet_on) | (refine ⟨_, fun _ _ _ => rfl, ?_⟩; go_big_quiet_on)
            go_big_quiet_want
            go_big_quiet_op
            first | go_big_quiet_on | (refine ⟨_, fun _ _ => rfl, ?_⟩; go_big_quiet_on) | (refine ⟨_, fun _ _ _ => rfl, ?_⟩; go_big_quiet_on)
            go_big_quiet_want
            go_big_quiet_op
            first | go_big_quiet_on | (refine ⟨_, fun _ _ => rfl, ?_⟩; go_big_quiet_on) | (refine ⟨_, fun _ _ _ => rfl, ?_⟩; go_big_quiet_on)
            go_big_quiet_want
            go_big_quiet_op
            first | go_big_quiet_on | (refine ⟨_, fun _ _ => rfl, ?_⟩; go_big_quiet_on) | (refine ⟨_, fun _ _ _ => rfl, ?_⟩; go_big_quiet_on)
            go_big_quiet_want
            refine qC_load32 (.tmp 148) rfl p2 1 _ rfl C6.out ?_
            simp only [Act.put, List.setIfInBounds_toArray, List.set_cons_succ, List.set_cons_zero]
            go_big_quiet_on
            go_big_quiet_want
            go_big_quiet_op
            first | go_big_quiet_on | (refine ⟨_, fun _ _ => rfl, ?_⟩; go_big_quiet_on) | (refine ⟨_, fun _ _ _ => rfl, ?_⟩; go_big_quiet_on)
            go_big_quiet_want
            go_big_quiet_op
            first | go_big_quiet_on | (refine ⟨_, fun _ _ => rfl, ?_⟩; go_big_quiet_on) | (refine ⟨_, fun _ _ _ => rfl, ?_⟩; go_big_quiet_on)
            go_big_quiet_want
            go_big_quiet_op
            first | go_big_quiet_on | (refine ⟨_, fun _ _ => rfl, ?_⟩; go_big_quiet_on) | (refine ⟨_, fun _ _ _ => rfl, ?_⟩; go_big_quiet_on)
            go_big_quiet_want
            refine qC_load32 (.tmp 152) rfl p2 1 _ rfl C6.out ?_
            simp only [Act.put, List.setIfInBounds_toArray, List.set_cons_succ, List.set_cons_zero]
            go_big_quiet_on
            go_big_quiet_want
            go_big_quiet_op
            first | go_big_quiet_on | (refine ⟨_, fun _ _ => rfl, ?_⟩; go_big_quiet_on) | (refine ⟨_, fun _ _ _ => rfl, ?_⟩; go_big_quiet_on)
            go_big_quiet_want
            go_big_quiet_op
            first | go_big_quiet_on | (refine ⟨_, fun _ _ => rfl, ?_⟩; go_big_quiet_on) | (refine ⟨_, fun _ _ _ => rfl, ?_⟩; go_big_quiet_on)
            go_big_quiet_want
            go_big_quiet_op
            first | go_big_quiet_on | (refine ⟨_, fun _ _ => rfl, ?_⟩; go_big_quiet_on) | (refine ⟨_, fun _ _ _ => rfl, ?_⟩; go_big_quiet_on)
            go_big_quiet_want
            go_big_quiet_op
            first | go_big_quiet_on | (refine ⟨_, fun _ _ => rfl, ?_⟩; go_big_quiet_on) | (refine ⟨_, fun _ _ _ => rfl, ?_⟩; go_big_quiet_on)
            go_big_quiet_want
            refine qC_load29 (.tmp 157) rfl g ((n - 1) * 3) _ rfl M6.out ?_
            simp only [Act.put, List.setIfInBounds_toArray, List.set_cons_succ, List.set_cons_zero]
            go_big_quiet_on
            go_big_quiet_want
            refine qC_of (.bool false) (fun wq hC => by unfold execOp; simp [go_sem]) ?_
            simp only [Act.put, List.setIfInBounds_toArray, List.set_cons_succ, List.set_cons_zero]
            go_big_quiet_on
            go_big_quiet_want
            go_big_quiet_op
            first | go_big_quiet_on | (refine ⟨_, fun _ _ => rfl, ?_⟩; go_big_quiet_on) | (refine ⟨_, fun _ _ _ => rfl, ?_⟩; go_big_quiet_on)
            go_big_quiet_want
            go_big_quiet_op
            first | go_big_quiet_on | (refine ⟨_, fun _ _ => rfl, ?_⟩; go_big_quiet_on) | (refine ⟨_, fun _ _ _ => rfl, ?_⟩; go_big_quiet_on)
            go_big_quiet_want
            go_big_quiet_op
            first | go_big_quiet_on | (refine ⟨_, fun _ _ => rfl, ?_⟩; go_big_quiet_on) | (refine ⟨_, fun _ _ _ => rfl, ?_⟩; go_big_quiet_on)
            go_big_quiet_want
            go_big_quiet_op
            first | go_big_quiet_on | (refine ⟨_, fun _ _ => rfl, ?_⟩; go_big_quiet_on) | (refine ⟨_, fun _ _ _ => rfl, ?_⟩; go_big_quiet_on)
            go_big_quiet_want
            go_big_quiet_op
            first | go_big_quiet_on | (refine ⟨_, fun _ _ => rfl, ?_⟩; go_big_quiet_on) | (refine ⟨_, fun _ _ _ => rfl, ?_⟩; go_big_quiet_on)
            go_big_quiet_want
            go_big_quiet_op
            first | go_big_quiet_on | (refine ⟨_, fun _ _ => rfl, ?_⟩; go_big_quiet_on) | (refine ⟨_, fun _ _ _ => rfl, ?_⟩; go_big_quiet_on)
            go_big_quiet_want
            refine qC_load32 (.tmp 165) rfl p2 1 _ rfl C6.out ?_
            simp only [Act.put, List.setIfInBounds_toArray, List.set_cons_succ, List.set_cons_zero]
            go_big_quiet_on
            go_big_quiet_want
            go_big_quiet_op
            first | go_big_quiet_on | (refine ⟨_, fun _ _ => rfl, ?_⟩; go_big_quiet_on) | (refine ⟨_, fun _ _ _ => rfl, ?_⟩; go_big_quiet_on)
            go_big_quiet_want
            refine qC_of (.bool false) (fun wq hC => by unfold execOp; simp [go_sem]) ?_
            simp only [Act.put, List.setIfInBounds_toArray, List.set_cons_succ, List.set_cons_zero]
            go_big_quiet_on
            go_big_quiet_want
            go_big_quiet_op
            first | go_big_quiet_on | (refine ⟨_, fun _ _ => rfl, ?_⟩; go_big_quiet_on) | (refine ⟨_, fun _ _ _ => rfl, ?_⟩; go_big_quiet_on)
            refine wpQuiet_nil ?_
            intro wz hz
            have TWZ := Box'.mk (TW7.out.below KR.out hz)
            clear hz C6 M0 M6 TW7
            go_wp2_with fail
            exact ⟨⟨k + 1, (nw + xa), sd', F1', F2', by rw [HY.out], by go_num, by omega, TWZ⟩, by simp [intOf]; omega⟩
        · obtain ⟨zz, hzz, hzl⟩ : ∃ zz : Nat, IntKind.u64.wrap ((nw.toNat : Int) + (xa.toNat : Int)) = (zz : Int) ∧ zz < nw.toNat := ⟨nw.toNat + xa.toNat - 18446744073709551616, by rw [IntKind.wrap_u64]; omega, by omega⟩
          by_cases h7 : xb = -7
          · subst h7
            have t1 := HT.out wx F1 p1 sd xa (-7) xd TWA.out.a TWA.out.pos.1 TWA.out.pos.2 TN.out.1 TN.out.2 hb1 hb2 hd1 hd2
            have T2 := Box'.mk (fun wz (hz : SnR wz F2 p2 sd) => tick_any wz F2 p2 sd xa (-7) xd hz (fun y hy => (TN.out.2 y hy).1) TN.out.1 hb1 hb2 hd1 hd2)
            have TX := Box'.mk (tickF_txt sd xa (-7) xd _ TWA.out.pos.1 TWA.out.tn TWA.out.tl)
            unfold uV at t1 T2
            generalize tickF sd xa (-7) xd = TT at *
            obtain ⟨sd', ⟨i0, i1, i2, i3, dif⟩, ok, er⟩ := TT
            simp only at t1 T2 TX
            rw [HWX.out] at t1
            go_wp2_with fail
            refine t1.mono ?_
            rw [← HWX.out]
            rintro e w3 ⟨F1', vx, rfl, hP, hi, hT, hN⟩
            have o := TWA.out.first hT hN
            obtain ⟨ax, cx, rfl⟩ := hi.slice
            have ba : Below w3.heap.size w3 (w3.alloc (.cells #[.int .u64 (i0.toNat : Int), .int .u64 (i1.toNat : Int), .int .u64 (i2.toNat : Int), .int .u64 (i3.toNat : Int), (.slice ax dif.length cx)] 41)) := (Below.refl _ _).alloc (Nat.le_refl _) _
            have ra := (RA.out.past NA.out.1 hT hN).1
            have RA3 := Box'.mk (ra.below ba ra.lt)
            have RX := Box'.mk (Row.new w3 41 #[.int .u64 (i0.toNat : Int), .int .u64 (i1.toNat : Int), .int .u64 (i2.toNat : Int), .int .u64 (i3.toNat : Int), (.slice ax dif.length cx)])
            have HP := Box'.mk (KR.out.below hP ba)
            have sn := SnR.keepR.below o.1 ba
            have BE := Box'.mk (o.2.2.trans (ba.mono o.2.2.size))
            have D1 := Box'.mk o.2.1
            have IX : Box' (InX (fun b => wx.heap.size ≤ b ∧ b < w3.heap.size) (w3.alloc (.cells #[.int .u64 (i0.toNat : Int), .int .u64 (i1.toNat : Int), .int .u64 (i2.toNat : Int), .int .u64 (i3.toNat : Int), (.slice ax dif.length cx)] 41)) (.slice ax dif.length cx) dif) := ⟨hi.keep fun b ⟨h1, h2, h3⟩ => ⟨⟨h1, h2⟩, ba.block b h2⟩⟩
            have hs3 := hT.size
            have SZ : Box' (wx.heap.size ≤ w3.heap.size ∧ (w3.alloc (.cells #[.int .u64 (i0.toNat : Int), .int .u64 (i1.toNat : Int), .int .u64 (i2.toNat : Int), .int .u64 (i3.toNat : Int), (.slice ax dif.length cx)] 41)).heap.size = w3.heap.size + 1) := ⟨⟨hs3, by simp⟩⟩
            have t2 := T2.out _ sn
            have y2 : (w3.alloc (.cells #[.int .u64 (i0.toNat : Int), .int .u64 (i1.toNat : Int), .int .u64 (i2.toNat : Int), .int .u64 (i3.toNat : Int), (.slice ax dif.length cx)] 41)).cell? ⟨wr.heap.size, 2, none⟩ = some (.int .i64 (-7)) := RA3.out.cell 2
            have y3 : (w3.alloc (.cells #[.int .u64 (i0.toNat : Int), .int .u64 (i1.toNat : Int), .int .u64 (i2.toNat : Int), .int .u64 (i3.toNat : Int), (.slice ax dif.length cx)] 41)).cell? ⟨wr.heap.size, 3, none⟩ = some (.int .i64 xd) := RA3.out.cell 3
            clear t1 hP hi hT hN o ba ra sn T2 hs3 x1 x2 x3 RA
            unfold insA uV at *
            simp only at t2
            go_wp2_with fail
            refine t2.mono ?_
            generalize w3.heap.size = bx at *
            rintro e w4 ⟨F2', vy, rfl, hP, hi, hT, hN⟩
            have TWX := Box'.mk ((Tw.second (B' := t.length + txtK xs k + 1) KR.out HP.out D1.out TWA.out.d2 BE.out hP hT hN TX.out.1 TX.out.2).more (B' := t.length + txtK xs (k + 1)) (by have := BX.out; omega))
            have N2 : ∀ b, wx.heap.size ≤ b → ¬ F2 b := fun b hb h => by have := TWA.out.b.lt b h; omega
            have jx : InB w4.heap.size w4 (.slice ax dif.length cx) dif := (IX.out.keep (S' := fun b => b < w4.heap.size) fun b ⟨h1, h2⟩ => by
              have s1 := SZ.out.2
              have s2 := hT.size
              exact ⟨by omega, hT.block b (by omega) (N2 b h1)⟩).inB fun b h => h
            have rx4 := (RX.out.past (N2 _ SZ.out.1) hT hN).1
            obtain ⟨ay, cy, rfl⟩ := hi.slice
            have jy : InB w4.heap.size w4 (.slice ay dif.length cy) dif := hi.inB fun b h => h.2.1
            have bb : Below w4.heap.size w4 (w4.alloc (.cells #[.int .u64 (i0.toNat : Int), .int .u64 (i1.toNat : Int), .int .u64 (i2.toNat : Int), .int .u64 (i3.toNat : Int), (.slice ay dif.length cy)] 41)) := (Below.refl _ _).alloc (Nat.le_refl _) _
            have i1' := instr_eq ⟨i0, i1, i2, i3, dif⟩ (.slice ax dif.length cx) (.slice ay dif.length cy) _ ((jx.below bb (Nat.le_refl _)).up bb.size) ((jy.below bb (Nat.le_refl _)).up bb.size)
            have rx5 := rx4.below bb rx4.lt
            have ry5 := Row.new w4 41 #[.int .u64 (i0.toNat : Int), .int .u64 (i1.toNat : Int), .int .u64 (i2.toNat : Int), .int .u64 (i3.toNat : Int), (.slice ay dif.length cy)]
            have a0 : (w4.alloc (.cells #[.int .u64 (i0.toNat : Int), .int .u64 (i1.toNat : Int), .int .u64 (i2.toNat : Int), .int .u64 (i3.toNat : Int), (.slice ay dif.length cy)] 41)).cell? ⟨bx, 0, none⟩ = some (.int .u64 (i0.toNat : Int)) := rx5.cell 0
            have a1 : (w4.alloc (.cells #[.int .u64 (i0.toNat : Int), .int .u64 (i1.toNat : Int), .int .u64 (i2.toNat : Int), .int .u64 (i3.toNat : Int), (.slice ay dif.length cy)] 41)).cell? ⟨bx, 1, none⟩ = some (.int .u64 (i1.toNat : Int)) := rx5.cell 1
            have a2 : (w4.alloc (.cells #[.int .u64 (i0.toNat : Int), .int .u64 (i1.toNat : Int), .int .u64 (i2.toNat : Int), .int .u64 (i3.toNat : Int), (.slice ay dif.length cy)] 41)).cell? ⟨bx, 2, none⟩ = some (.int .u64 (i2.toNat : Int)) := rx5.cell 2
            have a3 : (w4.alloc (.cells #[.int .u64 (i0.toNat : Int), .int .u64 (i1.toNat : Int), .int .u64 (i2.toNat : Int), .int .u64 (i3.toNat : Int), (.slice ay dif.length cy)] 41)).cell? ⟨bx, 3, none⟩ = some (.int .u64 (i3.toNat : Int)) := rx5.cell 3
            have a4 : (w4.alloc (.cells #[.int .u64 (i0.toNat : Int), .int .u64 (i1.toNat : Int), .int .u64 (i2.toNat : Int), .int .u64 (i3.toNat : Int), (.slice ay dif.length cy)] 41)).cell? ⟨bx, 4, none⟩ = some (.slice ax dif.length cx) := rx5.cell 4
            replace TWX := Box'.mk (TWX.out.below KR.out bb)
            unfold insA uV at i1'
            simp only at i1'
            clear t2 hP hi hT hN N2 jx jy rx4 rx5 ry5 bb HP D1 BE IX SZ RX RA3 TX TWA TN HWX y2 y3 NA
            go_wp2_with fail
            refine i1'.mono ?_
            rintro e w5 ⟨rfl, hb⟩
            replace TWX := Box'.mk (TWX.out.below KR.out hb)
            clear i1' hb a0 a1 a2 a3 a4
            have tdl := HD.out _ F1' p1 sd' TWX.out.a TWX.out.pos.1 TWX.out.pos.2
            unfold uV at tdl
            generalize hf0 : ((sd').l.getD 0 Rw.zero).n = f0 at tdl
            generalize hl0 : (lastR (sd').l).n = l0 at tdl
            have HF0 := Box'.mk hf0
            have HL0 := Box'.mk hl0
            clear hf0 hl0
            go_wp2_with fail
            refine tdl.mono ?_
            rintro e w7 ⟨rfl, hb⟩
            have TW7 := Box'.mk (TWX.out.below KR.out hb)
            have TW8 := TW7.out.b
            obtain ⟨v2, hF2, hr, ho, hp, hm2⟩ := TW8
            obtain ⟨g, c2, rfl, hc2, _, hg, hcl⟩ := ho.cells hp
            generalize hln : (sd').l.length = n at *
            have HLN := Box'.mk hln
            clear hln
            have C6 : Box' (∀ wa, Below w7.heap.size w7 wa → wa.cell? ⟨p2, 1, none⟩ = some (.slice (some ⟨g, 0, none⟩) n c2)) := ⟨fun wa hb => (hr.below hb hr.lt).cell 1⟩
            have M0 : Box' (∀ wa, Below w7.heap.size w7 wa → wa.cell? ⟨g, 0, none⟩ = some (.int .u64 (f0.toNat : Int))) := ⟨fun wa hb => (hb.cell (p := ⟨g, 0, none⟩) hg).trans ((hcl _ _ (rowsC_at (sd').l 0 (by rw [HLN.out]; exact hp)).1).trans (by rw [HF0.out]; rfl))⟩
            have M6 : Box' (∀ wa, Below w7.heap.size w7 wa → wa.cell? ⟨g, (n - 1) * 3, none⟩ = some (.int .u64 (l0.toNat : Int))) := ⟨fun wa hb => (hb.cell (p := ⟨g, (n - 1) * 3, none⟩) hg).trans ((hcl _ _ (rowsC_at (sd').l (n - 1) (by rw [HLN.out]; omega)).1).trans (by have := HL0.out; unfold lastR at this; rw [HLN.out] at this; rw [this]; rfl))⟩
            clear tdl hb hr ho hcl TWX HF0 HL0 hF2
            go_upto_region 32 with (fail)
            refine wp_region_lex (fun wa => Below w7.heap.size w7 wa) (by kernel_rfl) (by kernel_rfl) (Below.refl _ _).drew ?_
            go_big_quiet_want
            go_big_quiet_op
            first | go_big_quiet_on | (refine ⟨_, fun _ _ => rfl, ?_⟩; go_big_quiet_on) | (refine ⟨_, fun _ _ _ => rfl, ?_⟩; go_big_quiet_on)
            go_big_quiet_want
            go_big_quiet_op
            first | go_big_quiet_on | (refine ⟨_, fun _ _ => rfl, ?_⟩; go_big_quiet_on) | (refine ⟨_, fun _ _ _ => rfl, ?_⟩; go_big_quiet_on)
            go_big_quiet_want
            go_big_quiet_op
            first | go_big_quiet_on | (refine ⟨_, fun _ _ => rfl, ?_⟩; go_big_quiet_on) | (refine ⟨_, fun _ _ _ => rfl, ?_⟩; go_big_quiet_on)
            go_big_quiet_want
            go_big_quiet_op
            first | go_big_quiet_on | (refine ⟨_, fun _ _ => rfl, ?_⟩; go_big_quiet_on) | (refine ⟨_, fun _ _ _ => rfl, ?_⟩; go_big_quiet_on)
            go_big_quiet_want
            refine qC_load32 (.tmp 138) rfl p2 1 _ rfl C6.out ?_
            simp only [Act.put, List.setIfInBounds_toArray, List.set_cons_succ, List.set_cons_zero]
            go_big_quiet_on
            go_big_quiet_want
            go_big_quiet_op
            first | go_big_quiet_on | (refine ⟨_, fun _ _ => rfl, ?_⟩; go_big_quiet_on) | (refine ⟨_, fun _ _ _ => rfl, ?_⟩; go_big_quiet_on)
            go_big_quiet_want
            go_big_quiet_op
            first | go_big_quiet_on | (refine ⟨_, fun _ _ => rfl, ?_⟩; go_big_quiet_on) | (refine ⟨_, fun _ _ _ => rfl, ?_⟩; go_big_quiet_on)
            go_big_quiet_want
            refine qC_load29 (.tmp 141) rfl g 0 _ rfl M0.out ?_
            simp only [Act.put, List.setIfInBounds_toArray, List.set_cons_succ, List.set_cons_zero]
            go_big_quiet_on
            go_big_quiet_want
            refine qC_of (.bool false) (fun wq hC => by unfold execOp; simp [go_sem]) ?_
            simp only [Act.put, List.setIfInBounds_toArray, List.set_cons_succ, List.set_cons_zero]
            go_big_quiet_on
            go_big_quiet_want
            go_big_quiet_op
            first | go_big_quiet_on | (refine ⟨_, fun _ _ => rfl, ?_⟩; go_big_quiet_on) | (refine ⟨_, fun _ _ _ => rfl, ?_⟩; go_big_quiet_on)
            go_big_quiet_want
            go_big_quiet_op
            first | go_big_quiet_on | (refine ⟨_, fun _ _ => rfl, ?_⟩; go_big_quiet_on) | (refine ⟨_, fun _ _ _ => rfl, ?_⟩; go_big_quiet_on)
            go_big_quiet_want
            go_big_quiet_op
            first | go_big_quiet_on | (refine ⟨_, fun _ _ => rfl, ?_⟩; go_big_quiet_on) | (refine ⟨_, fun _ _ _ => rfl, ?_⟩; go_big_quiet_on)
            go_big_quiet_want
            go_big_quiet_op
            first | go_big_quiet_on | (refine ⟨_, fun _ _ => rfl, ?_⟩; go_big_quiet_on) | (refine ⟨_, fun _ _ _ => rfl, ?_⟩; go_big_quiet_on)
            go_big_quiet_want
            go_big_quiet_op
            first | go_big_quiet_on | (refine ⟨_, fun _ _ => rfl, ?_⟩; go_big_quiet_on) | (refine ⟨_, fun _ _ _ => rfl, ?_⟩; go_big_quiet_on)
            go_big_quiet_want
            refine qC_load32 (.tmp 148) rfl p2 1 _ rfl C6.out ?_
            simp only [Act.put, List.setIfInBounds_toArray, List.set_cons_succ, List.set_cons_zero]
            go_big_quiet_on
            go_big_quiet_want
            go_big_quiet_op
            first | go_big_quiet_on | (refine ⟨_, fun _ _ => rfl, ?_⟩; go_big_quiet_on) | (refine ⟨_, fun _ _ _ => rfl, ?_⟩; go_big_quiet_on)
            go_big_quiet_want
            go_big_quiet_op
            first | go_big_quiet_on | (refine ⟨_, fun _ _ => rfl, ?_⟩; go_big_quiet_on) | (refine ⟨_, fun _ _ _ => rfl, ?_⟩; go_big_quiet_on)
            go_big_quiet_want
            go_big_quiet_op
            first | go_big_quiet_on | (refine ⟨_, fun _ _ => rfl, ?_⟩; go_big_quiet_on) | (refine ⟨_, fun _ _ _ => rfl, ?_⟩; go_big_quiet_on)
            go_big_quiet_want
            refine qC_load32 (.tmp 152) rfl p2 1 _ rfl C6.out ?_
            simp only [Act.put, List.setIfInBounds_toArray, List.set_cons_succ, List.set_cons_zero]
            go_big_quiet_on
            go_big_quiet_want
            go_big_quiet_op
            first | go_big_quiet_on | (refine ⟨_, fun _ _ => rfl, ?_⟩; go_big_quiet_on) | (refine ⟨_, fun _ _ _ => rfl, ?_⟩; go_big_quiet_on)
            go_big_quiet_want
            go_big_quiet_op
            first | go_big_quiet_on | (refine ⟨_, fun _ _ => rfl, ?_⟩; go_big_quiet_on) | (refine ⟨_, fun _ _ _ => rfl, ?_⟩; go_big_quiet_on)
            go_big_quiet_want
            go_big_quiet_op
            first | go_big_quiet_on | (refine ⟨_, fun _ _ => rfl, ?_⟩; go_big_quiet_on) | (refine ⟨_, fun _ _ _ => rfl, ?_⟩; go_big_quiet_on)
            go_big_quiet_want
            go_big_quiet_op
            first | go_big_quiet_on | (refine ⟨_, fun _ _ => rfl, ?_⟩; go_big_quiet_on) | (refine ⟨_, fun _ _ _ => rfl, ?_⟩; go_big_quiet_on)
            go_big_quiet_want
            refine qC_load29 (.tmp 157) rfl g ((n - 1) * 3) _ rfl M6.out ?_
            simp only [Act.put, List.setIfInBounds_toArray, List.set_cons_succ, List.set_cons_zero]
            go_big_quiet_on
            go_big_quiet_want
            refine qC_of (.bool false) (fun wq hC => by unfold execOp; simp [go_sem]) ?_
            simp only [Act.put, List.setIfInBounds_toArray, List.set_cons_succ, List.set_cons_zero]
            go_big_quiet_on
            go_big_quiet_want
            go_big_quiet_op
            first | go_big_quiet_on | (refine ⟨_, fun _ _ => rfl, ?_⟩; go_big_quiet_on) | (refine ⟨_, fun _ _ _ => rfl, ?_⟩; go_big_quiet_on)
            go_big_quiet_want
            go_big_quiet_op
            first | go_big_quiet_on | (refine ⟨_, fun _ _ => rfl, ?_⟩; go_big_quiet_on) | (refine ⟨_, fun _ _ _ => rfl, ?_⟩; go_big_quiet_on)
            go_big_quiet_want
            go_big_quiet_op
            first | go_big_quiet_on | (refine ⟨_, fun _ _ => rfl, ?_⟩; go_big_quiet_on) | (refine ⟨_, fun _ _ _ => rfl, ?_⟩; go_big_quiet_on)
            go_big_quiet_want
            go_big_quiet_op
            first | go_big_quiet_on | (refine ⟨_, fun _ _ => rfl, ?_⟩; go_big_quiet_on) | (refine ⟨_, fun _ _ _ => rfl, ?_⟩; go_big_quiet_on)
            go_big_quiet_want
            go_big_quiet_op
            first | go_big_quiet_on | (refine ⟨_, fun _ _ => rfl, ?_⟩; go_big_quiet_on) | (refine ⟨_, fun _ _ _ => rfl, ?_⟩; go_big_quiet_on)
            go_big_quiet_want
            go_big_quiet_op
            first | go_big_quiet_on | (refine ⟨_, fun _ _ => rfl, ?_⟩; go_big_quiet_on) | (refine ⟨_, fun _ _ _ => rfl, ?_⟩; go_big_quiet_on)
            go_big_quiet_want
            refine qC_load32 (.tmp 165) rfl p2 1 _ rfl C6.out ?_
            simp only [Act.put, List.setIfInBounds_toArray, List.set_cons_succ, List.set_cons_zero]
            go_big_quiet_on
            go_big_quiet_want
            go_big_quiet_op
            first | go_big_quiet_on | (refine ⟨_, fun _ _ => rfl, ?_⟩; go_big_quiet_on) | (refine ⟨_, fun _ _ _ => rfl, ?_⟩; go_big_quiet_on)
            go_big_quiet_want
            refine qC_of (.bool false) (fun wq hC => by unfold execOp; simp [go_sem]) ?_
            simp only [Act.put, List.setIfInBounds_toArray, List.set_cons_succ, List.set_cons_zero]
            go_big_quiet_on
            go_big_quiet_want
            go_big_quiet_op
            first | go_big_quiet_on | (refine ⟨_, fun _ _ => rfl, ?_⟩; go_big_quiet_on) | (refine ⟨_, fun _ _ _ => rfl, ?_⟩; go_big_quiet_on)
            refine wpQuiet_nil ?_
            intro wz hz
            have TWZ := Box'.mk (TW7.out.below KR.out hz)
            clear hz C6 M0 M6 TW7
            go_wp2_with fail
            exact ⟨⟨k + 1, nw, sd', F1', F2', rfl, by go_num, by omega, TWZ⟩, by simp [intOf]; omega⟩
          · have t1 := HT.out wx F1 p1 sd nw xb xd TWA.out.a TWA.out.pos.1 TWA.out.pos.2 TN.out.1 TN.out.2 hb1 hb2 hd1 hd2
            have T2 := Box'.mk (fun wz (hz : SnR wz F2 p2 sd) => tick_any wz F2 p2 sd nw xb xd hz (fun y hy => (TN.out.2 y hy).1) TN.out.1 hb1 hb2 hd1 hd2)
            have TX := Box'.mk (tickF_txt sd nw xb xd _ TWA.out.pos.1 TWA.out.tn TWA.out.tl)
            unfold uV at t1 T2
            generalize tickF sd nw xb xd = TT at *
            obtain ⟨sd', ⟨i0, i1, i2, i3, dif⟩, ok, er⟩ := TT
            simp only at t1 T2 TX
            rw [HWX.out] at t1
            go_wp2_with fail
            refine t1.mono ?_
            rw [← HWX.out]
            rintro e w3 ⟨F1', vx, rfl, hP, hi, hT, hN⟩
            have o := TWA.out.first hT hN
            obtain ⟨ax, cx, rfl⟩ := hi.slice
            have ba : Below w3.heap.size w3 (w3.alloc (.cells #[.int .u64 (i0.toNat : Int), .int .u64 (i1.toNat : Int), .int .u64 (i2.toNat : Int), .int .u64 (i3.toNat : Int), (.slice ax dif.length cx)] 41)) := (Below.refl _ _).alloc (Nat.le_refl _) _
            have ra := (RA.out.past NA.out.1 hT hN).1
            have RA3 := Box'.mk (ra.below ba ra.lt)
            have RX := Box'.mk (Row.new w3 41 #[.int .u64 (i0.toNat : Int), .int .u64 (i1.toNat : Int), .int .u64 (i2.toNat : Int), .int .u64 (i3.toNat : Int), (.slice ax dif.length cx)])
            have HP := Box'.mk (KR.out.below hP ba)
            have sn := SnR.keepR.below o.1 ba
            have BE := Box'.mk (o.2.2.trans (ba.mono o.2.2.size))
            have D1 := Box'.mk o.2.1
            have IX : Box' (InX (fun b => wx.heap.size ≤ b ∧ b < w3.heap.size) (w3.alloc (.cells #[.int .u64 (i0.toNat : Int), .int .u64 (i1.toNat : Int), .int .u64 (i2.toNat : Int), .int .u64 (i3.toNat : Int), (.slice ax dif.length cx)] 41)) (.slice ax dif.length cx) dif) := ⟨hi.keep fun b ⟨h1, h2, h3⟩ => ⟨⟨h1, h2⟩, ba.block b h2⟩⟩
            have hs3 := hT.size
            have SZ : Box' (wx.heap.size ≤ w3.heap.size ∧ (w3.alloc (.cells #[.int .u64 (i0.toNat : Int), .int .u64 (i1.toNat : Int), .int .u64 (i2.toNat : Int), .int .u64 (i3.toNat : Int), (.slice ax dif.length cx)] 41)).heap.size = w3.heap.size + 1) := ⟨⟨hs3, by simp⟩⟩
            have t2 := T2.out _ sn
            have y2 : (w3.alloc (.cells #[.int .u64 (i0.toNat : Int), .int .u64 (i1.toNat : Int), .int .u64 (i2.toNat : Int), .int .u64 (i3.toNat : Int), (.slice ax dif.length cx)] 41)).cell? ⟨wr.heap.size, 2, none⟩ = some (.int .i64 xb) := RA3.out.cell 2
            have y3 : (w3.alloc (.cells #[.int .u64 (i0.toNat : Int), .int .u64 (i1.toNat : Int), .int .u64 (i2.toNat : Int), .int .u64 (i3.toNat : Int), (.slice ax dif.length cx)] 41)).cell? ⟨wr.heap.size, 3, none⟩ = some (.int .i64 xd) := RA3.out.cell 3
            clear t1 hP hi hT hN o ba ra sn T2 hs3 x1 x2 x3 RA
            unfold insA uV at *
            simp only at t2
            go_wp2_with fail
            refine t2.mono ?_
            generalize w3.heap.size = bx at *
            rintro e w4 ⟨F2', vy, rfl, hP, hi, hT, hN⟩
            have TWX := Box'.mk ((Tw.second (B' := t.length + txtK xs k + 1) KR.out HP.out D1.out TWA.out.d2 BE.out hP hT hN TX.out.1 TX.out.2).more (B' := t.length + txtK xs (k + 1)) (by have := BX.out; omega))
            have N2 : ∀ b, wx.heap.size ≤ b → ¬ F2 b := fun b hb h => by have := TWA.out.b.lt b h; omega
            have jx : InB w4.heap.size w4 (.slice ax dif.length cx) dif := (IX.out.keep (S' := fun b => b < w4.heap.size) fun b ⟨h1, h2⟩ => by
              have s1 := SZ.out.2
              have s2 := hT.size
              exact ⟨by omega, hT.block b (by omega) (N2 b h1)⟩).inB fun b h => h
            have rx4 := (RX.out.past (N2 _ SZ.out.1) hT hN).1
            obtain ⟨ay, cy, rfl⟩ := hi.slice
            have jy : InB w4.heap.size w4 (.slice ay dif.length cy) dif := hi.inB fun b h => h.2.1
            have bb : Below w4.heap.size w4 (w4.alloc (.cells #[.int .u64 (i0.toNat : Int), .int .u64 (i1.toNat : Int), .int .u64 (i2.toNat : Int), .int .u64 (i3.toNat : Int), (.slice ay dif.length cy)] 41)) := (Below.refl _ _).alloc (Nat.le_refl _) _
            have i1' := instr_eq ⟨i0, i1, i2, i3, dif⟩ (.slice ax dif.length cx) (.slice ay dif.length cy) _ ((jx.below bb (Nat.le_refl _)).up bb.size) ((jy.below bb (Nat.le_refl _)).up bb.size)
            have rx5 := rx4.below bb rx4.lt
            have ry5 := Row.new w4 41 #[.int .u64 (i0.toNat : Int), .int .u64 (i1.toNat : Int), .int .u64 (i2.toNat : Int), .int .u64 (i3.toNat : Int), (.slice ay dif.length cy)]
            have a0 : (w4.alloc (.cells #[.int .u64 (i0.toNat : Int), .int .u64 (i1.toNat : Int), .int .u64 (i2.toNat : Int), .int .u64 (i3.toNat : Int), (.slice ay dif.length cy)] 41)).cell? ⟨bx, 0, none⟩ = some (.int .u64 (i0.toNat : Int)) := rx5.cell 0
            have a1 : (w4.alloc (.cells #[.int .u64 (i0.toNat : Int), .int .u64 (i1.toNat : Int), .int .u64 (i2.toNat : Int), .int .u64 (i3.toNat : Int), (.slice ay dif.length cy)] 41)).cell? ⟨bx, 1, none⟩ = some (.int .u64 (i1.toNat : Int)) := rx5.cell 1
            have a2 : (w4.alloc (.cells #[.int .u64 (i0.toNat : Int), .int .u64 (i1.toNat : Int), .int .u64 (i2.toNat : Int), .int .u64 (i3.toNat : Int), (.slice ay dif.length cy)] 41)).cell? ⟨bx, 2, none⟩ = some (.int .u64 (i2.toNat : Int)) := rx5.cell 2
            have a3 : (w4.alloc (.cells #[.int .u64 (i0.toNat : Int), .int .u64 (i1.toNat : Int), .int .u64 (i2.toNat : Int), .int .u64 (i3.toNat : Int), (.slice ay dif.length cy)] 41)).cell? ⟨bx, 3, none⟩ = some (.int .u64 (i3.toNat : Int)) := rx5.cell 3
            have a4 : (w4.alloc (.cells #[.int .u64 (i0.toNat : Int), .int .u64 (i1.toNat : Int), .int .u64 (i2.toNat : Int), .int .u64 (i3.toNat : Int), (.slice ay dif.length cy)] 41)).cell? ⟨bx, 4, none⟩ = some (.slice ax dif.length cx) := rx5.cell 4
            replace TWX := Box'.mk (TWX.out.below KR.out bb)
            unfold insA uV at i1'
            simp only at i1'
            clear t2 hP hi hT hN N2 jx jy rx4 rx5 ry5 bb HP D1 BE IX SZ RX RA3 TX TWA TN HWX y2 y3 NA
            go_wp2_with fail
            refine i1'.mono ?_
            rintro e w5 ⟨rfl, hb⟩
            replace TWX := Box'.mk (TWX.out.below KR.out hb)
            clear i1' hb a0 a1 a2 a3 a4
            have tdl := HD.out _ F1' p1 sd' TWX.out.a TWX.out.pos.1 TWX.out.pos.2
            unfold uV at tdl
            generalize hf0 : ((sd').l.getD 0 Rw.zero).n = f0 at tdl
            generalize hl0 : (lastR (sd').l).n = l0 at tdl
            have HF0 := Box'.mk hf0
            have HL0 := Box'.mk hl0
            clear hf0 hl0
            go_wp2_with fail
            refine tdl.mono ?_
            rintro e w7 ⟨rfl, hb⟩
            have TW7 := Box'.mk (TWX.out.below KR.out hb)
            have TW8 := TW7.out.b
            obtain ⟨v2, hF2, hr, ho, hp, hm2⟩ := TW8
            obtain ⟨g, c2, rfl, hc2, _, hg, hcl⟩ := ho.cells hp
            generalize hln : (sd').l.length = n at *
            have HLN := Box'.mk hln
            clear hln
            have C6 : Box' (∀ wa, Below w7.heap.size w7 wa → wa.cell? ⟨p2, 1, none⟩ = some (.slice (some ⟨g, 0, none⟩) n c2)) := ⟨fun wa hb => (hr.below hb hr.lt).cell 1⟩
            have M0 : Box' (∀ wa, Below w7.heap.size w7 wa → wa.cell? ⟨g, 0, none⟩ = some (.int .u64 (f0.toNat : Int))) := ⟨fun wa hb => (hb.cell (p := ⟨g, 0, none⟩) hg).trans ((hcl _ _ (rowsC_at (sd').l 0 (by rw [HLN.out]; exact hp)).1).trans (by rw [HF0.out]; rfl))⟩
            have M6 : Box' (∀ wa, Below w7.heap.size w7 wa → wa.cell? ⟨g, (n - 1) * 3, none⟩ = some (.int .u64 (l0.toNat : Int))) := ⟨fun wa hb => (hb.cell (p := ⟨g, (n - 1) * 3, none⟩) hg).trans ((hcl _ _ (rowsC_at (sd').l (n - 1) (by rw [HLN.out]; omega)).1).trans (by have := HL0.out; unfold lastR at this; rw [HLN.out] at this; rw [this]; rfl))⟩
            clear tdl hb hr ho hcl TWX HF0 HL0 hF2
            go_upto_region 32 with (fail)
            refine wp_region_lex (fun wa => Below w7.heap.size w7 wa) (by kernel_rfl) (by kernel_rfl) (Below.refl _ _).drew ?_
            go_big_quiet_want
            go_big_quiet_op
            first | go_big_quiet_on | (refine ⟨_, fun _ _ => rfl, ?_⟩; go_big_quiet_on) | (refine ⟨_, fun _ _ _ => rfl, ?_⟩; go_big_quiet_on)
            go_big_quiet_want
            go_big_quiet_op
            first | go_big_quiet_on | (refine ⟨_, fun _ _ => rfl, ?_⟩; go_big_quiet_on) | (refine ⟨_, fun _ _ _ => rfl, ?_⟩; go_big_quiet_on)
            go_big_quiet_want
            go_big_quiet_op
            first | go_big_quiet_on | (refine ⟨_, fun _ _ => rfl, ?_⟩; go_big_quiet_on) | (refine ⟨_, fun _ _ _ => rfl, ?_⟩; go_big_quiet_on)
            go_big_quiet_want
            go_big_quiet_op
            first | go_big_quiet_on | (refine ⟨_, fun _ _ => rfl, ?_⟩; go_big_quiet_on) | (refine ⟨_, fun _ _ _ => rfl, ?_⟩; go_big_quiet_on)
            go_big_quiet_want
            refine qC_load32 (.tmp 138) rfl p2 1 _ rfl C6.out ?_
            simp only [Act.put, List.setIfInBounds_toArray, List.set_cons_succ, List.set_cons_zero]
            go_big_quiet_on
            go_big_quiet_want
            go_big_quiet_op
            first | go_big_quiet_on | (refine ⟨_, fun _ _ => rfl, ?_⟩; go_big_quiet_on) | (refine ⟨_, fun _ _ _ => rfl, ?_⟩; go_big_quiet_on)
            go_big_quiet_want
            go_big_quiet_op
            first | go_big_quiet_on | (refine ⟨_, fun _ _ => rfl, ?_⟩; go_big_quiet_on) | (refine ⟨_, fun _ _ _ => rfl, ?_⟩; go_big_quiet_on)
            go_big_quiet_want
            refine qC_load29 (.tmp 141) rfl g 0 _ rfl M0.out ?_
            simp only [Act.put, List.setIfInBounds_toArray, List.set_cons_succ, List.set_cons_zero]
            go_big_quiet_on
            go_big_quiet_want
            refine qC_of (.bool false) (fun wq hC => by unfold execOp; simp [go_sem]) ?_
            simp only [Act.put, List.setIfInBounds_toArray, List.set_cons_succ, List.set_cons_zero]
            go_big_quiet_on
            go_big_quiet_want
            go_big_quiet_op
            first | go_big_quiet_on | (refine ⟨_, fun _ _ => rfl, ?_⟩; go_big_quiet_on) | (refine ⟨_, fun _ _ _ => rfl, ?_⟩; go_big_quiet_on)
            go_big_quiet_want
            go_big_quiet_op
            first | go_big_quiet_on | (refine ⟨_, fun _ _ => rfl, ?_⟩; go_big_quiet_on) | (refine ⟨_, fun _ _ _ => rfl, ?_⟩; go_big_quiet_on)
            go_big_quiet_want
            go_big_quiet_op
            first | go_big_quiet_on | (refine ⟨_, fun _ _ => rfl, ?_⟩; go_big_quiet_on) | (refine ⟨_, fun _ _ _ => rfl, ?_⟩; go_big_quiet_on)
            go_big_quiet_want
            go_big_quiet_op
            first | go_big_quiet_on | (refine ⟨_, fun _ _ => rfl, ?_⟩; go_big_quiet_on) | (refine ⟨_, fun _ _ _ => rfl, ?_⟩; go_big_quiet_on)
            go_big_quiet_want
            go_big_quiet_op
            first | go_big_quiet_on | (refine ⟨_, fun _ _ => rfl, ?_⟩; go_big_quiet_on) | (refine ⟨_, fun _ _ _ => rfl, ?_⟩; go_big_quiet_on)
            go_big_quiet_want
            refine qC_load32 (.tmp 148) rfl p2 1 _ rfl C6.out ?_
            simp only [Act.put, List.setIfInBounds_toArray, List.set_cons_succ, List.set_cons_zero]
            go_big_quiet_on
            go_big_quiet_want
            go_big_quiet_op
            first | go_big_quiet_on | (refine ⟨_, fun _ _ => rfl, ?_⟩; go_big_quiet_on) | (refine ⟨_, fun _ _ _ => rfl, ?_⟩; go_big_quiet_on)
            go_big_quiet_want
            go_big_quiet_op
            first | go_big_quiet_on | (refine ⟨_, fun _ _ => rfl, ?_⟩; go_big_quiet_on) | (refine ⟨_, fun _ _ _ => rfl, ?_⟩; go_big_quiet_on)
            go_big_quiet_want
            go_big_quiet_op
            first | go_big_quiet_on | (refine ⟨_, fun _ _ => rfl, ?_⟩; go_big_quiet_on) | (refine ⟨_, fun _ _ _ => rfl, ?_⟩; go_big_quiet_on)
            go_big_quiet_want
            refine qC_load32 (.tmp 152) rfl p2 1 _ rfl C6.out ?_
            simp only [Act.put, List.setIfInBounds_toArray, List.set_cons_succ, List.set_cons_zero]
            go_big_quiet_on
            go_big_quiet_want
            go_big_quiet_op
            first | go_big_quiet_on | (refine ⟨_, fun _ _ => rfl, ?_⟩; go_big_quiet_on) | (refine ⟨_, fun _ _ _ => rfl, ?_⟩; go_big_quiet_on)
            go_big_quiet_want
            go_big_quiet_op
            first | go_big_quiet_on | (refine ⟨_, fun _ _ => rfl, ?_⟩; go_big_quiet_on) | (refine ⟨_, fun _ _ _ => rfl, ?_⟩; go_big_quiet_on)
            go_big_quiet_want
            go_big_quiet_op
            first | go_big_quiet_on | (refine ⟨_, fun _ _ => rfl, ?_⟩; go_big_quiet_on) | (refine ⟨_, fun _ _ _ => rfl, ?_⟩; go_big_quiet_on)
            go_big_quiet_want
            go_big_quiet_op
            first | go_big_quiet_on | (refine ⟨_, fun _ _ => rfl, ?_⟩; go_big_quiet_on) | (refine ⟨_, fun _ _ _ => rfl, ?_⟩; go_big_quiet_on)
            go_big_quiet_want
            refine qC_load29 (.tmp 157) rfl g ((n - 1) * 3) _ rfl M6.out ?_
            simp only [Act.put, List.setIfInBounds_toArray, List.set_cons_succ, List.set_cons_zero]
            go_big_quiet_on
            go_big_quiet_want
            refine qC_of (.bool false) (fun wq hC => by unfold execOp; simp [go_sem]) ?_
            simp only [Act.put, List.setIfInBounds_toArray, List.set_cons_succ, List.set_cons_zero]
            go_big_quiet_on
            go_big_quiet_want
            go_big_quiet_op
            first | go_big_quiet_on | (refine ⟨_, fun _ _ => rfl, ?_⟩; go_big_quiet_on) | (refine ⟨_, fun _ _ _ => rfl, ?_⟩; go_big_quiet_on)
            go_big_quiet_want
            go_big_quiet_op
            first | go_big_quiet_on | (refine ⟨_, fun _ _ => rfl, ?_⟩; go_big_quiet_on) | (refine ⟨_, fun _ _ _ => rfl, ?_⟩; go_big_quiet_on)
            go_big_quiet_want
            go_big_quiet_op
            first | go_big_quiet_on | (refine ⟨_, fun _ _ => rfl, ?_⟩; go_big_quiet_on) | (refine ⟨_, fun _ _ _ => rfl, ?_⟩; go_big_quiet_on)
            go_big_quiet_want
            go_big_quiet_op
            first | go_big_quiet_on | (refine ⟨_, fun _ _ => rfl, ?_⟩; go_big_quiet_on) | (refine ⟨_, fun _ _ _ => rfl, ?_⟩; go_big_quiet_on)
            go_big_quiet_want
            go_big_quiet_op
            first | go_big_quiet_on | (refine ⟨_, fun _ _ => rfl, ?_⟩; go_big_quiet_on) | (refine ⟨_, fun _ _ _ => rfl, ?_⟩; go_big_quiet_on)
            go_big_quiet_want
            go_big_quiet_op
            first | go_big_quiet_on | (refine ⟨_, fun _ _ => rfl, ?_⟩; go_big_quiet_on) | (refine ⟨_, fun _ _ _ => rfl, ?_⟩; go_big_quiet_on)
            go_big_quiet_want
            refine qC_load32 (.tmp 165) rfl p2 1 _ rfl C6.out ?_
            simp only [Act.put, List.setIfInBounds_toArray, List.set_cons_succ, List.set_cons_zero]
            go_big_quiet_on
            go_big_quiet_want
            go_big_quiet_op
            first | go_big_quiet_on | (refine ⟨_, fun _ _ => rfl, ?_⟩; go_big_quiet_on) | (refine ⟨_, fun _ _ _ => rfl, ?_⟩; go_big_quiet_on)
            go_big_quiet_want
            refine qC_of (.bool false) (fun wq hC => by unfold execOp; simp [go_sem]) ?_
            simp only [Act.put, List.setIfInBounds_toArray, List.set_cons_succ, List.set_cons_zero]
            go_big_quiet_on
            go_big_quiet_want
            go_big_quiet_op
            first | go_big_quiet_on | (refine ⟨_, fun _ _ => rfl, ?_⟩; go_big_quiet_on) | (refine ⟨_, fun _ _ _ => rfl, ?_⟩; go_big_quiet_on)
            refine wpQuiet_nil ?_
            intro wz hz
            have TWZ := Box'.mk (TW7.out.below KR.out hz)
            clear hz C6 M0 M6 TW7
            go_wp2_with fail
            exact ⟨⟨k + 1, nw, sd', F1', F2', rfl, by go_num, by omega, TWZ⟩, by simp [intOf]; omega⟩
      · have g0 : ((xc.toNat : Int) == 0) = false := by rw [beq_eq_false_iff_ne]; omega
        have g1 : ((xc.toNat : Int) == 1) = false := by rw [beq_eq_false_iff_ne]; omega
        have g2 : ((xc.toNat : Int) == 2) = false := by rw [beq_eq_false_iff_ne]; omega
        have g3 : ((xc.toNat : Int) == 3) = false := by rw [beq_eq_false_iff_ne]; omega
        have TWX := Box'.mk (TWA.out.more (B' := t.length + txtK xs (k + 1)) (by have := BX.out; omega))
        clear TWA
        have tdl := HD.out _ F1 p1 sd TWX.out.a TWX.out.pos.1 TWX.out.pos.2
        unfold uV at tdl
        generalize hf0 : ((sd).l.getD 0 Rw.zero).n = f0 at tdl
        generalize hl0 : (lastR (sd).l).n = l0 at tdl
        have HF0 := Box'.mk hf0
        have HL0 := Box'.mk hl0
        clear hf0 hl0
        go_wp2_with fail
        refine tdl.mono ?_
        rintro e w7 ⟨rfl, hb⟩
        have TW7 := Box'.mk (TWX.out.below KR.out hb)
        have TW8 := TW7.out.b
        obtain ⟨v2, hF2, hr, ho, hp, hm2⟩ := TW8
        obtain ⟨g, c2, rfl, hc2, _, hg, hcl⟩ := ho.cells hp
        generalize hln : (sd).l.length = n at *
        have HLN := Box'.mk hln
        clear hln
        have C6 : Box' (∀ wa, Below w7.heap.size w7 wa → wa.cell? ⟨p2, 1, none⟩ = some (.slice (some ⟨g, 0, none⟩) n c2)) := ⟨fun wa hb => (hr.below hb hr.lt).cell 1⟩
        have M0 : Box' (∀ wa, Below w7.heap.size w7 wa → wa.cell? ⟨g, 0, none⟩ = some (.int .u64 (f0.toNat : Int))) := ⟨fun wa hb => (hb.cell (p := ⟨g, 0, none⟩) hg).trans ((hcl _ _ (rowsC_at (sd).l 0 (by rw [HLN.out]; exact hp)).1).trans (by rw [HF0.out]; rfl))⟩
        have M6 : Box' (∀ wa, Below w7.heap.size w7 wa → wa.cell? ⟨g, (n - 1) * 3, none⟩ = some (.int .u64 (l0.toNat : Int))) := ⟨fun wa hb => (hb.cell (p := ⟨g, (n - 1) * 3, none⟩) hg).trans ((hcl _ _ (rowsC_at (sd).l (n - 1) (by rw [HLN.out]; omega)).1).trans (by have := HL0.out; unfold lastR at this; rw [HLN.out] at this; rw [this]; rfl))⟩
        clear tdl hb hr ho hcl TWX HF0 HL0 hF2
        go_upto_region 32 with (fail)
        refine wp_region_lex (fun wa => Below w7.heap.size w7 wa) (by kernel_rfl) (by kernel_rfl) (Below.refl _ _).drew ?_
        go_big_quiet_want
        go_big_quiet_op
        first | go_big_quiet_on | (refine ⟨_, fun _ _ => rfl, ?_⟩; go_big_quiet_on) | (refine ⟨_, fun _ _ _ => rfl, ?_⟩; go_big_quiet_on)
        go_big_quiet_want
        go_big_quiet_op
        first | go_big_quiet_on | (refine ⟨_, fun _ _ => rfl, ?_⟩; go_big_quiet_on) | (refine ⟨_, fun _ _ _ => rfl, ?_⟩; go_big_quiet_on)
        go_big_quiet_want
        go_big_quiet_op
        first | go_big_quiet_on | (refine ⟨_, fun _ _ => rfl, ?_⟩; go_big_quiet_on) | (refine ⟨_, fun _ _ _ => rfl, ?_⟩; go_big_quiet_on)
        go_big_quiet_want
        go_big_quiet_op
        first | go_big_quiet_on | (refine ⟨_, fun _ _ => rfl, ?_⟩; go_big_quiet_on) | (refine ⟨_, fun _ _ _ => rfl, ?_⟩; go_big_quiet_on)
        go_big_quiet_want
        refine qC_load32 (.tmp 138) rfl p2 1 _ rfl C6.out ?_
        simp only [Act.put, List.setIfInBounds_toArray, List.set_cons_succ, List.set_cons_zero]
        go_big_quiet_on
        go_big_quiet_want
        go_big_quiet_op
        first | go_big_quiet_on | (refine ⟨_, fun _ _ => rfl, ?_⟩; go_big_quiet_on) | (refine ⟨_, fun _ _ _ => rfl, ?_⟩; go_big_quiet_on)
        go_big_quiet_want
        go_big_quiet_op
        first | go_big_quiet_on | (refine ⟨_, fun _ _ => rfl, ?_⟩; go_big_quiet_on) | (refine ⟨_, fun _ _ _ => rfl, ?_⟩; go_big_quiet_on)
        go_big_quiet_want
        refine qC_load29 (.tmp 141) rfl g 0 _ rfl M0.out ?_
        simp only [Act.put, List.setIfInBounds_toArray, List.set_cons_succ, List.set_cons_zero]
        go_big_quiet_on
        go_big_quiet_want
        refine qC_of (.bool false) (fun wq hC => by unfold execOp; simp [go_sem]) ?_
        simp only [Act.put, List.setIfInBounds_toArray, List.set_cons_succ, List.set_cons_zero]
        go_big_quiet_on
        go_big_quiet_want
        go_big_quiet_op
        first | go_big_quiet_on | (refine ⟨_, fun _ _ => rfl, ?_⟩; go_big_quiet_on) | (refine ⟨_, fun _ _ _ => rfl, ?_⟩; go_big_quiet_on)
        go_big_quiet_want
        go_big_quiet_op
        first | go_big_quiet_on | (refine ⟨_, fun _ _ => rfl, ?_⟩; go_big_quiet_on) | (refine ⟨_, fun _ _ _ => rfl, ?_⟩; go_big_quiet_on)
        go_big_quiet_want
        go_big_quiet_op
        first | go_big_quiet_on | (refine ⟨_, fun _ _ => rfl, ?_⟩; go_big_quiet_on) | (refine ⟨_, fun _ _ _ => rfl, ?_⟩; go_big_quiet_on)
        go_big_quiet_want
        go_big_quiet_op
        first | go_big_quiet_on | (refine ⟨_, fun _ _ => rfl, ?_⟩; go_big_quiet_on) | (refine ⟨_, fun _ _ _ => rfl, ?_⟩; go_big_quiet_on)
        go_big_quiet_want
        go_big_quiet_op
        first | go_big_quiet_on | (refine ⟨_, fun _ _ => rfl, ?_⟩; go_big_quiet_on) | (refine ⟨_, fun _ _ _ => rfl, ?_⟩; go_big_quiet_on)
        go_big_quiet_want
        refine qC_load32 (.tmp 148) rfl p2 1 _ rfl C6.out ?_
        simp only [Act.put, List.setIfInBounds_toArray, List.set_cons_succ, List.set_cons_zero]
        go_big_quiet_on
        go_big_quiet_want
        go_big_quiet_op
        first | go_big_quiet_on | (refine ⟨_, fun _ _ => rfl, ?_⟩; go_big_quiet_on) | (refine ⟨_, fun _ _ _ => rfl, ?_⟩; go_big_quiet_on)
        go_big_quiet_want
        go_big_quiet_op
        first | go_big_quiet_on | (refine ⟨_, fun _ _ => rfl, ?_⟩; go_big_quiet_on) | (refine ⟨_, fun _ _ _ => rfl, ?_⟩; go_big_quiet_on)
        go_big_quiet_want
        go_big_quiet_op
        first | go_big_quiet_on | (refine ⟨_, fun _ _ => rfl, ?_⟩; go_big_quiet_on) | (refine ⟨_, fun _ _ _ => rfl, ?_⟩; go_big_quiet_on)
        go_big_quiet_want
        refine qC_load32 (.tmp 152) rfl p2 1 _ rfl C6.out ?_
        simp only [Act.put, List.setIfInBounds_toArray, List.set_cons_succ, List.set_cons_zero]
        go_big_quiet_on
        go_big_quiet_want
        go_big_quiet_op
        first | go_big_quiet_on | (refine ⟨_, fun _ _ => rfl, ?_⟩; go_big_quiet_on) | (refine ⟨_, fun _ _ _ => rfl, ?_⟩; go_big_quiet_on)
        go_big_quiet_want
        go_big_quiet_op
        first | go_big_quiet_on | (refine ⟨_, fun _ _ => rfl, ?_⟩; go_big_quiet_on) | (refine ⟨_, fun _ _ _ => rfl, ?_⟩; go_big_quiet_on)
        go_big_quiet_want
        go_big_quiet_op
        first | go_big_quiet_on | (refine ⟨_, fun _ _ => rfl, ?_⟩; go_big_quiet_on) | (refine ⟨_, fun _ _ _ => rfl, ?_⟩; go_big_quiet_on)
        go_big_quiet_want
        go_big_quiet_op
        first | go_big_quiet_on | (refine ⟨_, fun _ _ => rfl, ?_⟩; go_big_quiet_on) | (refine ⟨_, fun _ _ _ => rfl, ?_⟩; go_big_quiet_on)
        go_big_quiet_want
        refine qC_load29 (.tmp 157) rfl g ((n - 1) * 3) _ rfl M6.out ?_
        simp only [Act.put, List.setIfInBounds_toArray, List.set_cons_succ, List.set_cons_zero]
        go_big_quiet_on
        go_big_quiet_want
        refine qC_of (.bool false) (fun wq hC => by unfold execOp; simp [go_sem]) ?_
        simp only [Act.put, List.setIfInBounds_toArray, List.set_cons_succ, List.set_cons_zero]
        go_big_quiet_on
        go_big_quiet_want
        go_big_quiet_op
        first | go_big_quiet_on | (refine ⟨_, fun _ _ => rfl, ?_⟩; go_big_quiet_on) | (refine ⟨_, fun _ _ _ => rfl, ?_⟩; go_big_quiet_on)
        go_big_quiet_want
        go_big_quiet_op
        first | go_big_quiet_on | (refine ⟨_, fun _ _ => rfl, ?_⟩; go_big_quiet_on) | (refine ⟨_, fun _ _ _ => rfl, ?_⟩; go_big_quiet_on)
        go_big_quiet_want
        go_big_quiet_op
        first | go_big_quiet_on | (refine ⟨_, fun _ _ => rfl, ?_⟩; go_big_quiet_on) | (refine ⟨_, fun _ _ _ => rfl, ?_⟩; go_big_quiet_on)
        go_big_quiet_want
        go_big_quiet_op
        first | go_big_quiet_on | (refine ⟨_, fun _ _ => rfl, ?_⟩; go_big_quiet_on) | (refine ⟨_, fun _ _ _ => rfl, ?_⟩; go_big_quiet_on)
        go_big_quiet_want
        go_big_quiet_op
        first | go_big_quiet_on | (refine ⟨_, fun _ _ => rfl, ?_⟩; go_big_quiet_on) | (refine ⟨_, fun _ _ _ => rfl, ?_⟩; go_big_quiet_on)
        go_big_quiet_want
        go_big_quiet_op
        first | go_big_quiet_on | (refine ⟨_, fun _ _ => rfl, ?_⟩; go_big_quiet_on) | (refine ⟨_, fun _ _ _ => rfl, ?_⟩; go_big_quiet_on)
        go_big_quiet_want
        refine qC_load32 (.tmp 165) rfl p2 1 _ rfl C6.out ?_
        simp only [Act.put, List.setIfInBounds_toArray, List.set_cons_succ, List.set_cons_zero]
        go_big_quiet_on
        go_big_quiet_want
        go_big_quiet_op
        first | go_big_quiet_on | (refine ⟨_, fun _ _ => rfl, ?_⟩; go_big_quiet_on) | (refine ⟨_, fun _ _ _ => rfl, ?_⟩; go_big_quiet_on)
        go_big_quiet_want
        refine qC_of (.bool false) (fun wq hC => by unfold execOp; simp [go_sem]) ?_
        simp only [Act.put, List.setIfInBounds_toArray, List.set_cons_succ, List.set_cons_zero]
        go_big_quiet_on
        go_big_quiet_want
        go_big_quiet_op
        first | go_big_quiet_on | (refine ⟨_, fun _ _ => rfl, ?_⟩; go_big_quiet_on) | (refine ⟨_, fun _ _ _ => rfl, ?_⟩; go_big_quiet_on)
        refine wpQuiet_nil ?_
        intro wz hz
        have TWZ := Box'.mk (TW7.out.below KR.out hz)
        clear hz C6 M0 M6 TW7
        go_wp2_with fail
        exact ⟨⟨k + 1, nw, sd, F1, F2, rfl, by go_num, by omega, TWZ⟩, by simp [intOf]; omega⟩
    · obtain rfl : m = k := by omega
      have an := HAN.out wr
      have BB := Box'.mk TW.out.be
      clear TW HX KR HS HA HT HD TS TL
      go_wp2_with fail
      refine an.mono ?_
      rintro e w9 ⟨rfl, b9⟩
      have B9 := Box'.mk (BB.out.trans (b9.mono BB.out.size))
      clear an b9
      go_wp2_with fail
      go_ret
      exact ⟨rfl, B9.out⟩
end Go.Proofs.Ytikkekdmahdgaaa
