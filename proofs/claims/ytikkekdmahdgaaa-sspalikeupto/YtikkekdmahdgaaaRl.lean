/- The walk of SspTakes. -/
import Derived.Test.YtikkekdmahdgaaaRk
namespace Go.Proofs.Ytikkekdmahdgaaa
open Go.RowKit Go.BigFrame
set_option linter.unusedSimpArgs false
set_option linter.unusedVariables false

/-- An instruction's cells. -/
def InsAt (N : Nat) (w : World) (b o : Nat) (x : Ins) : Prop := ∃ vb, w.cell? ⟨b, o, none⟩ = some (.int .u64 (x.o.toNat : Int)) ∧ w.cell? ⟨b, o + 1, none⟩ = some (.int .u64 (x.n.toNat : Int)) ∧ w.cell? ⟨b, o + 2, none⟩ = some (.int .u64 (x.ack.toNat : Int)) ∧ w.cell? ⟨b, o + 3, none⟩ = some (.int .u64 (x.thr.toNat : Int)) ∧ w.cell? ⟨b, o + 4, none⟩ = some vb ∧ InE N w vb x.dif
def InsL (N : Nat) (w : World) (v : Value) (xs : List Ins) : Prop := ∃ a c, v = .slice a xs.length c ∧ xs.length ≤ c ∧ ∀ k, k < xs.length → ∃ b o, a = some ⟨b, o, none⟩ ∧ b < N ∧ InsAt N w b (o + k * 5) (xs.getD k Ins.none)
theorem InsL.below {N : Nat} {w w' : World} {v : Value} {xs : List Ins} (h : InsL N w v xs) (hb : Below N w w') : InsL N w' v xs := by
  obtain ⟨a, c, h1, h2, h3⟩ := h
  refine ⟨a, c, h1, h2, fun k hk => ?_⟩
  obtain ⟨b, o, q1, q2, vb, e0, e1, e2, e3, e4, e5⟩ := h3 k hk
  have ce : ∀ q, w'.cell? ⟨b, q, none⟩ = w.cell? ⟨b, q, none⟩ := fun q => hb.cell (p := ⟨b, q, none⟩) q2
  exact ⟨b, o, q1, q2, vb, (ce _).trans e0, (ce _).trans e1, (ce _).trans e2, (ce _).trans e3, (ce _).trans e4, e5.below hb (Nat.le_refl _)⟩
def difK (xs : List Ins) (k : Nat) : Nat := ((xs.take k).map fun x => x.dif.length).sum
theorem difK_step (xs : List Ins) (k : Nat) (h : k < xs.length) : difK xs (k + 1) = difK xs k + (xs.getD k Ins.none).dif.length := by
  unfold difK
  rw [List.take_add_one, List.getElem?_eq_getElem h, show xs.getD k Ins.none = xs[k] by simp [h]]
  simp only [Option.toList, List.map_append, List.map_cons, List.map_nil, List.sum_append, List.sum_cons, List.sum_nil, Nat.add_zero]
theorem difK_le (xs : List Ins) (k : Nat) : difK xs k ≤ difK xs xs.length := by
  unfold difK
  rw [List.take_length]
  have e : xs.map (fun x => x.dif.length) = (xs.take k).map (fun x => x.dif.length) ++ (xs.drop k).map (fun x => x.dif.length) := by rw [← List.map_append, List.take_append_drop]
  rw [e, List.sum_append]; omega

set_option maxRecDepth 100000 in
set_option maxHeartbeats 8000000 in
theorem takes_walk (RR : World → (Nat → Prop) → Nat → List Rw → Prop) (KR : KeepR RR) (HN : NewRC 18 RR) (HT : TakeRC 20 RR) (HL : LateRC 22 RR) (HH : HoldRC 23 RR) (HA : ∀ w, Calls Try.prog 17 #[] w fun e w' => e = .returned (.bool true) ∧ Below w.heap.size w w')
    (w : World) (t : List UInt8) (v : Value) (xs : List Ins) (h : InsL w.heap.size w v xs) (hn : xs.length ≤ 1048576) (hs : t.length + difK xs xs.length ≤ 4398046511104) :
    Calls Try.prog 4 #[sT t, v] w fun e w' => e = .returned (.bool true) ∧ Below w.heap.size w w' := by
  have HX := Box'.mk h
  have KR := Box'.mk KR
  have HT := Box'.mk HT
  have HL := Box'.mk HL
  have HH := Box'.mk HH
  have HA := Box'.mk HA
  have DS := Box'.mk (difK_step xs)
  have DL := Box'.mk (difK_le xs)
  obtain ⟨a, c, rfl, hc, _⟩ := h
  generalize hm : xs.length = m at *
  have HM := Box'.mk hm
  clear hm
  have n1 := HN t w
  unfold sT at n1 ⊢
  go_enter Try.func4, Try.ntmps4
  go_wp2_with fail
  refine n1.mono ?_
  rintro e w1 ⟨p1, F1, rfl, hP, hB, hF⟩
  have P1 := Box'.mk hP
  have B1 := Box'.mk hB
  have G1 := Box'.mk hF
  clear n1 hP hB hF HN
  have n2 := newRecv_any t w1
  unfold sT at n2
  go_wp2_with fail
  refine n2.mono ?_
  rintro e w2 ⟨p2, F2, rfl, hP, hB, hF⟩
  have Q2 := Box'.mk hP
  have Q1 := Box'.mk (KR.out.below P1.out hB)
  have B2 := Box'.mk (B1.out.trans (hB.mono B1.out.size))
  have D2 : Box' (∀ j, F1 j → w.heap.size ≤ j ∧ ¬ F2 j) := ⟨fun j hj => ⟨G1.out j hj, fun h2 => by have := hF j h2; have := KR.out.2 _ _ _ _ P1.out j hj; omega⟩⟩
  have G2 : Box' (∀ j, F2 j → w.heap.size ≤ j) := ⟨fun j hj => Nat.le_trans B1.out.size (hF j hj)⟩
  have L2 : Box' (0 < [(⟨0, t, 0⟩ : Rw)].length ∧ [(⟨0, t, 0⟩ : Rw)].length ≤ 32 ∧ ∀ y, y ∈ [(⟨0, t, 0⟩ : Rw)] → y.t.length ≤ t.length + difK xs 0) := ⟨by simp, by simp, fun y hy => by rw [List.mem_singleton] at hy; rw [hy]; simp [difK]⟩
  clear n2 hP hB hF P1 B1 G1
  generalize [(⟨0, t, 0⟩ : Rw)] = l0 at *
  go_wp2_with fail
  go_loopw [7] (fun i wr => ∃ (k : Nat) (ls : List Rw) (F1 F2 : Nat → Prop), i = .int .i64 (k : Int) ∧ k ≤ m ∧ Box' (RR wr F1 p1 ls) ∧ Box' (RcR wr F2 p2 ls) ∧ Box' (∀ j, F1 j → w.heap.size ≤ j ∧ ¬ F2 j) ∧ Box' (∀ j, F2 j → w.heap.size ≤ j) ∧ Box' (0 < ls.length ∧ ls.length ≤ 32 ∧ ∀ y, y ∈ ls → y.t.length ≤ t.length + difK xs k) ∧ Box' (Below w.heap.size w wr)) (fun i _ => m - (intOf i).toNat)
  case atStart => exact ⟨0, l0, F1, F2, rfl, Nat.zero_le _, Q1, Q2, D2, G2, L2, B2⟩
  case round =>
    clear Q1 Q2 D2 G2 L2 B2
    rename World => wr
    obtain ⟨k, ls, F1, F2, rfl, hk, P1, P2, DD, GG, LL, BB⟩ := hrel
    by_cases hlt : k < m
    · obtain ⟨a', c', e, _, H3⟩ := HX.out.below BB.out
      obtain ⟨b, o, ha, hbN, vb, q0, q1, q2, q3, q4, q5⟩ := H3 k (by rw [HM.out]; exact hlt)
      injection e with e1 e3 e2
      clear e3 H3
      subst e2
      rw [ha] at e1
      subst e1
      have ds := DS.out k (by first | exact hlt | (rw [HM.out]; exact hlt))
      have dl := DL.out (k + 1)
      have hd1 : (xs.getD k Ins.none).dif.length ≤ 4398046511104 := by rw [ds] at dl; omega
      have ht1 : ∀ y, y ∈ ls → y.t.length ≤ 4398046511104 := fun y hy => by have := LL.out.2.2 y hy; rw [ds] at dl; omega
      have TX := takeF_txt ls (xs.getD k Ins.none) _ LL.out.2.2
      have TL := takeF_len ls (xs.getD k Ins.none) LL.out.2.1 LL.out.1
      have LN : Box' (0 < (takeF ls (xs.getD k Ins.none)).1.length ∧ (takeF ls (xs.getD k Ins.none)).1.length ≤ 32 ∧ ∀ y, y ∈ (takeF ls (xs.getD k Ins.none)).1 → y.t.length ≤ t.length + difK xs (k + 1)) := ⟨TL.2, TL.1, fun y hy => by have := TX y hy; rw [ds]; omega⟩
      have t1 := HT.out wr F1 p1 w.heap.size ls (xs.getD k Ins.none) vb P1.out LL.out.1 LL.out.2.1 BB.out.size (fun j hj => (DD.out j hj).1) q5 hd1 ht1
      have CE : Box' (∀ wx, Below w.heap.size wr wx → ∀ q, wx.cell? ⟨b, q, none⟩ = wr.cell? ⟨b, q, none⟩) := ⟨fun wx hb q => hb.cell (p := ⟨b, q, none⟩) hbN⟩
      have T2 : Box' (∀ wx F2', RcR wx F2' p2 ls → Below w.heap.size wr wx → Calls Try.prog 21 #[.pointer (some ⟨p2, 0, none⟩), .agg (insA (xs.getD k Ins.none) vb)] wx fun e w' => ∃ F', e = .returned (.tuple #[.bool (takeF ls (xs.getD k Ins.none)).2.1, .int .i64 (takeF ls (xs.getD k Ins.none)).2.2]) ∧ RcR w' F' p2 (takeF ls (xs.getD k Ins.none)).1 ∧ Tch F2' wx w' ∧ ∀ k, F' k → F2' k ∨ wx.heap.size ≤ k) := ⟨fun wx F2' hP hb => take_any wx F2' p2 ls _ vb hP LL.out.2.1 ((q5.below hb (Nat.le_refl _)).up (Nat.le_trans BB.out.size hb.size)) (by omega) (fun k hk => by have := ht1 _ (getD_mem hk); omega)⟩
      unfold insA uV at t1 T2
      clear ds dl hd1 ht1 TX TL q5 LL
      generalize (takeF ls (xs.getD k Ins.none)) = R at *
      generalize xs.getD k Ins.none = x at *
      obtain ⟨ls', r1, r2⟩ := R
      simp only at t1 T2 LN
      go_wp2_with fail
      refine t1.mono ?_
      rintro e w3 ⟨F1', rfl, hP, hT, hN⟩
      have o3 := RcR.keepR.other P2.out (fun j hj h1 => (DD.out j h1).2 hj) hT hN
      have bt := hT.below BB.out.size (fun j hj => (DD.out j hj).1)
      have P1 := Box'.mk hP
      have P2 := Box'.mk o3.1
      have DD : Box' (∀ j, F1' j → w.heap.size ≤ j ∧ ¬ F2 j) := ⟨fun j hj => ⟨by rcases hN j hj with q | q; exact (DD.out j q).1; have := BB.out.size; omega, fun h2 => o3.2 j h2 hj⟩⟩
      have BW := Box'.mk bt
      have BB := Box'.mk (BB.out.trans bt)
      have t2 := T2.out w3 F2 P2.out bt
      rw [← CE.out w3 bt] at q0 q1 q2 q3 q4
      clear t1 hP hT hN o3 bt T2
      go_wp2_with fail
      refine t2.mono ?_
      rintro e w4 ⟨F2', rfl, hP, hT, hN⟩
      have o3 := KR.out.other P1.out (fun j hj h1 => (DD.out j hj).2 h1) hT hN
      have bt := hT.below BB.out.size GG.out
      have P1 := Box'.mk o3.1
      have P2 := Box'.mk hP
      have GG : Box' (∀ j, F2' j → w.heap.size ≤ j) := ⟨fun j hj => by rcases hN j hj with q | q; exact GG.out j q; have := BB.out.size; omega⟩
      have DD : Box' (∀ j, F1' j → w.heap.size ≤ j ∧ ¬ F2' j) := ⟨fun j hj => ⟨(DD.out j hj).1, o3.2 j hj⟩⟩
      have BB := Box'.mk (BB.out.trans bt)
      have lt1 := HL.out w4 F1' p1 ls' P1.out LN.out.1 LN.out.2.1
      unfold sT uV at lt1
      have HZ : Box' (ls'.getD (ls'.length - 1) Rw.zero = ls'.getD (ls'.length - 1) Rw.zero) := ⟨rfl⟩
      generalize hz : ls'.getD (ls'.length - 1) Rw.zero = z at lt1
      have HZ := Box'.mk hz
      clear hz
      have hzn := z.n.toNat_lt
      clear t2 hP hT hN o3 bt q0 q1 q2 q3 q4 CE BW
      go_wp2_with fail
      refine lt1.mono ?_
      rintro e w5 ⟨rfl, hb⟩
      have P1 := Box'.mk (KR.out.below P1.out hb)
      have P2 := Box'.mk (RcR.keepR.below P2.out hb)
      have BB := Box'.mk (BB.out.trans (hb.mono BB.out.size))
      have ba : Below w5.heap.size w5 (w5.alloc (.cells #[.string ⟨z.t.toArray⟩] 26)) := (Below.refl _ _).alloc (Nat.le_refl _) _
      have ra := Row.new w5 26 #[.string ⟨z.t.toArray⟩]
      have P1 := Box'.mk (KR.out.below P1.out ba)
      have P2 := Box'.mk (RcR.keepR.below P2.out ba)
      have BB := Box'.mk (BB.out.trans (ba.mono BB.out.size))
      have RA := Box'.mk ra
      have h1 := HH.out _ F1' p1 ls' P1.out LN.out.1 LN.out.2.1
      clear lt1 hb ba ra
      go_wp2_with fail
      refine h1.mono ?_
      rintro e w6 ⟨vh, rfl, nu, hb⟩
      have P1 := Box'.mk (KR.out.below P1.out hb)
      have p2 := RcR.keepR.below P2.out hb
      have P2 := Box'.mk p2
      have BB := Box'.mk (BB.out.trans (hb.mono BB.out.size))
      have RA := Box'.mk (RA.out.below hb RA.out.lt)
      obtain ⟨v2, hF2, hr, ho, hp, _⟩ := p2
      obtain ⟨g, c2, rfl, hc2, _, hg, hcl⟩ := ho.cells hp
      obtain ⟨ah, ch, rfl, hch, nk⟩ := nu
      rw [List.length_map] at hch nk ⊢
      generalize hln : ls'.length = n at *
      have HLN := Box'.mk hln
      clear hln
      have C6 : Box' (∀ wa, Below w6.heap.size w6 wa → wa.cell? ⟨p2, 0, none⟩ = some (.slice (some ⟨g, 0, none⟩) n c2)) := ⟨fun wa hb => (hr.below hb hr.lt).cell 0⟩
      have MA : Box' (∀ j, j < n → ∀ wa, Below w6.heap.size w6 wa → wa.cell? ⟨g, j * 3, none⟩ = some (.int .u64 ((ls'.getD j Rw.zero).n.toNat : Int)) ∧ wa.cell? ⟨g, j * 3 + 1, none⟩ = some (.string ⟨(ls'.getD j Rw.zero).t.toArray⟩)) := ⟨fun j hj wa hb => by
        have ce : ∀ q, wa.cell? ⟨g, q, none⟩ = w6.cell? ⟨g, q, none⟩ := fun q => hb.cell (p := ⟨g, q, none⟩) hg
        exact ⟨(ce _).trans (hcl _ _ (rowsC_at ls' j (by rw [HLN.out]; exact hj)).1), (ce _).trans (hcl _ _ (rowsC_at ls' j (by rw [HLN.out]; exact hj)).2.1)⟩⟩
      have M6 : Box' (∀ wa, Below w6.heap.size w6 wa → wa.cell? ⟨g, (n - 1) * 3, none⟩ = some (.int .u64 (z.n.toNat : Int))) := ⟨fun wa hb => by have := (MA.out (n - 1) (by omega) wa hb).1; rw [HZ.out] at this; exact this⟩
      have T6 : Box' (∀ wa, Below w6.heap.size w6 wa → wa.cell? ⟨g, (n - 1) * 3 + 1, none⟩ = some (.string ⟨z.t.toArray⟩)) := ⟨fun wa hb => by have := (MA.out (n - 1) (by omega) wa hb).2; rw [HZ.out] at this; exact this⟩
      have X6 : Box' (∀ wa, Below w6.heap.size w6 wa → wa.cell? ⟨w5.heap.size, 0, none⟩ = some (.string ⟨z.t.toArray⟩)) := ⟨fun wa hb => (RA.out.below hb RA.out.lt).cell 0⟩
      have NA : Box' (∀ j, j < n → ∃ b o, ah = some ⟨b, o, none⟩ ∧ ∀ wa, Below w6.heap.size w6 wa → wa.cell? ⟨b, o + j, none⟩ = some (.int .u64 ((ls'.getD j Rw.zero).n.toNat : Int))) := ⟨fun j hj => by
        obtain ⟨b, o, q1, q2, q3⟩ := nk j hj
        refine ⟨b, o, q1, fun wa hb => (hb.cell (p := ⟨b, o + j, none⟩) q2).trans (q3.trans ?_)⟩
        rw [List.getD_eq_getElem?_getD, List.getElem?_map, List.getElem?_eq_getElem (show j < ls'.length by rw [HLN.out]; exact hj), show ls'.getD j Rw.zero = ls'[j]'(by rw [HLN.out]; exact hj) by simp [show j < ls'.length by rw [HLN.out]; exact hj]]
        rfl⟩
      generalize w5.heap.size = b13 at *
      have hn32 := LN.out.2.1
      clear h1 hb hr ho hcl nk RA HZ hF2
      go_upto_region 11 with (fail)
      refine wp_region_lex (fun wa => Below w6.heap.size w6 wa) (by kernel_rfl) (by kernel_rfl) (Below.refl _ _).drew ?_
      go_big_quiet_want
      go_big_quiet_op
      first | go_big_quiet_on | (refine ⟨_, fun _ _ => rfl, ?_⟩; go_big_quiet_on) | (refine ⟨_, fun _ _ _ => rfl, ?_⟩; go_big_quiet_on)
      go_big_quiet_want
      go_big_quiet_op
      first | go_big_quiet_on | (refine ⟨_, fun _ _ => rfl, ?_⟩; go_big_quiet_on) | (refine ⟨_, fun _ _ _ => rfl, ?_⟩; go_big_quiet_on)
      go_big_quiet_want
      refine qC_of (.bool false) (fun wq hC => by unfold execOp; simp [go_sem]) ?_
      simp only [Act.put, List.setIfInBounds_toArray, List.set_cons_succ, List.set_cons_zero]
      go_big_quiet_on
      go_big_quiet_want
      go_big_quiet_op
      first | go_big_quiet_on | (refine ⟨_, fun _ _ => rfl, ?_⟩; go_big_quiet_on) | (refine ⟨_, fun _ _ _ => rfl, ?_⟩; go_big_quiet_on)
      go_big_quiet_want
      go_big_quiet_op
      first | go_big_quiet_on | (refine ⟨_, fun _ _ => rfl, ?_⟩; go_big_quiet_on) | (refine ⟨_, fun _ _ _ => rfl, ?_⟩; go_big_quiet_on)
      go_big_quiet_want
      go_big_quiet_op
      first | go_big_quiet_on | (refine ⟨_, fun _ _ => rfl, ?_⟩; go_big_quiet_on) | (refine ⟨_, fun _ _ _ => rfl, ?_⟩; go_big_quiet_on)
      go_big_quiet_want
      refine qC_of (.bool false) (fun wq hC => by unfold execOp; simp [go_sem]) ?_
      simp only [Act.put, List.setIfInBounds_toArray, List.set_cons_succ, List.set_cons_zero]
      go_big_quiet_on
      go_big_quiet_want
      go_big_quiet_op
      first | go_big_quiet_on | (refine ⟨_, fun _ _ => rfl, ?_⟩; go_big_quiet_on) | (refine ⟨_, fun _ _ _ => rfl, ?_⟩; go_big_quiet_on)
      go_big_quiet_want
      go_big_quiet_op
      first | go_big_quiet_on | (refine ⟨_, fun _ _ => rfl, ?_⟩; go_big_quiet_on) | (refine ⟨_, fun _ _ _ => rfl, ?_⟩; go_big_quiet_on)
      go_big_quiet_want
      go_big_quiet_op
      first | go_big_quiet_on | (refine ⟨_, fun _ _ => rfl, ?_⟩; go_big_quiet_on) | (refine ⟨_, fun _ _ _ => rfl, ?_⟩; go_big_quiet_on)
      go_big_quiet_want
      go_big_quiet_op
      first | go_big_quiet_on | (refine ⟨_, fun _ _ => rfl, ?_⟩; go_big_quiet_on) | (refine ⟨_, fun _ _ _ => rfl, ?_⟩; go_big_quiet_on)
      go_big_quiet_want
      go_big_quiet_op
      first | go_big_quiet_on | (refine ⟨_, fun _ _ => rfl, ?_⟩; go_big_quiet_on) | (refine ⟨_, fun _ _ _ => rfl, ?_⟩; go_big_quiet_on)
      go_big_quiet_want
      go_big_quiet_op
      first | go_big_quiet_on | (refine ⟨_, fun _ _ => rfl, ?_⟩; go_big_quiet_on) | (refine ⟨_, fun _ _ _ => rfl, ?_⟩; go_big_quiet_on)
      go_big_quiet_want
      refine qC_load32 (.tmp 66) rfl p2 0 _ rfl C6.out ?_
      simp only [Act.put, List.setIfInBounds_toArray, List.set_cons_succ, List.set_cons_zero]
      go_big_quiet_on
      go_big_quiet_want
      go_big_quiet_op
      first | go_big_quiet_on | (refine ⟨_, fun _ _ => rfl, ?_⟩; go_big_quiet_on) | (refine ⟨_, fun _ _ _ => rfl, ?_⟩; go_big_quiet_on)
      go_big_quiet_want
      go_big_quiet_op
      first | go_big_quiet_on | (refine ⟨_, fun _ _ => rfl, ?_⟩; go_big_quiet_on) | (refine ⟨_, fun _ _ _ => rfl, ?_⟩; go_big_quiet_on)
      go_big_quiet_want
      go_big_quiet_op
      first | go_big_quiet_on | (refine ⟨_, fun _ _ => rfl, ?_⟩; go_big_quiet_on) | (refine ⟨_, fun _ _ _ => rfl, ?_⟩; go_big_quiet_on)
      go_big_quiet_want
      refine qC_load32 (.tmp 70) rfl p2 0 _ rfl C6.out ?_
      simp only [Act.put, List.setIfInBounds_toArray, List.set_cons_succ, List.set_cons_zero]
      go_big_quiet_on
      go_big_quiet_want
      go_big_quiet_op
      first | go_big_quiet_on | (refine ⟨_, fun _ _ => rfl, ?_⟩; go_big_quiet_on) | (refine ⟨_, fun _ _ _ => rfl, ?_⟩; go_big_quiet_on)
      go_big_quiet_want
      go_big_quiet_op
      first | go_big_quiet_on | (refine ⟨_, fun _ _ => rfl, ?_⟩; go_big_quiet_on) | (refine ⟨_, fun _ _ _ => rfl, ?_⟩; go_big_quiet_on)
      go_big_quiet_want
      go_big_quiet_op
      first | go_big_quiet_on | (refine ⟨_, fun _ _ => rfl, ?_⟩; go_big_quiet_on) | (refine ⟨_, fun _ _ _ => rfl, ?_⟩; go_big_quiet_on)
      go_big_quiet_want
      go_big_quiet_op
      first | go_big_quiet_on | (refine ⟨_, fun _ _ => rfl, ?_⟩; go_big_quiet_on) | (refine ⟨_, fun _ _ _ => rfl, ?_⟩; go_big_quiet_on)
      go_big_quiet_want
      refine qC_load29 (.tmp 75) rfl g ((n - 1) * 3) _ rfl M6.out ?_
      simp only [Act.put, List.setIfInBounds_toArray, List.set_cons_succ, List.set_cons_zero]
      go_big_quiet_on
      go_big_quiet_want
      refine qC_of (.bool false) (fun wq hC => by unfold execOp; simp [go_sem]) ?_
      simp only [Act.put, List.setIfInBounds_toArray, List.set_cons_succ, List.set_cons_zero]
      go_big_quiet_on
      go_big_quiet_want
      go_big_quiet_op
      first | go_big_quiet_on | (refine ⟨_, fun _ _ => rfl, ?_⟩; go_big_quiet_on) | (refine ⟨_, fun _ _ _ => rfl, ?_⟩; go_big_quiet_on)
      go_big_quiet_want
      go_big_quiet_op
      first | go_big_quiet_on | (refine ⟨_, fun _ _ => rfl, ?_⟩; go_big_quiet_on) | (refine ⟨_, fun _ _ _ => rfl, ?_⟩; go_big_quiet_on)
      go_big_quiet_want
      go_big_quiet_op
      first | go_big_quiet_on | (refine ⟨_, fun _ _ => rfl, ?_⟩; go_big_quiet_on) | (refine ⟨_, fun _ _ _ => rfl, ?_⟩; go_big_quiet_on)
      go_big_quiet_want
      refine qC_load9 (.tmp 80) rfl b13 0 _ rfl X6.out ?_
      simp only [Act.put, List.setIfInBounds_toArray, List.set_cons_succ, List.set_cons_zero]
      go_big_quiet_on
      go_big_quiet_want
      go_big_quiet_op
      first | go_big_quiet_on | (refine ⟨_, fun _ _ => rfl, ?_⟩; go_big_quiet_on) | (refine ⟨_, fun _ _ _ => rfl, ?_⟩; go_big_quiet_on)
      go_big_quiet_want
      go_big_quiet_op
      first | go_big_quiet_on | (refine ⟨_, fun _ _ => rfl, ?_⟩; go_big_quiet_on) | (refine ⟨_, fun _ _ _ => rfl, ?_⟩; go_big_quiet_on)
      go_big_quiet_want
      go_big_quiet_op
      first | go_big_quiet_on | (refine ⟨_, fun _ _ => rfl, ?_⟩; go_big_quiet_on) | (refine ⟨_, fun _ _ _ => rfl, ?_⟩; go_big_quiet_on)
      go_big_quiet_want
      refine qC_load32 (.tmp 84) rfl p2 0 _ rfl C6.out ?_
      simp only [Act.put, List.setIfInBounds_toArray, List.set_cons_succ, List.set_cons_zero]
      go_big_quiet_on
      go_big_quiet_want
      go_big_quiet_op
      first | go_big_quiet_on | (refine ⟨_, fun _ _ => rfl, ?_⟩; go_big_quiet_on) | (refine ⟨_, fun _ _ _ => rfl, ?_⟩; go_big_quiet_on)
      go_big_quiet_want
      go_big_quiet_op
      first | go_big_quiet_on | (refine ⟨_, fun _ _ => rfl, ?_⟩; go_big_quiet_on) | (refine ⟨_, fun _ _ _ => rfl, ?_⟩; go_big_quiet_on)
      go_big_quiet_want
      go_big_quiet_op
      first | go_big_quiet_on | (refine ⟨_, fun _ _ => rfl, ?_⟩; go_big_quiet_on) | (refine ⟨_, fun _ _ _ => rfl, ?_⟩; go_big_quiet_on)
      go_big_quiet_want
      refine qC_load32 (.tmp 88) rfl p2 0 _ rfl C6.out ?_
      simp only [Act.put, List.setIfInBounds_toArray, List.set_cons_succ, List.set_cons_zero]
      go_big_quiet_on
      go_big_quiet_want
      go_big_quiet_op
      first | go_big_quiet_on | (refine ⟨_, fun _ _ => rfl, ?_⟩; go_big_quiet_on) | (refine ⟨_, fun _ _ _ => rfl, ?_⟩; go_big_quiet_on)
      go_big_quiet_want
      go_big_quiet_op
      first | go_big_quiet_on | (refine ⟨_, fun _ _ => rfl, ?_⟩; go_big_quiet_on) | (refine ⟨_, fun _ _ _ => rfl, ?_⟩; go_big_quiet_on)
      go_big_quiet_want
      go_big_quiet_op
      first | go_big_quiet_on | (refine ⟨_, fun _ _ => rfl, ?_⟩; go_big_quiet_on) | (refine ⟨_, fun _ _ _ => rfl, ?_⟩; go_big_quiet_on)
      go_big_quiet_want
      go_big_quiet_op
      first | go_big_quiet_on | (refine ⟨_, fun _ _ => rfl, ?_⟩; go_big_quiet_on) | (refine ⟨_, fun _ _ _ => rfl, ?_⟩; go_big_quiet_on)
      go_big_quiet_want
      refine qC_load9 (.tmp 93) rfl g ((n - 1) * 3 + 1) _ rfl T6.out ?_
      simp only [Act.put, List.setIfInBounds_toArray, List.set_cons_succ, List.set_cons_zero]
      go_big_quiet_on
      go_big_quiet_want
      refine qC_of (.bool false) (fun wq hC => by unfold execOp; simp [go_sem]) ?_
      simp only [Act.put, List.setIfInBounds_toArray, List.set_cons_succ, List.set_cons_zero]
      go_big_quiet_on
      go_big_quiet_want
      go_big_quiet_op
      first | go_big_quiet_on | (refine ⟨_, fun _ _ => rfl, ?_⟩; go_big_quiet_on) | (refine ⟨_, fun _ _ _ => rfl, ?_⟩; go_big_quiet_on)
      go_big_quiet_want
      go_big_quiet_op
      first | go_big_quiet_on | (refine ⟨_, fun _ _ => rfl, ?_⟩; go_big_quiet_on) | (refine ⟨_, fun _ _ _ => rfl, ?_⟩; go_big_quiet_on)
      go_big_quiet_want
      go_big_quiet_op
      first | go_big_quiet_on | (refine ⟨_, fun _ _ => rfl, ?_⟩; go_big_quiet_on) | (refine ⟨_, fun _ _ _ => rfl, ?_⟩; go_big_quiet_on)
      go_big_quiet_want
      go_big_quiet_op
      first | go_big_quiet_on | (refine ⟨_, fun _ _ => rfl, ?_⟩; go_big_quiet_on) | (refine ⟨_, fun _ _ _ => rfl, ?_⟩; go_big_quiet_on)
      go_big_quiet_want
      go_big_quiet_op
      first | go_big_quiet_on | (refine ⟨_, fun _ _ => rfl, ?_⟩; go_big_quiet_on) | (refine ⟨_, fun _ _ _ => rfl, ?_⟩; go_big_quiet_on)
      go_big_quiet_want
      go_big_quiet_op
      first | go_big_quiet_on | (refine ⟨_, fun _ _ => rfl, ?_⟩; go_big_quiet_on) | (refine ⟨_, fun _ _ _ => rfl, ?_⟩; go_big_quiet_on)
      go_big_quiet_want
      go_big_quiet_op
      first | go_big_quiet_on | (refine ⟨_, fun _ _ => rfl, ?_⟩; go_big_quiet_on) | (refine ⟨_, fun _ _ _ => rfl, ?_⟩; go_big_quiet_on)
      go_big_quiet_want
      refine qC_load32 (.tmp 102) rfl p2 0 _ rfl C6.out ?_
      simp only [Act.put, List.setIfInBounds_toArray, List.set_cons_succ, List.set_cons_zero]
      go_big_quiet_on
      go_big_quiet_want
      go_big_quiet_op
      first | go_big_quiet_on | (refine ⟨_, fun _ _ => rfl, ?_⟩; go_big_quiet_on) | (refine ⟨_, fun _ _ _ => rfl, ?_⟩; go_big_quiet_on)
      go_big_quiet_want
      refine qC_of (.bool false) (fun wq hC => by unfold execOp; simp [go_sem]) ?_
      simp only [Act.put, List.setIfInBounds_toArray, List.set_cons_succ, List.set_cons_zero]
      go_big_quiet_on
      go_big_quiet_want
      go_big_quiet_op
      first | go_big_quiet_on | (refine ⟨_, fun _ _ => rfl, ?_⟩; go_big_quiet_on) | (refine ⟨_, fun _ _ _ => rfl, ?_⟩; go_big_quiet_on)
      refine wpQuiet_nil ?_
      intro wz hz
      have BZ := Box'.mk hz
      clear hz M6 T6 X6
      go_wp2_with fail
      go_loopw [15] (fun i wj => ∃ j : Nat, i = .int .i64 (j : Int) ∧ j ≤ n ∧ Box' (Below w6.heap.size w6 wj)) (fun i _ => n - (intOf i).toNat)
      case atStart => exact ⟨0, rfl, Nat.zero_le _, BZ⟩
      case round =>
        clear BZ
        rename World => wj
        obtain ⟨j, rfl, hj, BJ⟩ := hrel
        by_cases hjn : j < n
        · have C7 := C6
          have M7 := Box'.mk (fun wa hb => (MA.out j hjn wa hb).1)
          obtain ⟨bh, oh, rfl, n7⟩ := NA.out j hjn
          have N7 := Box'.mk n7
          clear n7 NA MA
          generalize (ls'.getD j Rw.zero).n = q at *
          have hq := q.toNat_lt
          go_upto_region 16 with (fail)
          refine wp_region_lex (fun wa => Below w6.heap.size w6 wa) (by kernel_rfl) (by kernel_rfl) BJ.out.drew ?_
          go_big_quiet_want
          go_big_quiet_op
          first | go_big_quiet_on | (refine ⟨_, fun _ _ => rfl, ?_⟩; go_big_quiet_on) | (refine ⟨_, fun _ _ _ => rfl, ?_⟩; go_big_quiet_on)
          go_big_quiet_want
          go_big_quiet_op
          first | go_big_quiet_on | (refine ⟨_, fun _ _ => rfl, ?_⟩; go_big_quiet_on) | (refine ⟨_, fun _ _ _ => rfl, ?_⟩; go_big_quiet_on)
          go_big_quiet_want
          go_big_quiet_op
          first | go_big_quiet_on | (refine ⟨_, fun _ _ => rfl, ?_⟩; go_big_quiet_on) | (refine ⟨_, fun _ _ _ => rfl, ?_⟩; go_big_quiet_on)
          go_big_quiet_want
          refine qC_load29 (.tmp 115) rfl bh (oh + j) _ rfl N7.out ?_
          simp only [Act.put, List.setIfInBounds_toArray, List.set_cons_succ, List.set_cons_zero]
          go_big_quiet_on
          go_big_quiet_want
          go_big_quiet_op
          first | go_big_quiet_on | (refine ⟨_, fun _ _ => rfl, ?_⟩; go_big_quiet_on) | (refine ⟨_, fun _ _ _ => rfl, ?_⟩; go_big_quiet_on)
          go_big_quiet_want
          go_big_quiet_op
          first | go_big_quiet_on | (refine ⟨_, fun _ _ => rfl, ?_⟩; go_big_quiet_on) | (refine ⟨_, fun _ _ _ => rfl, ?_⟩; go_big_quiet_on)
          go_big_quiet_want
          go_big_quiet_op
          first | go_big_quiet_on | (refine ⟨_, fun _ _ => rfl, ?_⟩; go_big_quiet_on) | (refine ⟨_, fun _ _ _ => rfl, ?_⟩; go_big_quiet_on)
          go_big_quiet_want
          refine qC_load32 (.tmp 119) rfl p2 0 _ rfl C7.out ?_
          simp only [Act.put, List.setIfInBounds_toArray, List.set_cons_succ, List.set_cons_zero]
          go_big_quiet_on
          go_big_quiet_want
          go_big_quiet_op
          first | go_big_quiet_on | (refine ⟨_, fun _ _ => rfl, ?_⟩; go_big_quiet_on) | (refine ⟨_, fun _ _ _ => rfl, ?_⟩; go_big_quiet_on)
          go_big_quiet_want
          go_big_quiet_op
          first | go_big_quiet_on | (refine ⟨_, fun _ _ => rfl, ?_⟩; go_big_quiet_on) | (refine ⟨_, fun _ _ _ => rfl, ?_⟩; go_big_quiet_on)
          go_big_quiet_want
          go_big_quiet_op
          first | go_big_quiet_on | (refine ⟨_, fun _ _ => rfl, ?_⟩; go_big_quiet_on) | (refine ⟨_, fun _ _ _ => rfl, ?_⟩; go_big_quiet_on)
          go_big_quiet_want
          refine qC_load29 (.tmp 123) rfl g (j * 3) _ rfl M7.out ?_
          simp only [Act.put, List.setIfInBounds_toArray, List.set_cons_succ, List.set_cons_zero]
          go_big_quiet_on
          go_big_quiet_want
          refine qC_of (.bool false) (fun wq hC => by unfold execOp; simp [go_sem]) ?_
          simp only [Act.put, List.setIfInBounds_toArray, List.set_cons_succ, List.set_cons_zero]
          go_big_quiet_on
          refine wpQuiet_nil ?_
          intro wy hy
          have BY := Box'.mk hy
          clear hy BJ
          go_wp2_with fail
          exact ⟨⟨j + 1, by go_num, by omega, BY⟩, by simp [intOf]; omega⟩
        · obtain rfl : n = j := by omega
          have P1 := Box'.mk (KR.out.below P1.out BJ.out)
          have P2 := Box'.mk (RcR.keepR.below P2.out BJ.out)
          have BB := Box'.mk (BB.out.trans (BJ.out.mono BB.out.size))
          clear C6 MA NA BJ
          go_wp2_with fail
          exact ⟨⟨k + 1, ls', F1', F2', by go_num, by omega, P1, P2, DD, GG, by first | exact LN | (rw [HLN.out]; exact LN), BB⟩, by simp [intOf]; omega⟩
    · obtain rfl : m = k := by omega
      have an := HA.out wr
      clear P1 P2 DD GG LL HX KR HT HL HH DS DL
      go_wp2_with fail
      refine an.mono ?_
      rintro e w9 ⟨rfl, b9⟩
      have B9 := Box'.mk (BB.out.trans (b9.mono BB.out.size))
      clear an b9
      go_wp2_with fail
      go_ret
      exact ⟨rfl, B9.out⟩
end Go.Proofs.Ytikkekdmahdgaaa
