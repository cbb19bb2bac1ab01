/- The reference's mend. -/
import Derived.Test.YtnbonlkmadmpcaaUk
import Derived.BigQuiet
namespace Go.Proofs.Ytnbonlkmadmpcaa
open Go.RowKit Go.BigFrame
set_option linter.unusedVariables false
set_option linter.unusedSimpArgs false
theorem quiet_load_style {C : World → Prop} {op : Oper} {a : Act} {K : Act → Prop} (x : Operand) (ho : op.op = .load 26 x) (b o : Nat) (s : St) (hx : a.eval x = .pointer (some ⟨b, o, none⟩)) (hc : ∀ w, C w → w.rangeAt b o (sA s).toList) (hk : K (a.put op.dst (.agg (sA s)))) : op.quiet Try.prog a C K :=
 ⟨.agg (sA s), fun w hw => by
  have e : (execOp a.eval op).run Try.prog w = .ok (.value (.agg (sA s))) w := by
   unfold execOp
   simp only [ho, hx, Instr.loadAt, Instr.sureAddr, Sem.run_bind, Sem.run_pure, Result.andThen_ok, run_loadVar_mid w b o 26 (sA s).toList _ (hc w hw) Try.underlying26 rfl s24]
  unfold Oper.quietAt
  rw [e]
  exact ⟨rfl, rfl⟩, hk⟩
theorem quiet_neq_style {C : World → Prop} {op : Oper} {a : Act} {K : Act → Prop} (ty : TypeId) (x y : Operand) (ho : op.op = .binOp .neq 26 x y ty) (s t : St) (hx : a.eval x = .agg (sA s)) (hy : a.eval y = .agg (sA t)) (r : Bool) (hr : (!stB s t) = r) (hk : K (a.put op.dst (.bool r))) : op.quiet Try.prog a C K :=
 ⟨.bool r, fun w _ => by
  unfold Oper.quietAt
  rw [run_neq_op ty x y ho s t hx hy r hr w]
  exact ⟨rfl, rfl⟩, hk⟩
theorem rc_wide {w : World} {g : Nat} {l : List Cl} {sp : List Value} (h : RC w g l sp) (k : Nat) (hk : k < l.length) : w.cell? ⟨g, k * 15 + 4, none⟩ = some (.int .u8 ((cat l k).wd : Int)) := h.cell k 4 hk (by decide)
theorem rc_style {w : World} {g : Nat} {l : List Cl} {sp : List Value} (h : RC w g l sp) (k : Nat) (hk : k < l.length) : w.rangeAt g (k * 15 + 5) (sA (cat l k).st).toList := fun j v hv => by
 have hj : j < 10 := by have := (List.getElem?_eq_some_iff.1 hv).1; exact this
 rw [Nat.add_assoc, h.cell k (5 + j) hk (by omega)]
 have e : ∀ j, j < 10 → (cA (cat l k))[5 + j]? = (sA (cat l k).st).toList[j]? := by
  intro j hj
  rcases (show j = 0 ∨ j = 1 ∨ j = 2 ∨ j = 3 ∨ j = 4 ∨ j = 5 ∨ j = 6 ∨ j = 7 ∨ j = 8 ∨ j = 9 by omega) with rfl | rfl | rfl | rfl | rfl | rfl | rfl | rfl | rfl | rfl <;> rfl
 exact (e j hj).trans hv
theorem lay_take (l : List Cl) (o : Nat) (r : List Cl) (h : o + r.length ≤ l.length) : ((lay l o r).drop o).take r.length = r := by
 unfold lay
 have hl : (l.take o).length = o := by rw [List.length_take]; omega
 rw [List.append_assoc, List.drop_append_of_le_length (by omega), List.drop_of_length_le (by omega), List.nil_append, List.take_append_of_le_length (Nat.le_refl _), List.take_length]
set_option maxRecDepth 100000 in
set_option maxHeartbeats 16000000 in
theorem rmend_any (b o n c : Nat) (l : List Cl) (sp : List Value) (r : List Cl) (w : World) (h1 : 1 ≤ n) (hn : n ≤ 1000000) (hnc : n ≤ c) (hlen : r.length = n) (hl : o + n ≤ l.length) (hr : RC w b (lay l o r) sp) :
  Calls Try.prog 40 #[.slice (some ⟨b, o * 15, none⟩) n c] w fun e w' => (∃ v, e = .returned v) ∧ RC w' b (lay l o (mnd r)) sp ∧ Tc b w w' := by
 have M0 := Box'.mk (mid_0 r)
 have MA : Box' (mid r n = mnd r) := ⟨by rw [← hlen]; exact mid_all r⟩
 have MK : Box' (∀ k, k < n → bad r k = false → mid r (k + 1) = mid r k) := ⟨fun k hk h => mid_keep r k (by omega) h⟩
 have MS : Box' (∀ k, k < n → bad r k = true → (lay l o (mid r k)).set (o + k) (bl (cat r k).st) = lay l o (mid r (k + 1))) := ⟨fun k hk h => by
  rw [lay_set l o (mid r k) k _ (by rw [mid_len r k (by omega)]; omega) (by rw [mid_len r k (by omega)]; omega), ← mid_set r k (by omega)]
  unfold mAt
  rw [if_pos h]⟩
 have LL : Box' (∀ k, k < n → o + k < (lay l o (mid r k)).length) := ⟨fun k hk => by rw [lay_len l o _ (by rw [mid_len r k (by omega)]; omega)]; omega⟩
 have SB := Box'.mk refBlank_any
 have hbw := hr.lt
 have HL := Box'.mk hlen
 have C0 : Box' (RC (w.alloc (.cells #[] 49)) b (lay l o r) sp) := ⟨Row.alloc hr _⟩
 have CV : Box' (Cls (w.alloc (.cells #[] 49)).heap.size (w.alloc (.cells #[] 49)) (.slice (some ⟨b, o * 15, none⟩) n c) r) := ⟨by
  have := C0.out.cls o n c (by rw [lay_len l o r (by omega)]; omega) hnc
  rw [← hlen, lay_take l o r (by omega), hlen] at this
  exact this⟩
 have HN : Box' (r = [] → (.slice (some ⟨b, o * 15, none⟩) n c : Value) = .slice none 0 0 ∨ ∃ ad k, (.slice (some ⟨b, o * 15, none⟩) n c : Value) = .slice (some ad) 0 k) := ⟨fun e => by rw [e] at hlen; simp at hlen; omega⟩
 have HM : Box' ((([] : List Cl).length + r.length) * 48 ≤ 140737488355328) := ⟨by rw [List.length_nil, Nat.zero_add]; omega⟩
 have HS : Box' (w.heap.size ≤ (w.alloc (.cells #[] 49)).heap.size) := ⟨by simp⟩
 have OM := Box'.mk (OwnC.made w)
 have T0 : Box' (Tc b w (w.alloc (.cells #[] 49))) := ⟨Tc.of (bR.alloc (Nat.le_refl _) _)⟩
 clear hr
 go_enter Try.func40, Try.ntmps40
 go_upto_region 1 with (first
  | (refine wpList_appC rfl (.tmp 4) (.tmp 5) rfl w.heap.size _ HS.out (.slice (some ⟨w.heap.size, 0, none⟩) 0 0) [] rfl OM.out (.slice (some ⟨b, o * 15, none⟩) n c) r rfl CV.out HN.out HM.out ?_
     intro v2 w2 O2 G2 B2
     rw [List.nil_append] at O2
     obtain ⟨g, cap, sp2, rfl, hg, hcap, hr2⟩ := O2.row (by omega)
     have C1 : Box' (RC w2 b (lay l o r) sp) := ⟨C0.out.below B2 hbw⟩
     have G1 := Box'.mk hr2
     have T1 : Box' (Tc b w w2) := ⟨⟨B2.os.trans T0.out.os, B2.tape.trans T0.out.tape, B2.output.trans T0.out.output, Nat.le_trans T0.out.size B2.size, fun k hk hb => (B2.block k hk).trans (T0.out.block k hk hb)⟩⟩
     rw [HL.out]
     clear G2 B2 hr2 O2 C0 CV HN HM HS OM T0))
 have hgb : g ≠ b := by omega
 clear hg
 go_wp2_with fail
 go_loopw [3] (fun i wr => ∃ k : Nat, k ≤ n ∧ i = .int .i64 (k : Int) ∧ Box' (RC wr b (lay l o (mid r k)) sp) ∧ Box' (RC wr g r sp2) ∧ Box' (Tc b w wr)) (fun i _ => n - (intOf i).toNat)
 case atStart => exact ⟨0, by omega, rfl, by rw [M0.out]; exact C1, G1, T1⟩
 case round =>
  obtain ⟨k, hk, rfl, CC, GG, TT⟩ := hrel
  clear C1 G1 T1
  by_cases hlt : k < n
  case neg =>
   obtain rfl : k = n := by omega
   rw [MA.out] at CC
   go_wp2_with fail
   exact bodyPost_end (results_none rfl _ _) rfl ⟨⟨_, rfl⟩, CC.out, TT.out⟩
  case pos =>
   have hlr : k < r.length := by omega
   have e4 := rc_wide GG.out k hlr
   have S0 : Box' (∀ wx, (∃ n, wx = wr.drewN n) → wx.rangeAt g (k * 15 + 5) (sA (cat r k).st).toList) := ⟨fun wx ⟨n, e⟩ => by subst e; exact rc_style GG.out k hlr⟩
   have PO : Box' (o * 15 + k * 15 = (o + k) * 15) := ⟨by rw [Nat.add_mul]⟩
   have SN : Box' (k + 1 < n → ∀ wx, (∃ n, wx = wr.drewN n) → wx.rangeAt g ((k + 1) * 15 + 5) (sA (cat r (k + 1)).st).toList) := ⟨fun h wx ⟨n, e⟩ => by subst e; exact rc_style GG.out (k + 1) (by omega)⟩
   have SP : Box' (∀ wx, (∃ n, wx = wr.drewN n) → wx.rangeAt g ((k - 1) * 15 + 5) (sA (cat r (k - 1)).st).toList) := ⟨fun wx ⟨n, e⟩ => by subst e; exact rc_style GG.out (k - 1) (by omega)⟩
   by_cases h2 : (cat r k).wd = 2
   case pos =>
    rw [h2] at e4
    by_cases h3 : n ≤ k + 1
    case pos =>
     have BD : Box' (bad r k = true) := ⟨by unfold bad; rw [h2, HL.out, decide_eq_true h3]; simp⟩
     have hi3 : (n : Int) ≤ (k : Int) + 1 := by omega
     go_upto_region 4 with (fail)
     simp only [List.append]
     refine wp_region_quiet_lit (by kernel_rfl) (by kernel_rfl) ?_
     repeat (first
      | go_big_quiet_skip
      | (go_big_quiet_want; first
       | (go_big_quiet_op; go_big_quiet_on)))
     refine wpQuiet_nil ?_
     intro _ hw'
     obtain ⟨nq, hw2⟩ := hw'
     subst hw2
     have C4 : Box' (RC (wr.drewN nq) b (lay l o (mid r k)) sp) := ⟨CC.out.drewN nq⟩
     have G4 : Box' (RC (wr.drewN nq) g r sp2) := ⟨GG.out.drewN nq⟩
     have T4 : Box' (Tc b w (wr.drewN nq)) := ⟨TT.out.then (Below.drewN bR nq)⟩
     clear CC GG TT S0 SN SP
     generalize wr.drewN nq = wn at *
     have S4 := Box'.mk (rc_style G4.out k (by have := HL.out; omega))
     have E := Box'.mk (MS.out k hlt BD.out)
     have LK : Box' (o + k < (lay l o (mid r k)).length) := ⟨LL.out k hlt⟩
     go_wp2_with (first
      | (refine wpList_load_style rfl (.tmp 89) rfl g (k * 15 + 5) (cat r k).st rfl S4.out ?_))
     refine (SB.out _ _).mono ?_
     rintro e w5 ⟨rfl, hb⟩
     have C5 := Box'.mk (C4.out.below hb C4.out.lt)
     have G5 := Box'.mk (G4.out.below hb G4.out.lt)
     have T5 := Box'.mk (T4.out.then hb)
     clear hb C4 G4 T4 S4
     have T6 := Box'.mk (T5.out.setRow (cLs ((lay l o (mid r k)).set (o + k) (bl (cat r k).st)) ++ sp).toArray)
     have C6 : Box' (RC (w5.setRow b (cLs ((lay l o (mid r k)).set (o + k) (bl (cat r k).st)) ++ sp).toArray) b (lay l o (mid r (k + 1))) sp) := ⟨by rw [← E.out]; exact C5.out.setRow _ _⟩
     have G6 : Box' (RC (w5.setRow b (cLs ((lay l o (mid r k)).set (o + k) (bl (cat r k).st)) ++ sp).toArray) g r sp2) := ⟨Row.setRowOther G5.out _ _ hgb⟩
     go_wp2_with (first
      | (refine wpList_store_cell rfl (.tmp 92) (.tmp 91) rfl b (lay l o (mid r k)) sp (o + k) (bl (cat r k).st) (congrArg (fun z => Value.pointer (some ⟨b, z, none⟩)) PO.out) rfl C5.out LK.out ?_))
     exact ⟨⟨k + 1, by omega, by go_num, C6, G6, T6⟩, by simp [intOf]; omega⟩
    case neg =>
     have en := rc_wide GG.out (k + 1) (by omega)
     have hi3 : ¬ (n : Int) ≤ (k : Int) + 1 := by omega
     have hi4 : (k : Int) + 1 < (n : Int) := by omega
     by_cases h4 : (cat r (k + 1)).wd = 0
     case neg =>
      have BD : Box' (bad r k = true) := ⟨by unfold bad; rw [h2, decide_eq_true h4]; simp⟩
      obtain ⟨z, hz⟩ : ∃ z : Int, ((cat r (k + 1)).wd : Int) = z := ⟨_, rfl⟩
      have hz0 : ¬ z = 0 := by omega
      have hz1 : (z != 0) = true := by simpa using hz0
      rw [hz] at en
      clear hz
      go_upto_region 4 with (fail)
      simp only [List.append]
      refine wp_region_quiet_lit (by kernel_rfl) (by kernel_rfl) ?_
      repeat (first
       | go_big_quiet_skip
       | (go_big_quiet_want; first
        | (go_big_quiet_op; go_big_quiet_on)))
      refine wpQuiet_nil ?_
      intro _ hw'
      obtain ⟨nq, hw2⟩ := hw'
      subst hw2
      have C4 : Box' (RC (wr.drewN nq) b (lay l o (mid r k)) sp) := ⟨CC.out.drewN nq⟩
      have G4 : Box' (RC (wr.drewN nq) g r sp2) := ⟨GG.out.drewN nq⟩
      have T4 : Box' (Tc b w (wr.drewN nq)) := ⟨TT.out.then (Below.drewN bR nq)⟩
      clear CC GG TT S0 SN SP
      generalize wr.drewN nq = wn at *
      have S4 := Box'.mk (rc_style G4.out k (by have := HL.out; omega))
      have E := Box'.mk (MS.out k hlt BD.out)
      have LK : Box' (o + k < (lay l o (mid r k)).length) := ⟨LL.out k hlt⟩
      go_wp2_with (first
       | (refine wpList_load_style rfl (.tmp 89) rfl g (k * 15 + 5) (cat r k).st rfl S4.out ?_))
      refine (SB.out _ _).mono ?_
      rintro e w5 ⟨rfl, hb⟩
      have C5 := Box'.mk (C4.out.below hb C4.out.lt)
      have G5 := Box'.mk (G4.out.below hb G4.out.lt)
      have T5 := Box'.mk (T4.out.then hb)
      clear hb C4 G4 T4 S4
      have T6 := Box'.mk (T5.out.setRow (cLs ((lay l o (mid r k)).set (o + k) (bl (cat r k).st)) ++ sp).toArray)
      have C6 : Box' (RC (w5.setRow b (cLs ((lay l o (mid r k)).set (o + k) (bl (cat r k).st)) ++ sp).toArray) b (lay l o (mid r (k + 1))) sp) := ⟨by rw [← E.out]; exact C5.out.setRow _ _⟩
      have G6 : Box' (RC (w5.setRow b (cLs ((lay l o (mid r k)).set (o + k) (bl (cat r k).st)) ++ sp).toArray) g r sp2) := ⟨Row.setRowOther G5.out _ _ hgb⟩
      go_wp2_with (first
       | (refine wpList_store_cell rfl (.tmp 92) (.tmp 91) rfl b (lay l o (mid r k)) sp (o + k) (bl (cat r k).st) (congrArg (fun z => Value.pointer (some ⟨b, z, none⟩)) PO.out) rfl C5.out LK.out ?_))
      exact ⟨⟨k + 1, by omega, by go_num, C6, G6, T6⟩, by simp [intOf]; omega⟩
     case pos =>
      rw [h4] at en
      by_cases h5 : (cat r (k + 1)).st = (cat r k).st
      case pos =>
       have BD : Box' (bad r k = false) := ⟨by unfold bad; rw [h2, h4, HL.out, decide_eq_false h3, stB_yes h5]; rfl⟩
       have EQ : Box' ((!stB (cat r (k + 1)).st (cat r k).st) = false) := ⟨by rw [stB_yes h5]; rfl⟩
       have SN := Box'.mk (SN.out (by omega))
       clear h5
       go_upto_region 4 with (fail)
       simp only [List.append]
       refine wp_region_quiet_lit (by kernel_rfl) (by kernel_rfl) ?_
       repeat (first
        | go_big_quiet_skip
        | (go_big_quiet_want; first
         | (refine quiet_load_style (.tmp 39) rfl g ((k + 1) * 15 + 5) (cat r (k + 1)).st rfl SN.out ?_; simp only [Act.put, siB, stS, stZ]; go_big_quiet_on)
         | (refine quiet_load_style (.tmp 44) rfl g (k * 15 + 5) (cat r k).st rfl S0.out ?_; simp only [Act.put, siB, stS, stZ]; go_big_quiet_on)
         | (refine quiet_neq_style 26 (.tmp 40) (.tmp 45) rfl (cat r (k + 1)).st (cat r k).st rfl rfl false EQ.out ?_; simp only [Act.put, siB, stS, stZ]; go_big_quiet_on)
         | (go_big_quiet_op; go_big_quiet_on)))
       refine wpQuiet_nil ?_
       intro _ hw'
       obtain ⟨nq, hw2⟩ := hw'
       subst hw2
       have C5 : Box' (RC (wr.drewN nq) b (lay l o (mid r (k + 1))) sp) := ⟨by rw [MK.out k hlt BD.out]; exact CC.out.drewN nq⟩
       have G5 : Box' (RC (wr.drewN nq) g r sp2) := ⟨GG.out.drewN nq⟩
       have T5 : Box' (Tc b w (wr.drewN nq)) := ⟨TT.out.then (Below.drewN bR nq)⟩
       clear CC GG TT S0 SN SP
       generalize wr.drewN nq = wn at *
       go_wp2_with fail
       exact ⟨⟨k + 1, by omega, by go_num, C5, G5, T5⟩, by simp [intOf]; omega⟩
      case neg =>
       have BD : Box' (bad r k = true) := ⟨by unfold bad; rw [h2, stB_no h5]; simp⟩
       have EQ : Box' ((!stB (cat r (k + 1)).st (cat r k).st) = true) := ⟨by rw [stB_no h5]; rfl⟩
       have SN := Box'.mk (SN.out (by omega))
       clear h5
       go_upto_region 4 with (fail)
       simp only [List.append]
       refine wp_region_quiet_lit (by kernel_rfl) (by kernel_rfl) ?_
       repeat (first
        | go_big_quiet_skip
        | (go_big_quiet_want; first
         | (refine quiet_load_style (.tmp 39) rfl g ((k + 1) * 15 + 5) (cat r (k + 1)).st rfl SN.out ?_; simp only [Act.put, siB, stS, stZ]; go_big_quiet_on)
         | (refine quiet_load_style (.tmp 44) rfl g (k * 15 + 5) (cat r k).st rfl S0.out ?_; simp only [Act.put, siB, stS, stZ]; go_big_quiet_on)
         | (refine quiet_neq_style 26 (.tmp 40) (.tmp 45) rfl (cat r (k + 1)).st (cat r k).st rfl rfl true EQ.out ?_; simp only [Act.put, siB, stS, stZ]; go_big_quiet_on)
         | (go_big_quiet_op; go_big_quiet_on)))
       refine wpQuiet_nil ?_
       intro _ hw'
       obtain ⟨nq, hw2⟩ := hw'
       subst hw2
       have C4 : Box' (RC (wr.drewN nq) b (lay l o (mid r k)) sp) := ⟨CC.out.drewN nq⟩
       have G4 : Box' (RC (wr.drewN nq) g r sp2) := ⟨GG.out.drewN nq⟩
       have T4 : Box' (Tc b w (wr.drewN nq)) := ⟨TT.out.then (Below.drewN bR nq)⟩
       clear CC GG TT S0 SN SP
       generalize wr.drewN nq = wn at *
       have S4 := Box'.mk (rc_style G4.out k (by have := HL.out; omega))
       have E := Box'.mk (MS.out k hlt BD.out)
       have LK : Box' (o + k < (lay l o (mid r k)).length) := ⟨LL.out k hlt⟩
       go_wp2_with (first
        | (refine wpList_load_style rfl (.tmp 89) rfl g (k * 15 + 5) (cat r k).st rfl S4.out ?_))
       refine (SB.out _ _).mono ?_
       rintro e w5 ⟨rfl, hb⟩
       have C5 := Box'.mk (C4.out.below hb C4.out.lt)
       have G5 := Box'.mk (G4.out.below hb G4.out.lt)
       have T5 := Box'.mk (T4.out.then hb)
       clear hb C4 G4 T4 S4
       have T6 := Box'.mk (T5.out.setRow (cLs ((lay l o (mid r k)).set (o + k) (bl (cat r k).st)) ++ sp).toArray)
       have C6 : Box' (RC (w5.setRow b (cLs ((lay l o (mid r k)).set (o + k) (bl (cat r k).st)) ++ sp).toArray) b (lay l o (mid r (k + 1))) sp) := ⟨by rw [← E.out]; exact C5.out.setRow _ _⟩
       have G6 : Box' (RC (w5.setRow b (cLs ((lay l o (mid r k)).set (o + k) (bl (cat r k).st)) ++ sp).toArray) g r sp2) := ⟨Row.setRowOther G5.out _ _ hgb⟩
       go_wp2_with (first
        | (refine wpList_store_cell rfl (.tmp 92) (.tmp 91) rfl b (lay l o (mid r k)) sp (o + k) (bl (cat r k).st) (congrArg (fun z => Value.pointer (some ⟨b, z, none⟩)) PO.out) rfl C5.out LK.out ?_))
       exact ⟨⟨k + 1, by omega, by go_num, C6, G6, T6⟩, by simp [intOf]; omega⟩
   case neg =>
    by_cases h0 : (cat r k).wd = 0
    case neg =>
     have BD : Box' (bad r k = false) := ⟨by unfold bad; rw [decide_eq_false h2, decide_eq_false h0]; rfl⟩
     obtain ⟨z, hz⟩ : ∃ z : Int, ((cat r k).wd : Int) = z := ⟨_, rfl⟩
     have hz0 : ¬ z = 0 := by omega
     have hz2 : ¬ z = 2 := by omega
     have hz3 : (z == 0) = false := by simpa using hz0
     have hz4 : (z == 2) = false := by simpa using hz2
     rw [hz] at e4
     clear hz
     go_upto_region 4 with (fail)
     simp only [List.append]
     refine wp_region_quiet_lit (by kernel_rfl) (by kernel_rfl) ?_
     repeat (first
      | go_big_quiet_skip
      | (go_big_quiet_want; first
       | (go_big_quiet_op; go_big_quiet_on)))
     refine wpQuiet_nil ?_
     intro _ hw'
     obtain ⟨nq, hw2⟩ := hw'
     subst hw2
     have C5 : Box' (RC (wr.drewN nq) b (lay l o (mid r (k + 1))) sp) := ⟨by rw [MK.out k hlt BD.out]; exact CC.out.drewN nq⟩
     have G5 : Box' (RC (wr.drewN nq) g r sp2) := ⟨GG.out.drewN nq⟩
     have T5 : Box' (Tc b w (wr.drewN nq)) := ⟨TT.out.then (Below.drewN bR nq)⟩
     clear CC GG TT S0 SN SP
     generalize wr.drewN nq = wn at *
     go_wp2_with fail
     exact ⟨⟨k + 1, by omega, by go_num, C5, G5, T5⟩, by simp [intOf]; omega⟩
    case pos =>
     rw [h0] at e4
     by_cases hk0 : k = 0
     case pos =>
      have BD : Box' (bad r k = true) := ⟨by unfold bad; rw [h0, decide_eq_true hk0]; simp⟩
      have hki : ((k : Int) == 0) = true := by simp [hk0]
      clear hk0
      go_upto_region 4 with (fail)
      simp only [List.append]
      refine wp_region_quiet_lit (by kernel_rfl) (by kernel_rfl) ?_
      repeat (first
       | go_big_quiet_skip
       | (go_big_quiet_want; first
        | (go_big_quiet_op; go_big_quiet_on)))
      refine wpQuiet_nil ?_
      intro _ hw'
      obtain ⟨nq, hw2⟩ := hw'
      subst hw2
      have C4 : Box' (RC (wr.drewN nq) b (lay l o (mid r k)) sp) := ⟨CC.out.drewN nq⟩
      have G4 : Box' (RC (wr.drewN nq) g r sp2) := ⟨GG.out.drewN nq⟩
      have T4 : Box' (Tc b w (wr.drewN nq)) := ⟨TT.out.then (Below.drewN bR nq)⟩
      clear CC GG TT S0 SN SP
      generalize wr.drewN nq = wn at *
      have S4 := Box'.mk (rc_style G4.out k (by have := HL.out; omega))
      have E := Box'.mk (MS.out k hlt BD.out)
      have LK : Box' (o + k < (lay l o (mid r k)).length) := ⟨LL.out k hlt⟩
      go_wp2_with (first
       | (refine wpList_load_style rfl (.tmp 89) rfl g (k * 15 + 5) (cat r k).st rfl S4.out ?_))
      refine (SB.out _ _).mono ?_
      rintro e w5 ⟨rfl, hb⟩
      have C5 := Box'.mk (C4.out.below hb C4.out.lt)
      have G5 := Box'.mk (G4.out.below hb G4.out.lt)
      have T5 := Box'.mk (T4.out.then hb)
      clear hb C4 G4 T4 S4
      have T6 := Box'.mk (T5.out.setRow (cLs ((lay l o (mid r k)).set (o + k) (bl (cat r k).st)) ++ sp).toArray)
      have C6 : Box' (RC (w5.setRow b (cLs ((lay l o (mid r k)).set (o + k) (bl (cat r k).st)) ++ sp).toArray) b (lay l o (mid r (k + 1))) sp) := ⟨by rw [← E.out]; exact C5.out.setRow _ _⟩
      have G6 : Box' (RC (w5.setRow b (cLs ((lay l o (mid r k)).set (o + k) (bl (cat r k).st)) ++ sp).toArray) g r sp2) := ⟨Row.setRowOther G5.out _ _ hgb⟩
      go_wp2_with (first
       | (refine wpList_store_cell rfl (.tmp 92) (.tmp 91) rfl b (lay l o (mid r k)) sp (o + k) (bl (cat r k).st) (congrArg (fun z => Value.pointer (some ⟨b, z, none⟩)) PO.out) rfl C5.out LK.out ?_))
      exact ⟨⟨k + 1, by omega, by go_num, C6, G6, T6⟩, by simp [intOf]; omega⟩
     case neg =>
      have en := rc_wide GG.out (k - 1) (by omega)
      have hki : ((k : Int) == 0) = false := by simp [hk0]
      by_cases h4 : (cat r (k - 1)).wd = 2
      case neg =>
       have BD : Box' (bad r k = true) := ⟨by unfold bad; rw [h0, decide_eq_true h4]; simp⟩
       obtain ⟨z, hz⟩ : ∃ z : Int, ((cat r (k - 1)).wd : Int) = z := ⟨_, rfl⟩
       have hz0 : ¬ z = 2 := by omega
       have hz1 : (z != 2) = true := by simpa using hz0
       rw [hz] at en
       clear hz
       go_upto_region 4 with (fail)
       simp only [List.append]
       refine wp_region_quiet_lit (by kernel_rfl) (by kernel_rfl) ?_
       repeat (first
        | go_big_quiet_skip
        | (go_big_quiet_want; first
         | (go_big_quiet_op; go_big_quiet_on)))
       refine wpQuiet_nil ?_
       intro _ hw'
       obtain ⟨nq, hw2⟩ := hw'
       subst hw2
       have C4 : Box' (RC (wr.drewN nq) b (lay l o (mid r k)) sp) := ⟨CC.out.drewN nq⟩
       have G4 : Box' (RC (wr.drewN nq) g r sp2) := ⟨GG.out.drewN nq⟩
       have T4 : Box' (Tc b w (wr.drewN nq)) := ⟨TT.out.then (Below.drewN bR nq)⟩
       clear CC GG TT S0 SN SP
       generalize wr.drewN nq = wn at *
       have S4 := Box'.mk (rc_style G4.out k (by have := HL.out; omega))
       have E := Box'.mk (MS.out k hlt BD.out)
       have LK : Box' (o + k < (lay l o (mid r k)).length) := ⟨LL.out k hlt⟩
       go_wp2_with (first
        | (refine wpList_load_style rfl (.tmp 89) rfl g (k * 15 + 5) (cat r k).st rfl S4.out ?_))
       refine (SB.out _ _).mono ?_
       rintro e w5 ⟨rfl, hb⟩
       have C5 := Box'.mk (C4.out.below hb C4.out.lt)
       have G5 := Box'.mk (G4.out.below hb G4.out.lt)
       have T5 := Box'.mk (T4.out.then hb)
       clear hb C4 G4 T4 S4
       have T6 := Box'.mk (T5.out.setRow (cLs ((lay l o (mid r k)).set (o + k) (bl (cat r k).st)) ++ sp).toArray)
       have C6 : Box' (RC (w5.setRow b (cLs ((lay l o (mid r k)).set (o + k) (bl (cat r k).st)) ++ sp).toArray) b (lay l o (mid r (k + 1))) sp) := ⟨by rw [← E.out]; exact C5.out.setRow _ _⟩
       have G6 : Box' (RC (w5.setRow b (cLs ((lay l o (mid r k)).set (o + k) (bl (cat r k).st)) ++ sp).toArray) g r sp2) := ⟨Row.setRowOther G5.out _ _ hgb⟩
       go_wp2_with (first
        | (refine wpList_store_cell rfl (.tmp 92) (.tmp 91) rfl b (lay l o (mid r k)) sp (o + k) (bl (cat r k).st) (congrArg (fun z => Value.pointer (some ⟨b, z, none⟩)) PO.out) rfl C5.out LK.out ?_))
       exact ⟨⟨k + 1, by omega, by go_num, C6, G6, T6⟩, by simp [intOf]; omega⟩
      case pos =>
       rw [h4] at en
       by_cases h5 : (cat r (k - 1)).st = (cat r k).st
       case pos =>
        have BD : Box' (bad r k = false) := ⟨by unfold bad; rw [h0, h4, decide_eq_false hk0, stB_yes h5]; rfl⟩
        have EQ : Box' ((!stB (cat r (k - 1)).st (cat r k).st) = false) := ⟨by rw [stB_yes h5]; rfl⟩
        clear h5
        go_upto_region 4 with (fail)
        simp only [List.append]
        refine wp_region_quiet_lit (by kernel_rfl) (by kernel_rfl) ?_
        repeat (first
         | go_big_quiet_skip
         | (go_big_quiet_want; first
          | (refine quiet_load_style (.tmp 73) rfl g ((k - 1) * 15 + 5) (cat r (k - 1)).st rfl SP.out ?_; simp only [Act.put, siB, stS, stZ]; go_big_quiet_on)
          | (refine quiet_load_style (.tmp 78) rfl g (k * 15 + 5) (cat r k).st rfl S0.out ?_; simp only [Act.put, siB, stS, stZ]; go_big_quiet_on)
          | (refine quiet_neq_style 26 (.tmp 74) (.tmp 79) rfl (cat r (k - 1)).st (cat r k).st rfl rfl false EQ.out ?_; simp only [Act.put, siB, stS, stZ]; go_big_quiet_on)
          | (go_big_quiet_op; go_big_quiet_on)))
        refine wpQuiet_nil ?_
        intro _ hw'
        obtain ⟨nq, hw2⟩ := hw'
        subst hw2
        have C5 : Box' (RC (wr.drewN nq) b (lay l o (mid r (k + 1))) sp) := ⟨by rw [MK.out k hlt BD.out]; exact CC.out.drewN nq⟩
        have G5 : Box' (RC (wr.drewN nq) g r sp2) := ⟨GG.out.drewN nq⟩
        have T5 : Box' (Tc b w (wr.drewN nq)) := ⟨TT.out.then (Below.drewN bR nq)⟩
        clear CC GG TT S0 SN SP
        generalize wr.drewN nq = wn at *
        go_wp2_with fail
        exact ⟨⟨k + 1, by omega, by go_num, C5, G5, T5⟩, by simp [intOf]; omega⟩
       case neg =>
        have BD : Box' (bad r k = true) := ⟨by unfold bad; rw [h0, stB_no h5]; simp⟩
        have EQ : Box' ((!stB (cat r (k - 1)).st (cat r k).st) = true) := ⟨by rw [stB_no h5]; rfl⟩
        clear h5
        go_upto_region 4 with (fail)
        simp only [List.append]
        refine wp_region_quiet_lit (by kernel_rfl) (by kernel_rfl) ?_
        repeat (first
         | go_big_quiet_skip
         | (go_big_quiet_want; first
          | (refine quiet_load_style (.tmp 73) rfl g ((k - 1) * 15 + 5) (cat r (k - 1)).st rfl SP.out ?_; simp only [Act.put, siB, stS, stZ]; go_big_quiet_on)
          | (refine quiet_load_style (.tmp 78) rfl g (k * 15 + 5) (cat r k).st rfl S0.out ?_; simp only [Act.put, siB, stS, stZ]; go_big_quiet_on)
          | (refine quiet_neq_style 26 (.tmp 74) (.tmp 79) rfl (cat r (k - 1)).st (cat r k).st rfl rfl true EQ.out ?_; simp only [Act.put, siB, stS, stZ]; go_big_quiet_on)
          | (go_big_quiet_op; go_big_quiet_on)))
        refine wpQuiet_nil ?_
        intro _ hw'
        obtain ⟨nq, hw2⟩ := hw'
        subst hw2
        have C4 : Box' (RC (wr.drewN nq) b (lay l o (mid r k)) sp) := ⟨CC.out.drewN nq⟩
        have G4 : Box' (RC (wr.drewN nq) g r sp2) := ⟨GG.out.drewN nq⟩
        have T4 : Box' (Tc b w (wr.drewN nq)) := ⟨TT.out.then (Below.drewN bR nq)⟩
        clear CC GG TT S0 SN SP
        generalize wr.drewN nq = wn at *
        have S4 := Box'.mk (rc_style G4.out k (by have := HL.out; omega))
        have E := Box'.mk (MS.out k hlt BD.out)
        have LK : Box' (o + k < (lay l o (mid r k)).length) := ⟨LL.out k hlt⟩
        go_wp2_with (first
         | (refine wpList_load_style rfl (.tmp 89) rfl g (k * 15 + 5) (cat r k).st rfl S4.out ?_))
        refine (SB.out _ _).mono ?_
        rintro e w5 ⟨rfl, hb⟩
        have C5 := Box'.mk (C4.out.below hb C4.out.lt)
        have G5 := Box'.mk (G4.out.below hb G4.out.lt)
        have T5 := Box'.mk (T4.out.then hb)
        clear hb C4 G4 T4 S4
        have T6 := Box'.mk (T5.out.setRow (cLs ((lay l o (mid r k)).set (o + k) (bl (cat r k).st)) ++ sp).toArray)
        have C6 : Box' (RC (w5.setRow b (cLs ((lay l o (mid r k)).set (o + k) (bl (cat r k).st)) ++ sp).toArray) b (lay l o (mid r (k + 1))) sp) := ⟨by rw [← E.out]; exact C5.out.setRow _ _⟩
        have G6 : Box' (RC (w5.setRow b (cLs ((lay l o (mid r k)).set (o + k) (bl (cat r k).st)) ++ sp).toArray) g r sp2) := ⟨Row.setRowOther G5.out _ _ hgb⟩
        go_wp2_with (first
         | (refine wpList_store_cell rfl (.tmp 92) (.tmp 91) rfl b (lay l o (mid r k)) sp (o + k) (bl (cat r k).st) (congrArg (fun z => Value.pointer (some ⟨b, z, none⟩)) PO.out) rfl C5.out LK.out ?_))
        exact ⟨⟨k + 1, by omega, by go_num, C6, G6, T6⟩, by simp [intOf]; omega⟩
end Go.Proofs.Ytnbonlkmadmpcaa
