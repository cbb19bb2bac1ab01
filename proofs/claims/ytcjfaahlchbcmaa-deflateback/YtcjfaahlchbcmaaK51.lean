/- The walk of the reference's dynamic. -/
import Derived.Test.YtcjfaahlchbcmaaK50
import Derived.Test.YtcjfaahlchbcmaaK05
import Derived.Test.YtcjfaahlchbcmaaK01
namespace Go.Proofs.Ytcjfaahlchbcmaa
open Go.RowKit Go.BigFrame Gt
theorem results30 (T : Array Value) (w : World) : (results Try.f30 T).run Try.prog w = .ok (.tuple #[]) w := by
  unfold results
  simp [go_sem]
def ownF (b : List UInt8) (most p : Nat) (out : List UInt8) : Except Int (Nat × List UInt8) := match dynF b p with
  | .error x => .error x
  | .ok (q, l1, l2) => toldF l1 l2 b most (8 * b.length + 1) q out
set_option maxRecDepth 100000 in
set_option maxHeartbeats 8000000 in
theorem rdynamic_any (K : Nat → Prop) (N : Nat) (w : World) (sb : Nat) (vb : Value) (b : List UInt8) (p : Nat) (out : List UInt8) (most : Nat) (h : Rs K N w sb vb b p out most (.int .i64 0)) :
    Calls Try.prog 30 #[.pointer (some ⟨sb, 0, none⟩)] w (REnds K N w sb vb b most (ownF b most p out)) := by
  have HER : Box' (∀ x, dynF b p = .error x → ownF b most p out = .error x) := ⟨fun x hx => by unfold ownF; rw [hx]⟩
  have HOK : Box' (∀ q l1 l2, dynF b p = .ok (q, l1, l2) → ownF b most p out = toldF l1 l2 b most (8 * b.length + 1) q out) := ⟨fun q l1 l2 hx => by unfold ownF; rw [hx]⟩
  have DF := Box'.mk (dynF.eq_1 b p)
  generalize ownF b most p out = R0 at *
  generalize dynF b p = D0 at *
  have tk := rtake_any K N w sb vb b p out most 5 (by decide) h
  have hn1 : nbr b p 5 < 32 := nbr_lt b p 5
  clear h
  go_enter Try.func30, Try.ntmps30
  go_wp2_with fail
  refine tk.mono ?_
  clear tk
  rintro e w1 ⟨kp1, ⟨v1, q1, e1, rfl, st1⟩ | ⟨x, e1, hx, rfl, st1⟩⟩
  case inr =>
    obtain ⟨hs, rfl⟩ := tk_err e1
    have STX := Box'.mk st1
    have KPX := Box'.mk kp1
    have EX : Box' (R0 = .error 7) := ⟨HER.out 7 (by rw [DF.out, if_neg hs])⟩
    have HX : Box' ((7 : Int) ≠ 0) := ⟨hx⟩
    have c4 := st1.cell4
    clear e1 hs hx kp1 st1 DF HER HOK
    have te := rtake_err K N w1 sb vb b _ _ most 7 HX.out 5 STX.out
    go_wp2_with fail
    refine te.mono ?_
    clear te
    rintro e wz ⟨rfl, rfl⟩
    have te := rtake_err K N wz sb vb b _ _ most 7 HX.out 4 STX.out
    go_wp2_with fail
    refine te.mono ?_
    clear te
    rintro e wy ⟨rfl, rfl⟩
    clear c4
    have r0 : ∀ (V : World), Room (V.alloc (.cells (ai nil19) 98)) V.heap.size 98 19 := fun V => Room.new _ _ _ _ rfl
    have hsz66 : (ai ordL).size = 19 := rfl
    have h166 := ai_one ordL
    go_wp2_with (first
      | (refine wpList_make_gen rfl _ _ rfl _ _ 19 rfl rfl rfl rfl (by omega) ?_; intro Wm hWm; have HWm := Box'.mk hWm; clear hWm)
      | (refine wpList_alloc_row rfl 98 rfl _ _ Try.zero98 ?_)
      | (refine wpList_store_gen rfl 98 _ _ rfl _ rfl (ai ordL) rfl _ _ (r0 Wm) Try.info98 hsz66 h166 ?_; intro W0 hW0; have HW0 := Box'.mk hW0; clear hW0))
    obtain ⟨gf, hgf⟩ : ∃ gf, gf = wy.heap.size := ⟨_, rfl⟩
    have hzm : Wm.heap.size = gf + 1 := by rw [HWm.out, hgf]; simp
    have rf : Row W0 gf 3 (ai (List.replicate 19 0)) := by
      rw [HW0.out]
      refine Row.setRowOther ?_ _ _ (by omega)
      rw [HWm.out, hgf]
      exact (Row.new _ _ _).alloc _
    have ro : Row W0 (gf + 1) 98 (ai ordL) := by
      have := (r0 Wm).setRow (ai ordL)
      rw [hzm] at this
      rw [HW0.out, hzm]
      exact this
    have bl : Below gf wy W0 := by
      rw [HW0.out]
      refine below_setRow ?_ (by omega) _
      refine Below.alloc ?_ (by omega) _
      rw [HWm.out, hgf]
      exact (Below.refl _ _).alloc (Nat.le_refl _) _
    rw [hzm]
    rw [← hgf]
    have RF := Box'.mk rf
    have RO := Box'.mk ro
    have BL0 := Box'.mk bl
    have HGF := Box'.mk hgf
    clear rf ro bl hgf hzm r0 hsz66 h166 HWm HW0
    have hsbf : sb < gf := by have hs := HGF.out; obtain ⟨_, hr, _⟩ := STX.out.row; have := hr.lt; omega
    have KLX : Box' (∀ k, K k → k < gf) := ⟨fun k hk => by have := STX.out.kl k hk; have := HGF.out; omega⟩
    have ST0 : Box' (Rs K N W0 sb vb b _ _ most (.int .i64 7)) := ⟨STX.out.below (by rw [← HGF.out]; exact BL0.out)⟩
    have KP0 : Box' (Kp K w W0) := ⟨KPX.out.trans (Kp.below (by rw [← HGF.out]; exact BL0.out) STX.out.kl)⟩
    have OL := Box'.mk ordL_lt
    clear STX KPX BL0 HGF
    go_loopw [7] (fun i wl => ∃ (k : Nat) (LL : List Int), k ≤ 4 ∧ i = .int .i64 (k : Int) ∧ LL.length = 19 ∧ Box' (Row wl gf 3 (ai LL)) ∧ Box' (Row wl (gf + 1) 98 (ai ordL)) ∧ Box' (∃ q o, Rs K N wl sb vb b q o most (.int .i64 7)) ∧ Box' (Kp K w wl)) (fun i _ => 4 - (intOf i).toNat)
    case atStart => exact ⟨0, List.replicate 19 0, by omega, rfl, by simp, RF, RO, ⟨_, _, ST0.out⟩, KP0⟩
    case round =>
      clear RF RO ST0 KP0
      obtain ⟨k, LL, hk, rfl, hLL, RF, RO, ⟨⟨q, o, st⟩⟩, KP⟩ := hrel
      have ST := Box'.mk st
      have c4 := st.cell4
      by_cases hlt : k < 4
      · obtain ⟨i, hi, hi19⟩ := OL.out k (by omega)
        have c0 : wr.cell? ⟨gf + 1, k, none⟩ = some (.int .i64 (i : Int)) := by rw [RO.out.cell, ai_get (show k < 19 by omega), hi]
        have c1 : wr.cell? ⟨gf, i, none⟩ = some (.int .i64 (LL.getD i 0)) := by rw [RF.out.cell]; exact ai_get (by omega)
        have f1 := RF.out.frozen i
        have hnK : ¬ K gf := fun hh => by have := KLX.out _ hh; omega
        have te := rtake_err K N wr.drew sb vb b _ _ most 7 HX.out 3 (ST.out.drewN 1)
        have st5 := Box'.mk ((ST.out.drewN 1).other gf i (.int .i64 0) (show Row wr.drew gf 3 _ from RF.out) (by decide) (by omega) hnK)
        have rl5 := (show Row wr.drew gf 3 _ from RF.out).setCell i (.int .i64 0)
        rw [ai_set] at rl5
        have RL5 := Box'.mk rl5
        have RO5 : Box' (Row (wr.drew.setCell ⟨gf, i, none⟩ (.int .i64 0)) (gf + 1) 98 (ai ordL)) := ⟨(show Row wr.drew (gf + 1) 98 _ from RO.out).setOther _ _ (by show gf + 1 ≠ gf; omega)⟩
        have KP5 := Box'.mk (KP.out.drew.setCell gf i hnK (.int .i64 0))
        have c0' : wr.drew.cell? ⟨gf + 1, k, none⟩ = some (.int .i64 (i : Int)) := c0
        have c1' : wr.drew.cell? ⟨gf, i, none⟩ = some (.int .i64 (LL.getD i 0)) := c1
        have f1' : wr.drew.frozen? ⟨gf, i, none⟩ = false := f1
        generalize LL.getD i 0 = y at *
        clear st RF RO KP ST rl5 hi c4
        go_wp2_with fail
        go_region_with (go_at_call 26; refine te.mono ?_; rintro e w3 ⟨rfl, rfl⟩)
        all_goals go_wp2_with fail
        all_goals exact ⟨⟨k + 1, LL.set i 0, by omega, by go_num, by rw [List.length_set]; exact hLL, RL5, RO5, ⟨_, _, st5.out⟩, KP5⟩, by simp [intOf]; omega⟩
      · obtain rfl : k = 4 := by omega
        have RES : Box' (REnds K N w sb vb b most R0 (.returned (.tuple #[])) wr) := ⟨rfl, KP.out, .inr ⟨7, _, _, EX.out, HX.out, ST.out⟩⟩
        clear st RF RO KP ST
        obtain ⟨we, hwe⟩ : ∃ we, we = wr := ⟨_, rfl⟩
        subst hwe
        go_wp2_with fail
        go_loopw [8] (fun r wl => r = .slice none 0 0 ∧ Box' (wl = we)) (fun _ _ => 0)
        case atStart => exact ⟨rfl, ⟨rfl⟩⟩
        case round =>
          obtain ⟨rfl, HWL⟩ := hrel
          obtain rfl := HWL.out
          clear HWL
          go_wp2_with fail
          all_goals exact ⟨rfl, _, results30 _ _, RES.out⟩
  case inl =>
  obtain ⟨hs1, rfl, rfl⟩ := tk_ok e1
  have DF1 := DF.out
  rw [if_pos hs1] at DF1
  have DFB := Box'.mk DF1
  have KP1 := Box'.mk kp1
  have ST1 := Box'.mk st1
  have c4 := st1.cell4
  clear DF DF1 e1 kp1 st1 hs1
  generalize nbr b p 5 = n1 at *
  by_cases hg1 : n1 ≤ 29
  case neg =>
    have hf := rfail_any K N w1 sb vb b (p + 5) out most 8 ST1.out
    have EX : Box' (R0 = .error 8) := ⟨HER.out 8 (by rw [DFB.out, if_neg hg1])⟩
    have HX : Box' ((8 : Int) ≠ 0) := ⟨by decide⟩
    have hg1' : 29 < (n1 : Int) := by omega
    clear DFB HER HOK ST1
    go_wp2_with fail
    refine hf.mono ?_
    clear hf
    rintro e w2 ⟨rfl, kp2, st2⟩
    have STX := Box'.mk st2
    have KPX := Box'.mk (KP1.out.trans kp2)
    have c4 := st2.cell4
    clear kp2 st2 KP1
    have te := rtake_err K N w2 sb vb b _ _ most 8 HX.out 5 STX.out
    go_wp2_with fail
    refine te.mono ?_
    clear te
    rintro e wz ⟨rfl, rfl⟩
    have te := rtake_err K N wz sb vb b _ _ most 8 HX.out 4 STX.out
    go_wp2_with fail
    refine te.mono ?_
    clear te
    rintro e wy ⟨rfl, rfl⟩
    clear c4
    have r0 : ∀ (V : World), Room (V.alloc (.cells (ai nil19) 98)) V.heap.size 98 19 := fun V => Room.new _ _ _ _ rfl
    have hsz66 : (ai ordL).size = 19 := rfl
    have h166 := ai_one ordL
    go_wp2_with (first
      | (refine wpList_make_gen rfl _ _ rfl _ _ 19 rfl rfl rfl rfl (by omega) ?_; intro Wm hWm; have HWm := Box'.mk hWm; clear hWm)
      | (refine wpList_alloc_row rfl 98 rfl _ _ Try.zero98 ?_)
      | (refine wpList_store_gen rfl 98 _ _ rfl _ rfl (ai ordL) rfl _ _ (r0 Wm) Try.info98 hsz66 h166 ?_; intro W0 hW0; have HW0 := Box'.mk hW0; clear hW0))
    obtain ⟨gf, hgf⟩ : ∃ gf, gf = wy.heap.size := ⟨_, rfl⟩
    have hzm : Wm.heap.size = gf + 1 := by rw [HWm.out, hgf]; simp
    have rf : Row W0 gf 3 (ai (List.replicate 19 0)) := by
      rw [HW0.out]
      refine Row.setRowOther ?_ _ _ (by omega)
      rw [HWm.out, hgf]
      exact (Row.new _ _ _).alloc _
    have ro : Row W0 (gf + 1) 98 (ai ordL) := by
      have := (r0 Wm).setRow (ai ordL)
      rw [hzm] at this
      rw [HW0.out, hzm]
      exact this
    have bl : Below gf wy W0 := by
      rw [HW0.out]
      refine below_setRow ?_ (by omega) _
      refine Below.alloc ?_ (by omega) _
      rw [HWm.out, hgf]
      exact (Below.refl _ _).alloc (Nat.le_refl _) _
    rw [hzm]
    rw [← hgf]
    have RF := Box'.mk rf
    have RO := Box'.mk ro
    have BL0 := Box'.mk bl
    have HGF := Box'.mk hgf
    clear rf ro bl hgf hzm r0 hsz66 h166 HWm HW0
    have hsbf : sb < gf := by have hs := HGF.out; obtain ⟨_, hr, _⟩ := STX.out.row; have := hr.lt; omega
    have KLX : Box' (∀ k, K k → k < gf) := ⟨fun k hk => by have := STX.out.kl k hk; have := HGF.out; omega⟩
    have ST0 : Box' (Rs K N W0 sb vb b _ _ most (.int .i64 8)) := ⟨STX.out.below (by rw [← HGF.out]; exact BL0.out)⟩
    have KP0 : Box' (Kp K w W0) := ⟨KPX.out.trans (Kp.below (by rw [← HGF.out]; exact BL0.out) STX.out.kl)⟩
    have OL := Box'.mk ordL_lt
    clear STX KPX BL0 HGF
    go_loopw [7] (fun i wl => ∃ (k : Nat) (LL : List Int), k ≤ 4 ∧ i = .int .i64 (k : Int) ∧ LL.length = 19 ∧ Box' (Row wl gf 3 (ai LL)) ∧ Box' (Row wl (gf + 1) 98 (ai ordL)) ∧ Box' (∃ q o, Rs K N wl sb vb b q o most (.int .i64 8)) ∧ Box' (Kp K w wl)) (fun i _ => 4 - (intOf i).toNat)
    case atStart => exact ⟨0, List.replicate 19 0, by omega, rfl, by simp, RF, RO, ⟨_, _, ST0.out⟩, KP0⟩
    case round =>
      clear RF RO ST0 KP0
      obtain ⟨k, LL, hk, rfl, hLL, RF, RO, ⟨⟨q, o, st⟩⟩, KP⟩ := hrel
      have ST := Box'.mk st
      have c4 := st.cell4
      by_cases hlt : k < 4
      · obtain ⟨i, hi, hi19⟩ := OL.out k (by omega)
        have c0 : wr.cell? ⟨gf + 1, k, none⟩ = some (.int .i64 (i : Int)) := by rw [RO.out.cell, ai_get (show k < 19 by omega), hi]
        have c1 : wr.cell? ⟨gf, i, none⟩ = some (.int .i64 (LL.getD i 0)) := by rw [RF.out.cell]; exact ai_get (by omega)
        have f1 := RF.out.frozen i
        have hnK : ¬ K gf := fun hh => by have := KLX.out _ hh; omega
        have te := rtake_err K N wr.drew sb vb b _ _ most 8 HX.out 3 (ST.out.drewN 1)
        have st5 := Box'.mk ((ST.out.drewN 1).other gf i (.int .i64 0) (show Row wr.drew gf 3 _ from RF.out) (by decide) (by omega) hnK)
        have rl5 := (show Row wr.drew gf 3 _ from RF.out).setCell i (.int .i64 0)
        rw [ai_set] at rl5
        have RL5 := Box'.mk rl5
        have RO5 : Box' (Row (wr.drew.setCell ⟨gf, i, none⟩ (.int .i64 0)) (gf + 1) 98 (ai ordL)) := ⟨(show Row wr.drew (gf + 1) 98 _ from RO.out).setOther _ _ (by show gf + 1 ≠ gf; omega)⟩
        have KP5 := Box'.mk (KP.out.drew.setCell gf i hnK (.int .i64 0))
        have c0' : wr.drew.cell? ⟨gf + 1, k, none⟩ = some (.int .i64 (i : Int)) := c0
        have c1' : wr.drew.cell? ⟨gf, i, none⟩ = some (.int .i64 (LL.getD i 0)) := c1
        have f1' : wr.drew.frozen? ⟨gf, i, none⟩ = false := f1
        generalize LL.getD i 0 = y at *
        clear st RF RO KP ST rl5 hi c4
        go_wp2_with fail
        go_region_with (go_at_call 26; refine te.mono ?_; rintro e w3 ⟨rfl, rfl⟩)
        all_goals go_wp2_with fail
        all_goals exact ⟨⟨k + 1, LL.set i 0, by omega, by go_num, by rw [List.length_set]; exact hLL, RL5, RO5, ⟨_, _, st5.out⟩, KP5⟩, by simp [intOf]; omega⟩
      · obtain rfl : k = 4 := by omega
        have RES : Box' (REnds K N w sb vb b most R0 (.returned (.tuple #[])) wr) := ⟨rfl, KP.out, .inr ⟨8, _, _, EX.out, HX.out, ST.out⟩⟩
        clear st RF RO KP ST
        obtain ⟨we, hwe⟩ : ∃ we, we = wr := ⟨_, rfl⟩
        subst hwe
        go_wp2_with fail
        go_loopw [8] (fun r wl => r = .slice none 0 0 ∧ Box' (wl = we)) (fun _ _ => 0)
        case atStart => exact ⟨rfl, ⟨rfl⟩⟩
        case round =>
          obtain ⟨rfl, HWL⟩ := hrel
          obtain rfl := HWL.out
          clear HWL
          go_wp2_with fail
          all_goals exact ⟨rfl, _, results30 _ _, RES.out⟩
  case pos =>
  have DF1 := DFB.out
  rw [if_pos hg1] at DF1
  have DFC := Box'.mk DF1
  have hg1' : decide (29 < (n1 : Int)) = false := decide_eq_false (by omega)
  have tk := rtake_any K N w1 sb vb b (p + 5) out most 5 (by decide) ST1.out
  have hn2 : nbr b (p + 5) 5 < 32 := nbr_lt b (p + 5) 5
  clear DFB DF1 ST1
  go_wp2_with fail
  refine tk.mono ?_
  clear tk
  rintro e w2 ⟨kp2, ⟨v2, q2, e2, rfl, st2⟩ | ⟨x, e2, hx, rfl, st2⟩⟩
  case inr =>
    obtain ⟨hs, rfl⟩ := tk_err e2
    have STX := Box'.mk st2
    have KPX := Box'.mk (KP1.out.trans kp2)
    have EX : Box' (R0 = .error 7) := ⟨HER.out 7 (by rw [DFC.out, if_neg hs])⟩
    have HX : Box' ((7 : Int) ≠ 0) := ⟨hx⟩
    have c4 := st2.cell4
    clear e2 hs hx kp2 st2 DFC HER HOK KP1
    have te := rtake_err K N w2 sb vb b _ _ most 7 HX.out 4 STX.out
    go_wp2_with fail
    refine te.mono ?_
    clear te
    rintro e wy ⟨rfl, rfl⟩
    clear c4
    have r0 : ∀ (V : World), Room (V.alloc (.cells (ai nil19) 98)) V.heap.size 98 19 := fun V => Room.new _ _ _ _ rfl
    have hsz66 : (ai ordL).size = 19 := rfl
    have h166 := ai_one ordL
    go_wp2_with (first
      | (refine wpList_make_gen rfl _ _ rfl _ _ 19 rfl rfl rfl rfl (by omega) ?_; intro Wm hWm; have HWm := Box'.mk hWm; clear hWm)
      | (refine wpList_alloc_row rfl 98 rfl _ _ Try.zero98 ?_)
      | (refine wpList_store_gen rfl 98 _ _ rfl _ rfl (ai ordL) rfl _ _ (r0 Wm) Try.info98 hsz66 h166 ?_; intro W0 hW0; have HW0 := Box'.mk hW0; clear hW0))
    obtain ⟨gf, hgf⟩ : ∃ gf, gf = wy.heap.size := ⟨_, rfl⟩
    have hzm : Wm.heap.size = gf + 1 := by rw [HWm.out, hgf]; simp
    have rf : Row W0 gf 3 (ai (List.replicate 19 0)) := by
      rw [HW0.out]
      refine Row.setRowOther ?_ _ _ (by omega)
      rw [HWm.out, hgf]
      exact (Row.new _ _ _).alloc _
    have ro : Row W0 (gf + 1) 98 (ai ordL) := by
      have := (r0 Wm).setRow (ai ordL)
      rw [hzm] at this
      rw [HW0.out, hzm]
      exact this
    have bl : Below gf wy W0 := by
      rw [HW0.out]
      refine below_setRow ?_ (by omega) _
      refine Below.alloc ?_ (by omega) _
      rw [HWm.out, hgf]
      exact (Below.refl _ _).alloc (Nat.le_refl _) _
    rw [hzm]
    rw [← hgf]
    have RF := Box'.mk rf
    have RO := Box'.mk ro
    have BL0 := Box'.mk bl
    have HGF := Box'.mk hgf
    clear rf ro bl hgf hzm r0 hsz66 h166 HWm HW0
    have hsbf : sb < gf := by have hs := HGF.out; obtain ⟨_, hr, _⟩ := STX.out.row; have := hr.lt; omega
    have KLX : Box' (∀ k, K k → k < gf) := ⟨fun k hk => by have := STX.out.kl k hk; have := HGF.out; omega⟩
    have ST0 : Box' (Rs K N W0 sb vb b _ _ most (.int .i64 7)) := ⟨STX.out.below (by rw [← HGF.out]; exact BL0.out)⟩
    have KP0 : Box' (Kp K w W0) := ⟨KPX.out.trans (Kp.below (by rw [← HGF.out]; exact BL0.out) STX.out.kl)⟩
    have OL := Box'.mk ordL_lt
    clear STX KPX BL0 HGF
    go_loopw [7] (fun i wl => ∃ (k : Nat) (LL : List Int), k ≤ 4 ∧ i = .int .i64 (k : Int) ∧ LL.length = 19 ∧ Box' (Row wl gf 3 (ai LL)) ∧ Box' (Row wl (gf + 1) 98 (ai ordL)) ∧ Box' (∃ q o, Rs K N wl sb vb b q o most (.int .i64 7)) ∧ Box' (Kp K w wl)) (fun i _ => 4 - (intOf i).toNat)
    case atStart => exact ⟨0, List.replicate 19 0, by omega, rfl, by simp, RF, RO, ⟨_, _, ST0.out⟩, KP0⟩
    case round =>
      clear RF RO ST0 KP0
      obtain ⟨k, LL, hk, rfl, hLL, RF, RO, ⟨⟨q, o, st⟩⟩, KP⟩ := hrel
      have ST := Box'.mk st
      have c4 := st.cell4
      by_cases hlt : k < 4
      · obtain ⟨i, hi, hi19⟩ := OL.out k (by omega)
        have c0 : wr.cell? ⟨gf + 1, k, none⟩ = some (.int .i64 (i : Int)) := by rw [RO.out.cell, ai_get (show k < 19 by omega), hi]
        have c1 : wr.cell? ⟨gf, i, none⟩ = some (.int .i64 (LL.getD i 0)) := by rw [RF.out.cell]; exact ai_get (by omega)
        have f1 := RF.out.frozen i
        have hnK : ¬ K gf := fun hh => by have := KLX.out _ hh; omega
        have te := rtake_err K N wr.drew sb vb b _ _ most 7 HX.out 3 (ST.out.drewN 1)
        have st5 := Box'.mk ((ST.out.drewN 1).other gf i (.int .i64 0) (show Row wr.drew gf 3 _ from RF.out) (by decide) (by omega) hnK)
        have rl5 := (show Row wr.drew gf 3 _ from RF.out).setCell i (.int .i64 0)
        rw [ai_set] at rl5
        have RL5 := Box'.mk rl5
        have RO5 : Box' (Row (wr.drew.setCell ⟨gf, i, none⟩ (.int .i64 0)) (gf + 1) 98 (ai ordL)) := ⟨(show Row wr.drew (gf + 1) 98 _ from RO.out).setOther _ _ (by show gf + 1 ≠ gf; omega)⟩
        have KP5 := Box'.mk (KP.out.drew.setCell gf i hnK (.int .i64 0))
        have c0' : wr.drew.cell? ⟨gf + 1, k, none⟩ = some (.int .i64 (i : Int)) := c0
        have c1' : wr.drew.cell? ⟨gf, i, none⟩ = some (.int .i64 (LL.getD i 0)) := c1
        have f1' : wr.drew.frozen? ⟨gf, i, none⟩ = false := f1
        generalize LL.getD i 0 = y at *
        clear st RF RO KP ST rl5 hi c4
        go_wp2_with fail
        go_region_with (go_at_call 26; refine te.mono ?_; rintro e w3 ⟨rfl, rfl⟩)
        all_goals go_wp2_with fail
        all_goals exact ⟨⟨k + 1, LL.set i 0, by omega, by go_num, by rw [List.length_set]; exact hLL, RL5, RO5, ⟨_, _, st5.out⟩, KP5⟩, by simp [intOf]; omega⟩
      · obtain rfl : k = 4 := by omega
        have RES : Box' (REnds K N w sb vb b most R0 (.returned (.tuple #[])) wr) := ⟨rfl, KP.out, .inr ⟨7, _, _, EX.out, HX.out, ST.out⟩⟩
        clear st RF RO KP ST
        obtain ⟨we, hwe⟩ : ∃ we, we = wr := ⟨_, rfl⟩
        subst hwe
        go_wp2_with fail
        go_loopw [8] (fun r wl => r = .slice none 0 0 ∧ Box' (wl = we)) (fun _ _ => 0)
        case atStart => exact ⟨rfl, ⟨rfl⟩⟩
        case round =>
          obtain ⟨rfl, HWL⟩ := hrel
          obtain rfl := HWL.out
          clear HWL
          go_wp2_with fail
          all_goals exact ⟨rfl, _, results30 _ _, RES.out⟩
  case inl =>
  obtain ⟨hs2, rfl, rfl⟩ := tk_ok e2
  have DF1 := DFC.out
  rw [if_pos hs2] at DF1
  have DFD := Box'.mk DF1
  have KP2 := Box'.mk (KP1.out.trans kp2)
  have ST2 := Box'.mk st2
  have c4 := st2.cell4
  clear DFC DF1 e2 kp2 st2 hs2 KP1
  generalize nbr b (p + 5) 5 = n2 at *
  by_cases hg2 : n2 ≤ 29
  case neg =>
    have hf := rfail_any K N w2 sb vb b (p + 5 + 5) out most 8 ST2.out
    have EX : Box' (R0 = .error 8) := ⟨HER.out 8 (by rw [DFD.out, if_neg hg2])⟩
    have HX : Box' ((8 : Int) ≠ 0) := ⟨by decide⟩
    have hg2' : 29 < (n2 : Int) := by omega
    clear DFD HER HOK ST2
    go_wp2_with fail
    refine hf.mono ?_
    clear hf
    rintro e w3 ⟨rfl, kp3, st3⟩
    have STX := Box'.mk st3
    have KPX := Box'.mk (KP2.out.trans kp3)
    have c4 := st3.cell4
    clear kp3 st3 KP2
    have te := rtake_err K N w3 sb vb b _ _ most 8 HX.out 4 STX.out
    go_wp2_with fail
    refine te.mono ?_
    clear te
    rintro e wy ⟨rfl, rfl⟩
    clear c4
    have r0 : ∀ (V : World), Room (V.alloc (.cells (ai nil19) 98)) V.heap.size 98 19 := fun V => Room.new _ _ _ _ rfl
    have hsz66 : (ai ordL).size = 19 := rfl
    have h166 := ai_one ordL
    go_wp2_with (first
      | (refine wpList_make_gen rfl _ _ rfl _ _ 19 rfl rfl rfl rfl (by omega) ?_; intro Wm hWm; have HWm := Box'.mk hWm; clear hWm)
      | (refine wpList_alloc_row rfl 98 rfl _ _ Try.zero98 ?_)
      | (refine wpList_store_gen rfl 98 _ _ rfl _ rfl (ai ordL) rfl _ _ (r0 Wm) Try.info98 hsz66 h166 ?_; intro W0 hW0; have HW0 := Box'.mk hW0; clear hW0))
    obtain ⟨gf, hgf⟩ : ∃ gf, gf = wy.heap.size := ⟨_, rfl⟩
    have hzm : Wm.heap.size = gf + 1 := by rw [HWm.out, hgf]; simp
    have rf : Row W0 gf 3 (ai (List.replicate 19 0)) := by
      rw [HW0.out]
      refine Row.setRowOther ?_ _ _ (by omega)
      rw [HWm.out, hgf]
      exact (Row.new _ _ _).alloc _
    have ro : Row W0 (gf + 1) 98 (ai ordL) := by
      have := (r0 Wm).setRow (ai ordL)
      rw [hzm] at this
      rw [HW0.out, hzm]
      exact this
    have bl : Below gf wy W0 := by
      rw [HW0.out]
      refine below_setRow ?_ (by omega) _
      refine Below.alloc ?_ (by omega) _
      rw [HWm.out, hgf]
      exact (Below.refl _ _).alloc (Nat.le_refl _) _
    rw [hzm]
    rw [← hgf]
    have RF := Box'.mk rf
    have RO := Box'.mk ro
    have BL0 := Box'.mk bl
    have HGF := Box'.mk hgf
    clear rf ro bl hgf hzm r0 hsz66 h166 HWm HW0
    have hsbf : sb < gf := by have hs := HGF.out; obtain ⟨_, hr, _⟩ := STX.out.row; have := hr.lt; omega
    have KLX : Box' (∀ k, K k → k < gf) := ⟨fun k hk => by have := STX.out.kl k hk; have := HGF.out; omega⟩
    have ST0 : Box' (Rs K N W0 sb vb b _ _ most (.int .i64 8)) := ⟨STX.out.below (by rw [← HGF.out]; exact BL0.out)⟩
    have KP0 : Box' (Kp K w W0) := ⟨KPX.out.trans (Kp.below (by rw [← HGF.out]; exact BL0.out) STX.out.kl)⟩
    have OL := Box'.mk ordL_lt
    clear STX KPX BL0 HGF
    go_loopw [7] (fun i wl => ∃ (k : Nat) (LL : List Int), k ≤ 4 ∧ i = .int .i64 (k : Int) ∧ LL.length = 19 ∧ Box' (Row wl gf 3 (ai LL)) ∧ Box' (Row wl (gf + 1) 98 (ai ordL)) ∧ Box' (∃ q o, Rs K N wl sb vb b q o most (.int .i64 8)) ∧ Box' (Kp K w wl)) (fun i _ => 4 - (intOf i).toNat)
    case atStart => exact ⟨0, List.replicate 19 0, by omega, rfl, by simp, RF, RO, ⟨_, _, ST0.out⟩, KP0⟩
    case round =>
      clear RF RO ST0 KP0
      obtain ⟨k, LL, hk, rfl, hLL, RF, RO, ⟨⟨q, o, st⟩⟩, KP⟩ := hrel
      have ST := Box'.mk st
      have c4 := st.cell4
      by_cases hlt : k < 4
      · obtain ⟨i, hi, hi19⟩ := OL.out k (by omega)
        have c0 : wr.cell? ⟨gf + 1, k, none⟩ = some (.int .i64 (i : Int)) := by rw [RO.out.cell, ai_get (show k < 19 by omega), hi]
        have c1 : wr.cell? ⟨gf, i, none⟩ = some (.int .i64 (LL.getD i 0)) := by rw [RF.out.cell]; exact ai_get (by omega)
        have f1 := RF.out.frozen i
        have hnK : ¬ K gf := fun hh => by have := KLX.out _ hh; omega
        have te := rtake_err K N wr.drew sb vb b _ _ most 8 HX.out 3 (ST.out.drewN 1)
        have st5 := Box'.mk ((ST.out.drewN 1).other gf i (.int .i64 0) (show Row wr.drew gf 3 _ from RF.out) (by decide) (by omega) hnK)
        have rl5 := (show Row wr.drew gf 3 _ from RF.out).setCell i (.int .i64 0)
        rw [ai_set] at rl5
        have RL5 := Box'.mk rl5
        have RO5 : Box' (Row (wr.drew.setCell ⟨gf, i, none⟩ (.int .i64 0)) (gf + 1) 98 (ai ordL)) := ⟨(show Row wr.drew (gf + 1) 98 _ from RO.out).setOther _ _ (by show gf + 1 ≠ gf; omega)⟩
        have KP5 := Box'.mk (KP.out.drew.setCell gf i hnK (.int .i64 0))
        have c0' : wr.drew.cell? ⟨gf + 1, k, none⟩ = some (.int .i64 (i : Int)) := c0
        have c1' : wr.drew.cell? ⟨gf, i, none⟩ = some (.int .i64 (LL.getD i 0)) := c1
        have f1' : wr.drew.frozen? ⟨gf, i, none⟩ = false := f1
        generalize LL.getD i 0 = y at *
        clear st RF RO KP ST rl5 hi c4
        go_wp2_with fail
        go_region_with (go_at_call 26; refine te.mono ?_; rintro e w3 ⟨rfl, rfl⟩)
        all_goals go_wp2_with fail
        all_goals exact ⟨⟨k + 1, LL.set i 0, by omega, by go_num, by rw [List.length_set]; exact hLL, RL5, RO5, ⟨_, _, st5.out⟩, KP5⟩, by simp [intOf]; omega⟩
      · obtain rfl : k = 4 := by omega
        have RES : Box' (REnds K N w sb vb b most R0 (.returned (.tuple #[])) wr) := ⟨rfl, KP.out, .inr ⟨8, _, _, EX.out, HX.out, ST.out⟩⟩
        clear st RF RO KP ST
        obtain ⟨we, hwe⟩ : ∃ we, we = wr := ⟨_, rfl⟩
        subst hwe
        go_wp2_with fail
        go_loopw [8] (fun r wl => r = .slice none 0 0 ∧ Box' (wl = we)) (fun _ _ => 0)
        case atStart => exact ⟨rfl, ⟨rfl⟩⟩
        case round =>
          obtain ⟨rfl, HWL⟩ := hrel
          obtain rfl := HWL.out
          clear HWL
          go_wp2_with fail
          all_goals exact ⟨rfl, _, results30 _ _, RES.out⟩
  case pos =>
  have DF1 := DFD.out
  rw [if_pos hg2] at DF1
  have DFE := Box'.mk DF1
  have hg2' : decide (29 < (n2 : Int)) = false := decide_eq_false (by omega)
  have tk := rtake_any K N w2 sb vb b (p + 5 + 5) out most 4 (by decide) ST2.out
  have hn3 : nbr b (p + 5 + 5) 4 < 16 := nbr_lt b (p + 5 + 5) 4
  clear DFD DF1 ST2
  go_wp2_with fail
  refine tk.mono ?_
  clear tk
  rintro e w3 ⟨kp3, ⟨v3, q3, e3, rfl, st3⟩ | ⟨x, e3, hx, rfl, st3⟩⟩
  case inr =>
    obtain ⟨hs, rfl⟩ := tk_err e3
    have STX := Box'.mk st3
    have KPX := Box'.mk (KP2.out.trans kp3)
    have EX : Box' (R0 = .error 7) := ⟨HER.out 7 (by rw [DFE.out, if_neg hs])⟩
    have HX : Box' ((7 : Int) ≠ 0) := ⟨hx⟩
    have c4 := st3.cell4
    clear e3 hs hx kp3 st3 DFE HER HOK KP2
    clear c4
    have r0 : ∀ (V : World), Room (V.alloc (.cells (ai nil19) 98)) V.heap.size 98 19 := fun V => Room.new _ _ _ _ rfl
    have hsz66 : (ai ordL).size = 19 := rfl
    have h166 := ai_one ordL
    go_wp2_with (first
      | (refine wpList_make_gen rfl _ _ rfl _ _ 19 rfl rfl rfl rfl (by omega) ?_; intro Wm hWm; have HWm := Box'.mk hWm; clear hWm)
      | (refine wpList_alloc_row rfl 98 rfl _ _ Try.zero98 ?_)
      | (refine wpList_store_gen rfl 98 _ _ rfl _ rfl (ai ordL) rfl _ _ (r0 Wm) Try.info98 hsz66 h166 ?_; intro W0 hW0; have HW0 := Box'.mk hW0; clear hW0))
    obtain ⟨gf, hgf⟩ : ∃ gf, gf = w3.heap.size := ⟨_, rfl⟩
    have hzm : Wm.heap.size = gf + 1 := by rw [HWm.out, hgf]; simp
    have rf : Row W0 gf 3 (ai (List.replicate 19 0)) := by
      rw [HW0.out]
      refine Row.setRowOther ?_ _ _ (by omega)
      rw [HWm.out, hgf]
      exact (Row.new _ _ _).alloc _
    have ro : Row W0 (gf + 1) 98 (ai ordL) := by
      have := (r0 Wm).setRow (ai ordL)
      rw [hzm] at this
      rw [HW0.out, hzm]
      exact this
    have bl : Below gf w3 W0 := by
      rw [HW0.out]
      refine below_setRow ?_ (by omega) _
      refine Below.alloc ?_ (by omega) _
      rw [HWm.out, hgf]
      exact (Below.refl _ _).alloc (Nat.le_refl _) _
    rw [hzm]
    rw [← hgf]
    have RF := Box'.mk rf
    have RO := Box'.mk ro
    have BL0 := Box'.mk bl
    have HGF := Box'.mk hgf
    clear rf ro bl hgf hzm r0 hsz66 h166 HWm HW0
    have hsbf : sb < gf := by have hs := HGF.out; obtain ⟨_, hr, _⟩ := STX.out.row; have := hr.lt; omega
    have KLX : Box' (∀ k, K k → k < gf) := ⟨fun k hk => by have := STX.out.kl k hk; have := HGF.out; omega⟩
    have ST0 : Box' (Rs K N W0 sb vb b _ _ most (.int .i64 7)) := ⟨STX.out.below (by rw [← HGF.out]; exact BL0.out)⟩
    have KP0 : Box' (Kp K w W0) := ⟨KPX.out.trans (Kp.below (by rw [← HGF.out]; exact BL0.out) STX.out.kl)⟩
    have OL := Box'.mk ordL_lt
    clear STX KPX BL0 HGF
    go_loopw [7] (fun i wl => ∃ (k : Nat) (LL : List Int), k ≤ 4 ∧ i = .int .i64 (k : Int) ∧ LL.length = 19 ∧ Box' (Row wl gf 3 (ai LL)) ∧ Box' (Row wl (gf + 1) 98 (ai ordL)) ∧ Box' (∃ q o, Rs K N wl sb vb b q o most (.int .i64 7)) ∧ Box' (Kp K w wl)) (fun i _ => 4 - (intOf i).toNat)
    case atStart => exact ⟨0, List.replicate 19 0, by omega, rfl, by simp, RF, RO, ⟨_, _, ST0.out⟩, KP0⟩
    case round =>
      clear RF RO ST0 KP0
      obtain ⟨k, LL, hk, rfl, hLL, RF, RO, ⟨⟨q, o, st⟩⟩, KP⟩ := hrel
      have ST := Box'.mk st
      have c4 := st.cell4
      by_cases hlt : k < 4
      · obtain ⟨i, hi, hi19⟩ := OL.out k (by omega)
        have c0 : wr.cell? ⟨gf + 1, k, none⟩ = some (.int .i64 (i : Int)) := by rw [RO.out.cell, ai_get (show k < 19 by omega), hi]
        have c1 : wr.cell? ⟨gf, i, none⟩ = some (.int .i64 (LL.getD i 0)) := by rw [RF.out.cell]; exact ai_get (by omega)
        have f1 := RF.out.frozen i
        have hnK : ¬ K gf := fun hh => by have := KLX.out _ hh; omega
        have te := rtake_err K N wr.drew sb vb b _ _ most 7 HX.out 3 (ST.out.drewN 1)
        have st5 := Box'.mk ((ST.out.drewN 1).other gf i (.int .i64 0) (show Row wr.drew gf 3 _ from RF.out) (by decide) (by omega) hnK)
        have rl5 := (show Row wr.drew gf 3 _ from RF.out).setCell i (.int .i64 0)
        rw [ai_set] at rl5
        have RL5 := Box'.mk rl5
        have RO5 : Box' (Row (wr.drew.setCell ⟨gf, i, none⟩ (.int .i64 0)) (gf + 1) 98 (ai ordL)) := ⟨(show Row wr.drew (gf + 1) 98 _ from RO.out).setOther _ _ (by show gf + 1 ≠ gf; omega)⟩
        have KP5 := Box'.mk (KP.out.drew.setCell gf i hnK (.int .i64 0))
        have c0' : wr.drew.cell? ⟨gf + 1, k, none⟩ = some (.int .i64 (i : Int)) := c0
        have c1' : wr.drew.cell? ⟨gf, i, none⟩ = some (.int .i64 (LL.getD i 0)) := c1
        have f1' : wr.drew.frozen? ⟨gf, i, none⟩ = false := f1
        generalize LL.getD i 0 = y at *
        clear st RF RO KP ST rl5 hi c4
        go_wp2_with fail
        go_region_with (go_at_call 26; refine te.mono ?_; rintro e w3 ⟨rfl, rfl⟩)
        all_goals go_wp2_with fail
        all_goals exact ⟨⟨k + 1, LL.set i 0, by omega, by go_num, by rw [List.length_set]; exact hLL, RL5, RO5, ⟨_, _, st5.out⟩, KP5⟩, by simp [intOf]; omega⟩
      · obtain rfl : k = 4 := by omega
        have RES : Box' (REnds K N w sb vb b most R0 (.returned (.tuple #[])) wr) := ⟨rfl, KP.out, .inr ⟨7, _, _, EX.out, HX.out, ST.out⟩⟩
        clear st RF RO KP ST
        obtain ⟨we, hwe⟩ : ∃ we, we = wr := ⟨_, rfl⟩
        subst hwe
        go_wp2_with fail
        go_loopw [8] (fun r wl => r = .slice none 0 0 ∧ Box' (wl = we)) (fun _ _ => 0)
        case atStart => exact ⟨rfl, ⟨rfl⟩⟩
        case round =>
          obtain ⟨rfl, HWL⟩ := hrel
          obtain rfl := HWL.out
          clear HWL
          go_wp2_with fail
          all_goals exact ⟨rfl, _, results30 _ _, RES.out⟩
  case inl =>
  obtain ⟨hs3, rfl, rfl⟩ := tk_ok e3
  have DF1 := DFE.out
  rw [if_pos hs3] at DF1
  have DFF := Box'.mk DF1
  have KP3 := Box'.mk (KP2.out.trans kp3)
  have ST3 := Box'.mk st3
  clear DFE DF1 e3 kp3 st3 hs3 KP2 c4
  generalize nbr b (p + 5 + 5) 4 = n3 at *
  have r0 : ∀ (V : World), Room (V.alloc (.cells (ai nil19) 98)) V.heap.size 98 19 := fun V => Room.new _ _ _ _ rfl
  have hsz66 : (ai ordL).size = 19 := rfl
  have h166 := ai_one ordL
  go_wp2_with (first
    | (refine wpList_make_gen rfl _ _ rfl _ _ 19 rfl rfl rfl rfl (by omega) ?_; intro Wm hWm; have HWm := Box'.mk hWm; clear hWm)
    | (refine wpList_alloc_row rfl 98 rfl _ _ Try.zero98 ?_)
    | (refine wpList_store_gen rfl 98 _ _ rfl _ rfl (ai ordL) rfl _ _ (r0 Wm) Try.info98 hsz66 h166 ?_; intro W0 hW0; have HW0 := Box'.mk hW0; clear hW0))
  obtain ⟨gf, hgf⟩ : ∃ gf, gf = w3.heap.size := ⟨_, rfl⟩
  have hzm : Wm.heap.size = gf + 1 := by rw [HWm.out, hgf]; simp
  have rf : Row W0 gf 3 (ai (List.replicate 19 0)) := by
    rw [HW0.out]
    refine Row.setRowOther ?_ _ _ (by omega)
    rw [HWm.out, hgf]
    exact (Row.new _ _ _).alloc _
  have ro : Row W0 (gf + 1) 98 (ai ordL) := by
    have := (r0 Wm).setRow (ai ordL)
    rw [hzm] at this
    rw [HW0.out, hzm]
    exact this
  have bl : Below gf w3 W0 := by
    rw [HW0.out]
    refine below_setRow ?_ (by omega) _
    refine Below.alloc ?_ (by omega) _
    rw [HWm.out, hgf]
    exact (Below.refl _ _).alloc (Nat.le_refl _) _
  rw [hzm]
  rw [← hgf]
  have RF := Box'.mk rf
  have RO := Box'.mk ro
  have BL0 := Box'.mk bl
  have HGF := Box'.mk hgf
  clear rf ro bl hgf hzm r0 hsz66 h166 HWm HW0
  have hsbf : sb < gf := by have hs := HGF.out; obtain ⟨_, hr, _⟩ := ST3.out.row; have := hr.lt; omega
  have KLX : Box' (∀ k, K k → k < gf) := ⟨fun k hk => by have := ST3.out.kl k hk; have := HGF.out; omega⟩
  have ST0 : Box' (Rs K N W0 sb vb b (p + 5 + 5 + 4) out most (.int .i64 0)) := ⟨ST3.out.below (by rw [← HGF.out]; exact BL0.out)⟩
  have KP0 : Box' (Kp K w W0) := ⟨KP3.out.trans (Kp.below (by rw [← HGF.out]; exact BL0.out) ST3.out.kl)⟩
  have HZ0 : Box' (gf + 2 ≤ W0.heap.size) := ⟨by have := RO.out.lt; omega⟩
  have OL := Box'.mk ordL_lt
  have KN := Box'.mk (kindL_len b (p + 5 + 5 + 4))
  clear ST3 KP3 BL0 HGF
  have hpl14 := ST0.out.pl
  have hbl14 := ST0.out.bl
  obtain ⟨p3, hp3⟩ : ∃ p3, p3 = p + 5 + 5 + 4 := ⟨_, rfl⟩
  rw [← hp3] at DFF ST0 KN hpl14
  clear hp3
  go_loopw [7] (fun i wl => ∃ (k : Nat) (LL : List Int), k ≤ n3 + 4 ∧ i = .int .i64 (k : Int) ∧ Box' (LL.length = 19) ∧ Box' (Row wl gf 3 (ai LL)) ∧ Box' (Row wl (gf + 1) 98 (ai ordL)) ∧ Box' (Kp K w wl) ∧ ((Box' (LL = kindL b p3 k) ∧ Box' (Rs K N wl sb vb b (p3 + 3 * k) out most (.int .i64 0))) ∨ (Box' (¬ p3 + 3 * (n3 + 4) ≤ 8 * b.length) ∧ Box' (∃ q o, Rs K N wl sb vb b q o most (.int .i64 7))))) (fun i _ => n3 + 4 - (intOf i).toNat)
  case atStart => exact ⟨0, List.replicate 19 0, by omega, rfl, ⟨by simp⟩, RF, RO, KP0, .inl ⟨⟨rfl⟩, ST0⟩⟩
  case round =>
    clear RF RO ST0 KP0 HZ0
    obtain ⟨k, LL, hk, rfl, HLL, RF, RO, KP, ⟨HKL, ST⟩ | ⟨HNS, ⟨⟨q, o, st⟩⟩⟩⟩ := hrel
    case inr =>
      have ST := Box'.mk st
      have HX : Box' ((7 : Int) ≠ 0) := ⟨by decide⟩
      have c4 := st.cell4
      by_cases hlt : k < n3 + 4
      · obtain ⟨i, hi, hi19⟩ := OL.out k (by omega)
        have c0 : wr.cell? ⟨gf + 1, k, none⟩ = some (.int .i64 (i : Int)) := by rw [RO.out.cell, ai_get (show k < 19 by omega), hi]
        have c1 : wr.cell? ⟨gf, i, none⟩ = some (.int .i64 (LL.getD i 0)) := by rw [RF.out.cell]; exact ai_get (by rw [HLL.out]; omega)
        have f1 := RF.out.frozen i
        have hnK : ¬ K gf := fun hh => by have := KLX.out _ hh; omega
        have te := rtake_err K N wr.drew sb vb b _ _ most 7 HX.out 3 (ST.out.drewN 1)
        have st5 := Box'.mk ((ST.out.drewN 1).other gf i (.int .i64 0) (show Row wr.drew gf 3 _ from RF.out) (by decide) (by omega) hnK)
        have rl5 := (show Row wr.drew gf 3 _ from RF.out).setCell i (.int .i64 0)
        rw [ai_set] at rl5
        have RL5 := Box'.mk rl5
        have RO5 : Box' (Row (wr.drew.setCell ⟨gf, i, none⟩ (.int .i64 0)) (gf + 1) 98 (ai ordL)) := ⟨(show Row wr.drew (gf + 1) 98 _ from RO.out).setOther _ _ (by show gf + 1 ≠ gf; omega)⟩
        have KP5 := Box'.mk (KP.out.drew.setCell gf i hnK (.int .i64 0))
        have HL5 : Box' ((LL.set i 0).length = 19) := ⟨by rw [List.length_set]; exact HLL.out⟩
        have c0' : wr.drew.cell? ⟨gf + 1, k, none⟩ = some (.int .i64 (i : Int)) := c0
        have c1' : wr.drew.cell? ⟨gf, i, none⟩ = some (.int .i64 (LL.getD i 0)) := c1
        have f1' : wr.drew.frozen? ⟨gf, i, none⟩ = false := f1
        generalize LL.getD i 0 = y at *
        clear st RF RO KP ST rl5 hi c4
        go_wp2_with fail
        go_region_with (go_at_call 26; refine te.mono ?_; rintro e w3 ⟨rfl, rfl⟩)
        all_goals go_wp2_with fail
        all_goals exact ⟨⟨k + 1, LL.set i 0, by omega, by go_num, HL5, RL5, RO5, KP5, .inr ⟨HNS, ⟨_, _, st5.out⟩⟩⟩, by simp [intOf]; omega⟩
      · obtain rfl : k = n3 + 4 := by omega
        have EX : R0 = .error 7 := HER.out 7 (by rw [DFF.out, if_neg HNS.out])
        have RES : Box' (REnds K N w sb vb b most R0 (.returned (.tuple #[])) wr) := ⟨rfl, KP.out, .inr ⟨7, _, _, EX, HX.out, ST.out⟩⟩
        clear st RF RO KP ST EX
        obtain ⟨we, hwe⟩ : ∃ we, we = wr := ⟨_, rfl⟩
        subst hwe
        go_wp2_with fail
        go_loopw [8] (fun r wl => r = .slice none 0 0 ∧ Box' (wl = we)) (fun _ _ => 0)
        case atStart => exact ⟨rfl, ⟨rfl⟩⟩
        case round =>
          obtain ⟨rfl, HWL⟩ := hrel
          obtain rfl := HWL.out
          clear HWL
          go_wp2_with fail
          all_goals exact ⟨rfl, _, results30 _ _, RES.out⟩
    case inl =>
    by_cases hlt : k < n3 + 4
    · obtain ⟨i, hi, hi19⟩ := OL.out k (by omega)
      have c0 : wr.cell? ⟨gf + 1, k, none⟩ = some (.int .i64 (i : Int)) := by rw [RO.out.cell, ai_get (show k < 19 by omega), hi]
      have hnK : ¬ K gf := fun hh => by have := KLX.out _ hh; omega
      have ST1 := ((ST.out.more gf RF.out (by decide) (by omega)).more (gf + 1) RO.out (by decide) (by omega)).drewN 1
      have tk := rtake_any _ N wr.drew sb vb b (p3 + 3 * k) out most 3 (by decide) ST1
      have l3 := nbr_lt b (p3 + 3 * k) 3
      have c0' : wr.drew.cell? ⟨gf + 1, k, none⟩ = some (.int .i64 (i : Int)) := c0
      have CC : Box' (∀ w', Kp (fun k => (K k ∨ k = gf) ∨ k = gf + 1) wr.drew w' → Row w' gf 3 (ai LL) ∧ Row w' (gf + 1) 98 (ai ordL) ∧ Kp K w w') := ⟨fun w' kp => ⟨RF.out.same (kp.block gf (.inl (.inr rfl))), RO.out.same (kp.block (gf + 1) (.inr rfl)), KP.out.drew.trans (kp.less fun _ hk => .inl (.inl hk))⟩⟩
      have BK : Box' (∀ w' q er, Kp (fun k => (K k ∨ k = gf) ∨ k = gf + 1) wr.drew w' → Rs (fun k => (K k ∨ k = gf) ∨ k = gf + 1) N w' sb vb b q out most er → Rs K N w' sb vb b q out most er) := ⟨fun w' q er kp st => (ST.out.drewN 1).back2 st (kp.less fun _ hk => .inl (.inl hk))⟩
      have hord : (ordL.getD k 0).toNat = i := by rw [hi]; rfl
      have CO : Box' (∀ w', Row w' (gf + 1) 98 (ai ordL) → w'.cell? ⟨gf + 1, k, none⟩ = some (.int .i64 (i : Int))) := ⟨fun w' r => by rw [r.cell, ai_get (show k < 19 by omega), hi]⟩
      have CF : Box' (∀ w', Row w' gf 3 (ai LL) → w'.cell? ⟨gf, i, none⟩ = some (.int .i64 (LL.getD i 0)) ∧ w'.frozen? ⟨gf, i, none⟩ = false) := ⟨fun w' r => ⟨by rw [r.cell]; exact ai_get (by rw [HLL.out]; omega), r.frozen i⟩⟩
      have NX : Box' (∀ (w' : World) (z : Int), Row w' gf 3 (ai LL) → Row w' (gf + 1) 98 (ai ordL) → Kp K w w' → Row (w'.setCell ⟨gf, i, none⟩ (.int .i64 z)) gf 3 (ai (LL.set i z)) ∧ Row (w'.setCell ⟨gf, i, none⟩ (.int .i64 z)) (gf + 1) 98 (ai ordL) ∧ Kp K w (w'.setCell ⟨gf, i, none⟩ (.int .i64 z)) ∧ ∀ q er, Rs K N w' sb vb b q out most er → Rs K N (w'.setCell ⟨gf, i, none⟩ (.int .i64 z)) sb vb b q out most er) := ⟨fun w' z r1 r2 kp => ⟨by rw [← ai_set]; exact r1.setCell i _, r2.setOther _ _ (by show gf + 1 ≠ gf; omega), kp.setCell gf i hnK _, fun q er st => st.other gf i _ r1 (by decide) (by omega) hnK⟩⟩
      by_cases hs : p3 + 3 * k + 3 ≤ 8 * b.length
      · have te : Calls Try.prog 26 #[.pointer (some ⟨sb, 0, none⟩), .int .i64 3] wr.drew fun e w' => e = .returned (.int .i64 ((nbr b (p3 + 3 * k) 3 : Nat) : Int)) ∧ Kp (fun k => (K k ∨ k = gf) ∨ k = gf + 1) wr.drew w' ∧ Rs (fun k => (K k ∨ k = gf) ∨ k = gf + 1) N w' sb vb b (p3 + 3 * k + 3) out most (.int .i64 0) := tk.mono fun e w' hh => by
          obtain ⟨kp, ⟨v, q, e1, h1, h2⟩ | ⟨x, e1, _⟩⟩ := hh
          · obtain ⟨_, rfl, rfl⟩ := tk_ok e1; exact ⟨h1, kp, h2⟩
          · exact absurd hs (tk_err e1).1
        have KS : Box' (LL.set i ((nbr b (p3 + 3 * k) 3 : Nat) : Int) = kindL b p3 (k + 1)) := ⟨by rw [kindL, hord, ← HKL.out]⟩
        have HL5 : Box' ((LL.set i ((nbr b (p3 + 3 * k) 3 : Nat) : Int)).length = 19) := ⟨by rw [List.length_set]; exact HLL.out⟩
        clear tk ST1 ST RF RO KP HKL HLL hi c0 OL
        generalize hvv : nbr b (p3 + 3 * k) 3 = v at *
        clear hvv
        generalize LL.getD i 0 = y at *
        go_wp2_with fail
        go_region_with (go_at_call 26; refine te.mono ?_; rintro e w5 ⟨rfl, kp5, st5⟩; obtain ⟨r5, ro5, k5⟩ := CC.out w5 kp5; have c5 := CO.out w5 ro5; obtain ⟨d5, f5⟩ := CF.out w5 r5)
        all_goals (obtain ⟨r6, ro6, k6, s6⟩ := NX.out w5 (v : Int) r5 ro5 k5; have R6 := Box'.mk r6; have RO6 := Box'.mk ro6; have K6 := Box'.mk k6; have S6 := Box'.mk (s6 _ _ (BK.out w5 _ _ kp5 st5)); clear r6 ro6 k6 s6 r5 ro5 k5 kp5 st5 c5 d5 f5)
        all_goals go_wp2_with fail
        all_goals exact ⟨⟨k + 1, _, by omega, by go_num, HL5, R6, RO6, K6, .inl ⟨KS, by rw [show p3 + 3 * (k + 1) = p3 + 3 * k + 3 by omega]; exact S6⟩⟩, by simp [intOf]; omega⟩
      · have te : Calls Try.prog 26 #[.pointer (some ⟨sb, 0, none⟩), .int .i64 3] wr.drew fun e w' => e = .returned (.int .i64 0) ∧ Kp (fun k => (K k ∨ k = gf) ∨ k = gf + 1) wr.drew w' ∧ Rs (fun k => (K k ∨ k = gf) ∨ k = gf + 1) N w' sb vb b (p3 + 3 * k) out most (.int .i64 7) := tk.mono fun e w' hh => by
          obtain ⟨kp, ⟨v, q, e1, h1, h2⟩ | ⟨x, e1, hx, h1, h2⟩⟩ := hh
          · exact absurd (tk_ok e1).1 hs
          · obtain ⟨_, rfl⟩ := tk_err e1; exact ⟨h1, kp, h2⟩
        have HNS : Box' (¬ p3 + 3 * (n3 + 4) ≤ 8 * b.length) := ⟨by omega⟩
        have HL5 : Box' ((LL.set i 0).length = 19) := ⟨by rw [List.length_set]; exact HLL.out⟩
        clear tk ST1 ST RF RO KP HKL HLL hi c0 OL
        generalize LL.getD i 0 = y at *
        go_wp2_with fail
        go_region_with (go_at_call 26; refine te.mono ?_; rintro e w5 ⟨rfl, kp5, st5⟩; obtain ⟨r5, ro5, k5⟩ := CC.out w5 kp5; have c5 := CO.out w5 ro5; obtain ⟨d5, f5⟩ := CF.out w5 r5)
        all_goals (obtain ⟨r6, ro6, k6, s6⟩ := NX.out w5 0 r5 ro5 k5; have R6 := Box'.mk r6; have RO6 := Box'.mk ro6; have K6 := Box'.mk k6; have S6 := Box'.mk (s6 _ _ (BK.out w5 _ _ kp5 st5)); clear r6 ro6 k6 s6 r5 ro5 k5 kp5 st5 c5 d5 f5)
        all_goals go_wp2_with fail
        all_goals exact ⟨⟨k + 1, _, by omega, by go_num, HL5, R6, RO6, K6, .inr ⟨HNS, ⟨_, _, S6.out⟩⟩⟩, by simp [intOf]; omega⟩
    obtain rfl : k = n3 + 4 := by omega
    have hpl4 := ST.out.pl
    have DF1 := DFF.out
    rw [if_pos hpl4] at DF1
    have DFG := Box'.mk DF1
    have hlk := KN.out (n3 + 4)
    have HK0 := HKL.out
    subst HK0
    have bd := refBad_any (.slice (some ⟨gf, 0, none⟩) 19 19) (kindL b p3 (n3 + 4)) (by rw [hlk]; decide) wr (RF.out.ints hlk)
    have c4 := ST.out.cell4
    have HZX : Box' (gf + 2 ≤ wr.heap.size) := ⟨by have := RO.out.lt; omega⟩
    clear DF1 DFF HKL HLL RO KN OL
    generalize kindL b p3 (n3 + 4) = lk at *
    generalize hp4 : p3 + 3 * (n3 + 4) = p4 at *
    clear hp4
    by_cases hck : Gf.chkE lk = 0
    case neg =>
      have EX : Box' (R0 = .error 8) := ⟨HER.out 8 (by rw [DFG.out, if_neg hck])⟩
      have HX : Box' ((8 : Int) ≠ 0) := ⟨by decide⟩
      have hf := rfail_any K N wr sb vb b p4 out most 8 ST.out
      have hck' : (Gf.chkE lk != 0) = true := by simpa using hck
      generalize Gf.chkE lk = E at *
      clear DFG HER HOK ST RF hck
      go_wp2_with fail
      refine bd.mono ?_
      clear bd
      rintro e wx ⟨rfl, rfl⟩
      go_wp2_with fail
      refine hf.mono ?_
      clear hf
      rintro e w4 ⟨rfl, kp4, st4⟩
      have RES : Box' (REnds K N w sb vb b most R0 (.returned (.tuple #[])) w4) := ⟨rfl, KP.out.trans kp4, .inr ⟨8, _, _, EX.out, HX.out, st4⟩⟩
      have c4 := st4.cell4
      clear kp4 st4 KP EX
      obtain ⟨we, hwe⟩ : ∃ we, we = w4 := ⟨_, rfl⟩
      subst hwe
      go_wp2_with fail
      go_loopw [8] (fun r wl => r = .slice none 0 0 ∧ Box' (wl = we)) (fun _ _ => 0)
      case atStart => exact ⟨rfl, ⟨rfl⟩⟩
      case round =>
        obtain ⟨rfl, HWL⟩ := hrel
        obtain rfl := HWL.out
        clear HWL
        go_wp2_with fail
        all_goals exact ⟨rfl, _, results30 _ _, RES.out⟩
    case pos =>
    have DF1 := DFG.out
    rw [if_pos hck] at DF1
    have DFH := Box'.mk DF1
    have HCK := Box'.mk hck
    rw [hck] at bd
    clear DF1 DFG hck
    go_wp2_with fail
    refine bd.mono ?_
    clear bd
    rintro e wx ⟨rfl, rfl⟩
    clear c4
    obtain ⟨cnt, hcnt⟩ : ∃ cnt, cnt = n1 + 257 + (n2 + 1) := ⟨_, rfl⟩
    have DF2 := DFH.out
    rw [← hcnt] at DF2
    obtain ⟨RR, hRR⟩ : ∃ RR, RR = rowF lk b cnt (cnt + 1) p4 [] := ⟨_, rfl⟩
    rw [← hRR] at DF2
    have DFI := Box'.mk DF2
    have MD0 : Box' (Md b lk cnt RR p4 0 []) := ⟨.inl ⟨rfl, by simp, cnt + 1, by simp, hRR⟩⟩
    have HCN := Box'.mk hcnt
    have hcb : cnt ≤ 400 := by omega
    have LP0 : Box' (Lp K N w wx sb vb b p4 out most 0 gf lk (.slice none 0 0) []) := ⟨⟨ST.out, RF.out, KP.out, OwnI.nil _ _, KLX.out, hsbf, HZX.out⟩⟩
    have HERR : Box' (∀ x, RR = .error x → R0 = .error x) := ⟨fun x hx => HER.out x (by rw [DFI.out, hx])⟩
    have HLK := Box'.mk hlk
    have c4 := ST.out.cell4
    clear DFH DF2 hRR hcnt ST RF KP KLX hlk HZX
    go_wp2_with fail
    go_loopw [8] (fun r wl => ∃ (p' : Nat) (row : List Int) (er : Int), Box' (Lp K N w wl sb vb b p' out most er gf lk r row) ∧ Box' (Md b lk cnt RR p' er row) ∧ row.length ≤ 1000) (fun r _ => cnt + 1 - lenV r)
    case atStart => exact ⟨p4, [], 0, LP0, MD0, by simp⟩
    case round =>
      clear LP0 MD0 c4
      obtain ⟨p', row, er, LP, MD, hrl⟩ := hrel
      obtain ⟨a, c, rfl, hac⟩ := LP.out.ow.slice
      have c4 := LP.out.st.cell4
      by_cases her : er = 0
      case neg =>
        have her1 : (er == 0) = false := by rw [beq_eq_false_iff_ne]; exact her
        have her2 : (er != 0) = true := by simpa using her
        have RES : Box' (REnds K N w sb vb b most R0 (.returned (.tuple #[])) wr) := ⟨rfl, LP.out.kp, .inr ⟨er, _, _, HERR.out er (md_err MD.out her), her, LP.out.st⟩⟩
        clear LP MD her
        generalize row.length = L at *
        by_cases hlt : (L : Int) < (n1 : Int) + 257 + (n2 : Int) + 1
        · have hd := decide_eq_true hlt
          go_wp2_with fail
          exact ⟨rfl, _, results30 _ _, RES.out⟩
        · have hd := decide_eq_false hlt
          go_wp2_with fail
          exact ⟨rfl, _, results30 _ _, RES.out⟩
      case pos =>
      subst her
      by_cases hlt : row.length < cnt
      case neg =>
        have hnd : decide ((row.length : Int) < (n1 : Int) + 257 + (n2 : Int) + 1) = false := decide_eq_false (by have := HCN.out; omega)
        rcases md_end MD.out hlt with ⟨hle, hok⟩ | ⟨hgt, hbad⟩
        case inr =>
          have hgd : decide ((n1 : Int) + 257 + (n2 : Int) + 1 < (row.length : Int)) = true := decide_eq_true (by have := HCN.out; omega)
          have hf := LP.out.fail 8
          have E8 : Box' (R0 = .error 8) := ⟨HERR.out 8 hbad⟩
          clear LP MD hlt hgt hbad
          generalize row.length = L at *
          go_wp2_with fail
          refine hf.mono ?_
          clear hf
          rintro e w2 ⟨rfl, lp2⟩
          have RES : Box' (REnds K N w sb vb b most R0 (.returned (.tuple #[])) w2) := ⟨rfl, lp2.kp, .inr ⟨8, _, _, E8.out, by decide, lp2.st⟩⟩
          clear lp2
          go_wp2_with fail
          exact ⟨rfl, _, results30 _ _, RES.out⟩
        case inl =>
        have hL : row.length = n1 + 257 + (n2 + 1) := by rw [hle]; exact HCN.out
        obtain ⟨g, cap, e, hMg, hcap, sg⟩ := LP.out.ow.seg (by rw [hL]; omega)
        cases e
        have hgs : g ≠ sb := by omega
        obtain ⟨-, cur, rg⟩ := LP.out.ow.row g rfl
        have hpt : ∀ w', w'.heap[g]? = wr.heap[g]? → Ints w'.heap.size w' (.slice (some ⟨g, 0, none⟩) (n1 + 257) c) (row.take (n1 + 257)) ∧ Ints w'.heap.size w' (.slice (some ⟨g, n1 + 257, none⟩) (n2 + 1) (c - (n1 + 257))) (row.drop (n1 + 257)) := fun w' hh => by
          have := ints_part (sg.same hh) hcap (n1 + 257) (by rw [hL]; omega)
          rwa [show row.length - (n1 + 257) = n2 + 1 by rw [hL]; omega] at this
        have BD1 : Box' (∀ m, Calls Try.prog 52 #[.slice (some ⟨g, 0, none⟩) (n1 + 257) c] (wr.drewN m) fun e w' => e = .returned (.int .i64 (Gf.chkE (row.take (n1 + 257)))) ∧ w' = wr.drewN m) := ⟨fun m => refBad_any _ _ (by rw [List.length_take]; omega) (wr.drewN m) (hpt (wr.drewN m) rfl).1⟩
        have BD2 : Box' (∀ m, Calls Try.prog 52 #[.slice (some ⟨g, n1 + 257, none⟩) (n2 + 1) (c - (n1 + 257))] (wr.drewN m) fun e w' => e = .returned (.int .i64 (Gf.chkE (row.drop (n1 + 257)))) ∧ w' = wr.drewN m) := ⟨fun m => refBad_any _ _ (by rw [List.length_drop]; omega) (wr.drewN m) (hpt (wr.drewN m) rfl).2⟩
        have c256 : wr.cell? ⟨g, 256, none⟩ = some (.int .i64 (row.getD 256 0)) := sg.cell (by rw [hL]; omega)
        have DJ := DFI.out
        rw [hok] at DJ
        simp only at DJ
        have CD : Box' (∀ m, Gf.chkE (row.take (n1 + 257)) = 0 → Gf.chkE (row.drop (n1 + 257)) = 0 → Calls Try.prog 29 #[.pointer (some ⟨sb, 0, none⟩), .slice (some ⟨g, 0, none⟩) (n1 + 257) c, .slice (some ⟨g, n1 + 257, none⟩) (n2 + 1) (c - (n1 + 257))] (wr.drewN m) (REnds K N w sb vb b most (toldF (row.take (n1 + 257)) (row.drop (n1 + 257)) b most (8 * b.length + 1) p' out))) := ⟨fun m h1 h2 => (rcoded_any (fun k => K k ∨ k = g) N (wr.drewN m) sb vb b p' out most _ _ (row.take (n1 + 257)) (row.drop (n1 + 257)) h1 h2 (fun w' kp => (hpt w' (kp.block g (.inr rfl))).1) (fun w' kp => (hpt w' (kp.block g (.inr rfl))).2) ((LP.out.st.more g rg (by decide) hgs).drewN m)).mono fun e w' hh => REnds.less (LP.out.st.drewN m) (LP.out.kp.drewN m) hh fun _ hk => .inl hk⟩
        have FL : Box' (∀ m, Calls Try.prog 31 #[.pointer (some ⟨sb, 0, none⟩), .int .i64 8] (wr.drewN m) fun e w' => e = .returned (.tuple #[]) ∧ Kp K w w' ∧ Rs K N w' sb vb b p' out most (.int .i64 8)) := ⟨fun m => (rfail_any K N (wr.drewN m) sb vb b p' out most 8 (LP.out.st.drewN m)).mono fun _ _ ⟨h1, h2, h3⟩ => ⟨h1, (LP.out.kp.drewN m).trans h2, h3⟩⟩
        have HOK2 := HOK
        have hgd : decide ((n1 : Int) + 257 + (n2 : Int) + 1 < ((n1 + 257 + (n2 + 1) : Nat) : Int)) = false := decide_eq_false (by omega)
        rw [hL] at hnd hcap ⊢
        have DJB := Box'.mk DJ
        generalize row.getD 256 0 = y at *
        generalize row.take (n1 + 257) = l1 at *
        generalize row.drop (n1 + 257) = l2 at *
        clear LP MD hlt hle hok hL sg rg hpt DJ hrl
        have hcap1 : n1 + 257 ≤ c := by omega
        have hcap2 : (n1 : Int) + 257 ≤ (c : Int) := by omega
        have hq1 : (n1 : Int) + 257 ≤ ((n1 + 257 + (n2 + 1) : Nat) : Int) := by omega
        have hq2 : ((n1 : Int) + 257).toNat = n1 + 257 := by omega
        have hq3 : IntKind.i64.wrap ((n1 : Int) + 257) = (n1 : Int) + 257 := (by rw [IntKind.wrap_i64]; omega)
        generalize hE1 : Gf.chkE l1 = E1 at *
        generalize hE2 : Gf.chkE l2 = E2 at *
        clear hE1 hE2
        go_wp2_with fail
        go_quiet (fail)
        have bd1 := BD1.out nq
        have bd2 := BD2.out nq
        have fl := FL.out nq
        have cdd := Box'.mk (CD.out nq)
        have c256' : (wr.drewN nq).cell? ⟨g, 256, none⟩ = some (.int .i64 y) := c256
        have h256 : 256 < n1 + 257 := by omega
        clear BD1 BD2 FL CD c256 c4
        generalize wr.drewN nq = wq at *
        by_cases h1 : E1 = 0
        case neg =>
          have h1' : (E1 != 0) = true := by simpa using h1
          have EX : Box' (R0 = .error 8) := ⟨HER.out 8 (by rw [DJB.out]; split; · rfl
                                                           · rw [if_neg fun hh => h1 hh.1])⟩
          clear h1 DJB cdd bd2 HOK HOK2
          go_wp2_with fail
          refine bd1.mono ?_
          clear bd1
          rintro e wz ⟨rfl, rfl⟩
          go_wp2_with fail
          refine fl.mono ?_
          clear fl
          rintro e w2 ⟨rfl, kp2, st2⟩
          have RES : Box' (REnds K N w sb vb b most R0 (.returned (.tuple #[])) w2) := ⟨rfl, kp2, .inr ⟨8, _, _, EX.out, by decide, st2⟩⟩
          clear kp2 st2
          go_wp2_with fail
          exact ⟨rfl, _, results30 _ _, RES.out⟩
        case pos =>
        subst h1
        by_cases hy : y = 0
        case pos =>
          subst hy
          have EX : Box' (R0 = .error 8) := ⟨HER.out 8 (by rw [DJB.out, if_pos rfl])⟩
          clear DJB cdd bd2 HOK HOK2
          go_wp2_with fail
          refine bd1.mono ?_
          clear bd1
          rintro e wz ⟨rfl, rfl⟩
          go_wp2_with fail
          refine fl.mono ?_
          clear fl
          rintro e w2 ⟨rfl, kp2, st2⟩
          have RES : Box' (REnds K N w sb vb b most R0 (.returned (.tuple #[])) w2) := ⟨rfl, kp2, .inr ⟨8, _, _, EX.out, by decide, st2⟩⟩
          clear kp2 st2
          go_wp2_with fail
          exact ⟨rfl, _, results30 _ _, RES.out⟩
        case neg =>
        have hy' : (y == 0) = false := by rw [beq_eq_false_iff_ne]; exact hy
        go_wp2_with fail
        refine bd1.mono ?_
        clear bd1
        rintro e wz ⟨rfl, rfl⟩
        by_cases h2 : E2 = 0
        case neg =>
          have h2' : (E2 != 0) = true := by simpa using h2
          have EX : Box' (R0 = .error 8) := ⟨HER.out 8 (by rw [DJB.out, if_neg hy, if_neg fun hh => h2 hh.2])⟩
          clear h2 hy DJB cdd HOK HOK2
          go_wp2_with fail
          refine bd2.mono ?_
          clear bd2
          rintro e wz ⟨rfl, rfl⟩
          go_wp2_with fail
          refine fl.mono ?_
          clear fl
          rintro e w2 ⟨rfl, kp2, st2⟩
          have RES : Box' (REnds K N w sb vb b most R0 (.returned (.tuple #[])) w2) := ⟨rfl, kp2, .inr ⟨8, _, _, EX.out, by decide, st2⟩⟩
          clear kp2 st2
          go_wp2_with fail
          exact ⟨rfl, _, results30 _ _, RES.out⟩
        case pos =>
        subst h2
        have ER := HOK.out _ _ _ (by rw [DJB.out, if_neg hy, if_pos (by simp)])
        have cdx := cdd.out (by trivial) (by trivial)
        rw [← ER] at cdx
        clear ER DJB cdd HOK HOK2 hy fl
        go_wp2_with fail
        refine bd2.mono ?_
        clear bd2
        rintro e wz ⟨rfl, rfl⟩
        go_wp2_with fail
        refine cdx.mono ?_
        clear cdx
        rintro e w2 hh
        obtain rfl := hh.1
        have RES := Box'.mk hh
        clear hh
        go_wp2_with fail
        exact ⟨rfl, _, results30 _ _, RES.out⟩
      case pos =>
      have HLT := Box'.mk hlt
      have sy := LP.out.sym HLK.out HCK.out
      have hd : decide ((row.length : Int) < (n1 : Int) + 257 + (n2 : Int) + 1) = true := decide_eq_true (by have := HCN.out; omega)
      obtain ⟨L, hL⟩ : ∃ L, L = row.length := ⟨_, rfl⟩
      rw [← hL] at sy hd hac
      rw [← hL]
      have HL : Box' (row.length = L) := ⟨hL.symm⟩
      have hLc : L < cnt := by omega
      clear LP hlt hL hrl
      go_wp2_with fail
      refine sy.mono ?_
      clear sy
      rintro e w1 (⟨s, q, hrd, hs19, rfl, lp1⟩ | ⟨x, hrd, hx, rfl, lp1⟩)
      case inr =>
        have hx' : (x != 0) = true := by simpa using hx
        have c4 := lp1.st.cell4
        have RES : Box' (REnds K N w sb vb b most R0 (.returned (.tuple #[])) w1) := ⟨rfl, lp1.kp, .inr ⟨x, _, _, HERR.out x (md_bad MD.out HLT.out hrd), hx, lp1.st⟩⟩
        clear lp1 hrd hx MD
        go_wp2_with fail
        exact ⟨rfl, _, results30 _ _, RES.out⟩
      case inl =>
      have c4 := lp1.st.cell4
      have LP1 := Box'.mk lp1
      clear lp1
      by_cases h16 : s = 16
      case pos =>
        subst h16
        by_cases hr0 : row = []
        · have hf := LP1.out.fail 8
          have hL0 : L = 0 := by rw [← HL.out, hr0]; rfl
          have E8 : Box' (R0 = .error 8) := ⟨HERR.out 8 (md_none MD.out HLT.out hrd ⟨rfl, hr0⟩)⟩
          subst hL0
          clear LP1 hrd MD hr0
          go_wp2_with fail
          refine hf.mono ?_
          clear hf
          rintro e w2 ⟨rfl, lp2⟩
          have RES : Box' (REnds K N w sb vb b most R0 (.returned (.tuple #[])) w2) := ⟨rfl, lp2.kp, .inr ⟨8, _, _, E8.out, by decide, lp2.st⟩⟩
          clear lp2
          go_wp2_with fail
          exact ⟨rfl, _, results30 _ _, RES.out⟩
        have hL1 : 1 ≤ L := by have := List.length_pos_iff.2 hr0; have := HL.out; omega
        obtain ⟨g, cap, e, hMg, hcap, -⟩ := LP1.out.ow.seg (by rw [HL.out]; omega)
        rw [HL.out] at e
        cases e
        have CL : Box' (∀ w' q' e', Lp K N w w' sb vb b q' out most e' gf lk (.slice (some ⟨g, 0, none⟩) L c) row → w'.cell? ⟨g, L - 1, none⟩ = some (.int .i64 (row.getD (row.length - 1) 0))) := ⟨fun w' q' e' lp => by
          have lp' := lp
          rw [← HL.out] at lp' ⊢
          exact lp'.last (by rw [HL.out]; omega)⟩
        have hlv := nbr_lt b q 2
        have cc : w1.drew.cell? ⟨g, L - 1, none⟩ = some (.int .i64 (row.getD (row.length - 1) 0)) := CL.out _ _ _ LP1.out.drew
        have cd : w1.cell? ⟨g, L - 1, none⟩ = some (.int .i64 (row.getD (row.length - 1) 0)) := cc
        have hi1 : (0 : Int) ≤ (L : Int) - 1 := by omega
        have hi2 : (L : Int) - 1 < (L : Int) := by omega
        have hi3 : ((L : Int) - 1).toNat = L - 1 := by omega
        have hi4 : wrap64 ((L : Int) - 1) = (L : Int) - 1 := by unfold wrap64; omega
        have hi5 : IntKind.i64.wrap ((L : Int) - 1) = (L : Int) - 1 := (by rw [IntKind.wrap_i64]; omega)
        have hL0 : ((L : Int) == 0) = false := by rw [beq_eq_false_iff_ne]; omega
        by_cases hs : q + 2 ≤ 8 * b.length
        · have MDN0 : Md b lk cnt RR (q + 2) 0 (row ++ List.replicate (3 + nbr b q 2) (row.getD (row.length - 1) 0)) := md_ok MD.out HLT.out hrd (fun hh => hr0 hh.2) hs
          have tk := LP1.out.drew.take 2 (by decide) hs
          generalize nbr b q 2 = v at *
          generalize row.getD (row.length - 1) 0 = y at *
          obtain ⟨mn, hmn⟩ : ∃ mn, mn = 3 + v := ⟨_, rfl⟩
          rw [← hmn] at MDN0
          have MDN := Box'.mk MDN0
          have hm10 : (3 : Int) + (v : Int) = (mn : Int) := by omega
          have hm1 : 1 ≤ mn := by omega
          have hm2 : mn ≤ 200 := by omega
          have hv2 : v < 200 := by omega
          have hi6 : IntKind.i64.wrap (3 + (v : Int)) = 3 + (v : Int) := (by rw [IntKind.wrap_i64]; omega)
          have hi7 : IntKind.i64.wrap (mn : Int) = (mn : Int) := (by rw [IntKind.wrap_i64]; omega)
          clear hmn MDN0 hrd LP1 MD hlv hr0 hs
          go_wp2_with fail
          go_region_with (go_at_call 26; refine tk.mono ?_; rintro e w5 ⟨rfl, lp5⟩; have c5 := CL.out _ _ _ lp5)
          all_goals (have LP5 := Box'.mk lp5; clear lp5 c5 CL tk cc cd c4)
          · go_wp2_with fail
            go_loopw [8, 12] (fun r i wl => ∃ (k : Nat), k ≤ mn ∧ i = .int .i64 (k : Int) ∧ Box' (Lp K N w wl sb vb b (q + 2) out most 0 gf lk r (row ++ List.replicate k y))) (fun _ i _ => mn - (intOf i).toNat)
            case atStart => exact ⟨0, by omega, rfl, ⟨by rw [List.replicate_zero, List.append_nil]; exact LP5.out⟩⟩
            case round =>
              clear LP5
              obtain ⟨k, hk, rfl, LPK⟩ := hrel
              by_cases hlt2 : k < mn
              · have hkd : decide ((k : Int) < (mn : Int)) = true := decide_eq_true (by omega)
                obtain ⟨o1, z1, y1, gr⟩ := LPK.out.app y
                have GR := Box'.mk gr
                have hmx : (row ++ List.replicate k y).length + [(y : Int)].length ≤ 17592186044416 := by rw [List.length_append, HL.out, List.length_replicate, List.length_singleton]; omega
                have RSU : Box' (row ++ List.replicate k y ++ [y] = row ++ List.replicate (k + 1) y) := ⟨by rw [List.replicate_succ', List.append_assoc]⟩
                clear gr LPK
                go_wp2_with (refine wpList_append_intsG rfl (.tmp 126) (.tmp 128) rfl (gf + 2) z1 _ _ rfl o1 _ _ _ [y] rfl rfl y1 hmx ?_; intro v4 w4 o4 g4; have LP4 := Box'.mk (GR.out v4 w4 o4 g4); clear GR o4 g4 o1 z1 y1 hmx)
                exact ⟨⟨k + 1, by omega, by go_num, ⟨by rw [← RSU.out]; exact LP4.out⟩⟩, by simp [intOf]; omega⟩
              · have hkd : decide ((k : Int) < (mn : Int)) = false := decide_eq_false (by omega)
                have lpx := LPK.out
                rw [show k = mn by omega] at lpx
                obtain ⟨a2, c2, rfl, hc2⟩ := lpx.ow.slice
                have LPX := Box'.mk lpx
                have HLX : Box' ((row ++ List.replicate mn (y : Int)).length = L + mn) := ⟨by rw [List.length_append, HL.out, List.length_replicate]⟩
                clear lpx LPK hc2
                go_wp2_with fail
                exact ⟨⟨_, _, _, LPX, MDN, by rw [HLX.out]; omega⟩, by show cnt + 1 - (row ++ List.replicate mn (y : Int)).length < cnt + 1 - L; rw [HLX.out]; omega⟩
          · go_wp2_with fail
            go_loopw [8, 12] (fun r i wl => ∃ (k : Nat), k ≤ mn ∧ i = .int .i64 (k : Int) ∧ Box' (Lp K N w wl sb vb b (q + 2) out most 0 gf lk r (row ++ List.replicate k y))) (fun _ i _ => mn - (intOf i).toNat)
            case atStart => exact ⟨0, by omega, rfl, ⟨by rw [List.replicate_zero, List.append_nil]; exact LP5.out⟩⟩
            case round =>
              clear LP5
              obtain ⟨k, hk, rfl, LPK⟩ := hrel
              by_cases hlt2 : k < mn
              · have hkd : decide ((k : Int) < (mn : Int)) = true := decide_eq_true (by omega)
                obtain ⟨o1, z1, y1, gr⟩ := LPK.out.app y
                have GR := Box'.mk gr
                have hmx : (row ++ List.replicate k y).length + [(y : Int)].length ≤ 17592186044416 := by rw [List.length_append, HL.out, List.length_replicate, List.length_singleton]; omega
                have RSU : Box' (row ++ List.replicate k y ++ [y] = row ++ List.replicate (k + 1) y) := ⟨by rw [List.replicate_succ', List.append_assoc]⟩
                clear gr LPK
                go_wp2_with (refine wpList_append_intsG rfl (.tmp 126) (.tmp 128) rfl (gf + 2) z1 _ _ rfl o1 _ _ _ [y] rfl rfl y1 hmx ?_; intro v4 w4 o4 g4; have LP4 := Box'.mk (GR.out v4 w4 o4 g4); clear GR o4 g4 o1 z1 y1 hmx)
                exact ⟨⟨k + 1, by omega, by go_num, ⟨by rw [← RSU.out]; exact LP4.out⟩⟩, by simp [intOf]; omega⟩
              · have hkd : decide ((k : Int) < (mn : Int)) = false := decide_eq_false (by omega)
                have lpx := LPK.out
                rw [show k = mn by omega] at lpx
                obtain ⟨a2, c2, rfl, hc2⟩ := lpx.ow.slice
                have LPX := Box'.mk lpx
                have HLX : Box' ((row ++ List.replicate mn (y : Int)).length = L + mn) := ⟨by rw [List.length_append, HL.out, List.length_replicate]⟩
                clear lpx LPK hc2
                go_wp2_with fail
                exact ⟨⟨_, _, _, LPX, MDN, by rw [HLX.out]; omega⟩, by show cnt + 1 - (row ++ List.replicate mn (y : Int)).length < cnt + 1 - L; rw [HLX.out]; omega⟩
          · go_wp2_with fail
            go_loopw [8, 12] (fun r i wl => ∃ (k : Nat), k ≤ mn ∧ i = .int .i64 (k : Int) ∧ Box' (Lp K N w wl sb vb b (q + 2) out most 0 gf lk r (row ++ List.replicate k y))) (fun _ i _ => mn - (intOf i).toNat)
            case atStart => exact ⟨0, by omega, rfl, ⟨by rw [List.replicate_zero, List.append_nil]; exact LP5.out⟩⟩
            case round =>
              clear LP5
              obtain ⟨k, hk, rfl, LPK⟩ := hrel
              by_cases hlt2 : k < mn
              · have hkd : decide ((k : Int) < (mn : Int)) = true := decide_eq_true (by omega)
                obtain ⟨o1, z1, y1, gr⟩ := LPK.out.app y
                have GR := Box'.mk gr
                have hmx : (row ++ List.replicate k y).length + [(y : Int)].length ≤ 17592186044416 := by rw [List.length_append, HL.out, List.length_replicate, List.length_singleton]; omega
                have RSU : Box' (row ++ List.replicate k y ++ [y] = row ++ List.replicate (k + 1) y) := ⟨by rw [List.replicate_succ', List.append_assoc]⟩
                clear gr LPK
                go_wp2_with (refine wpList_append_intsG rfl (.tmp 126) (.tmp 128) rfl (gf + 2) z1 _ _ rfl o1 _ _ _ [y] rfl rfl y1 hmx ?_; intro v4 w4 o4 g4; have LP4 := Box'.mk (GR.out v4 w4 o4 g4); clear GR o4 g4 o1 z1 y1 hmx)
                exact ⟨⟨k + 1, by omega, by go_num, ⟨by rw [← RSU.out]; exact LP4.out⟩⟩, by simp [intOf]; omega⟩
              · have hkd : decide ((k : Int) < (mn : Int)) = false := decide_eq_false (by omega)
                have lpx := LPK.out
                rw [show k = mn by omega] at lpx
                obtain ⟨a2, c2, rfl, hc2⟩ := lpx.ow.slice
                have LPX := Box'.mk lpx
                have HLX : Box' ((row ++ List.replicate mn (y : Int)).length = L + mn) := ⟨by rw [List.length_append, HL.out, List.length_replicate]⟩
                clear lpx LPK hc2
                go_wp2_with fail
                exact ⟨⟨_, _, _, LPX, MDN, by rw [HLX.out]; omega⟩, by show cnt + 1 - (row ++ List.replicate mn (y : Int)).length < cnt + 1 - L; rw [HLX.out]; omega⟩
        · have MDN : Box' (Md b lk cnt RR q 7 (row ++ List.replicate 3 (row.getD (row.length - 1) 0))) := ⟨md_short MD.out HLT.out hrd (fun hh => hr0 hh.2) hs _ _⟩
          have tk := LP1.out.drew.short 2 (by decide) hs
          generalize row.getD (row.length - 1) 0 = y at *
          clear hrd LP1 MD hlv hr0 hs
          go_wp2_with fail
          go_region_with (go_at_call 26; refine tk.mono ?_; rintro e w5 ⟨rfl, lp5⟩; have c5 := CL.out _ _ _ lp5)
          all_goals (have LP5 := Box'.mk lp5; clear lp5 c5 CL tk cc cd c4)
          · go_wp2_with fail
            go_loopw [8, 12] (fun r i wl => ∃ (k : Nat), k ≤ 3 ∧ i = .int .i64 (k : Int) ∧ Box' (Lp K N w wl sb vb b q out most 7 gf lk r (row ++ List.replicate k y))) (fun _ i _ => 3 - (intOf i).toNat)
            case atStart => exact ⟨0, by omega, rfl, ⟨by rw [List.replicate_zero, List.append_nil]; exact LP5.out⟩⟩
            case round =>
              clear LP5
              obtain ⟨k, hk, rfl, LPK⟩ := hrel
              by_cases hlt2 : k < 3
              · have hkd : decide ((k : Int) < (3 : Int)) = true := decide_eq_true (by omega)
                obtain ⟨o1, z1, y1, gr⟩ := LPK.out.app y
                have GR := Box'.mk gr
                have hmx : (row ++ List.replicate k y).length + [(y : Int)].length ≤ 17592186044416 := by rw [List.length_append, HL.out, List.length_replicate, List.length_singleton]; omega
                have RSU : Box' (row ++ List.replicate k y ++ [y] = row ++ List.replicate (k + 1) y) := ⟨by rw [List.replicate_succ', List.append_assoc]⟩
                clear gr LPK
                go_wp2_with (refine wpList_append_intsG rfl (.tmp 126) (.tmp 128) rfl (gf + 2) z1 _ _ rfl o1 _ _ _ [y] rfl rfl y1 hmx ?_; intro v4 w4 o4 g4; have LP4 := Box'.mk (GR.out v4 w4 o4 g4); clear GR o4 g4 o1 z1 y1 hmx)
                exact ⟨⟨k + 1, by omega, by go_num, ⟨by rw [← RSU.out]; exact LP4.out⟩⟩, by simp [intOf]; omega⟩
              · have hkd : decide ((k : Int) < (3 : Int)) = false := decide_eq_false (by omega)
                have lpx := LPK.out
                rw [show k = 3 by omega] at lpx
                obtain ⟨a2, c2, rfl, hc2⟩ := lpx.ow.slice
                have LPX := Box'.mk lpx
                have HLX : Box' ((row ++ List.replicate 3 (y : Int)).length = L + 3) := ⟨by rw [List.length_append, HL.out, List.length_replicate]⟩
                clear lpx LPK hc2
                go_wp2_with fail
                exact ⟨⟨_, _, _, LPX, MDN, by rw [HLX.out]; omega⟩, by show cnt + 1 - (row ++ List.replicate 3 (y : Int)).length < cnt + 1 - L; rw [HLX.out]; omega⟩
          · go_wp2_with fail
            go_loopw [8, 12] (fun r i wl => ∃ (k : Nat), k ≤ 3 ∧ i = .int .i64 (k : Int) ∧ Box' (Lp K N w wl sb vb b q out most 7 gf lk r (row ++ List.replicate k y))) (fun _ i _ => 3 - (intOf i).toNat)
            case atStart => exact ⟨0, by omega, rfl, ⟨by rw [List.replicate_zero, List.append_nil]; exact LP5.out⟩⟩
            case round =>
              clear LP5
              obtain ⟨k, hk, rfl, LPK⟩ := hrel
              by_cases hlt2 : k < 3
              · have hkd : decide ((k : Int) < (3 : Int)) = true := decide_eq_true (by omega)
                obtain ⟨o1, z1, y1, gr⟩ := LPK.out.app y
                have GR := Box'.mk gr
                have hmx : (row ++ List.replicate k y).length + [(y : Int)].length ≤ 17592186044416 := by rw [List.length_append, HL.out, List.length_replicate, List.length_singleton]; omega
                have RSU : Box' (row ++ List.replicate k y ++ [y] = row ++ List.replicate (k + 1) y) := ⟨by rw [List.replicate_succ', List.append_assoc]⟩
                clear gr LPK
                go_wp2_with (refine wpList_append_intsG rfl (.tmp 126) (.tmp 128) rfl (gf + 2) z1 _ _ rfl o1 _ _ _ [y] rfl rfl y1 hmx ?_; intro v4 w4 o4 g4; have LP4 := Box'.mk (GR.out v4 w4 o4 g4); clear GR o4 g4 o1 z1 y1 hmx)
                exact ⟨⟨k + 1, by omega, by go_num, ⟨by rw [← RSU.out]; exact LP4.out⟩⟩, by simp [intOf]; omega⟩
              · have hkd : decide ((k : Int) < (3 : Int)) = false := decide_eq_false (by omega)
                have lpx := LPK.out
                rw [show k = 3 by omega] at lpx
                obtain ⟨a2, c2, rfl, hc2⟩ := lpx.ow.slice
                have LPX := Box'.mk lpx
                have HLX : Box' ((row ++ List.replicate 3 (y : Int)).length = L + 3) := ⟨by rw [List.length_append, HL.out, List.length_replicate]⟩
                clear lpx LPK hc2
                go_wp2_with fail
                exact ⟨⟨_, _, _, LPX, MDN, by rw [HLX.out]; omega⟩, by show cnt + 1 - (row ++ List.replicate 3 (y : Int)).length < cnt + 1 - L; rw [HLX.out]; omega⟩
          · go_wp2_with fail
            go_loopw [8, 12] (fun r i wl => ∃ (k : Nat), k ≤ 3 ∧ i = .int .i64 (k : Int) ∧ Box' (Lp K N w wl sb vb b q out most 7 gf lk r (row ++ List.replicate k y))) (fun _ i _ => 3 - (intOf i).toNat)
            case atStart => exact ⟨0, by omega, rfl, ⟨by rw [List.replicate_zero, List.append_nil]; exact LP5.out⟩⟩
            case round =>
              clear LP5
              obtain ⟨k, hk, rfl, LPK⟩ := hrel
              by_cases hlt2 : k < 3
              · have hkd : decide ((k : Int) < (3 : Int)) = true := decide_eq_true (by omega)
                obtain ⟨o1, z1, y1, gr⟩ := LPK.out.app y
                have GR := Box'.mk gr
                have hmx : (row ++ List.replicate k y).length + [(y : Int)].length ≤ 17592186044416 := by rw [List.length_append, HL.out, List.length_replicate, List.length_singleton]; omega
                have RSU : Box' (row ++ List.replicate k y ++ [y] = row ++ List.replicate (k + 1) y) := ⟨by rw [List.replicate_succ', List.append_assoc]⟩
                clear gr LPK
                go_wp2_with (refine wpList_append_intsG rfl (.tmp 126) (.tmp 128) rfl (gf + 2) z1 _ _ rfl o1 _ _ _ [y] rfl rfl y1 hmx ?_; intro v4 w4 o4 g4; have LP4 := Box'.mk (GR.out v4 w4 o4 g4); clear GR o4 g4 o1 z1 y1 hmx)
                exact ⟨⟨k + 1, by omega, by go_num, ⟨by rw [← RSU.out]; exact LP4.out⟩⟩, by simp [intOf]; omega⟩
              · have hkd : decide ((k : Int) < (3 : Int)) = false := decide_eq_false (by omega)
                have lpx := LPK.out
                rw [show k = 3 by omega] at lpx
                obtain ⟨a2, c2, rfl, hc2⟩ := lpx.ow.slice
                have LPX := Box'.mk lpx
                have HLX : Box' ((row ++ List.replicate 3 (y : Int)).length = L + 3) := ⟨by rw [List.length_append, HL.out, List.length_replicate]⟩
                clear lpx LPK hc2
                go_wp2_with fail
                exact ⟨⟨_, _, _, LPX, MDN, by rw [HLX.out]; omega⟩, by show cnt + 1 - (row ++ List.replicate 3 (y : Int)).length < cnt + 1 - L; rw [HLX.out]; omega⟩
      case neg =>
      by_cases h17 : s = 17
      case pos =>
        subst h17
        have hlv := nbr_lt b q 3
        by_cases hs : q + 3 ≤ 8 * b.length
        · have MDN0 : Md b lk cnt RR (q + 3) 0 (row ++ List.replicate (3 + nbr b q 3) 0) := md_ok MD.out HLT.out hrd (fun hh => absurd hh.1 (by decide)) hs
          have tk := LP1.out.take 3 (by decide) hs
          generalize nbr b q 3 = v at *
          obtain ⟨mn, hmn⟩ : ∃ mn, mn = 3 + v := ⟨_, rfl⟩
          rw [← hmn] at MDN0
          have MDN := Box'.mk MDN0
          have hm10 : (3 : Int) + (v : Int) = (mn : Int) := by omega
          have hm1 : 1 ≤ mn := by omega
          have hm2 : mn ≤ 200 := by omega
          have hv2 : v < 200 := by omega
          clear hmn MDN0 hrd LP1 MD hlv
          go_wp2_with fail
          refine tk.mono ?_
          clear tk
          rintro e w5 ⟨rfl, lp5⟩
          have LP5 := Box'.mk lp5
          clear lp5
          go_wp2_with fail
          go_loopw [8, 12] (fun r i wl => ∃ (k : Nat), k ≤ mn ∧ i = .int .i64 (k : Int) ∧ Box' (Lp K N w wl sb vb b (q + 3) out most 0 gf lk r (row ++ List.replicate k 0))) (fun _ i _ => mn - (intOf i).toNat)
          case atStart => exact ⟨0, by omega, rfl, ⟨by rw [List.replicate_zero, List.append_nil]; exact LP5.out⟩⟩
          case round =>
            clear LP5
            obtain ⟨k, hk, rfl, LPK⟩ := hrel
            by_cases hlt2 : k < mn
            · have hkd : decide ((k : Int) < (mn : Int)) = true := decide_eq_true (by omega)
              obtain ⟨o1, z1, y1, gr⟩ := LPK.out.app 0
              have GR := Box'.mk gr
              have hmx : (row ++ List.replicate k 0).length + [(0 : Int)].length ≤ 17592186044416 := by rw [List.length_append, HL.out, List.length_replicate, List.length_singleton]; omega
              have RSU : Box' (row ++ List.replicate k 0 ++ [0] = row ++ List.replicate (k + 1) 0) := ⟨by rw [List.replicate_succ', List.append_assoc]⟩
              clear gr LPK
              go_wp2_with (refine wpList_append_intsG rfl (.tmp 126) (.tmp 128) rfl (gf + 2) z1 _ _ rfl o1 _ _ _ [0] rfl rfl y1 hmx ?_; intro v4 w4 o4 g4; have LP4 := Box'.mk (GR.out v4 w4 o4 g4); clear GR o4 g4 o1 z1 y1 hmx)
              exact ⟨⟨k + 1, by omega, by go_num, ⟨by rw [← RSU.out]; exact LP4.out⟩⟩, by simp [intOf]; omega⟩
            · have hkd : decide ((k : Int) < (mn : Int)) = false := decide_eq_false (by omega)
              have lpx := LPK.out
              rw [show k = mn by omega] at lpx
              obtain ⟨a2, c2, rfl, hc2⟩ := lpx.ow.slice
              have LPX := Box'.mk lpx
              have HLX : Box' ((row ++ List.replicate mn (0 : Int)).length = L + mn) := ⟨by rw [List.length_append, HL.out, List.length_replicate]⟩
              clear lpx LPK hc2
              go_wp2_with fail
              exact ⟨⟨_, _, _, LPX, MDN, by rw [HLX.out]; omega⟩, by show cnt + 1 - (row ++ List.replicate mn (0 : Int)).length < cnt + 1 - L; rw [HLX.out]; omega⟩
        · have MDN : Box' (Md b lk cnt RR q 7 (row ++ List.replicate 3 0)) := ⟨md_short MD.out HLT.out hrd (fun hh => absurd hh.1 (by decide)) hs _ _⟩
          have tk := LP1.out.short 3 (by decide) hs
          clear hrd LP1 MD hlv
          go_wp2_with fail
          refine tk.mono ?_
          clear tk
          rintro e w5 ⟨rfl, lp5⟩
          have LP5 := Box'.mk lp5
          clear lp5
          go_wp2_with fail
          go_loopw [8, 12] (fun r i wl => ∃ (k : Nat), k ≤ 3 ∧ i = .int .i64 (k : Int) ∧ Box' (Lp K N w wl sb vb b q out most 7 gf lk r (row ++ List.replicate k 0))) (fun _ i _ => 3 - (intOf i).toNat)
          case atStart => exact ⟨0, by omega, rfl, ⟨by rw [List.replicate_zero, List.append_nil]; exact LP5.out⟩⟩
          case round =>
            clear LP5
            obtain ⟨k, hk, rfl, LPK⟩ := hrel
            by_cases hlt2 : k < 3
            · have hkd : decide ((k : Int) < (3 : Int)) = true := decide_eq_true (by omega)
              obtain ⟨o1, z1, y1, gr⟩ := LPK.out.app 0
              have GR := Box'.mk gr
              have hmx : (row ++ List.replicate k 0).length + [(0 : Int)].length ≤ 17592186044416 := by rw [List.length_append, HL.out, List.length_replicate, List.length_singleton]; omega
              have RSU : Box' (row ++ List.replicate k 0 ++ [0] = row ++ List.replicate (k + 1) 0) := ⟨by rw [List.replicate_succ', List.append_assoc]⟩
              clear gr LPK
              go_wp2_with (refine wpList_append_intsG rfl (.tmp 126) (.tmp 128) rfl (gf + 2) z1 _ _ rfl o1 _ _ _ [0] rfl rfl y1 hmx ?_; intro v4 w4 o4 g4; have LP4 := Box'.mk (GR.out v4 w4 o4 g4); clear GR o4 g4 o1 z1 y1 hmx)
              exact ⟨⟨k + 1, by omega, by go_num, ⟨by rw [← RSU.out]; exact LP4.out⟩⟩, by simp [intOf]; omega⟩
            · have hkd : decide ((k : Int) < (3 : Int)) = false := decide_eq_false (by omega)
              have lpx := LPK.out
              rw [show k = 3 by omega] at lpx
              obtain ⟨a2, c2, rfl, hc2⟩ := lpx.ow.slice
              have LPX := Box'.mk lpx
              have HLX : Box' ((row ++ List.replicate 3 (0 : Int)).length = L + 3) := ⟨by rw [List.length_append, HL.out, List.length_replicate]⟩
              clear lpx LPK hc2
              go_wp2_with fail
              exact ⟨⟨_, _, _, LPX, MDN, by rw [HLX.out]; omega⟩, by show cnt + 1 - (row ++ List.replicate 3 (0 : Int)).length < cnt + 1 - L; rw [HLX.out]; omega⟩
      case neg =>
      by_cases h18 : s = 18
      case pos =>
        subst h18
        have hlv := nbr_lt b q 7
        by_cases hs : q + 7 ≤ 8 * b.length
        · have MDN0 : Md b lk cnt RR (q + 7) 0 (row ++ List.replicate (11 + nbr b q 7) 0) := md_ok MD.out HLT.out hrd (fun hh => absurd hh.1 (by decide)) hs
          have tk := LP1.out.take 7 (by decide) hs
          generalize nbr b q 7 = v at *
          obtain ⟨mn, hmn⟩ : ∃ mn, mn = 11 + v := ⟨_, rfl⟩
          rw [← hmn] at MDN0
          have MDN := Box'.mk MDN0
          have hm10 : (11 : Int) + (v : Int) = (mn : Int) := by omega
          have hm1 : 1 ≤ mn := by omega
          have hm2 : mn ≤ 200 := by omega
          have hv2 : v < 200 := by omega
          clear hmn MDN0 hrd LP1 MD hlv
          go_wp2_with fail
          refine tk.mono ?_
          clear tk
          rintro e w5 ⟨rfl, lp5⟩
          have LP5 := Box'.mk lp5
          clear lp5
          go_wp2_with fail
          go_loopw [8, 12] (fun r i wl => ∃ (k : Nat), k ≤ mn ∧ i = .int .i64 (k : Int) ∧ Box' (Lp K N w wl sb vb b (q + 7) out most 0 gf lk r (row ++ List.replicate k 0))) (fun _ i _ => mn - (intOf i).toNat)
          case atStart => exact ⟨0, by omega, rfl, ⟨by rw [List.replicate_zero, List.append_nil]; exact LP5.out⟩⟩
          case round =>
            clear LP5
            obtain ⟨k, hk, rfl, LPK⟩ := hrel
            by_cases hlt2 : k < mn
            · have hkd : decide ((k : Int) < (mn : Int)) = true := decide_eq_true (by omega)
              obtain ⟨o1, z1, y1, gr⟩ := LPK.out.app 0
              have GR := Box'.mk gr
              have hmx : (row ++ List.replicate k 0).length + [(0 : Int)].length ≤ 17592186044416 := by rw [List.length_append, HL.out, List.length_replicate, List.length_singleton]; omega
              have RSU : Box' (row ++ List.replicate k 0 ++ [0] = row ++ List.replicate (k + 1) 0) := ⟨by rw [List.replicate_succ', List.append_assoc]⟩
              clear gr LPK
              go_wp2_with (refine wpList_append_intsG rfl (.tmp 126) (.tmp 128) rfl (gf + 2) z1 _ _ rfl o1 _ _ _ [0] rfl rfl y1 hmx ?_; intro v4 w4 o4 g4; have LP4 := Box'.mk (GR.out v4 w4 o4 g4); clear GR o4 g4 o1 z1 y1 hmx)
              exact ⟨⟨k + 1, by omega, by go_num, ⟨by rw [← RSU.out]; exact LP4.out⟩⟩, by simp [intOf]; omega⟩
            · have hkd : decide ((k : Int) < (mn : Int)) = false := decide_eq_false (by omega)
              have lpx := LPK.out
              rw [show k = mn by omega] at lpx
              obtain ⟨a2, c2, rfl, hc2⟩ := lpx.ow.slice
              have LPX := Box'.mk lpx
              have HLX : Box' ((row ++ List.replicate mn (0 : Int)).length = L + mn) := ⟨by rw [List.length_append, HL.out, List.length_replicate]⟩
              clear lpx LPK hc2
              go_wp2_with fail
              exact ⟨⟨_, _, _, LPX, MDN, by rw [HLX.out]; omega⟩, by show cnt + 1 - (row ++ List.replicate mn (0 : Int)).length < cnt + 1 - L; rw [HLX.out]; omega⟩
        · have MDN : Box' (Md b lk cnt RR q 7 (row ++ List.replicate 11 0)) := ⟨md_short MD.out HLT.out hrd (fun hh => absurd hh.1 (by decide)) hs _ _⟩
          have tk := LP1.out.short 7 (by decide) hs
          clear hrd LP1 MD hlv
          go_wp2_with fail
          refine tk.mono ?_
          clear tk
          rintro e w5 ⟨rfl, lp5⟩
          have LP5 := Box'.mk lp5
          clear lp5
          go_wp2_with fail
          go_loopw [8, 12] (fun r i wl => ∃ (k : Nat), k ≤ 11 ∧ i = .int .i64 (k : Int) ∧ Box' (Lp K N w wl sb vb b q out most 7 gf lk r (row ++ List.replicate k 0))) (fun _ i _ => 11 - (intOf i).toNat)
          case atStart => exact ⟨0, by omega, rfl, ⟨by rw [List.replicate_zero, List.append_nil]; exact LP5.out⟩⟩
          case round =>
            clear LP5
            obtain ⟨k, hk, rfl, LPK⟩ := hrel
            by_cases hlt2 : k < 11
            · have hkd : decide ((k : Int) < (11 : Int)) = true := decide_eq_true (by omega)
              obtain ⟨o1, z1, y1, gr⟩ := LPK.out.app 0
              have GR := Box'.mk gr
              have hmx : (row ++ List.replicate k 0).length + [(0 : Int)].length ≤ 17592186044416 := by rw [List.length_append, HL.out, List.length_replicate, List.length_singleton]; omega
              have RSU : Box' (row ++ List.replicate k 0 ++ [0] = row ++ List.replicate (k + 1) 0) := ⟨by rw [List.replicate_succ', List.append_assoc]⟩
              clear gr LPK
              go_wp2_with (refine wpList_append_intsG rfl (.tmp 126) (.tmp 128) rfl (gf + 2) z1 _ _ rfl o1 _ _ _ [0] rfl rfl y1 hmx ?_; intro v4 w4 o4 g4; have LP4 := Box'.mk (GR.out v4 w4 o4 g4); clear GR o4 g4 o1 z1 y1 hmx)
              exact ⟨⟨k + 1, by omega, by go_num, ⟨by rw [← RSU.out]; exact LP4.out⟩⟩, by simp [intOf]; omega⟩
            · have hkd : decide ((k : Int) < (11 : Int)) = false := decide_eq_false (by omega)
              have lpx := LPK.out
              rw [show k = 11 by omega] at lpx
              obtain ⟨a2, c2, rfl, hc2⟩ := lpx.ow.slice
              have LPX := Box'.mk lpx
              have HLX : Box' ((row ++ List.replicate 11 (0 : Int)).length = L + 11) := ⟨by rw [List.length_append, HL.out, List.length_replicate]⟩
              clear lpx LPK hc2
              go_wp2_with fail
              exact ⟨⟨_, _, _, LPX, MDN, by rw [HLX.out]; omega⟩, by show cnt + 1 - (row ++ List.replicate 11 (0 : Int)).length < cnt + 1 - L; rw [HLX.out]; omega⟩
      case neg =>
      have MDN : Box' (Md b lk cnt RR q 0 (row ++ List.replicate 1 (s : Int))) := ⟨by
        have hmf : moreF s = (0, 1) := by unfold moreF; rw [if_neg h16, if_neg h17, if_neg h18]
        have hwf : whatF s row = (s : Int) := by unfold whatF; rw [if_neg h16, if_neg h17, if_neg h18]
        have hn0 : nbr b q 0 = 0 := by have := nbr_lt b q 0; omega
        have hql := LP1.out.st.pl
        have := md_ok MD.out HLT.out hrd (fun hh => h16 hh.1) (by rw [hmf]; exact hql)
        rw [hmf, hwf] at this
        simp only [hn0] at this
        exact this⟩
      have LP5 := LP1
      have e16 : ((s : Int) == 16) = false := by rw [beq_eq_false_iff_ne]; omega
      have e17 : ((s : Int) == 17) = false := by rw [beq_eq_false_iff_ne]; omega
      have e18 : ((s : Int) == 18) = false := by rw [beq_eq_false_iff_ne]; omega
      clear LP1 hrd MD h16 h17 h18
      go_wp2_with fail
      go_loopw [8, 12] (fun r i wl => ∃ (k : Nat), k ≤ 1 ∧ i = .int .i64 (k : Int) ∧ Box' (Lp K N w wl sb vb b q out most 0 gf lk r (row ++ List.replicate k (s : Int)))) (fun _ i _ => 1 - (intOf i).toNat)
      case atStart => exact ⟨0, by omega, rfl, ⟨by rw [List.replicate_zero, List.append_nil]; exact LP5.out⟩⟩
      case round =>
        clear LP5
        obtain ⟨k, hk, rfl, LPK⟩ := hrel
        by_cases hlt2 : k < 1
        · have hkd : decide ((k : Int) < (1 : Int)) = true := decide_eq_true (by omega)
          obtain ⟨o1, z1, y1, gr⟩ := LPK.out.app (s : Int)
          have GR := Box'.mk gr
          have hmx : (row ++ List.replicate k (s : Int)).length + [((s : Int) : Int)].length ≤ 17592186044416 := by rw [List.length_append, HL.out, List.length_replicate, List.length_singleton]; omega
          have RSU : Box' (row ++ List.replicate k (s : Int) ++ [(s : Int)] = row ++ List.replicate (k + 1) (s : Int)) := ⟨by rw [List.replicate_succ', List.append_assoc]⟩
          clear gr LPK
          go_wp2_with (refine wpList_append_intsG rfl (.tmp 126) (.tmp 128) rfl (gf + 2) z1 _ _ rfl o1 _ _ _ [(s : Int)] rfl rfl y1 hmx ?_; intro v4 w4 o4 g4; have LP4 := Box'.mk (GR.out v4 w4 o4 g4); clear GR o4 g4 o1 z1 y1 hmx)
          exact ⟨⟨k + 1, by omega, by go_num, ⟨by rw [← RSU.out]; exact LP4.out⟩⟩, by simp [intOf]; omega⟩
        · have hkd : decide ((k : Int) < (1 : Int)) = false := decide_eq_false (by omega)
          have lpx := LPK.out
          rw [show k = 1 by omega] at lpx
          obtain ⟨a2, c2, rfl, hc2⟩ := lpx.ow.slice
          have LPX := Box'.mk lpx
          have HLX : Box' ((row ++ List.replicate 1 ((s : Int) : Int)).length = L + 1) := ⟨by rw [List.length_append, HL.out, List.length_replicate]⟩
          clear lpx LPK hc2
          go_wp2_with fail
          exact ⟨⟨_, _, _, LPX, MDN, by rw [HLX.out]; omega⟩, by show cnt + 1 - (row ++ List.replicate 1 ((s : Int) : Int)).length < cnt + 1 - L; rw [HLX.out]; omega⟩
end Go.Proofs.Ytcjfaahlchbcmaa
