/- The walks of the reference's form and WriteEvents. -/
import Derived.Test.YtpgljhgfoihnjaaY
import Derived.Test.YtpgljhgfoihnjaaO
import Derived.Test.YtpgljhgfoihnjaaOz
import Derived.Test.YtpgljhgfoihnjaaU
import Derived.Test.YtpgljhgfoihnjaaE
import Derived.Test.YtpgljhgfoihnjaaFa
import Derived.Test.YtpgljhgfoihnjaaH
import Derived.Test.YtpgljhgfoihnjaaN
import Derived.Test.YtpgljhgfoihnjaaR
import Derived.Test.YtpgljhgfoihnjaaS
import Derived.Test.YtpgljhgfoihnjaaT
namespace Go.Proofs.Ytpgljhgfoihnjaa
open Go.RowKit Go.BigFrame
set_option maxRecDepth 100000
set_option linter.unusedSimpArgs false

set_option maxRecDepth 100000 in
set_option maxHeartbeats 4000000 in
theorem form_any (N : Nat) (w : World) (vb : Value) (x : Ev) (hx : x.may = true) (hN : N ≤ w.heap.size) (hi : InE N w vb x.byt) :
    Calls Try.prog 39 #[x.val vb] w fun e w' => ∃ v', e = .returned v' ∧ OwnB w.heap.size w' v' (evF x) ∧ Below w.heap.size w w' := by
  obtain ⟨k, l, c, r, a⟩ := x
  unfold Ev.val
  simp only at hi ⊢
  obtain ⟨w0, hw0⟩ : ∃ w0, w0 = (w.alloc (.cells #[.int .u8 (k.toNat : Int), vb, .int .i64 c, .int .i64 r, .int .u8 (a.toNat : Int)] 48)).alloc (.cells #[.int .u8 (k.toNat : Int)] 5) := ⟨_, rfl⟩
  have r0 : Row w0 w.heap.size 48 #[.int .u8 (k.toNat : Int), vb, .int .i64 c, .int .i64 r, .int .u8 (a.toNat : Int)] := by rw [hw0]; exact (Row.new _ _ _).alloc _
  have b0 : Below w.heap.size w w0 := by rw [hw0]; exact ((Below.refl _ _).alloc (Nat.le_refl _) _).alloc (by simp) _
  have rk : Row w0 (w.heap.size + 1) 5 (ag [k]) := by rw [hw0]; exact Row.made _ 5 _ _ _ rfl (by simp)
  have o0 : OwnB (w.heap.size + 1) w0 (.slice (some ⟨w.heap.size + 1, 0, none⟩) 1 1) [k] := rk.ownB rfl (Nat.le_refl _) (by decide)
  have i0 := hi.below b0 hN
  have z0 : w.heap.size + 1 < w0.heap.size := rk.lt
  have HF : Box' (evF ⟨k, l, c, r, a⟩ = k :: (if k.toNat = 2 then uf c.toNat ++ uf r.toNat else if k.toNat = 4 then [a] else tx l)) := ⟨rfl⟩
  have HM : Box' (mayN k.toNat l.length c r a.toNat = true) := ⟨hx⟩
  have HT : Box' (k.toNat ≠ 2 → k.toNat ≠ 4 → l.length ≤ 65536) := ⟨fun h1 h2 => by
    have := HM.out
    unfold mayN at this
    by_cases q1 : k.toNat = 1
    · rw [if_pos q1, decide_eq_true_eq] at this; omega
    · rw [if_neg q1, if_neg h1] at this
      by_cases q3 : k.toNat = 3
      · rw [if_pos q3, decide_eq_true_eq] at this; omega
      · rw [if_neg q3, if_neg h2] at this
        cases this⟩
  generalize evF ⟨k, l, c, r, a⟩ = F at *
  have R0 := Box'.mk r0
  have O0 := Box'.mk o0
  have I0 := Box'.mk i0
  have B0 := Box'.mk b0
  have Z0 := Box'.mk z0
  have kc : w0.cell? ⟨w.heap.size, 0, none⟩ = some (.int .u8 (k.toNat : Int)) := by rw [r0.cell]; rfl
  have k1 : w0.cell? ⟨w.heap.size, 1, none⟩ = some vb := by rw [r0.cell]; rfl
  have k4 : w0.cell? ⟨w.heap.size, 4, none⟩ = some (.int .u8 (a.toNat : Int)) := by rw [r0.cell]; rfl
  obtain ⟨a1, c1, rfl, _⟩ := hi.slice
  clear hi hx b0 r0 rk o0 i0 z0
  by_cases h2 : k.toNat = 2
  · have hm := HM.out
    rw [mayN, if_neg (by omega), if_pos h2, decide_eq_true_eq] at hm
    obtain ⟨-, -, hc1, hc2, hr1, hr2⟩ := hm
    obtain ⟨cn, rfl⟩ : ∃ cn : Nat, c = (cn : Int) := ⟨c.toNat, by omega⟩
    obtain ⟨rn, rfl⟩ : ∃ rn : Nat, r = (rn : Int) := ⟨r.toNat, by omega⟩
    have HE : Box' (F = [k] ++ uf cn ++ uf rn) := ⟨by rw [HF.out, if_pos h2, Int.toNat_natCast, Int.toNat_natCast]; simp⟩
    have hkq : ((k.toNat : Int) == 2) = true := by rw [beq_iff_eq]; omega
    have UI := Box'.mk refUint_any
    have L1 := Box'.mk (uf_len64 (n := cn) (by omega))
    have L2 := Box'.mk (uf_len64 (n := rn) (by omega))
    have U1 := Box'.mk (uf_pos cn)
    clear HF HM HT h2 k1 k4
    generalize l.length = ln at *
    rw [hw0] at kc
    go_enter Try.func39, Try.ntmps39
    go_wp2_with fail
    rw [← hw0]
    clear hw0 kc
    refine wp_region_once 10 5 (by kernel_rfl) (by kernel_rfl) _ rfl (fun wa wb => Below wa.heap.size wa wb) (fun wa wb => Fr (w.heap.size + 1) wa wb ∧ Hi w0.heap.size wa wb) (fun wa => Fr (w.heap.size + 1) w0 wa) (fun wa => OwnB (w.heap.size + 1) wa (.slice (some ⟨w.heap.size + 1, 0, none⟩) 1 1) [k]) (fun kc wa v => match kc with
      | 0 => v = .slice (some ⟨w.heap.size + 1, 0, none⟩) 1 1
      | 1 => v = .pointer (some ⟨w.heap.size, 2, none⟩)
      | 2 => v = .int .i64 (cn : Int)
      | 3 => v = .int .u64 (cn : Int)
      | 4 => OwnB w0.heap.size wa v (uf cn)
      | 5 => OwnB (w.heap.size + 1) wa v ([k] ++ uf cn)
      | 6 => v = .pointer (some ⟨w.heap.size, 3, none⟩)
      | 7 => v = .int .i64 (rn : Int)
      | 8 => v = .int .u64 (rn : Int)
      | 9 => OwnB w0.heap.size wa v (uf rn)
      | _ => True) ?_ ?_ ?_ ?_ ?_ ?_ ?_ ?_ ?_ ?_
    · intro wa wb h1 h2; exact h2.trans (Fr.of h1)
    · intro wa wb h1 h2 h3; exact h3.below h2
    · intro kc v wa wb h1 h2 h3
      match kc, h3 with
      | 0, h3 => exact h3
      | 1, h3 => exact h3
      | 2, h3 => exact h3
      | 3, h3 => exact h3
      | 4, h3 => exact OwnB.below h3 h2
      | 5, h3 => exact OwnB.below h3 h2
      | 6, h3 => exact h3
      | 7, h3 => exact h3
      | 8, h3 => exact h3
      | 9, h3 => exact OwnB.below h3 h2
      | kc + 10, _ => trivial
    · intro wa wb h1 h2 _; exact h2.trans h1.1
    · intro kc v wa wb hne h1 h2 h3 h4
      match kc, hne, h4 with
      | 0, _, h4 => exact h4
      | 1, _, h4 => exact h4
      | 2, _, h4 => exact h4
      | 3, _, h4 => exact h4
      | 4, _, h4 => exact OwnB.hi h4 h3.2
      | 5, hne, _ => exact absurd rfl hne
      | 6, _, h4 => exact h4
      | 7, _, h4 => exact h4
      | 8, _, h4 => exact h4
      | 9, _, h4 => exact OwnB.hi h4 h3.2
      | kc + 10, _, _ => trivial
    · exact (Fr.refl _ _).drewN 1
    · exact O0.out.drewN 1
    · refine ⟨?_, ?_, ?_, ?_, ?_, ?_, ?_, ?_, ?_, ?_, trivial⟩
      · intro hj f wq hC hd KK hK
        simp only [List.take_succ_cons, List.take_zero, setAll, List.setIfInBounds_toArray, List.set_cons_succ, List.set_cons_zero, Nat.zero_add, Nat.reduceAdd] at hK ⊢
        refine wp_of_quiet rfl ?_
        go_big_quiet_step (fail)
        exact wpQuiet_nil (hK _ _ rfl (Below.refl _ _))
      · intro hj f wq hC hd KK hK
        simp only [List.take_succ_cons, List.take_zero, setAll, List.setIfInBounds_toArray, List.set_cons_succ, List.set_cons_zero, Nat.zero_add, Nat.reduceAdd] at hK ⊢
        refine wp_of_quiet rfl ?_
        go_big_quiet_step (fail)
        exact wpQuiet_nil (hK _ _ rfl (Below.refl _ _))
      · intro hj f wq hC hd KK hK
        have g1 : f 1 = .pointer (some ⟨w.heap.size, 2, none⟩) := hd 1 rfl
        have cx : wq.cell? ⟨w.heap.size, 2, none⟩ = some (.int .i64 (cn : Int)) := by rw [(hC.row R0.out (by decide)).cell]; rfl
        simp only [List.take_succ_cons, List.take_zero, setAll, List.setIfInBounds_toArray, List.set_cons_succ, List.set_cons_zero, Nat.zero_add, Nat.reduceAdd, g1] at hK ⊢
        refine wp_of_quiet rfl ?_
        go_big_quiet_step (fail)
        exact wpQuiet_nil (hK _ _ rfl (Below.refl _ _))
      · intro hj f wq hC hd KK hK
        have g2 : f 2 = .int .i64 (cn : Int) := hd 2 rfl
        simp only [List.take_succ_cons, List.take_zero, setAll, List.setIfInBounds_toArray, List.set_cons_succ, List.set_cons_zero, Nat.zero_add, Nat.reduceAdd, g2] at hK ⊢
        refine wp_of_quiet rfl ?_
        go_big_quiet_step (fail)
        exact wpQuiet_nil (hK _ _ rfl (Below.refl _ _))
      · intro hj f wq hC hd KK hK
        have g3 : f 3 = .int .u64 (cn : Int) := hd 3 rfl
        simp only [List.take_succ_cons, List.take_zero, setAll, List.setIfInBounds_toArray, List.set_cons_succ, List.set_cons_zero, Nat.zero_add, Nat.reduceAdd, g3] at hK ⊢
        exact wp_callE 38 #[.int .u64 (cn : Int)] (by simp [go_sem]) _ (UI.out cn (by omega) wq) (fun v w' hR => hK _ _ (hR.1.less hC.size) hR.2)
      · intro hj; exact absurd rfl hj
      · intro hj f wq hC hd KK hK
        simp only [List.take_succ_cons, List.take_zero, setAll, List.setIfInBounds_toArray, List.set_cons_succ, List.set_cons_zero, Nat.zero_add, Nat.reduceAdd] at hK ⊢
        refine wp_of_quiet rfl ?_
        go_big_quiet_step (fail)
        exact wpQuiet_nil (hK _ _ rfl (Below.refl _ _))
      · intro hj f wq hC hd KK hK
        have g6 : f 6 = .pointer (some ⟨w.heap.size, 3, none⟩) := hd 6 rfl
        have cx : wq.cell? ⟨w.heap.size, 3, none⟩ = some (.int .i64 (rn : Int)) := by rw [(hC.row R0.out (by decide)).cell]; rfl
        simp only [List.take_succ_cons, List.take_zero, setAll, List.setIfInBounds_toArray, List.set_cons_succ, List.set_cons_zero, Nat.zero_add, Nat.reduceAdd, g6] at hK ⊢
        refine wp_of_quiet rfl ?_
        go_big_quiet_step (fail)
        exact wpQuiet_nil (hK _ _ rfl (Below.refl _ _))
      · intro hj f wq hC hd KK hK
        have g7 : f 7 = .int .i64 (rn : Int) := hd 7 rfl
        simp only [List.take_succ_cons, List.take_zero, setAll, List.setIfInBounds_toArray, List.set_cons_succ, List.set_cons_zero, Nat.zero_add, Nat.reduceAdd, g7] at hK ⊢
        refine wp_of_quiet rfl ?_
        go_big_quiet_step (fail)
        exact wpQuiet_nil (hK _ _ rfl (Below.refl _ _))
      · intro hj f wq hC hd KK hK
        have g8 : f 8 = .int .u64 (rn : Int) := hd 8 rfl
        simp only [List.take_succ_cons, List.take_zero, setAll, List.setIfInBounds_toArray, List.set_cons_succ, List.set_cons_zero, Nat.zero_add, Nat.reduceAdd, g8] at hK ⊢
        exact wp_callE 38 #[.int .u64 (rn : Int)] (by simp [go_sem]) _ (UI.out rn (by omega) wq) (fun v w' hR => hK _ _ (hR.1.less hC.size) hR.2)
    · intro f wq hC hA hd KK hK
      have g0 : f 0 = .slice (some ⟨w.heap.size + 1, 0, none⟩) 1 1 := hd 0 rfl
      have g4 : OwnB w0.heap.size wq (f 4) (uf cn) := hd 4 rfl
      simp only [List.take_succ_cons, List.take_zero, setAll, List.setIfInBounds_toArray, List.set_cons_succ, List.set_cons_zero, Nat.zero_add, Nat.reduceAdd, g0] at hK ⊢
      generalize f 4 = v4 at *
      have hq : w.heap.size + 1 ≤ wq.heap.size := Nat.le_trans (Nat.le_of_lt Z0.out) hC.size
      refine wp_app (.tmp 11) (.tmp 15) rfl (w.heap.size + 1) wq.heap.size hq _ [k] rfl hA _ (uf cn) rfl g4.inB U1.out (by have := L1.out; simp; omega) (fun v' w' q1 q2 q3 => hK _ _ q1 ⟨q2, O0.out.hiOf (Nat.le_refl _) q3⟩)
    · intro f wq hC hv
      have p0 : f 0 = .slice (some ⟨w.heap.size + 1, 0, none⟩) 1 1 := hv 0 (by decide)
      have p1 : f 1 = .pointer (some ⟨w.heap.size, 2, none⟩) := hv 1 (by decide)
      have p2 : f 2 = .int .i64 (cn : Int) := hv 2 (by decide)
      have p3 : f 3 = .int .u64 (cn : Int) := hv 3 (by decide)
      have p5 : OwnB (w.heap.size + 1) wq (f 5) ([k] ++ uf cn) := hv 5 (by decide)
      have p6 : f 6 = .pointer (some ⟨w.heap.size, 3, none⟩) := hv 6 (by decide)
      have p7 : f 7 = .int .i64 (rn : Int) := hv 7 (by decide)
      have p8 : f 8 = .int .u64 (rn : Int) := hv 8 (by decide)
      have p9 : OwnB w0.heap.size wq (f 9) (uf rn) := hv 9 (by decide)
      simp only [List.take_succ_cons, List.take_zero, List.drop_succ_cons, List.drop_zero, setAll, List.setIfInBounds_toArray, List.set_cons_succ, List.set_cons_zero, Nat.zero_add, Nat.reduceAdd, p0, p1, p2, p3, p6, p7, p8]
      generalize f 4 = v4 at *
      generalize f 5 = v5 at *
      generalize f 9 = v9 at *
      clear hv p0 p1 p2 p3 p6 p7 p8
      have hq : w.heap.size + 1 ≤ wq.heap.size := Nat.le_trans (Nat.le_of_lt Z0.out) hC.size
      have FQ := Box'.mk hC
      have HL : Box' (([k] ++ uf cn).length + (uf rn).length ≤ 140737488355328) := ⟨by have := L1.out; have := L2.out; simp; omega⟩
      go_wp2_with (refine wpList_app rfl (.tmp 16) (.tmp 20) rfl (w.heap.size + 1) wq.heap.size hq _ ([k] ++ uf cn) rfl p5 _ (uf rn) rfl p9.inB HL.out ?_; intro v8 w8 o8 f8; have O8 := Box'.mk o8; have F8 := Box'.mk (FQ.out.trans f8); clear p5 p9 hC o8 f8 hq HL FQ)
      have BF : Below w.heap.size w w8 := B0.out.trans ((F8.out.below (Nat.le_of_lt Z0.out)).mono (Nat.le_succ _))
      have OF : OwnB w.heap.size w8 v8 F := by rw [HE.out]; exact O8.out.less (Nat.le_succ _)
      go_ret
      exact ⟨_, rfl, OF, BF⟩
  · have hq2 : ((k.toNat : Int) == 2) = false := by rw [beq_eq_false_iff_ne]; omega
    have HZ : Box' (w.heap.size + 1 ≤ w0.heap.size) := ⟨Nat.le_of_lt Z0.out⟩
    by_cases h4 : k.toNat = 4
    · have HE : Box' (F = [k] ++ [a]) := ⟨by rw [HF.out, if_neg h2, if_pos h4]; rfl⟩
      have hkq : ((k.toNat : Int) == 4) = true := by rw [beq_iff_eq]; omega
      have HL : Box' ([k].length + [a].length ≤ 140737488355328) := ⟨by simp⟩
      have oA := O0.out.alloc (.cells #[.int .u8 (a.toNat : Int)] 5)
      have iA := one_in w0 a
      have hzA : w.heap.size + 1 ≤ (w0.alloc (.cells #[.int .u8 (a.toNat : Int)] 5)).heap.size := Nat.le_trans HZ.out (by simp)
      have RES : Box' (∀ w2, Fr (w.heap.size + 1) (w0.alloc (.cells #[.int .u8 (a.toNat : Int)] 5)) w2 → Below w.heap.size w w2) := ⟨fun w2 f2 => B0.out.trans ((((Fr.refl (w.heap.size + 1) w0).alloc _).trans f2).below HZ.out |>.mono (Nat.le_succ _))⟩
      clear HF HM HT h2 h4 R0 O0 I0 B0 k1
      generalize l.length = ln at *
      have hsz : w0.heap.size = w.heap.size + 2 := by rw [hw0]; simp
      rw [hsz] at iA
      rw [hw0] at kc k4 oA iA hzA RES
      clear hsz
      go_enter Try.func39, Try.ntmps39
      go_wp2_with (refine wpList_app rfl (.tmp 24) (.tmp 27) rfl (w.heap.size + 1) _ hzA _ [k] rfl oA _ [a] rfl iA HL.out ?_; intro v2 w2 o2 f2; have BF := Box'.mk (RES.out w2 f2); have OF : Box' (OwnB w.heap.size w2 v2 F) := ⟨by rw [HE.out]; exact o2.less (Nat.le_succ _)⟩; clear oA iA hzA o2 f2 RES)
      go_ret
      exact ⟨_, rfl, OF.out, BF.out⟩
    · have HE : Box' (F = [k] ++ tx l) := ⟨by rw [HF.out, if_neg h2, if_neg h4]; rfl⟩
      have hq4 : ((k.toNat : Int) == 4) = false := by rw [beq_eq_false_iff_ne]; omega
      have hlt := HT.out h2 h4
      have tt := text_any N w0 _ l (Nat.le_trans hN B0.out.size) I0.out hlt
      have HL : Box' ([k].length + (tx l).length ≤ 140737488355328) := ⟨by have := tx_len hlt; simp; omega⟩
      clear HF HM HT h2 h4 R0 I0 k4 hlt
      generalize hln : l.length = ln at *
      clear hln
      rw [hw0] at kc k1 tt
      go_enter Try.func39, Try.ntmps39
      go_wp2_with fail
      refine tt.mono ?_
      rw [← hw0]
      rintro e w2 ⟨v2, rfl, o2, b2⟩
      have oA := O0.out.below b2
      have hzA : w.heap.size + 1 ≤ w2.heap.size := Nat.le_trans HZ.out b2.size
      have BA := Box'.mk (B0.out.trans (b2.mono B0.out.size))
      clear tt b2 hw0 kc k1
      go_wp2_with (refine wpList_app rfl (.tmp 29) (.tmp 32) rfl (w.heap.size + 1) w2.heap.size hzA _ [k] rfl oA _ (tx l) rfl o2.inB HL.out ?_; intro v3 w3 o3 f3; have BF := Box'.mk (BA.out.trans ((f3.below hzA).mono (Nat.le_succ _))); have OF : Box' (OwnB w.heap.size w3 v3 F) := ⟨by rw [HE.out]; exact o3.less (Nat.le_succ _)⟩; clear oA hzA o2 o3 f3 BA)
      go_ret
      exact ⟨_, rfl, OF.out, BF.out⟩

set_option maxRecDepth 100000 in
set_option maxHeartbeats 4000000 in
theorem refWriteEvents_any (w : World) (v : Value) (l : List Ev) (hl : l.length ≤ 1048576) (h : Evs w.heap.size w v l) :
    Calls Try.prog 24 #[v] w fun e w' => ∃ u, e = .returned (.tuple #[u, .int .i64 (wevF l).2]) ∧ OwnB w.heap.size w' u (wevF l).1 ∧ Below w.heap.size w w' := by
  have ui := refUint_any l.length (by omega) w
  obtain ⟨a, c, rfl, hc, h3⟩ := h
  have H3 := Box'.mk h3
  have P0 : Box' (preE l 0 = uf l.length) := ⟨by simp [preE]⟩
  have PS := Box'.mk (preE_step l)
  have BA := Box'.mk (fun k => badE_at (l := l) (k := k))
  have BN := Box'.mk (badE_none (l := l))
  have PL : Box' (∀ k, k ≤ l.length → (∀ j, j < k → (l.getD j Ev.none).may = true) → (preE l k).length ≤ 10 + k * 4107) := ⟨fun k hk hm => by
    induction k with
    | zero =>
      have := uf_len64 (n := l.length) (by omega)
      simp [preE]; omega
    | succ k ih =>
      rw [preE_step l k hk, List.length_append]
      have h1 := ih (by omega) (fun j hj => hm j (by omega))
      have h2 := (evF_len (hm k (by omega))).1
      omega⟩
  have HW := Box'.mk (wevF.eq_1 l)
  generalize wevF l = R at *
  rw [← P0.out] at ui
  clear h3 P0
  generalize hn : l.length = n at *
  clear hn
  go_enter Try.func24, Try.ntmps24
  go_wp2_with fail
  refine ui.mono ?_
  rintro e w1 ⟨v1, rfl, o1, b1⟩
  have O1 := Box'.mk o1
  have B1 := Box'.mk b1
  clear ui o1 b1
  go_wp2_with fail
  go_loopw [4, 5] (fun u i wr => ∃ k : Nat, i = .int .i64 (k : Int) ∧ k ≤ n ∧ Box' (∀ j, j < k → (l.getD j Ev.none).may = true) ∧ Box' (OwnB w.heap.size wr u (preE l k)) ∧ Box' (Below w.heap.size w wr)) (fun _ i _ => n - (intOf i).toNat)
  case atStart => exact ⟨0, rfl, Nat.zero_le _, ⟨fun j hj => by omega⟩, O1, B1⟩
  case round =>
    clear O1 B1
    obtain ⟨k, rfl, hk, HJ, OO, BB⟩ := hrel
    obtain ⟨ao, co, rfl⟩ := OO.out.slice
    by_cases hlt : k < n
    · obtain ⟨b, o, rfl, hbN, vb, q1, q2, q3, q4, q5, q6⟩ := H3.out k hlt
      have hbb := BB.out
      have CE : Box' (∀ w2, Below w.heap.size w w2 → ∀ q, w2.cell? ⟨b, q, Option.none⟩ = w.cell? ⟨b, q, Option.none⟩) := ⟨fun w2 hb q => hb.cell (p := ⟨b, q, Option.none⟩) hbN⟩
      obtain ⟨a1, c1, rfl, _⟩ := q6.slice
      have MY : Box' (∀ w2, Calls Try.prog 32 #[(l.getD k Ev.none).val (.slice a1 (l.getD k Ev.none).byt.length c1)] w2 fun e w' => e = .returned (.bool (l.getD k Ev.none).may) ∧ Below w2.heap.size w2 w') := ⟨fun w2 => refMay_nat _ _ _ _ _ _ _ w2⟩
      have FM : Box' ((l.getD k Ev.none).may = true → ∀ w2, Below w.heap.size w w2 → Calls Try.prog 39 #[(l.getD k Ev.none).val (.slice a1 (l.getD k Ev.none).byt.length c1)] w2 fun e w' => ∃ v', e = .returned v' ∧ OwnB w2.heap.size w' v' (evF (l.getD k Ev.none)) ∧ Below w2.heap.size w2 w') := ⟨fun hm w2 hb => form_any w.heap.size w2 _ _ hm hb.size (q6.below hb (Nat.le_refl _))⟩
      have ba := Box'.mk (BA.out k hlt)
      have ps := Box'.mk (PS.out k hlt)
      have pl := Box'.mk (PL.out (k + 1) hlt)
      have HJ2 : Box' ((l.getD k Ev.none).may = true → ∀ j, j < k + 1 → (l.getD j Ev.none).may = true) := ⟨fun h j hj => by
        rcases Nat.lt_succ_iff_lt_or_eq.1 hj with h1 | rfl
        · exact HJ.out j h1
        · exact h⟩
      have LF : Box' ((l.getD k Ev.none).may = true → (preE l k).length + (evF (l.getD k Ev.none)).length ≤ 140737488355328) := ⟨fun hm => by
        have := pl.out (HJ2.out hm)
        rw [ps.out, List.length_append] at this
        omega⟩
      clear BA BN PL PS H3 HJ q6 hbb
      unfold Ev.val at MY FM
      generalize l.getD k Ev.none = x at *
      generalize x.may = mm at *
      generalize hEF : evF x = EF at *
      clear hEF
      obtain ⟨xk, xl, xc, xr, xa⟩ := x
      simp only at MY FM q1 q2 q3 q4 q5
      have cw := CE.out wr BB.out
      have n1 := q1
      have n2 := q2
      have n3 := q3
      have n4 := q4
      have n5 := q5
      rw [← cw] at n1 n2 n3 n4 n5
      have my := MY.out wr
      clear MY cw
      generalize xl.length = xn at *
      generalize hol : (preE l k).length = ol at OO ⊢
      clear hol
      go_wp2_with fail
      refine my.mono ?_
      rintro e w2 ⟨rfl, b2⟩
      have B2 := Box'.mk (BB.out.trans (b2.mono BB.out.size))
      have O2 := Box'.mk (OO.out.below b2)
      clear my b2 n1 n2 n3 n4 n5
      cases mm with
      | false =>
        have hb := ba.out rfl
        have RE : Box' (R = ([], 2)) := ⟨by rw [HW.out, if_pos hb]⟩
        clear hb ba HJ2 LF FM pl CE HW
        go_wp2_with fail
        go_ret2
        exact ⟨_, by rw [RE.out]; rfl, by rw [RE.out]; exact OwnB.nil _ _, B2.out⟩
      | true =>
        have cw := CE.out w2 B2.out
        rw [← cw] at q1 q2 q3 q4 q5
        have fm := FM.out rfl w2 B2.out
        have hj := HJ2.out rfl
        have hlf := Box'.mk (LF.out rfl)
        clear FM CE cw ba HJ2 LF pl
        go_wp2_with fail
        refine fm.mono ?_
        rintro e w3 ⟨v3, rfl, o3, b3⟩
        have oA := O2.out.below b3
        have B3 := Box'.mk (B2.out.trans (b3.mono B2.out.size))
        have hz3 := B3.out.size
        clear fm b3 q1 q2 q3 q4 q5 O2
        go_wp2_with (refine wpList_app rfl (.tmp 22) (.tmp 27) rfl w.heap.size w3.heap.size hz3 _ (preE l k) rfl oA _ EF rfl o3.inB hlf.out ?_; intro v4 w4 o4 f4; rw [← ps.out] at o4; have O4 := Box'.mk o4; have B4 := Box'.mk (B3.out.trans (f4.below hz3)); clear oA o3 o4 f4 hz3)
        exact ⟨⟨k + 1, by go_num, by omega, ⟨hj⟩, O4, B4⟩, by simp [intOf]; omega⟩
    · obtain rfl : k = n := by omega
      have hb := BN.out HJ.out
      have RE : Box' (R = if 4096 < k ∨ 65536 < (preE l k).length then ([], 4) else (preE l k, 0)) := ⟨by rw [HW.out, if_neg (by rw [hb]; decide)]⟩
      clear BA BN PL PS H3 HJ HW hb
      generalize preE l k = D at *
      generalize hol : D.length = ol at *
      by_cases hbig : 4096 < k ∨ 65536 < ol
      · have RE2 : Box' (R = ([], 4)) := ⟨by rw [RE.out, if_pos hbig]⟩
        clear RE
        by_cases h1 : 4096 < k
        · clear hbig
          go_wp2_with fail
          go_ret2
          exact ⟨_, by rw [RE2.out]; rfl, by rw [RE2.out]; exact OwnB.nil _ _, BB.out⟩
        · have h2 : 65536 < ol := by omega
          clear hbig
          go_wp2_with fail
          go_ret2
          exact ⟨_, by rw [RE2.out]; rfl, by rw [RE2.out]; exact OwnB.nil _ _, BB.out⟩
      · have RE2 : Box' (R = (D, 0)) := ⟨by rw [RE.out, if_neg hbig]⟩
        have h1 : k ≤ 4096 := by omega
        have h2 : ol ≤ 65536 := by omega
        clear RE hbig hol
        go_wp2_with fail
        go_ret2
        exact ⟨_, by rw [RE2.out]; rfl, by rw [RE2.out]; exact OO.out, BB.out⟩
end Go.Proofs.Ytpgljhgfoihnjaa
