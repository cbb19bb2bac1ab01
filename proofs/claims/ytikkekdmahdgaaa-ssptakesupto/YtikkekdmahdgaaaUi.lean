/- The program's Take does what the reference's does. -/
import Derived.Test.YtikkekdmahdgaaaUh
import Derived.Test.YtikkekdmahdgaaaSd
namespace Go.Proofs.Ytikkekdmahdgaaa
open Go.RowKit Go.BigFrame
set_option linter.unusedSimpArgs false
set_option linter.unusedVariables false
set_option maxRecDepth 100000
set_option maxHeartbeats 4000000

theorem hasN_lt {m : Nat} {l : List Rw} (h : hasN m l = true) : lwN m l < l.length := (of_decide_eq_true h).1
theorem take_err {l : List Rw} (h : Rise l) (x : Ins) (hn : hasN x.n.toNat l = false) (he : (madeF l x).2 ≠ 0) : takeF l x = (l, false, (madeF l x).2) ∧ (madeF l x).1 = n90 := by
  unfold madeF at he ⊢
  split
  · rename_i q
    exact ⟨takeF_far h x hn q, rfl⟩
  · rename_i q
    rw [if_neg q] at he
    have h1 : hasN x.o.toNat l = true := by cases e : hasN x.o.toNat l with | true => rfl | false => exact absurd (.inl e) q
    split
    · rename_i r
      exact ⟨takeF_full h x hn h1 (fun e => q (.inr e)) r, rfl⟩
    · rename_i r
      rw [if_neg r] at he
      exact absurd rfl he
theorem take_yes {l : List Rw} (h : Rise l) (x : Ins) (hn : hasN x.n.toNat l = false) (he : (madeF l x).2 = 0) :
    ∃ y : Rw, (madeF l x).1 = #[uV y.n, sT y.t] ∧ y.n = x.n ∧ takeF l x = ((putN l y).drop (min (lwN x.thr.toNat (putN l y)) (l.length + 1 - 1)), decide (lwN y.n.toNat l = l.length), 0) := by
  unfold madeF at he ⊢
  split
  · rename_i q
    rw [if_pos q] at he
    cases he
  · rename_i q
    rw [if_neg q] at he
    have h1 : hasN x.o.toNat l = true := by cases e : hasN x.o.toNat l with | true => rfl | false => exact absurd (.inl e) q
    split
    · rename_i r
      rw [if_pos r] at he
      cases he
    · rename_i r
      exact ⟨⟨x.n, (l.getD (lwN x.o.toNat l) Rw.zero).t ++ x.dif, 0⟩, rfl, rfl, takeF_new h x hn h1 (fun e => q (.inr e)) r⟩
theorem putN_last {l : List Rw} (h : Rise l) (y : Rw) (hn : hasN y.n.toNat l = false) (h0 : 0 < l.length) : decide (((putN l y).getD l.length Rw.zero).n.toNat = y.n.toNat) = decide (lwN y.n.toNat l = l.length) := by
  have hle := lwN_le y.n.toNat l
  rw [putN_get, if_neg (by omega)]
  split
  · rename_i e
    rw [decide_eq_true rfl, decide_eq_true e.symm]
  · rename_i e
    rw [decide_eq_false (show ¬ lwN y.n.toNat l = l.length by omega), decide_eq_false]
    intro q
    have h1 := h.ge y.n.toNat (lwN y.n.toNat l) (Nat.le_refl _) (by omega)
    unfold hasN at hn
    rw [decide_eq_false_iff_not] at hn
    rcases Nat.lt_or_eq_of_le (show lwN y.n.toNat l ≤ l.length - 1 by omega) with r | r
    · have := h _ _ r (by omega)
      omega
    · exact hn ⟨by omega, by rw [r]; exact q⟩
theorem rec_end {w w' : World} {p g g' c' : Nat} {l' : List Rw} (hpg : p < w.heap.size) (hr : Row w' p 93 #[.slice (some ⟨g', 0, none⟩) l'.length c']) (hc : l'.length ≤ c') (hg : w.heap.size ≤ g') (hN : NbR w' g' l') (hR : Rise l') (h0 : 0 < l'.length) (hm : l'.length ≤ 1048576) (ht : Tch (fun k => k = p) w w') :
    ∃ F', RecR w' F' p l' ∧ Tch (fun k => k = p ∨ k = g) w w' ∧ ∀ k, F' k → (k = p ∨ k = g) ∨ w.heap.size ≤ k := by
  refine ⟨_, ⟨g', c', rfl, by omega, hc, hr, hN, hR, h0, hm⟩, ⟨ht.os, ht.tape, ht.output, ht.size, fun k hk hn => ht.block k hk (fun e => hn (.inl e))⟩, ?_⟩
  rintro k (rfl | rfl)
  · exact .inl (.inl rfl)
  · exact .inr hg
theorem take_gen (w : World) (F : Nat → Prop) (p : Nat) (l : List Rw) (x : Ins) (vb : Value) (h : RecR w F p l) (h0 : 0 < l.length) (h32 : l.length ≤ 32) (hv : InG w vb x.dif) (hd : x.dif.length ≤ 4398046511104) (hl : ∀ y, y ∈ l → y.t.length ≤ 4398046511104) :
    Calls Try.prog 20 #[.pointer (some ⟨p, 0, none⟩), .agg (insA x vb)] w fun e w' => ∃ F', e = .returned (.tuple #[.bool (takeF l x).2.1, .int .i64 (takeF l x).2.2]) ∧ RecR w' F' p (takeF l x).1 ∧ Tch F w w' ∧ ∀ k, F' k → F k ∨ w.heap.size ≤ k := by
  have KP := Box'.mk fun (wz : World) (hb : Below w.heap.size w wz) => recR_keep.below h hb
  obtain ⟨g, c, rfl, hne, hc, hr, hN, hR, _, _⟩ := h
  obtain ⟨av, cv, ev⟩ : ∃ av cv, vb = .slice av x.dif.length cv := by obtain ⟨a, c, h, _⟩ := hv; exact ⟨a, c, h⟩
  obtain ⟨w1, hw1⟩ : ∃ w1, w1 = w.alloc (.cells (insA x vb) 41) := ⟨_, rfl⟩
  have b1 : Below w.heap.size w w1 := by rw [hw1]; exact (Below.refl _ _).alloc (Nat.le_refl _) _
  have z1 : w1.heap.size = w.heap.size + 1 := by rw [hw1]; simp
  have r3 : Row w1 w.heap.size 41 (insA x vb) := by rw [hw1]; exact Row.new _ _ _
  have hr1 := hr.below b1 hr.lt
  have hN1 := hN.below b1
  have hp := hr.lt
  have th := rthere_any p l.length c _ w1 (hr1.cell 0) h0
  have FN := Box'.mk fun (wa : World) (hb : Below w1.heap.size w1 wa) => find_any g l.length c x.n l wa (hN1.below hb) rfl hc (by omega) hR
  have MD := Box'.mk fun (wa : World) (hb : Below w1.heap.size w1 wa) => made_any p g l.length c x vb l wa (hr1.below hb hr1.lt) (hN1.below hb) rfl hc (by omega) hR ((hv.below b1).below hb) (fun y hy => by have := hl y hy; omega)
  have FG := Box'.mk fun (wa : World) (hb : Below w1.heap.size w1 wa) => forget_any p g l.length c x.thr l wa (hr1.below hb hr1.lt) (hN1.below hb) rfl h0 hc (by omega) hR
  have PT := Box'.mk fun (y : Rw) (wa : World) (hb : Below w1.heap.size w1 wa) => put_any g l.length c y l wa (hN1.below hb) rfl hc (by omega) hR
  have RP := Box'.mk fun (wa : World) (hb : Below w1.heap.size w1 wa) => hr1.below hb hr1.lt
  have R3 := Box'.mk fun (wa : World) (hb : Below w1.heap.size w1 wa) => r3.below hb r3.lt
  have CN := Box'.mk fun (wa : World) (hb : Below w1.heap.size w1 wa) => (r3.below hb r3.lt).cell 1
  have B1 := Box'.mk b1
  have HR := Box'.mk hR
  have E1 := Box'.mk fun h => takeF_has hR x h
  have E2 := Box'.mk fun h => take_err hR x h
  have E3 := Box'.mk fun h => take_yes hR x h
  have LA := Box'.mk fun (y : Rw) h => putN_last hR y h h0
  subst ev
  clear hr hN hR hv hl b1 r3 hr1 hN1 hd
  unfold insA at hw1 CN R3 MD ⊢
  simp only [uV] at *
  go_enter Try.func20, Try.ntmps20
  go_upto_region 1 with (fail)
  rw [← hw1]
  clear hw1
  go_wp2_with fail
  refine th.mono ?_
  rintro e w2 ⟨rfl, ew⟩
  obtain rfl : w1 = w2 := ew.symm
  clear th ew
  go_upto_region 3 with (fail)
  refine wp_region_lex (fun wa => Below w1.heap.size w1 wa) (by kernel_rfl) (by kernel_rfl) (Below.refl _ _).drew ?_
  go_big_quiet_want
  go_big_quiet_op
  first | go_big_quiet_on | (refine ⟨_, fun _ _ => rfl, ?_⟩; go_big_quiet_on) | (refine ⟨_, fun _ _ _ => rfl, ?_⟩; go_big_quiet_on)
  go_big_quiet_want
  go_big_quiet_op
  first | go_big_quiet_on | (refine ⟨_, fun _ _ => rfl, ?_⟩; go_big_quiet_on) | (refine ⟨_, fun _ _ _ => rfl, ?_⟩; go_big_quiet_on)
  go_big_quiet_want
  go_big_quiet_op
  first | go_big_quiet_on | (refine ⟨_, fun _ _ => rfl, ?_⟩; go_big_quiet_on) | (refine ⟨_, fun _ _ _ => rfl, ?_⟩; go_big_quiet_on)
  go_big_quiet_want
  refine qC_load91 (.tmp 16) rfl p 0 _ rfl (fun wa hb => (RP.out wa hb).cell 0) ?_
  simp only [Act.put, List.setIfInBounds_toArray, List.set_cons_succ, List.set_cons_zero]
  go_big_quiet_on
  go_big_quiet_want
  go_big_quiet_op
  first | go_big_quiet_on | (refine ⟨_, fun _ _ => rfl, ?_⟩; go_big_quiet_on) | (refine ⟨_, fun _ _ _ => rfl, ?_⟩; go_big_quiet_on)
  go_big_quiet_want
  refine qC_load29 (.tmp 18) rfl w.heap.size 1 _ rfl CN.out ?_
  simp only [Act.put, List.setIfInBounds_toArray, List.set_cons_succ, List.set_cons_zero]
  go_big_quiet_on
  go_big_quiet_want
  refine qC_call 35 #[.slice (some ⟨g, 0, none⟩) l.length c, .int .u64 (x.n.toNat : Int)] (.tuple #[.int .i64 (lwN x.n.toNat l : Int), .bool (hasN x.n.toNat l)]) (fun w => by simp [go_sem]) (fun wa hC => (FN.out wa hC).mono fun e w' h => ⟨h.1, hC.trans (h.2.mono hC.size)⟩) ?_
  simp only [Act.put, List.setIfInBounds_toArray, List.set_cons_succ, List.set_cons_zero]
  go_big_quiet_on
  go_big_quiet_want
  go_big_quiet_op
  first | go_big_quiet_on | (refine ⟨_, fun _ _ => rfl, ?_⟩; go_big_quiet_on) | (refine ⟨_, fun _ _ _ => rfl, ?_⟩; go_big_quiet_on)
  go_big_quiet_want
  go_big_quiet_op
  first | go_big_quiet_on | (refine ⟨_, fun _ _ => rfl, ?_⟩; go_big_quiet_on) | (refine ⟨_, fun _ _ _ => rfl, ?_⟩; go_big_quiet_on)
  go_big_quiet_want
  go_big_quiet_op
  first | go_big_quiet_on | (refine ⟨_, fun _ _ => rfl, ?_⟩; go_big_quiet_on) | (refine ⟨_, fun _ _ _ => rfl, ?_⟩; go_big_quiet_on)
  go_big_quiet_want
  go_big_quiet_op
  first | go_big_quiet_on | (refine ⟨_, fun _ _ => rfl, ?_⟩; go_big_quiet_on) | (refine ⟨_, fun _ _ _ => rfl, ?_⟩; go_big_quiet_on)
  go_big_quiet_want
  go_big_quiet_op
  first | go_big_quiet_on | (refine ⟨_, fun _ _ => rfl, ?_⟩; go_big_quiet_on) | (refine ⟨_, fun _ _ _ => rfl, ?_⟩; go_big_quiet_on)
  refine wpQuiet_nil ?_
  rintro wz bz
  clear FN
  cases hh : hasN x.n.toNat l with
  | true =>
    have ct := (R3.out wz bz).cell 3
    have fg := FG.out wz bz
    have ET := Box'.mk (E1.out hh)
    have HD := Box'.mk (HR.out.drop (min (lwN x.thr.toNat l) (l.length - 1)))
    have BZ := Box'.mk (B1.out.trans (bz.mono B1.out.size))
    clear MD FG PT RP R3 CN E1 E2 E3 LA KP B1 hh bz HR
    go_wp2_with fail
    refine fg.mono ?_
    rintro e w5 ⟨g', c', rfl, q1, q2, q3, q4, q5⟩
    have RE := Box'.mk (rec_end (g := g) hp (l' := l.drop (min (lwN x.thr.toNat l) (l.length - 1))) (by rw [List.length_drop]; exact q1) (by rw [List.length_drop]; exact q2) (Nat.le_trans BZ.out.size q3) q4 HD.out (by rw [List.length_drop]; omega) (by rw [List.length_drop]; omega) ((Tch.of BZ.out).trans q5 (fun _ h => .inl h)))
    clear fg q1 q2 q3 q4 q5 BZ HD ct
    go_wp2_with fail
    refine bodyPost_ret (results_tmp2 rfl _ _ _) rfl ?_
    obtain ⟨F', k1, k2, k3⟩ := RE.out
    rw [ET.out]
    exact ⟨F', rfl, k1, k2, k3⟩
  | false =>
    have E2 := Box'.mk (E2.out hh)
    have E3 := Box'.mk (E3.out hh)
    have md := MD.out wz bz
    have r3z := R3.out wz bz
    have HH := Box'.mk hh
    clear E1 MD hh FG
    go_wp2_with (refine wpList_load_row rfl 41 (.tmp 3) rfl w.heap.size rfl 41 _ r3z _ Try.underlying41 rfl 5 (by kernel_rfl) rfl ?_)
    refine md.mono ?_
    rintro e w5 ⟨rfl, hb5⟩
    have b5 := bz.trans (hb5.mono bz.size)
    clear md r3z hb5 bz
    by_cases he : (madeF l x).2 = 0
    · obtain ⟨y, k1, k2, k3⟩ := E3.out he
      have em : madeF l x = (#[.int .u64 (y.n.toNat : Int), sT y.t], 0) := Prod.ext k1 he
      rw [em]
      simp only [uV, sT]
      rw [← k2] at HH
      have ET := Box'.mk k3
      have hyn : y.n.toNat = x.n.toNat := by rw [k2]
      have LAY := Box'.mk (LA.out y HH.out)
      have HP := Box'.mk (HR.out.put y HH.out)
      have HLE : Box' ((putN l y).length = l.length + 1) := ⟨putN_len l y⟩
      have HYN := Box'.mk hyn
      clear E2 E3 LA em he k1 k3 k2 hyn
      obtain ⟨w6, hw6⟩ : ∃ w6, w6 = w5.alloc (.cells #[.int .u64 (y.n.toNat : Int), .string ⟨y.t.toArray⟩] 90) := ⟨_, rfl⟩
      have b6 : Below w1.heap.size w1 w6 := by rw [hw6]; exact b5.alloc b5.size _
      have r6 : Row w6 w5.heap.size 90 #[.int .u64 (y.n.toNat : Int), .string ⟨y.t.toArray⟩] := by rw [hw6]; exact Row.new _ _ _
      have rp6 := RP.out w6 b6
      have C0 := Box'.mk fun (wa : World) (hb : Below w6.heap.size w6 wa) => (r6.below hb r6.lt).cell 0
      have C1 := Box'.mk fun (wa : World) (hb : Below w6.heap.size w6 wa) => (r6.below hb r6.lt).cell 1
      have CP := Box'.mk fun (wa : World) (hb : Below w6.heap.size w6 wa) => (rp6.below hb rp6.lt).cell 0
      go_upto_region 8 with (fail)
      rw [← hw6]
      clear hw6
      refine wp_region_grow 9 (by kernel_rfl) (by kernel_rfl) (fun wa wb => Below wa.heap.size wa wb) (fun wa => Below w6.heap.size w6 wa) (fun kc wa v => match kc with
        | 0 => v = .pointer (some ⟨p, 0, none⟩)
        | 1 => v = .pointer (some ⟨p, 0, none⟩)
        | 2 => v = .pointer (some ⟨p, 0, none⟩)
        | 3 => v = .pointer (some ⟨p, 0, none⟩)
        | 4 => v = .slice (some ⟨g, 0, none⟩) l.length c
        | 5 => v = .agg #[.int .u64 (y.n.toNat : Int), .string ⟨y.t.toArray⟩]
        | 6 => ∃ g' c', v = .slice (some ⟨g', 0, none⟩) (l.length + 1) c' ∧ l.length + 1 ≤ c' ∧ w6.heap.size ≤ g' ∧ NbR wa g' (putN l y)
        | 7 => v = .pointer (some ⟨p, 0, none⟩)
        | 8 => v = .pointer (some ⟨p, 0, none⟩)
        | _ => True) ?_ ?_ ?_ ?_ ?_
      · intro wa wb hb q; exact q.trans (hb.mono q.size)
      · intro kc v wa wb hC1 hb h
        match kc, h with
        | 0, h => exact h
        | 1, h => exact h
        | 2, h => exact h
        | 3, h => exact h
        | 4, h => exact h
        | 5, h => exact h
        | 6, h => exact let ⟨g', c', e1, e2, e3, e4⟩ := h; ⟨g', c', e1, e2, e3, e4.below hb⟩
        | 7, h => exact h
        | 8, h => exact h
        | kc + 9, h => trivial
      · exact (Below.refl _ _).drew
      · refine ⟨?_, ?_, ?_, ?_, ?_, ?_, ?_, ?_, ?_, trivial⟩
        · intro f wq hC hd KK hK
          simp only [List.take_succ_cons, List.take_zero, setAll, List.setIfInBounds_toArray, List.set_cons_succ, List.set_cons_zero, Nat.zero_add, Nat.reduceAdd] at hK ⊢
          refine wp_of_quiet rfl ?_
          go_big_quiet_step (fail)
          exact wpQuiet_nil (hK _ _ rfl (Below.refl _ _))
        · intro f wq hC hd KK hK
          simp only [List.take_succ_cons, List.take_zero, setAll, List.setIfInBounds_toArray, List.set_cons_succ, List.set_cons_zero, Nat.zero_add, Nat.reduceAdd] at hK ⊢
          refine wp_of_quiet rfl ?_
          go_big_quiet_step (fail)
          exact wpQuiet_nil (hK _ _ rfl (Below.refl _ _))
        · intro f wq hC hd KK hK
          have g1 : f 1 = .pointer (some ⟨p, 0, none⟩) := hd 1 (by kernel_rfl)
          simp only [List.take_succ_cons, List.take_zero, setAll, List.setIfInBounds_toArray, List.set_cons_succ, List.set_cons_zero, Nat.zero_add, Nat.reduceAdd, g1] at hK ⊢
          refine wp_of_quiet rfl ?_
          go_big_quiet_step (fail)
          exact wpQuiet_nil (hK _ _ rfl (Below.refl _ _))
        · intro f wq hC hd KK hK
          have g2 : f 2 = .pointer (some ⟨p, 0, none⟩) := hd 2 (by kernel_rfl)
          simp only [List.take_succ_cons, List.take_zero, setAll, List.setIfInBounds_toArray, List.set_cons_succ, List.set_cons_zero, Nat.zero_add, Nat.reduceAdd, g2] at hK ⊢
          refine wp_of_quiet rfl ?_
          go_big_quiet_step (fail)
          exact wpQuiet_nil (hK _ _ rfl (Below.refl _ _))
        · intro f wq hC hd KK hK
          have g3 : f 3 = .pointer (some ⟨p, 0, none⟩) := hd 3 (by kernel_rfl)
          have cx := CP.out wq hC
          simp only [List.take_succ_cons, List.take_zero, setAll, List.setIfInBounds_toArray, List.set_cons_succ, List.set_cons_zero, Nat.zero_add, Nat.reduceAdd, g3] at hK ⊢
          refine wp_of_quiet rfl ?_
          go_big_quiet_step (fail)
          exact wpQuiet_nil (hK _ _ rfl (Below.refl _ _))
        · intro f wq hC hd KK hK
          have cx := C0.out wq hC
          have cy := C1.out wq hC
          simp only [List.take_succ_cons, List.take_zero, setAll, List.setIfInBounds_toArray, List.set_cons_succ, List.set_cons_zero, Nat.zero_add, Nat.reduceAdd] at hK ⊢
          refine wp_of_quiet rfl ?_
          go_big_quiet_step (fail)
          exact wpQuiet_nil (hK _ _ rfl (Below.refl _ _))
        · intro f wq hC hd KK hK
          have g4 : f 4 = .slice (some ⟨g, 0, none⟩) l.length c := hd 4 (by kernel_rfl)
          have g5 : f 5 = .agg #[.int .u64 (y.n.toNat : Int), .string ⟨y.t.toArray⟩] := hd 5 (by kernel_rfl)
          simp only [List.take_succ_cons, List.take_zero, setAll, List.setIfInBounds_toArray, List.set_cons_succ, List.set_cons_zero, Nat.zero_add, Nat.reduceAdd, g4, g5] at hK ⊢
          refine wp_callE 37 #[.slice (some ⟨g, 0, none⟩) l.length c, .agg #[.int .u64 (y.n.toNat : Int), .string ⟨y.t.toArray⟩]] (by simp [go_sem]) (fun v wb => ∃ g' c', v = .slice (some ⟨g', 0, none⟩) (l.length + 1) c' ∧ l.length + 1 ≤ c' ∧ wq.heap.size ≤ g' ∧ NbR wb g' (putN l y) ∧ Below wq.heap.size wq wb) ((PT.out y wq (b6.trans (hC.mono b6.size))).mono ?_) ?_
          · rintro e wb ⟨g', c', rfl, q⟩
            exact ⟨_, rfl, g', c', rfl, q⟩
          · rintro v wb ⟨g', c', rfl, q1, q2, q3, q4⟩
            exact hK _ _ ⟨g', c', rfl, q1, Nat.le_trans hC.size q2, q3⟩ q4
        · intro f wq hC hd KK hK
          have g0 : f 0 = .pointer (some ⟨p, 0, none⟩) := hd 0 (by kernel_rfl)
          simp only [List.take_succ_cons, List.take_zero, setAll, List.setIfInBounds_toArray, List.set_cons_succ, List.set_cons_zero, Nat.zero_add, Nat.reduceAdd, g0] at hK ⊢
          refine wp_of_quiet rfl ?_
          go_big_quiet_step (fail)
          exact wpQuiet_nil (hK _ _ rfl (Below.refl _ _))
        · intro f wq hC hd KK hK
          have g7 : f 7 = .pointer (some ⟨p, 0, none⟩) := hd 7 (by kernel_rfl)
          simp only [List.take_succ_cons, List.take_zero, setAll, List.setIfInBounds_toArray, List.set_cons_succ, List.set_cons_zero, Nat.zero_add, Nat.reduceAdd, g7] at hK ⊢
          refine wp_of_quiet rfl ?_
          go_big_quiet_step (fail)
          exact wpQuiet_nil (hK _ _ rfl (Below.refl _ _))
      intro f wq hC hv
      have g0 : f 0 = .pointer (some ⟨p, 0, none⟩) := hv 0 (by decide)
      have g1 : f 1 = .pointer (some ⟨p, 0, none⟩) := hv 1 (by decide)
      have g2 : f 2 = .pointer (some ⟨p, 0, none⟩) := hv 2 (by decide)
      have g3 : f 3 = .pointer (some ⟨p, 0, none⟩) := hv 3 (by decide)
      have g4 : f 4 = .slice (some ⟨g, 0, none⟩) l.length c := hv 4 (by decide)
      have g5 : f 5 = .agg #[.int .u64 (y.n.toNat : Int), .string ⟨y.t.toArray⟩] := hv 5 (by decide)
      have g7 : f 7 = .pointer (some ⟨p, 0, none⟩) := hv 7 (by decide)
      have g8 : f 8 = .pointer (some ⟨p, 0, none⟩) := hv 8 (by decide)
      have e6 := hv 6 (by decide)
      simp only at e6
      simp only [List.take_succ_cons, List.take_zero, List.drop_succ_cons, List.drop_zero, setAll, List.setIfInBounds_toArray, List.set_cons_succ, List.set_cons_zero, Nat.zero_add, Nat.reduceAdd, g0, g1, g2, g3, g4, g5, g7, g8]
      obtain ⟨g', c', e6, k1, k2, k3⟩ := e6
      simp only [e6]
      clear g0 g1 g2 g3 g4 g5 g7 g8 hv e6
      have b7 := b6.trans (hC.mono b6.size)
      have rq := RP.out wq b7
      have c7 := rq.cell 0
      have f7 := rq.frozen 0
      have z7 := b7.size
      have z6 := b6.size
      obtain ⟨w8, hw8⟩ : ∃ w8, w8 = wq.setCell ⟨p, 0, none⟩ (.slice (some ⟨g', 0, none⟩) (l.length + 1) c') := ⟨_, rfl⟩
      have rp8 : Row w8 p 93 #[.slice (some ⟨g', 0, none⟩) (l.length + 1) c'] := by rw [hw8]; exact rq.setCell 0 _
      have n8 : NbR w8 g' (putN l y) := by rw [hw8]; exact k3.same (Below.heap_setCell _ _ _ _ (by show g' ≠ p; omega))
      have t8 : Tch (fun k => k = p) w w8 := by rw [hw8]; exact (Tch.of (B1.out.trans (b7.mono B1.out.size))).set ⟨p, 0, none⟩ _ (.inl rfl)
      have r38 : Row w8 w.heap.size 41 #[.int .u64 (x.o.toNat : Int), .int .u64 (x.n.toNat : Int), .int .u64 (x.ack.toNat : Int), .int .u64 (x.thr.toNat : Int), .slice av x.dif.length cv] := by rw [hw8]; exact (R3.out wq b7).setOther _ _ (by show w.heap.size ≠ p; omega)
      clear RP R3 CN PT C0 C1 CP B1 b6 b7 r6 rp6 rq hC k2 k3 b5 z6 z7
      go_upto_region 9 with (fail)
      rw [← hw8]
      clear hw8 c7 f7
      have LS := Box'.mk fun (wa : World) (hb : Below w8.heap.size w8 wa) => last_any p g' (l.length + 1) c' (putN l y) wa (rp8.below hb rp8.lt) (n8.below hb) HLE.out (by omega) k1 (by omega)
      have FG := Box'.mk fun (wa : World) (hb : Below w8.heap.size w8 wa) => forget_any p g' (l.length + 1) c' x.thr (putN l y) wa (rp8.below hb rp8.lt) (n8.below hb) HLE.out (by omega) k1 (by omega) HP.out
      have CN := Box'.mk fun (wa : World) (hb : Below w8.heap.size w8 wa) => (r38.below hb r38.lt).cell 1
      have CT := Box'.mk fun (wa : World) (hb : Below w8.heap.size w8 wa) => (r38.below hb r38.lt).cell 3
      have T8 := Box'.mk t8
      clear rp8 n8 t8 r38
      have e11 : l.length + 1 - 1 = l.length := by omega
      rw [e11] at LS FG ET
      have LY := Box'.mk LAY.out
      have ENB : Box' (((((putN l y).getD l.length Rw.zero).n.toNat : Int) == (x.n.toNat : Int)) = decide (lwN y.n.toNat l = l.length)) := ⟨by
        rw [← LAY.out, HYN.out, Bool.eq_iff_iff, beq_iff_eq, decide_eq_true_eq]
        omega⟩
      generalize decide (lwN y.n.toNat l = l.length) = nb at *
      generalize hyl : (putN l y).getD l.length Rw.zero = yl at *
      clear LAY LY hyl HYN
      refine wp_region_lex (fun wa => Below w8.heap.size w8 wa) (by kernel_rfl) (by kernel_rfl) (Below.refl _ _).drew ?_
      go_big_quiet_want
      go_big_quiet_op
      first | go_big_quiet_on | (refine ⟨_, fun _ _ => rfl, ?_⟩; go_big_quiet_on) | (refine ⟨_, fun _ _ _ => rfl, ?_⟩; go_big_quiet_on)
      go_big_quiet_want
      refine qC_call 38 #[.pointer (some ⟨p, 0, none⟩)] (.agg #[.int .u64 (yl.n.toNat : Int), .string ⟨yl.t.toArray⟩]) (fun w => by simp [go_sem]) (fun wa hC => (LS.out wa hC).mono fun e w' h => ⟨h.1, hC.trans (h.2.mono hC.size)⟩) ?_
      simp only [Act.put, List.setIfInBounds_toArray, List.set_cons_succ, List.set_cons_zero]
      go_big_quiet_on
      go_big_quiet_want
      refine qC_of (.int .u64 (yl.n.toNat : Int)) (fun wq hC => by unfold execOp; rfl) ?_
      simp only [Act.put, List.setIfInBounds_toArray, List.set_cons_succ, List.set_cons_zero]
      go_big_quiet_on
      go_big_quiet_want
      go_big_quiet_op
      first | go_big_quiet_on | (refine ⟨_, fun _ _ => rfl, ?_⟩; go_big_quiet_on) | (refine ⟨_, fun _ _ _ => rfl, ?_⟩; go_big_quiet_on)
      go_big_quiet_want
      refine qC_load29 (.tmp 46) rfl w.heap.size 1 _ rfl CN.out ?_
      simp only [Act.put, List.setIfInBounds_toArray, List.set_cons_succ, List.set_cons_zero]
      go_big_quiet_on
      go_big_quiet_want
      refine qC_of (.bool nb) (fun wq hC => by unfold execOp; simp [go_sem, ENB.out]) ?_
      simp only [Act.put, List.setIfInBounds_toArray, List.set_cons_succ, List.set_cons_zero]
      go_big_quiet_on
      go_big_quiet_want
      go_big_quiet_op
      first | go_big_quiet_on | (refine ⟨_, fun _ _ => rfl, ?_⟩; go_big_quiet_on) | (refine ⟨_, fun _ _ _ => rfl, ?_⟩; go_big_quiet_on)
      refine wpQuiet_nil ?_
      rintro wy by9
      have fg := FG.out wy by9
      have ct := CT.out wy by9
      have TY := Box'.mk (T8.out.trans (Tch.of (F := fun k => k = p) by9) (fun _ h => .inl h))
      have HD := Box'.mk (HP.out.drop (min (lwN x.thr.toNat (putN l y)) l.length))
      have hdl : ((putN l y).drop (min (lwN x.thr.toNat (putN l y)) l.length)).length = l.length + 1 - min (lwN x.thr.toNat (putN l y)) l.length := by rw [List.length_drop, HLE.out]
      have HDL := Box'.mk hdl
      have SZ : Box' (w.heap.size ≤ wy.heap.size) := ⟨TY.out.size⟩
      clear LS FG CN CT T8 HP HLE hdl by9
      go_wp2_with fail
      refine fg.mono ?_
      rintro e w9 ⟨g'', c'', rfl, q1, q2, q3, q4, q5⟩
      have RE := Box'.mk (rec_end (g := g) hp (l' := (putN l y).drop (min (lwN x.thr.toNat (putN l y)) l.length)) (by rw [HDL.out]; exact q1) (by rw [HDL.out]; exact q2) (Nat.le_trans SZ.out q3) q4 HD.out (by rw [HDL.out]; omega) (by rw [HDL.out]; omega) (TY.out.trans q5 (fun _ h => .inl h)))
      clear fg q1 q2 q3 q4 q5 TY HD ct
      go_wp2_with fail
      refine bodyPost_ret (results_tmp2 rfl _ _ _) rfl ?_
      obtain ⟨F', k1, k2, k3⟩ := RE.out
      rw [ET.out]
      exact ⟨F', rfl, k1, k2, k3⟩
    · obtain ⟨k3, k1⟩ := E2.out he
      have em : madeF l x = (n90, (madeF l x).2) := Prod.ext k1 rfl
      rw [em]
      have ET := Box'.mk k3
      have BZ := Box'.mk (B1.out.trans (b5.mono B1.out.size))
      have hib : ((madeF l x).2 == 0) = false := beq_eq_false_iff_ne.2 he
      clear E2 E3 LA em k1 k3 PT RP R3 CN HR HH B1 b5
      generalize (madeF l x).2 = i at *
      unfold n90
      go_wp2_with fail
      refine bodyPost_ret (results_tmp2 rfl _ _ _) rfl ?_
      rw [ET.out]
      exact ⟨_, rfl, KP.out _ (BZ.out.alloc BZ.out.size _), Tch.of (BZ.out.alloc BZ.out.size _), fun k hk => .inl hk⟩
theorem take_C : TakeRC 20 RecR := by
  intro w F p N l x vb h h0 h32 hN hF hv hd hl
  exact take_gen w F p l x vb h h0 h32 (hv.up hN).inG hd hl
theorem takeF_C : TakeRF 20 RecR := by
  intro w F p l x vb h h0 h32 hv hd hl
  refine take_gen w F p l x vb h h0 h32 ?_ hd hl
  obtain ⟨a, c, rfl, h1, h2⟩ := hv
  refine ⟨a, c, rfl, fun e => ?_, fun ad e => ?_⟩
  · rcases Nat.eq_zero_or_pos x.dif.length with q | q
    · exact List.eq_nil_of_length_eq_zero q
    · obtain ⟨b, o, e2, _⟩ := h2 0 q
      rw [e] at e2
      cases e2
  · subst e
    refine ⟨?_, h1, fun j u hu => ?_⟩
    · rcases Nat.eq_zero_or_pos x.dif.length with q | q
      · exact .inl (List.eq_nil_of_length_eq_zero q)
      · obtain ⟨b, o, e2, e3, _⟩ := h2 0 q
        injection e2 with e2
        subst e2
        exact .inr e3
    · have hj := (List.getElem?_eq_some_iff.1 hu).1
      rw [List.length_map] at hj
      obtain ⟨b, o, e2, _, _, e5⟩ := h2 j hj
      injection e2 with e2
      subst e2
      rw [Addr.add_mid, e5]
      rw [List.getElem?_map, List.getElem?_eq_getElem hj] at hu
      rw [← hu, show x.dif.getD j 0 = x.dif[j] by simp [hj]]
      rfl
end Go.Proofs.Ytikkekdmahdgaaa
