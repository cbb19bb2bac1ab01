/- The walk of the reference's Read. -/
import Derived.Test.YthmcmdojnnbefaaSe
namespace Go.Proofs.Ythmcmdojnnbefaa
open Go.RowKit Go.BigFrame
set_option linter.unusedVariables false
set_option linter.unusedSimpArgs false

set_option maxRecDepth 100000 in
set_option maxHeartbeats 4000000 in
theorem refRead_any (N : Nat) (w : World) (v : Value) (b : List UInt8) (hN : N ≤ w.heap.size) (h : InB N w v b) (hb : b.length ≤ 140737488351232) : Calls Try.prog 11 #[v] w (PEnd w (rdF b)) := by
  obtain ⟨w0, hw0⟩ : ∃ w0, w0 = w.alloc (.cells #[.int .u64 0, .int .i64 0, .bool false, .slice none 0 0] 25) := ⟨_, rfl⟩
  have b0 : Below w.heap.size w w0 := by rw [hw0]; exact (Below.refl _ _).alloc (Nat.le_refl _) _
  have r0 : Row w0 w.heap.size 25 #[.int .u64 0, .int .i64 0, .bool false, .slice none 0 0] := by rw [hw0]; exact Row.new _ _ _
  have h1 := refReadUint_any N w0 v b (h.below b0 hN) (Nat.le_trans hN b0.size) (by omega)
  have HR := Box'.mk (rdF.eq_1 b)
  generalize rdF b = R at *
  have HB0 := Box'.mk b0
  have HR0 := Box'.mk r0
  have HI := Box'.mk h
  have HN := Box'.mk hN
  have HLE := Box'.mk (rdU_le b)
  obtain ⟨va, vc, rfl, hvc⟩ := h.slice
  obtain ⟨bl, hbl⟩ : ∃ bl, b.length = bl := ⟨_, rfl⟩
  rw [hbl] at hb hvc HLE h1 HI ⊢
  have HBL := Box'.mk hbl
  clear h b0 r0 hbl hN hvc
  generalize hR1 : rdU b = R1 at *
  obtain ⟨i, a, e1⟩ := R1
  have HR1 := Box'.mk hR1
  simp only at HR h1 HLE
  clear hR1
  go_enter Try.func11, Try.ntmps11
  go_wp2_with fail
  rw [← hw0]
  clear hw0
  refine h1.mono ?_
  rintro e2 w2 ⟨rfl, b2⟩
  clear h1
  have HB2 : Box' (Below w.heap.size w w2) := ⟨HB0.out.trans (b2.mono HB0.out.size)⟩
  have HR2' := Box'.mk (HR0.out.below b2 HR0.out.lt)
  clear b2 HB0 HR0
  by_cases he : e1 = 0
  · subst he
    have e := HR.out
    rw [if_pos rfl] at e
    have HRB := Box'.mk e
    have hf := rdU_form HR1.out
    have hab : a ≤ bl := HLE.out.1
    obtain ⟨a2, c2, hsl, hi2⟩ := (HBL.out ▸ HI.out : InB N w (.slice va b.length vc) b).behind (k := a) (by rw [HBL.out]; exact hab) (by rw [HBL.out]; omega)
    rw [HBL.out] at hsl hi2
    have HI2 := Box'.mk hi2
    have HSL := Box'.mk hsl
    have h2 := refReadUint_any N w2 _ _ (HI2.out.below HB2.out HN.out) (Nat.le_trans HN.out HB2.out.size) (by rw [List.length_drop, HBL.out]; omega)
    have HLE2 := Box'.mk (rdU_le (b.drop a))
    rw [List.length_drop, HBL.out] at HLE2
    clear hsl hi2
    generalize hR2 : rdU (b.drop a) = R2 at *
    obtain ⟨m, c, e2⟩ := R2
    have HRU2 := Box'.mk hR2
    simp only at HRB h2 HLE2
    have H2 := Box'.mk h2
    have hi64 := HLE.out.2
    have hab2 := Box'.mk hab
    clear hR2 hf e HR h2 hab HLE
    obtain ⟨bl2, hbl2⟩ : ∃ bl2, bl2 = bl - a := ⟨_, rfl⟩
    rw [← hbl2] at H2 HSL HI2
    have HBL2 := Box'.mk hbl2
    clear hbl2
    go_wp2_with (refine wpList_slice rfl 23 (.tmp 21) (some (.tmp 22)) none none rfl (.slice a2 bl2 c2) ?_ ?_; (exact HSL.out _))
    refine H2.out.mono ?_
    rintro e3 w3 ⟨rfl, b3⟩
    clear H2
    have HB3 : Box' (Below w.heap.size w w3) := ⟨HB2.out.trans (b3.mono HB2.out.size)⟩
    have HR3' := Box'.mk (HR2'.out.below b3 HR2'.out.lt)
    clear b3 HB2 HR2' HSL
    by_cases he2 : e2 = 0
    · subst he2
      have e := HRB.out
      rw [if_pos rfl] at e
      have HRC := Box'.mk e
      have hcb : c ≤ bl - a := HLE2.out.1
      have hm64 := HLE2.out.2
      obtain ⟨a3, c3, hsl, hi3⟩ := (HBL.out ▸ HI.out : InB N w (.slice va b.length vc) b).behind (k := a + c) (by rw [HBL.out]; have := hab2.out; omega) (by rw [HBL.out]; omega)
      rw [HBL.out] at hsl hi3
      obtain ⟨bl3, hbl3⟩ : ∃ bl3, bl3 = bl - (a + c) := ⟨_, rfl⟩
      rw [← hbl3] at hsl hi3
      have HI3 := Box'.mk hi3
      have HSL3 := Box'.mk hsl
      have hDD : (b.drop a).drop c = b.drop (a + c) := List.drop_drop
      rw [hDD] at HRC
      have HN3 : Box' ((b.drop (a + c)).length = bl3) := ⟨by rw [List.length_drop, HBL.out, hbl3]⟩
      have HBL3 : Box' (bl3 ≤ 140737488351232) := ⟨by omega⟩
      have hac : a + c ≤ 140737488351232 := by have := hab2.out; omega
      generalize hD : b.drop (a + c) = D at *
      have HR4 : Box' (R = if mayN ((min (m / 2) 256 : Nat) : Int) (decide (m % 2 = 1)) bl3 then (⟨i, ((min (m / 2) 256 : Nat) : Int), decide (m % 2 = 1), D⟩, 0) else (zP, 8)) := ⟨by rw [HRC.out, ← HN3.out]; rfl⟩
      clear e HRB HRC hsl hi3 hDD hD hbl3 HRU2 HR1 HBL2 HI HI2 HBL HLE2 hab2 hcb hi64
      by_cases h512 : m < 512
      · have emin : min (m / 2) 256 = m / 2 := by omega
        rw [emin] at HR4
        have hmi : (m : Int) / 2 = ((m / 2 : Nat) : Int) := by omega
        rw [← hmi] at HR4
        have hr2 : ((m : Int) % 2 == 1) = decide (m % 2 = 1) := by
          by_cases ho : m % 2 = 1
          · rw [decide_eq_true ho]; simp; omega
          · rw [decide_eq_false ho]; simp; omega
        have hac2 : (a : Int) + (c : Int) = ((a + c : Nat) : Int) := by omega
        have HR2E := Box'.mk hr2
        have HAC := Box'.mk hac2
        have hlt512 : ¬ ((512 : Int) ≤ (m : Int)) := by omega
        have CP := Box'.mk (fun (w1 : World) (hb : Below w.heap.size w w1) => copy_any (· < N) (.slice a3 bl3 c3) D w1 (HI3.out.below hb HN.out).bts (fun b hb' => Nat.lt_of_lt_of_le hb' (Nat.le_trans HN.out hb.size)) (by rw [HN3.out]; exact HBL3.out))
        clear emin hmi hr2 hac2 h512
        go_wp2_with (refine wpList_slice rfl 23 (.tmp 42) (some (.tmp 45)) none none rfl (.slice a3 bl3 c3) ?_ ?_; (first | exact HSL3.out _ | (rw [HAC.out] ; exact HSL3.out _) | (show (Instr.sliceAt 23 _ (some (.int .i64 ((a : Int) + (c : Int)))) none none).run _ _ = _; rw [HAC.out]; exact HSL3.out _)))
        refine (CP.out _ HB3.out).mono ?_
        rintro e4 w4 ⟨u4, rfl, o4, b4⟩
        clear CP
        obtain ⟨a4, c4, hu4⟩ := o4.slice
        subst hu4
        rw [HN3.out] at o4 ⊢
        have HB4 : Box' (Below w.heap.size w w4) := ⟨HB3.out.trans (b4.mono HB3.out.size)⟩
        have HRZ4 := Box'.mk (HR3'.out.below b4 HR3'.out.lt)
        have O4 := Box'.mk (o4.less HB3.out.size)
        obtain ⟨w5, hw5⟩ : ∃ w5, w5 = (w4.alloc (.cells #[.int .u64 0, .int .i64 0, .bool false, .slice none 0 0] 25)).setRow w4.heap.size #[.int .u64 (i : Int), .int .i64 ((m : Int) / 2), .bool ((m : Int) % 2 == 1), .slice a4 bl3 c4] := ⟨_, rfl⟩
        clear o4 b4 HB3 HR3'
        go_upto_region 10 with (refine wpList_store_row rfl 25 _ _ rfl _ rfl _ rfl 25 4 (Room.new _ _ _ _ rfl) Try.info25 rfl (pt_one _ _ _ _ _ _) ?_)
        rw [← hw5]
        simp only [HR2E.out] at hw5 ⊢
        have b5 : Below w4.heap.size w4 w5 := by rw [hw5]; exact below_setRow ((Below.refl _ _).alloc (Nat.le_refl _) _) (Nat.le_refl _) _
        have r5 : Row w5 w4.heap.size 25 #[.int .u64 (i : Int), .int .i64 ((m : Int) / 2), .bool (decide (m % 2 = 1)), .slice a4 bl3 c4] := by rw [hw5]; exact (Row.new w4 25 #[.int .u64 0, .int .i64 0, .bool false, .slice none 0 0]).setRow _
        clear hw5
        have MY := refMay_any i ((m : Int) / 2) (decide (m % 2 = 1)) a4 bl3 c4 w5
        have HR5 := Box'.mk r5
        have HB5 : Box' (Below w.heap.size w w5) := ⟨HB4.out.trans (b5.mono HB4.out.size)⟩
        have HRZ5 := Box'.mk (HRZ4.out.below b5 HRZ4.out.lt)
        have O5 := Box'.mk (O4.out.below b5)
        clear b5 r5 HB4 HRZ4 O4 HR2E
        generalize decide (m % 2 = 1) = la at *
        go_wp2_with (refine wpList_load_row rfl 25 (.tmp 9) rfl _ rfl 25 _ HR5.out _ Try.underlying25 rfl 4 Try.info25 rfl ?_)
        refine MY.mono ?_
        rintro e6 w6 ⟨rfl, b6⟩
        clear MY
        have HR6 := Box'.mk (HR5.out.below b6 HR5.out.lt)
        have HB6 : Box' (Below w.heap.size w w6) := ⟨HB5.out.trans (b6.mono HB5.out.size)⟩
        have HRZ6 := Box'.mk (HRZ5.out.below b6 HRZ5.out.lt)
        have O6 := Box'.mk (O5.out.below b6)
        clear b6 HR5 HB5 HRZ5 O5
        cases hmy : mayN ((m : Int) / 2) la bl3 with
        | false =>
          have e := HR4.out
          rw [hmy, if_neg (by simp)] at e
          subst e
          clear HR4 hmy
          have hrm : Room w6 w.heap.size 25 4 := ⟨_, HRZ6.out, rfl⟩
          go_wp2_with (refine wpList_store_row rfl 25 (.tmp 2) _ rfl w.heap.size rfl _ rfl 25 4 hrm Try.info25 rfl zp_one ?_)
          have rw1 : Row (w6.setRow w.heap.size #[.int .u64 0, .int .i64 0, .bool false, .slice none 0 0]) w.heap.size 25 #[.int .u64 0, .int .i64 0, .bool false, .slice none 0 0] := HRZ6.out.setRow _
          exact bodyPost_ret (v := .tuple #[.agg #[.int .u64 0, .int .i64 0, .bool false, .slice none 0 0], .int .i64 (8)]) (results_row_slot rfl _ w.heap.size rfl (.int .i64 (8)) rfl _ _ rw1 _ Try.underlying25 rfl 4 Try.info25 rfl) rfl ⟨_, rfl, OwnB.nil _ _, below_setRow HB6.out (Nat.le_refl _) _⟩
        | true =>
          have e := HR4.out
          rw [hmy, if_pos rfl] at e
          subst e
          clear HR4 hmy
          have RM6 : Box' (Room w6 w.heap.size 25 4) := ⟨⟨_, HRZ6.out, rfl⟩⟩
          go_wp2_with (first
            | (refine wpList_load_row rfl 25 (.tmp 9) rfl _ rfl 25 _ HR6.out _ Try.underlying25 rfl 4 Try.info25 rfl ?_)
            | (refine wpList_store_row rfl 25 (.tmp 2) (.tmp 53) rfl w.heap.size rfl _ rfl 25 4 RM6.out Try.info25 rfl (pt_one _ _ _ _ _ _) ?_))
          have rw1 : Row (w6.setRow w.heap.size #[.int .u64 (i : Int), .int .i64 ((m : Int) / 2), .bool la, .slice a4 bl3 c4]) w.heap.size 25 #[.int .u64 (i : Int), .int .i64 ((m : Int) / 2), .bool la, .slice a4 bl3 c4] := HRZ6.out.setRow _
          have ow : OwnB w.heap.size (w6.setRow w.heap.size #[.int .u64 (i : Int), .int .i64 ((m : Int) / 2), .bool la, .slice a4 bl3 c4]) (.slice a4 bl3 c4) D := O6.out.same fun k hk => heap_setRow_other _ _ _ (own_ne O6.out HRZ6.out (by decide) k hk)
          exact bodyPost_ret (v := .tuple #[.agg #[.int .u64 (i : Int), .int .i64 ((m : Int) / 2), .bool la, .slice a4 bl3 c4], .int .i64 0]) (results_row_slot rfl _ w.heap.size rfl (.int .i64 0) rfl _ _ rw1 _ Try.underlying25 rfl 4 Try.info25 rfl) rfl ⟨_, rfl, ow, below_setRow HB6.out (Nat.le_refl _) _⟩
      · have hmy : mayN ((min (m / 2) 256 : Nat) : Int) (decide (m % 2 = 1)) bl3 = false := by unfold mayN; rw [decide_eq_false_iff_not]; omega
        have e := HR4.out
        rw [hmy, if_neg (by simp)] at e
        subst e
        have h512' : (512 : Int) ≤ (m : Int) := by omega
        clear HR4 hmy h512
        have hrm : Room w3 w.heap.size 25 4 := ⟨_, HR3'.out, rfl⟩
        go_wp2_with (refine wpList_store_row rfl 25 (.tmp 2) _ rfl w.heap.size rfl _ rfl 25 4 hrm Try.info25 rfl zp_one ?_)
        have rw1 : Row (w3.setRow w.heap.size #[.int .u64 0, .int .i64 0, .bool false, .slice none 0 0]) w.heap.size 25 #[.int .u64 0, .int .i64 0, .bool false, .slice none 0 0] := HR3'.out.setRow _
        exact bodyPost_ret (v := .tuple #[.agg #[.int .u64 0, .int .i64 0, .bool false, .slice none 0 0], .int .i64 (8)]) (results_row_slot rfl _ w.heap.size rfl (.int .i64 (8)) rfl _ _ rw1 _ Try.underlying25 rfl 4 Try.info25 rfl) rfl ⟨_, rfl, OwnB.nil _ _, below_setRow HB3.out (Nat.le_refl _) _⟩
    · have e := HRB.out
      rw [if_neg he2] at e
      subst e
      clear HRB
      have hrm : Room w3 w.heap.size 25 4 := ⟨_, HR3'.out, rfl⟩
      go_wp2_with (refine wpList_store_row rfl 25 (.tmp 2) _ rfl w.heap.size rfl _ rfl 25 4 hrm Try.info25 rfl zp_one ?_)
      have rw1 : Row (w3.setRow w.heap.size #[.int .u64 0, .int .i64 0, .bool false, .slice none 0 0]) w.heap.size 25 #[.int .u64 0, .int .i64 0, .bool false, .slice none 0 0] := HR3'.out.setRow _
      exact bodyPost_ret (v := .tuple #[.agg #[.int .u64 0, .int .i64 0, .bool false, .slice none 0 0], .int .i64 (e2)]) (results_row_slot rfl _ w.heap.size rfl (.int .i64 (e2)) rfl _ _ rw1 _ Try.underlying25 rfl 4 Try.info25 rfl) rfl ⟨_, rfl, OwnB.nil _ _, below_setRow HB3.out (Nat.le_refl _) _⟩
  · have e := HR.out
    rw [if_neg he] at e
    subst e
    clear HR
    have hrm : Room w2 w.heap.size 25 4 := ⟨_, HR2'.out, rfl⟩
    go_wp2_with (refine wpList_store_row rfl 25 (.tmp 2) _ rfl w.heap.size rfl _ rfl 25 4 hrm Try.info25 rfl zp_one ?_)
    have rw1 : Row (w2.setRow w.heap.size #[.int .u64 0, .int .i64 0, .bool false, .slice none 0 0]) w.heap.size 25 #[.int .u64 0, .int .i64 0, .bool false, .slice none 0 0] := HR2'.out.setRow _
    exact bodyPost_ret (v := .tuple #[.agg #[.int .u64 0, .int .i64 0, .bool false, .slice none 0 0], .int .i64 (e1)]) (results_row_slot rfl _ w.heap.size rfl (.int .i64 (e1)) rfl _ _ rw1 _ Try.underlying25 rfl 4 Try.info25 rfl) rfl ⟨_, rfl, OwnB.nil _ _, below_setRow HB2.out (Nat.le_refl _) _⟩
end Go.Proofs.Ythmcmdojnnbefaa
