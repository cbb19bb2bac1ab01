/- A part is read as it was written, and written as it was read; the walk of FragmentBytes. -/
import Derived.Test.YthmcmdojnnbefaaSe
namespace Go.Proofs.Ythmcmdojnnbefaa
open Go.RowKit Go.BigFrame
set_option linter.unusedVariables false
set_option linter.unusedSimpArgs false

theorem may_n {p : Prt} (h : p.may = true) : 0 ≤ p.n ∧ p.n < 256 ∧ p.d.length ≤ 1024 := by
  unfold Prt.may mayN at h
  rw [decide_eq_true_eq] at h
  exact ⟨h.1, h.2.1, h.2.2.1⟩
/-- What was written is read. -/
theorem rd_frm (p : Prt) (hp : p.id < 18446744073709551616) (hm : p.may = true) : rdF (frm p) = (p, 0) := by
  have h1 := may_n hm
  have hn : numP p < 18446744073709551616 := by unfold numP; split <;> omega
  have e1 : rdU (frm p) = (p.id, (uf p.id).length, 0) := by
    have := rdU_back hp (uf (numP p) ++ p.d)
    rw [← List.append_assoc] at this
    exact this
  have e2 : (frm p).drop (uf p.id).length = uf (numP p) ++ p.d := by
    unfold frm
    rw [List.append_assoc, List.drop_left]
  have e3 := rdU_back hn p.d
  have e4 : (uf (numP p) ++ p.d).drop (uf (numP p)).length = p.d := List.drop_left
  have e5 : rdP p.id (numP p) p.d = p := by
    obtain ⟨i, n, l, d⟩ := p
    simp only at h1
    unfold rdP numP
    simp only
    cases l with
    | true =>
      simp only [if_true]
      rw [show (2 * n.toNat + 1) / 2 = n.toNat by omega, show min n.toNat 256 = n.toNat by omega, decide_eq_true (by omega : (2 * n.toNat + 1) % 2 = 1), Int.toNat_of_nonneg h1.1]
    | false =>
      simp only [Bool.false_eq_true, if_false]
      rw [Nat.add_zero, show 2 * n.toNat / 2 = n.toNat by omega, show min n.toNat 256 = n.toNat by omega, decide_eq_false (by omega : ¬ (2 * n.toNat) % 2 = 1), Int.toNat_of_nonneg h1.1]
  unfold rdF
  rw [e1]
  simp only [if_true]
  rw [e2, e3]
  simp only [if_true]
  rw [e4, e5, hm]
  rfl
/-- What was read may be, and is written as it was. -/
theorem frm_rd {b : List UInt8} {q : Prt} (h : rdF b = (q, 0)) : q.id < 18446744073709551616 ∧ q.may = true ∧ frm q = b := by
  unfold rdF at h
  split at h
  · rename_i h1
    split at h
    · rename_i h2
      split at h
      · rename_i h3
        injection h with h4
        have f1 := rdU_form (b := b) (n := (rdU b).1) (s := (rdU b).2.1) (by rw [← h1])
        have f2 := rdU_form (b := b.drop (rdU b).2.1) (n := (rdU (b.drop (rdU b).2.1)).1) (s := (rdU (b.drop (rdU b).2.1)).2.1) (by rw [← h2])
        have h5 := may_n h3
        subst h4
        refine ⟨f1.2.2.1, h3, ?_⟩
        have e : numP (rdP (rdU b).1 (rdU (b.drop (rdU b).2.1)).1 ((b.drop (rdU b).2.1).drop (rdU (b.drop (rdU b).2.1)).2.1)) = (rdU (b.drop (rdU b).2.1)).1 := by
          unfold rdP at h5
          simp only at h5
          unfold numP rdP
          simp only [Int.toNat_natCast]
          by_cases ho : (rdU (b.drop (rdU b).2.1)).1 % 2 = 1
          · rw [decide_eq_true ho]; simp only [if_true]; omega
          · rw [decide_eq_false ho]; simp only [Bool.false_eq_true, if_false]; omega
        unfold frm
        rw [e, f2.1]
        show (uf (rdU b).1 ++ _) ++ (b.drop (rdU b).2.1).drop _ = b
        rw [f1.1, List.append_assoc, List.take_append_drop, List.take_append_drop]
      · exact absurd (show (8 : Int) = 0 from congrArg Prod.snd h) (by decide)
    · rename_i h2
      exact absurd (congrArg Prod.snd h) h2
  · rename_i h1
    exact absurd (congrArg Prod.snd h) h1
theorem ld25 {w : World} {b : Nat} {i n : Int} {l : Bool} {v : Value} (h : Row w b 25 #[.int .u64 i, .int .i64 n, .bool l, v]) : w.cell? ⟨b, 0, none⟩ = some (.int .u64 i) ∧ w.cell? ⟨b, 1, none⟩ = some (.int .i64 n) ∧ w.cell? ⟨b, 2, none⟩ = some (.bool l) ∧ w.cell? ⟨b, 3, none⟩ = some v :=
  ⟨by rw [h.cell]; rfl, by rw [h.cell]; rfl, by rw [h.cell]; rfl, by rw [h.cell]; rfl⟩
theorem OwnB.bt5 {N : Nat} {w : World} {v : Value} {d : List UInt8} (h : OwnB N w v d) : Bts (fun b => b < w.heap.size) w v d := h.bts
set_option maxRecDepth 100000 in
set_option maxHeartbeats 8000000 in
theorem bytes_any (w : World) (p : Prt) (vp : Value) (hp : p.ok) (hpd : InB w.heap.size w vp p.d) (v : Value) (b : List UInt8) (hb : InB w.heap.size w v b) (hbn : b.length ≤ 140737488351232) :
    Calls Try.prog 7 #[pv p vp, v] w fun e w' => e = .returned (.bool true) ∧ Below w.heap.size w w' := by
  have AN := Box'.mk anchored_any
  obtain ⟨ap, cp, hvp, _⟩ := hpd.slice
  obtain ⟨ab, cb, hvb, _⟩ := hb.slice
  subst hvp hvb
  have HPD := Box'.mk hpd
  have HBD := Box'.mk hb
  have HPO := Box'.mk hp
  have HBN := Box'.mk hbn
  generalize hpl : p.d.length = pl at *
  generalize hbl : b.length = bl at *
  have HPL := Box'.mk hpl
  have HBL := Box'.mk hbl
  clear hpd hb hp hbn hpl hbl
  obtain ⟨w0, hw0⟩ : ∃ w0, w0 = w.alloc (.cells #[.int .u64 (p.id : Int), .int .i64 p.n, .bool p.last, .slice ap pl cp] 25) := ⟨_, rfl⟩
  have b0 : Below w.heap.size w w0 := by rw [hw0]; exact (Below.refl _ _).alloc (Nat.le_refl _) _
  have r0 : Row w0 w.heap.size 25 #[.int .u64 (p.id : Int), .int .i64 p.n, .bool p.last, .slice ap pl cp] := by rw [hw0]; exact Row.new _ _ _
  have HR0 := Box'.mk r0
  have HB0 := Box'.mk b0
  have W1 := write_any w.heap.size w0 p HPO.out.id _ b0.size (HPD.out.below b0 (Nat.le_refl _))
  unfold pv at W1 ⊢
  have LR0 := HR0
  rw [hw0] at LR0
  clear b0 r0
  go_enter Try.func7, Try.ntmps7
  go_wp2_with (refine wpList_load_row rfl 25 (.tmp 2) rfl _ rfl 25 _ LR0.out _ Try.underlying25 rfl 4 Try.info25 rfl ?_)
  rw [← hw0]
  clear hw0 LR0
  refine W1.mono ?_
  rintro e1 w1 ⟨u1, rfl, o1, b1⟩
  clear W1
  obtain ⟨a1, c1, hu1⟩ := o1.slice
  subst hu1
  have HR1 := Box'.mk (HR0.out.below b1 HR0.out.lt)
  have HB1 : Box' (Below w.heap.size w w1) := ⟨HB0.out.trans (b1.mono HB0.out.size)⟩
  have HO1 := Box'.mk o1
  clear o1 b1 HR0 HB0
  have HWR := Box'.mk (wrF.eq_1 p)
  generalize wrF p = WR at *
  cases hmy : p.may with
  | false =>
    have e := HWR.out
    rw [hmy, if_neg (by simp)] at e
    subst e
    clear HWR HO1
    have HMY := Box'.mk hmy
    clear hmy
    simp only [List.length_nil]
    have RD := read_any w.heap.size w1 (.slice ab bl cb) b HB1.out.size (HBD.out.below HB1.out (Nat.le_refl _)) (by rw [HBL.out]; exact HBN.out)
    have HRD : Box' (∀ q, rdF b = (q, 0) → q.id < 18446744073709551616 ∧ q.may = true ∧ frm q = b) := ⟨fun q => frm_rd⟩
    generalize rdF b = RB at *
    obtain ⟨q, eb⟩ := RB
    go_wp2_with fail
    refine RD.mono ?_
    rintro e5 w5 ⟨u5, rfl, o5, b5⟩
    clear RD
    obtain ⟨a5, c5, hu5⟩ := o5.slice
    subst hu5
    unfold pv
    simp only at o5 ⊢
    generalize hql : q.d.length = ql at *
    have HQL := Box'.mk hql
    clear hql
    obtain ⟨w6, hw6⟩ : ∃ w6, w6 = (w5.alloc (.cells #[.int .u64 0, .int .i64 0, .bool false, .slice none 0 0] 25)).setRow w5.heap.size #[.int .u64 (q.id : Int), .int .i64 q.n, .bool q.last, .slice a5 ql c5] := ⟨_, rfl⟩
    have b6 : Below w5.heap.size w5 w6 := by rw [hw6]; exact below_setRow ((Below.refl _ _).alloc (Nat.le_refl _) _) (Nat.le_refl _) _
    have r6 : Row w6 w5.heap.size 25 #[.int .u64 (q.id : Int), .int .i64 q.n, .bool q.last, .slice a5 ql c5] := by rw [hw6]; exact (Row.new w5 25 #[.int .u64 0, .int .i64 0, .bool false, .slice none 0 0]).setRow _
    have HR6 := Box'.mk r6
    have HRp6 := Box'.mk ((HR1.out.below b5 HR1.out.lt).below b6 (Nat.lt_of_lt_of_le HR1.out.lt b5.size))
    have HB6 : Box' (Below w.heap.size w w6) := ⟨(HB1.out.trans (b5.mono HB1.out.size)).trans (b6.mono (Nat.le_trans HB1.out.size b5.size))⟩
    have O6 := Box'.mk (o5.below b6)
    clear b6 r6 b5 o5 HR1 HB1
    by_cases he : eb = 0
    · subst he
      have hq := HRD.out q rfl
      have WQ := write_any w6.heap.size w6 q hq.1 _ (Nat.le_refl _) O6.out.inB
      have ewq : wrF q = (b, 0) := by rw [wrF, hq.2.1, if_pos rfl, hq.2.2]
      rw [ewq] at WQ
      unfold pv at WQ
      clear hq ewq HRD
      have LR6 := HR6
      rw [hw6] at LR6
      go_wp2_with (first
        | (refine wpList_store_row rfl 25 (.tmp 9) (.tmp 36) rfl _ rfl _ rfl 25 4 (Room.new _ _ _ _ rfl) Try.info25 rfl (pt_one _ _ _ _ _ _) ?_)
        | (refine wpList_load_row rfl 25 (.tmp 9) rfl _ rfl 25 _ LR6.out _ Try.underlying25 rfl 4 Try.info25 rfl ?_))
      rw [← hw6]
      clear hw6 LR6
      refine WQ.mono ?_
      rintro e7 w7 ⟨u7, rfl, o7, b7⟩
      clear WQ
      obtain ⟨a7, c7, hu7⟩ := o7.slice
      subst hu7
      simp only [HBL.out] at o7 ⊢
      have HB7 : Box' (Below w.heap.size w w7) := ⟨HB6.out.trans (b7.mono HB6.out.size)⟩
      have O7 := Box'.mk o7
      clear o7 b7 HB6 HR6 HRp6 O6
      go_wp2_with fail
      refine (AN.out w7).mono ?_
      rintro e8 w8 ⟨rfl, b8⟩
      have HB8 : Box' (Below w.heap.size w w8) := ⟨HB7.out.trans (b8.mono HB7.out.size)⟩
      have SM := refSame_any _ _ _ _ _ _ w8 (O7.out.below b8).bts ((HBD.out.below HB8.out (Nat.le_refl _)).bts)
      simp only [decide_true] at SM
      clear AN b8
      go_wp2_with fail
      refine SM.mono ?_
      rintro e9 w9 ⟨rfl, hww⟩
      rw [hww]
      clear SM hww w9
      go_wp2_with fail
      go_ret
      exact ⟨rfl, HB8.out⟩
    · clear HRD
      have MYC := Box'.mk (fun w1 => refMay_any p.id p.n p.last ap pl cp w1)
      have hmp : mayN p.n p.last pl = false := by rw [← HPL.out]; exact HMY.out
      rw [hmp] at MYC
      clear hmp
      go_wp2_with (refine wpList_store_row rfl 25 (.tmp 9) (.tmp 36) rfl _ rfl _ rfl 25 4 (Room.new _ _ _ _ rfl) Try.info25 rfl (pt_one _ _ _ _ _ _) ?_)
      rw [← hw6]
      clear hw6
      refine (AN.out w6).mono ?_
      rintro e8 w8 ⟨rfl, b8⟩
      have HB8 : Box' (Below w.heap.size w w8) := ⟨HB6.out.trans (b8.mono HB6.out.size)⟩
      have HR8 := Box'.mk (HRp6.out.below b8 HRp6.out.lt)
      clear AN b8 HB6 HR6 HRp6 O6
      obtain ⟨lp0, lp1, lp2, lp3⟩ := ld25 HR8.out
      go_wp2_with fail
      clear lp0 lp1 lp2 lp3
      refine (MYC.out _).mono ?_
      rintro e9 w9 ⟨rfl, b9⟩
      have HB9 : Box' (Below w.heap.size w w9) := ⟨HB8.out.trans (b9.mono HB8.out.size)⟩
      clear MYC b9
      go_wp2_with fail
      go_ret
      exact ⟨rfl, HB9.out⟩
  | true =>
    have e := HWR.out
    rw [hmy, if_pos rfl] at e
    subst e
    clear HWR
    have HMY := Box'.mk hmy
    clear hmy
    have RD := read_any w1.heap.size w1 _ _ (Nat.le_refl _) HO1.out.inB (by
      have := may_n HMY.out
      unfold frm
      rw [List.length_append, List.length_append]
      have h1 := uf_len64 HPO.out.id
      have h2 := uf_len64 (n := numP p) (by unfold numP; split <;> omega)
      omega)
    rw [rd_frm p HPO.out.id HMY.out] at RD
    generalize hfl : (frm p).length = fl at *
    clear hfl
    go_wp2_with fail
    refine RD.mono ?_
    rintro e2 w2 ⟨u2, rfl, o2, b2⟩
    clear RD
    obtain ⟨a2, c2, hu2⟩ := o2.slice
    subst hu2
    simp only [HPL.out] at o2 ⊢
    unfold pv
    obtain ⟨w3, hw3⟩ : ∃ w3, w3 = (w2.alloc (.cells #[.int .u64 0, .int .i64 0, .bool false, .slice none 0 0] 25)).setRow w2.heap.size #[.int .u64 (p.id : Int), .int .i64 p.n, .bool p.last, .slice a2 pl c2] := ⟨_, rfl⟩
    have b3 : Below w2.heap.size w2 w3 := by rw [hw3]; exact below_setRow ((Below.refl _ _).alloc (Nat.le_refl _) _) (Nat.le_refl _) _
    have r3 : Row w3 w2.heap.size 25 #[.int .u64 (p.id : Int), .int .i64 p.n, .bool p.last, .slice a2 pl c2] := by rw [hw3]; exact (Row.new w2 25 #[.int .u64 0, .int .i64 0, .bool false, .slice none 0 0]).setRow _
    have HR3 := Box'.mk r3
    have HRp := Box'.mk ((HR1.out.below b2 HR1.out.lt).below b3 (Nat.lt_of_lt_of_le HR1.out.lt b2.size))
    have HB3 : Box' (Below w.heap.size w w3) := ⟨(HB1.out.trans (b2.mono HB1.out.size)).trans (b3.mono (Nat.le_trans HB1.out.size b2.size))⟩
    have O3 := o2.below b3
    have ONE := one_any w3 p p (.slice ap pl cp) (.slice a2 pl c2) (fun b => b < w.heap.size) (fun b => b < w3.heap.size) ((HPD.out.below HB3.out (Nat.le_refl _)).bts) O3.bts (fun b hb => Nat.lt_of_lt_of_le hb HB3.out.size) (fun b hb => hb)
    rw [oneN_iff.2 rfl] at ONE
    unfold pv at ONE
    clear b3 r3 b2 o2 O3 HR1 HB1 HO1
    go_upto_region 4 with (refine wpList_store_row rfl 25 (.tmp 7) (.tmp 23) rfl _ rfl _ rfl 25 4 (Room.new _ _ _ _ rfl) Try.info25 rfl (pt_one _ _ _ _ _ _) ?_)
    rw [← hw3]
    clear hw3
    obtain ⟨lp0, lp1, lp2, lp3⟩ := ld25 HRp.out
    obtain ⟨lq0, lq1, lq2, lq3⟩ := ld25 HR3.out
    go_wp2_with fail
    clear lp0 lp1 lp2 lp3 lq0 lq1 lq2 lq3
    refine ONE.mono ?_
    rintro e4 w4 ⟨rfl, b4⟩
    clear ONE
    have HR1 := Box'.mk (HRp.out.below b4 HRp.out.lt)
    have HB1 : Box' (Below w.heap.size w w4) := ⟨HB3.out.trans (b4.mono HB3.out.size)⟩
    clear b4 HRp HR3 HB3
    have RD := read_any w.heap.size w4 (.slice ab bl cb) b HB1.out.size (HBD.out.below HB1.out (Nat.le_refl _)) (by rw [HBL.out]; exact HBN.out)
    have HRD : Box' (∀ q, rdF b = (q, 0) → q.id < 18446744073709551616 ∧ q.may = true ∧ frm q = b) := ⟨fun q => frm_rd⟩
    generalize rdF b = RB at *
    obtain ⟨q, eb⟩ := RB
    go_wp2_with fail
    refine RD.mono ?_
    rintro e5 w5 ⟨u5, rfl, o5, b5⟩
    clear RD
    obtain ⟨a5, c5, hu5⟩ := o5.slice
    subst hu5
    unfold pv
    simp only at o5 ⊢
    generalize hql : q.d.length = ql at *
    have HQL := Box'.mk hql
    clear hql
    obtain ⟨w6, hw6⟩ : ∃ w6, w6 = (w5.alloc (.cells #[.int .u64 0, .int .i64 0, .bool false, .slice none 0 0] 25)).setRow w5.heap.size #[.int .u64 (q.id : Int), .int .i64 q.n, .bool q.last, .slice a5 ql c5] := ⟨_, rfl⟩
    have b6 : Below w5.heap.size w5 w6 := by rw [hw6]; exact below_setRow ((Below.refl _ _).alloc (Nat.le_refl _) _) (Nat.le_refl _) _
    have r6 : Row w6 w5.heap.size 25 #[.int .u64 (q.id : Int), .int .i64 q.n, .bool q.last, .slice a5 ql c5] := by rw [hw6]; exact (Row.new w5 25 #[.int .u64 0, .int .i64 0, .bool false, .slice none 0 0]).setRow _
    have HR6 := Box'.mk r6
    have HRp6 := Box'.mk ((HR1.out.below b5 HR1.out.lt).below b6 (Nat.lt_of_lt_of_le HR1.out.lt b5.size))
    have HB6 : Box' (Below w.heap.size w w6) := ⟨(HB1.out.trans (b5.mono HB1.out.size)).trans (b6.mono (Nat.le_trans HB1.out.size b5.size))⟩
    have O6 := Box'.mk (o5.below b6)
    clear b6 r6 b5 o5 HR1 HB1
    by_cases he : eb = 0
    · subst he
      have hq := HRD.out q rfl
      have WQ := write_any w6.heap.size w6 q hq.1 _ (Nat.le_refl _) O6.out.inB
      have ewq : wrF q = (b, 0) := by rw [wrF, hq.2.1, if_pos rfl, hq.2.2]
      rw [ewq] at WQ
      unfold pv at WQ
      clear hq ewq HRD
      have LR6 := HR6
      rw [hw6] at LR6
      go_wp2_with (first
        | (refine wpList_store_row rfl 25 (.tmp 9) (.tmp 36) rfl _ rfl _ rfl 25 4 (Room.new _ _ _ _ rfl) Try.info25 rfl (pt_one _ _ _ _ _ _) ?_)
        | (refine wpList_load_row rfl 25 (.tmp 9) rfl _ rfl 25 _ LR6.out _ Try.underlying25 rfl 4 Try.info25 rfl ?_))
      rw [← hw6]
      clear hw6 LR6
      refine WQ.mono ?_
      rintro e7 w7 ⟨u7, rfl, o7, b7⟩
      clear WQ
      obtain ⟨a7, c7, hu7⟩ := o7.slice
      subst hu7
      simp only [HBL.out] at o7 ⊢
      have HB7 : Box' (Below w.heap.size w w7) := ⟨HB6.out.trans (b7.mono HB6.out.size)⟩
      have O7 := Box'.mk o7
      clear o7 b7 HB6 HR6 HRp6 O6
      go_wp2_with fail
      refine (AN.out w7).mono ?_
      rintro e8 w8 ⟨rfl, b8⟩
      have HB8 : Box' (Below w.heap.size w w8) := ⟨HB7.out.trans (b8.mono HB7.out.size)⟩
      have SM := refSame_any _ _ _ _ _ _ w8 (O7.out.below b8).bts ((HBD.out.below HB8.out (Nat.le_refl _)).bts)
      simp only [decide_true] at SM
      clear AN b8
      go_wp2_with fail
      refine SM.mono ?_
      rintro e9 w9 ⟨rfl, hww⟩
      rw [hww]
      clear SM hww w9
      go_wp2_with fail
      go_ret
      exact ⟨rfl, HB8.out⟩
    · clear HRD
      have MYC := Box'.mk (fun wx => refMay_any p.id p.n p.last ap pl cp wx)
      have hmp : mayN p.n p.last pl = true := by rw [← HPL.out]; exact HMY.out
      rw [hmp] at MYC
      clear hmp
      go_wp2_with (refine wpList_store_row rfl 25 (.tmp 9) (.tmp 36) rfl _ rfl _ rfl 25 4 (Room.new _ _ _ _ rfl) Try.info25 rfl (pt_one _ _ _ _ _ _) ?_)
      rw [← hw6]
      clear hw6
      refine (AN.out w6).mono ?_
      rintro e8 w8 ⟨rfl, b8⟩
      have HB8 : Box' (Below w.heap.size w w8) := ⟨HB6.out.trans (b8.mono HB6.out.size)⟩
      have HR8 := Box'.mk (HRp6.out.below b8 HRp6.out.lt)
      clear AN b8 HB6 HR6 HRp6 O6
      obtain ⟨lp0, lp1, lp2, lp3⟩ := ld25 HR8.out
      go_wp2_with fail
      clear lp0 lp1 lp2 lp3
      refine (MYC.out _).mono ?_
      rintro e9 w9 ⟨rfl, b9⟩
      have HB9 : Box' (Below w.heap.size w w9) := ⟨HB8.out.trans (b9.mono HB8.out.size)⟩
      clear MYC b9
      go_wp2_with fail
      go_ret
      exact ⟨rfl, HB9.out⟩
end Go.Proofs.Ythmcmdojnnbefaa
