/- The walk of FragmentForms. -/
import Derived.Test.YthmcmdojnnbefaaUe
import Derived.Test.YthmcmdojnnbefaaSk
import Derived.Test.YthmcmdojnnbefaaTa
namespace Go.Proofs.Ythmcmdojnnbefaa
open Go.RowKit Go.BigFrame
set_option linter.unusedVariables false
set_option linter.unusedSimpArgs false

theorem spR_len (id : Nat) (size : Int) (b : List UInt8) : (spR id size b).1.length ≤ 300000 := by
  unfold spR
  split
  · simp
  · split
    · simp
    · rename_i h1 h2
      simp only [spL, List.length_map, List.length_range]
      have := spN_le (z := size.toNat) (b := b) (by omega) (by omega)
      omega
set_option maxRecDepth 100000 in
set_option maxHeartbeats 8000000 in
theorem forms_any (w : World) (p : Prt) (vp : Value) (hp : p.ok) (hpd : InB w.heap.size w vp p.d) (v : Value) (b : List UInt8) (hb : InB w.heap.size w v b) (hbn : b.length ≤ 140737488351232) (z : Int) (hz : -9223372036854775808 ≤ z ∧ z ≤ 9223372036854775807) :
    Calls Try.prog 3 #[pv p vp, v, .int .i64 z] w fun e w' => e = .returned (.bool true) ∧ Below w.heap.size w w' := by
  have AN := Box'.mk anchored_any
  obtain ⟨ap, cp, hvp, _⟩ := hpd.slice
  obtain ⟨ab, cb, hvb, _⟩ := hb.slice
  subst hvp hvb
  have HPD := Box'.mk hpd
  have HBD := Box'.mk hb
  have HPO := Box'.mk hp
  have HBN := Box'.mk hbn
  have HZ := Box'.mk hz
  generalize hpl : p.d.length = pl at *
  generalize hbl : b.length = bl at *
  have HBL := Box'.mk hbl
  clear hpd hb hp hbn hpl hbl hz
  obtain ⟨w0, hw0⟩ : ∃ w0, w0 = w.alloc (.cells #[.int .u64 (p.id : Int), .int .i64 p.n, .bool p.last, .slice ap pl cp] 25) := ⟨_, rfl⟩
  have b0 : Below w.heap.size w w0 := by rw [hw0]; exact (Below.refl _ _).alloc (Nat.le_refl _) _
  have r0 : Row w0 w.heap.size 25 #[.int .u64 (p.id : Int), .int .i64 p.n, .bool p.last, .slice ap pl cp] := by rw [hw0]; exact Row.new _ _ _
  have HR0 := Box'.mk r0
  have HB0 := Box'.mk b0
  have W1 := write_any w.heap.size w0 p HPO.out.id _ b0.size (HPD.out.below b0 (Nat.le_refl _))
  have W2 := Box'.mk (fun (w1 : World) (h : Below w.heap.size w w1) => refWrite_any w.heap.size w1 p HPO.out.id (.slice ap pl cp) h.size (HPD.out.below h (Nat.le_refl _)))
  unfold pv at W1 W2 ⊢
  have LR0 := HR0
  rw [hw0] at LR0
  clear b0 r0
  go_enter Try.func3, Try.ntmps3
  go_wp2_with (refine wpList_load_row rfl 25 (.tmp 3) rfl _ rfl 25 _ LR0.out _ Try.underlying25 rfl 4 Try.info25 rfl ?_)
  rw [← hw0]
  clear hw0 LR0
  refine W1.mono ?_
  rintro e1 w1 ⟨u1, rfl, o1, b1⟩
  clear W1
  obtain ⟨a1, c1, hu1⟩ := o1.slice
  subst hu1
  have HR1 := Box'.mk (HR0.out.below b1 HR0.out.lt)
  have HB1 : Box' (Below w.heap.size w w1) := ⟨HB0.out.trans (b1.mono HB0.out.size)⟩
  have HO1 := Box'.mk o1
  clear o1 b1 HR0 HB0
  generalize wrF p = WR at *
  obtain ⟨bw, ew⟩ := WR
  simp only at HO1 W2 ⊢
  generalize hl1 : bw.length = l1 at *
  clear hl1
  go_wp2_with (refine wpList_load_row rfl 25 (.tmp 3) rfl _ rfl 25 _ HR1.out _ Try.underlying25 rfl 4 Try.info25 rfl ?_)
  refine (W2.out w1 HB1.out).mono ?_
  rintro e2 w2 ⟨u2, rfl, o2, b2⟩
  clear W2
  obtain ⟨a2, c2, hu2⟩ := o2.slice
  subst hu2
  have HR2 := Box'.mk (HR1.out.below b2 HR1.out.lt)
  have HB2 : Box' (Below w.heap.size w w2) := ⟨HB1.out.trans (b2.mono HB1.out.size)⟩
  have HO12 := Box'.mk (HO1.out.below b2)
  have HO2 := Box'.mk o2
  clear o2 b2 HR1 HB1 HO1
  have RD := read_any w.heap.size w2 (.slice ab bl cb) b HB2.out.size (HBD.out.below HB2.out (Nat.le_refl _)) (by rw [HBL.out]; exact HBN.out)
  have RR := Box'.mk (fun (w1 : World) (h : Below w.heap.size w w1) => refRead_any w.heap.size w1 (.slice ab bl cb) b h.size (HBD.out.below h (Nat.le_refl _)) (by rw [HBL.out]; exact HBN.out))
  generalize rdF b = RB at *
  obtain ⟨q, eb⟩ := RB
  generalize hl2 : bw.length = l2 at *
  clear hl2
  go_wp2_with fail
  refine RD.mono ?_
  rintro e5 w5 ⟨u5, rfl, o5, b5⟩
  clear RD
  obtain ⟨a5, c5, hu5⟩ := o5.slice
  subst hu5
  unfold pv
  simp only at o5 ⊢
  obtain ⟨w6, hw6⟩ : ∃ w6, w6 = (w5.alloc (.cells #[.int .u64 0, .int .i64 0, .bool false, .slice none 0 0] 25)).setRow w5.heap.size #[.int .u64 (q.id : Int), .int .i64 q.n, .bool q.last, .slice a5 q.d.length c5] := ⟨_, rfl⟩
  have b6 : Below w5.heap.size w5 w6 := by rw [hw6]; exact below_setRow ((Below.refl _ _).alloc (Nat.le_refl _) _) (Nat.le_refl _) _
  have r6 : Row w6 w5.heap.size 25 #[.int .u64 (q.id : Int), .int .i64 q.n, .bool q.last, .slice a5 q.d.length c5] := by rw [hw6]; exact (Row.new w5 25 #[.int .u64 0, .int .i64 0, .bool false, .slice none 0 0]).setRow _
  have b56 : Below w2.heap.size w2 w6 := b5.trans (b6.mono b5.size)
  have HQ6 := Box'.mk r6
  have HR6 := Box'.mk (HR2.out.below b56 HR2.out.lt)
  have HB6 : Box' (Below w.heap.size w w6) := ⟨HB2.out.trans (b56.mono HB2.out.size)⟩
  have O6 := Box'.mk (o5.below b6)
  have HO16 := Box'.mk (HO12.out.below b56)
  have HO26 := Box'.mk (HO2.out.below b56)
  clear b6 r6 b5 o5 b56 HR2 HB2 HO12 HO2
  go_upto_region 4 with (refine wpList_store_row rfl 25 (.tmp 11) (.tmp 32) rfl _ rfl _ rfl 25 4 (Room.new _ _ _ _ rfl) Try.info25 rfl (pt_one _ _ _ _ _ _) ?_)
  rw [← hw6]
  clear hw6
  generalize w5.heap.size = qb at *
  go_wp2_with fail
  refine (RR.out w6 HB6.out).mono ?_
  rintro e7 w7 ⟨u7, rfl, o7, b7⟩
  clear RR
  obtain ⟨a7, c7, hu7⟩ := o7.slice
  subst hu7
  unfold pv
  simp only at o7 ⊢
  obtain ⟨w8, hw8⟩ : ∃ w8, w8 = (w7.alloc (.cells #[.int .u64 0, .int .i64 0, .bool false, .slice none 0 0] 25)).setRow w7.heap.size #[.int .u64 (q.id : Int), .int .i64 q.n, .bool q.last, .slice a7 q.d.length c7] := ⟨_, rfl⟩
  have b8 : Below w7.heap.size w7 w8 := by rw [hw8]; exact below_setRow ((Below.refl _ _).alloc (Nat.le_refl _) _) (Nat.le_refl _) _
  have r8 : Row w8 w7.heap.size 25 #[.int .u64 (q.id : Int), .int .i64 q.n, .bool q.last, .slice a7 q.d.length c7] := by rw [hw8]; exact (Row.new w7 25 #[.int .u64 0, .int .i64 0, .bool false, .slice none 0 0]).setRow _
  have b78 : Below w6.heap.size w6 w8 := b7.trans (b8.mono b7.size)
  have HS8 := Box'.mk r8
  have HQ8 := Box'.mk (HQ6.out.below b78 HQ6.out.lt)
  have HR8 := Box'.mk (HR6.out.below b78 HR6.out.lt)
  have HB8 : Box' (Below w.heap.size w w8) := ⟨HB6.out.trans (b78.mono HB6.out.size)⟩
  have P8 := Box'.mk (O6.out.below b78)
  have O8 := Box'.mk (o7.below b8)
  have HO18 := Box'.mk (HO16.out.below b78)
  have HO28 := Box'.mk (HO26.out.below b78)
  clear b8 r8 b7 o7 b78 HR6 HB6 HQ6 O6 HO16 HO26
  go_upto_region 5 with (refine wpList_store_row rfl 25 (.tmp 13) (.tmp 37) rfl _ rfl _ rfl 25 4 (Room.new _ _ _ _ rfl) Try.info25 rfl (pt_one _ _ _ _ _ _) ?_)
  rw [← hw8]
  clear hw8
  generalize w7.heap.size = sb at *
  have cp0 : w8.cell? ⟨w.heap.size, 0, none⟩ = some (.int .u64 (p.id : Int)) := by rw [HR8.out.cell]; rfl
  have SP := split_any w.heap.size w8 (.slice ab bl cb) b p.id z HB8.out.size (HBD.out.below HB8.out (Nat.le_refl _)) (by rw [HBL.out]; exact HBN.out) HZ.out
  have RS := Box'.mk (fun (w1 : World) (h : Below w.heap.size w w1) => refSplit_any w.heap.size w1 (.slice ab bl cb) b p.id z h.size (HBD.out.below h (Nat.le_refl _)) (by rw [HBL.out]; exact HBN.out) HZ.out)
  have HSL := Box'.mk (spR_len p.id z b)
  generalize spR p.id z b = SR at *
  obtain ⟨ls, es⟩ := SR
  go_wp2_with fail
  refine SP.mono ?_
  rintro e9 w9 ⟨u9, qs, rfl, q9, hqs, b9⟩
  clear SP cp0
  have HQ9 := Box'.mk (HQ8.out.below b9 HQ8.out.lt)
  have HS9 := Box'.mk (HS8.out.below b9 HS8.out.lt)
  have HR9 := Box'.mk (HR8.out.below b9 HR8.out.lt)
  have HB9 : Box' (Below w.heap.size w w9) := ⟨HB8.out.trans (b9.mono HB8.out.size)⟩
  have P9 := Box'.mk (P8.out.below b9)
  have O9 := Box'.mk (O8.out.below b9)
  have HO19 := Box'.mk (HO18.out.below b9)
  have HO29 := Box'.mk (HO28.out.below b9)
  have L9 := Box'.mk q9
  have HQS := Box'.mk hqs
  simp only at HQS HSL ⊢
  clear b9 q9 hqs HQ8 HS8 HR8 HB8 P8 O8 HO18 HO28
  obtain ⟨a9, c9, hu9⟩ := L9.out.slice
  subst hu9
  have cp0 : w9.cell? ⟨w.heap.size, 0, none⟩ = some (.int .u64 (p.id : Int)) := by rw [HR9.out.cell]; rfl
  generalize hl9 : qs.length = l9 at *
  have HL9 := Box'.mk hl9
  clear hl9
  go_wp2_with fail
  refine (RS.out w9 HB9.out).mono ?_
  rintro e10 w10 ⟨u10, rs, rfl, q10, hrs, b10⟩
  clear RS cp0
  have HQ10 := Box'.mk (HQ9.out.below b10 HQ9.out.lt)
  have HS10 := Box'.mk (HS9.out.below b10 HS9.out.lt)
  have HB10 : Box' (Below w.heap.size w w10) := ⟨HB9.out.trans (b10.mono HB9.out.size)⟩
  have P10 := Box'.mk (P9.out.below b10)
  have O10 := Box'.mk (O9.out.below b10)
  have SM := refSame_any _ _ _ _ _ _ w10 (HO19.out.below b10).bts (HO29.out.below b10).bts
  have L10 := Box'.mk (L9.out.below b10)
  have M10 := Box'.mk q10
  have HEQ : Box' (qs.map (·.1) = rs.map (·.1)) := ⟨by rw [HQS.out]; exact hrs.symm⟩
  have HLQ : Box' (qs.length ≤ 300000) := ⟨by have h1 := congrArg List.length HQS.out; rw [List.length_map] at h1; have := HSL.out; omega⟩
  simp only [decide_true] at SM ⊢
  clear b10 q10 hrs HQ9 HS9 HR9 HB9 P9 O9 HO19 HO29 L9
  obtain ⟨a10, c10, hu10⟩ := M10.out.slice
  subst hu10
  have HSA := Box'.mk (fun (w1 : World) (h : Below w10.heap.size w10 w1) => sameQ_any _ _ w1 _ _ qs rs (L10.out.below h) (M10.out.below h) HEQ.out HLQ.out)
  generalize hlr : rs.length = lr at *
  clear hlr
  go_wp2_with fail
  refine SM.mono ?_
  rintro e11 w11 ⟨rfl, hww⟩
  rw [hww]
  clear SM hww w11
  obtain ⟨lp0, lp1, lp2, lp3⟩ := ld25 HQ10.out
  obtain ⟨lq0, lq1, lq2, lq3⟩ := ld25 HS10.out
  have ONE := one_any w10 q q (.slice a5 q.d.length c5) (.slice a7 q.d.length c7) _ _ P10.out.bts O10.out.bts (fun b hb => hb) (fun b hb => hb)
  rw [oneN_iff.2 rfl] at ONE
  unfold pv at ONE
  generalize hqd : q.d.length = qd at *
  clear hqd
  go_wp2_with fail
  refine ONE.mono ?_
  rintro e12 w12 ⟨rfl, b12⟩
  clear ONE lp0 lp1 lp2 lp3 lq0 lq1 lq2 lq3
  have HB12 : Box' (Below w.heap.size w w12) := ⟨HB10.out.trans (b12.mono HB10.out.size)⟩
  have SA := HSA.out w12 b12
  clear b12 HSA P10 O10 HQ10 HS10 HB10 L10 M10
  go_wp2_with fail
  refine SA.mono ?_
  rintro e13 w13 ⟨rfl, b13⟩
  have HB13 : Box' (Below w.heap.size w w13) := ⟨HB12.out.trans (b13.mono HB12.out.size)⟩
  clear SA b13 HB12
  go_wp2_with fail
  refine (AN.out w13).mono ?_
  rintro e14 w14 ⟨rfl, b14⟩
  have HB14 : Box' (Below w.heap.size w w14) := ⟨HB13.out.trans (b14.mono HB13.out.size)⟩
  clear b14 HB13 AN
  go_wp2_with fail
  go_ret
  exact ⟨rfl, HB14.out⟩
end Go.Proofs.Ythmcmdojnnbefaa
