/- The walk of counts. -/
import Derived.Test.YtcjfaahlchbcmaaK18
namespace Go.Proofs.Ytcjfaahlchbcmaa
open Go.RowKit Go.BigFrame
set_option linter.unusedVariables false
set_option linter.unusedSimpArgs false
def zs (n : Nat) : List Int := List.replicate n 0
theorem zs_len (n : Nat) : (zs n).length = n := List.length_replicate
theorem wp_make_ints {op : Oper} {a : Act} {w : World} {K : Act → World → Prop} {Q : Exit → Act → World → Prop}
    (x y : Operand) (ho : op.op = .makeSlice 63 x y) (L C : Int) (n : Nat) (hx : a.eval x = .int .i64 L) (hy : a.eval y = .int .i64 C) (hL : L = (n : Int)) (hC : C = (n : Int)) (hn : n ≤ 65536)
    (h : K (a.put op.dst (.slice (some ⟨w.heap.size, 0, none⟩) n n)) (w.alloc (.cells (ai (List.replicate n 0)) 3))) : op.wp Try.prog a w K Q := by
  obtain ⟨i, h1, h2, h3, h4⟩ := Try.info3'
  have hrun := run_make (P := Try.prog) w 63 3 i _ Try.underlying63 h1 h2 .i64 .i64 (n : Int) (n : Int) (by omega) (Int.le_refl _) (by rw [h4]; omega) (by omega)
  rw [h3, Int.toNat_natCast, Nat.mul_one, show (Value.int .i64 0).cells = #[.int .i64 0] from rfl, made_ints] at hrun
  subst hL hC
  unfold Oper.wp
  simp only [execOp, ho, hx, hy, Sem.run_bind, hrun, Result.andThen_ok]
  exact h
set_option maxRecDepth 1000000 in
set_option maxHeartbeats 4000000 in
theorem cntReg (u0 u1 u2 u3 u4 u5 u6 u7 u8 u9 u10 u11 u12 u13 u14 u15 u16 u17 u18 u19 u20 u21 u22 u23 u24 u25 u26 u27 u28 u29 u30 u31 u32 u33 u34 u35 u36 u37 u38 u39 u40 u41 u42 u43 u44 u45 u46 u47 u48 u49 u50 u51 u52 u53 u54 u55 u56 u57 : Value) (w : World)  :
    Code.wp Try.prog ((Try.f35.body.bind (regOf' 1)).getD .skip) (fun e a' w' => e = .normal ∧ ∃ v2 v3 v8 v9 : Value, a' = ⟨List.toArray (u0 :: u1 :: v2 :: v3 :: u4 :: u5 :: u6 :: u7 :: v8 :: v9 :: u10 :: u11 :: u12 :: u13 :: u14 :: u15 :: u16 :: u17 :: u18 :: u19 :: u20 :: u21 :: u22 :: u23 :: u24 :: u25 :: u26 :: u27 :: u28 :: u29 :: u30 :: u31 :: u32 :: u33 :: u34 :: u35 :: u36 :: u37 :: u38 :: u39 :: u40 :: u41 :: u42 :: u43 :: u44 :: u45 :: u46 :: u47 :: u48 :: u49 :: u50 :: u51 :: u52 :: u53 :: u54 :: u55 :: u56 :: u57 :: []), []⟩ ∧ ∃ gS gD, v2 = .slice (some ⟨gS, 0, none⟩) 286 286 ∧ v3 = .slice (some ⟨gD, 0, none⟩) 30 30 ∧ w.heap.size ≤ gS ∧ w.heap.size ≤ gD ∧ Row w' gS 3 (ai (zs 286)) ∧ Row w' gD 3 (ai (zs 30)) ∧ Below w.heap.size w w') ⟨List.toArray (u0 :: u1 :: u2 :: u3 :: u4 :: u5 :: u6 :: u7 :: u8 :: u9 :: u10 :: u11 :: u12 :: u13 :: u14 :: u15 :: u16 :: u17 :: u18 :: u19 :: u20 :: u21 :: u22 :: u23 :: u24 :: u25 :: u26 :: u27 :: u28 :: u29 :: u30 :: u31 :: u32 :: u33 :: u34 :: u35 :: u36 :: u37 :: u38 :: u39 :: u40 :: u41 :: u42 :: u43 :: u44 :: u45 :: u46 :: u47 :: u48 :: u49 :: u50 :: u51 :: u52 :: u53 :: u54 :: u55 :: u56 :: u57 :: []), []⟩ w := by
  conv => arg 2; whnf
  refine wp_region_grow 3 (by kernel_rfl) (by kernel_rfl) (fun a b => Below a.heap.size a b) (fun w1 => Below w.heap.size w w1) (fun k w1 v => match k with
      | 0 => ∃ q, v = .slice (some ⟨q, 0, none⟩) 286 286 ∧ w.heap.size ≤ q ∧ Row w1 q 3 (ai (zs 286))
      | 1 => ∃ q, v = .slice (some ⟨q, 0, none⟩) 30 30 ∧ w.heap.size ≤ q ∧ Row w1 q 3 (ai (zs 30))
      | 2 => ∃ q, v = .slice (some ⟨q, 0, none⟩) 286 286 ∧ w.heap.size ≤ q ∧ Row w1 q 3 (ai (zs 286))
      | _ => True) ?_ ?_ ?_ ?_ ?_
  · intro a b' hb hC; exact hC.trans (hb.mono hC.size)
  · intro k v w1 w2 hC1 hb h
    match k, h with
    | 0, h => exact Exists.elim h fun q hq => ⟨q, hq.1, hq.2.1, hq.2.2.below hb hq.2.2.lt⟩
    | 1, h => exact Exists.elim h fun q hq => ⟨q, hq.1, hq.2.1, hq.2.2.below hb hq.2.2.lt⟩
    | 2, h => exact Exists.elim h fun q hq => ⟨q, hq.1, hq.2.1, hq.2.2.below hb hq.2.2.lt⟩
    | k + 3, h => trivial
  · exact (Below.refl _ _).drew
  · refine ⟨?_, ?_, ?_, trivial⟩
    · intro f w1 hC hd KK hK
      clear hd
      simp only [List.take_succ_cons, List.take_zero, setAll, List.setIfInBounds_toArray, List.set_cons_succ, List.set_cons_zero, Nat.zero_add, Nat.reduceAdd] at hK ⊢
      refine wp_make_ints _ _ rfl 286 286 286 rfl rfl rfl rfl (by decide) ?_
      exact hK _ _ ⟨_, rfl, hC.size, Row.new _ _ _⟩ ((Below.refl _ _).alloc (Nat.le_refl _) _)
    · intro f w1 hC hd KK hK
      clear hd
      simp only [List.take_succ_cons, List.take_zero, setAll, List.setIfInBounds_toArray, List.set_cons_succ, List.set_cons_zero, Nat.zero_add, Nat.reduceAdd] at hK ⊢
      refine wp_make_ints _ _ rfl 30 30 30 rfl rfl rfl rfl (by decide) ?_
      exact hK _ _ ⟨_, rfl, hC.size, Row.new _ _ _⟩ ((Below.refl _ _).alloc (Nat.le_refl _) _)
    · intro f w1 hC hd KK hK
      have x0 : ∃ q, (f 0) = .slice (some ⟨q, 0, none⟩) 286 286 ∧ w.heap.size ≤ q ∧ Row w1 q 3 (ai (zs 286)) := hd 0 (by kernel_rfl)
      clear hd
      cases x0 with | intro u0 y00 =>
      have g0 := y00.1
      have z00 := y00.2
      clear y00
      have p0 := z00.1
      have z01 := z00.2
      clear z00
      have q0 := z01
      clear z01
      simp only [List.take_succ_cons, List.take_zero, setAll, List.setIfInBounds_toArray, List.set_cons_succ, List.set_cons_zero, Nat.zero_add, Nat.reduceAdd, g0] at hK ⊢
      refine wp_of_quiet rfl ?_
      go_big_quiet_step (fail)
      exact wpQuiet_nil (hK _ _ ⟨u0, rfl, p0, q0⟩ (Below.refl _ _))
  · intro f w1 hC hv
    have x0 : ∃ q, (f 0) = .slice (some ⟨q, 0, none⟩) 286 286 ∧ w.heap.size ≤ q ∧ Row w1 q 3 (ai (zs 286)) := hv 0 (by decide)
    have x1 : ∃ q, (f 1) = .slice (some ⟨q, 0, none⟩) 30 30 ∧ w.heap.size ≤ q ∧ Row w1 q 3 (ai (zs 30)) := hv 1 (by decide)
    have x2 : ∃ q, (f 2) = .slice (some ⟨q, 0, none⟩) 286 286 ∧ w.heap.size ≤ q ∧ Row w1 q 3 (ai (zs 286)) := hv 2 (by decide)
    cases x0 with | intro u0 y00 =>
    have g0 := y00.1
    have z00 := y00.2
    clear y00
    have p0 := z00.1
    have z01 := z00.2
    clear z00
    have q0 := z01
    clear z01
    cases x1 with | intro u1 y10 =>
    have g1 := y10.1
    have z10 := y10.2
    clear y10
    have p1 := z10.1
    have z11 := z10.2
    clear z10
    have q1 := z11
    clear z11
    cases x2 with | intro u2 y20 =>
    have g2 := y20.1
    have z20 := y20.2
    clear y20
    have p2 := z20.1
    have z21 := z20.2
    clear z20
    have q2 := z21
    clear z21
    simp only [List.take_succ_cons, List.take_zero, List.drop_succ_cons, List.drop_zero, setAll, List.setIfInBounds_toArray, List.set_cons_succ, List.set_cons_zero, Nat.zero_add, Nat.reduceAdd, g0, g1, g2]
    clear g0 g1 g2 hv
    have hC1 := hC
    go_wp2_with fail
    exact ⟨_, _, ⟨rfl, rfl⟩, u2, rfl, u1, rfl, p2, p1, q2, q1⟩
theorem SegI.setOther {w : World} {g : Nat} {l : List Int} (h : SegI w g l) (q k : Nat) (x : Value) (hg : g ≠ q) : SegI (w.setCell ⟨q, k, none⟩ x) g l := h.same (Below.heap_setCell _ _ _ _ hg)
set_option maxRecDepth 100000 in
set_option maxHeartbeats 8000000 in
theorem counts_is (w : World) (vT : Value) (T : List Tok) (hT : T.length ≤ 65536) (hok : ∀ t ∈ T, TokOk t) (h : Toks w.heap.size w vT T) :
    Calls Try.prog 35 #[vT] w fun e w' => ∃ gS gD, e = .returned (.tuple #[.slice (some ⟨gS, 0, none⟩) 286 286, .slice (some ⟨gD, 0, none⟩) 30 30]) ∧ w.heap.size ≤ gS ∧ w.heap.size ≤ gD ∧ gS ≠ gD ∧ SegI w' gS (cntF T).1 ∧ SegI w' gD (cntF T).2 ∧ Below w.heap.size w w' := by
  obtain ⟨ta, tcap, rfl, htc, h3⟩ := h
  have H3 : Box' (∀ k, k < T.length → ∃ b o, ta = some ⟨b, o, none⟩ ∧ b < w.heap.size ∧ w.cell? ⟨b, o + k * 3, none⟩ = some (.int .u8 ((T.getD k (0, 0, 0)).1.toNat : Int)) ∧ w.cell? ⟨b, o + k * 3 + 1, none⟩ = some (.int .i64 (T.getD k (0, 0, 0)).2.1) ∧ w.cell? ⟨b, o + k * 3 + 2, none⟩ = some (.int .i64 (T.getD k (0, 0, 0)).2.2)) := ⟨fun k hk => by
    rcases h3 with rfl | ⟨b, o, e, hb, hc⟩
    · simp at hk
    · exact ⟨b, o, e, hb, hc k hk⟩⟩
  have HOK := Box'.mk (fun k (hk : k < T.length) => hok (T.getD k (0, 0, 0)) (by rw [List.getD_eq_getElem?_getD, List.getElem?_eq_getElem hk]; exact List.getElem_mem hk))
  have HSN := Box'.mk (fun k (hk : k < T.length) => (by rw [List.take_succ_eq_append_getElem hk, cntS_snoc, List.getD_eq_getElem?_getD, List.getElem?_eq_getElem hk]; rfl : cntS (T.take (k + 1)) = cnt1 (cntS (T.take k)) (T.getD k (0, 0, 0))))
  have HLN := Box'.mk (fun k => cntS_len (T.take k))
  have HBD := Box'.mk (fun k => cntS_bd (T.take k))
  have HALL : Box' (cntS (T.take T.length) = cntS T) := ⟨by rw [List.take_of_length_le (Nat.le_refl _)]⟩
  have HLE := Box'.mk (fun k => (by rw [List.length_take]; omega : (T.take k).length ≤ T.length))
  have HFN : Box' (cntF T = (inc (cntS T).1 256, (cntS T).2)) := ⟨rfl⟩
  obtain ⟨n, hn⟩ : ∃ n, T.length = n := ⟨_, rfl⟩
  rw [hn] at H3 HOK HSN HALL HLE htc hT ⊢
  clear h3 hok hn
  go_enter Try.func35, Try.ntmps35
  go_upto_region 1 with (fail)
  refine wp_mono (cntReg _ _ _ _ _ _ _ _ _ _ _ _ _ _ _ _ _ _ _ _ _ _ _ _ _ _ _ _ _ _ _ _ _ _ _ _ _ _ _ _ _ _ _ _ _ _ _ _ _ _ _ _ _ _ _ _ _ _ w) ?_
  rintro e a' w1 ⟨rfl, v2, v3, v8, v9, rfl, gS, gD, rfl, rfl, hgS, hgD, rS, rD, b1⟩
  have hne : gS ≠ gD := fun e => by
    subst e
    unfold Row at rS rD
    rw [rS] at rD
    simp only [Option.some.injEq, Obj.cells.injEq] at rD
    have := congrArg Array.size rD.1
    simp [ai, zs_len] at this
  have S0 : Box' (SegI w1 gS (cntS (T.take 0)).1) := ⟨rS.seg⟩
  have D0 : Box' (SegI w1 gD (cntS (T.take 0)).2) := ⟨rD.seg⟩
  have B0 := Box'.mk b1
  clear rS rD b1
  go_wp2_with fail
  go_loopw [12] (fun i wr => ∃ k : Nat, k ≤ n ∧ i = .int .i64 (k : Int) ∧ Box' (SegI wr gS (cntS (T.take k)).1) ∧ Box' (SegI wr gD (cntS (T.take k)).2) ∧ Box' (Below w.heap.size w wr)) (fun i _ => n - (intOf i).toNat)
  case atStart => exact ⟨0, Nat.zero_le _, rfl, S0, D0, B0⟩
  case round =>
    clear S0 D0 B0
    obtain ⟨k, hk, rfl, HS, HD, HB⟩ := hrel
    have hlS := (HLN.out k).1
    have hlD := (HLN.out k).2
    have hle := HLE.out k
    by_cases hlt : k < n
    · obtain ⟨b, o, rfl, hbN, c0, c1, c2⟩ := H3.out k hlt
      rw [← HB.out.cell (p := ⟨b, o + k * 3, none⟩) hbN] at c0
      rw [← HB.out.cell (p := ⟨b, o + k * 3 + 1, none⟩) hbN] at c1
      rw [← HB.out.cell (p := ⟨b, o + k * 3 + 2, none⟩) hbN] at c2
      have hok := HOK.out k hlt
      have hsn := HSN.out k hlt
      have hbd := HBD.out k
      generalize T.getD k (0, 0, 0) = tk at *
      obtain ⟨tb, tl_, td⟩ := tk
      simp only at c0 c1 c2
      obtain ⟨w2, hw2⟩ : ∃ w2, wr.alloc (.cells #[.int .u8 (tb.toNat : Int), .int .i64 tl_, .int .i64 td] 44) = w2 := ⟨_, rfl⟩
      have b2 : Below wr.heap.size wr w2 := by rw [← hw2]; exact (Below.refl _ _).alloc (Nat.le_refl _) _
      have r2 : Row w2 wr.heap.size 44 #[.int .u8 (tb.toNat : Int), .int .i64 tl_, .int .i64 td] := by rw [← hw2]; exact Row.new _ _ _
      have S2 := Box'.mk (HS.out.below b2)
      have D2 := Box'.mk (HD.out.below b2)
      have B2 := Box'.mk (HB.out.trans (b2.mono HB.out.size))
      have HW2 := Box'.mk hw2
      have HSNk := Box'.mk hsn
      have R2 := Box'.mk r2
      clear hw2 b2 hsn r2 HS HD HB
      generalize hSS : (cntS (T.take k)).1 = SS at *
      generalize hDD : (cntS (T.take k)).2 = DD at *
      have HSD : Box' (cntS (T.take k) = (SS, DD)) := ⟨by rw [← hSS, ← hDD]⟩
      clear hSS hDD
      rw [HSD.out] at HSNk
      have d0 : w2.cell? ⟨wr.heap.size, 0, none⟩ = some (.int .u8 (tb.toNat : Int)) := R2.out.cell 0
      have d1 : w2.cell? ⟨wr.heap.size, 1, none⟩ = some (.int .i64 tl_) := R2.out.cell 1
      have d2 : w2.cell? ⟨wr.heap.size, 2, none⟩ = some (.int .i64 td) := R2.out.cell 2
      go_upto_region 5 with (fail)
      rw [HW2.out]
      clear HW2 c0 c1 c2
      rcases hok with ⟨h0, _⟩ | ⟨h0, h1, h2, h4, h5⟩
      · have h0 : tl_ = 0 := h0
        subst h0
        have e1 : cnt1 (SS, DD) (tb, 0, td) = (inc SS tb.toNat, DD) := if_pos rfl
        rw [e1] at HSNk
        have ht : tb.toNat < 286 := by have := tb.toNat_lt; omega
        have hv := hbd.1 tb.toNat
        have cS := S2.out.cell (k := tb.toNat) (by omega)
        have fS := S2.out.frozen tb.toNat
        have j1 : (0 : Int) ≤ (tb.toNat : Int) := by omega
        have j2 : (tb.toNat : Int) < 286 := by omega
        have S3 : Box' (SegI (w2.setCell ⟨gS, tb.toNat, none⟩ (.int .i64 (SS.getD tb.toNat 0 + 1))) gS (inc SS tb.toNat)) := ⟨S2.out.set tb.toNat (SS.getD tb.toNat 0 + 1) (by omega)⟩
        have D3 := Box'.mk (D2.out.setOther gS tb.toNat (.int .i64 (SS.getD tb.toNat 0 + 1)) (Ne.symm hne))
        have B3 := Box'.mk (B2.out.setCell (p := ⟨gS, tb.toNat, none⟩) hgS (.int .i64 (SS.getD tb.toNat 0 + 1)))
        clear hbd
        generalize SS.getD tb.toNat 0 = X at *
        generalize hq : tb.toNat = q at *
        go_wp2_with fail
        go_roundw
        case rel =>
          refine ⟨k + 1, by omega, by go_num, ⟨?_⟩, ⟨?_⟩, B3⟩
          · rw [HSNk.out]; exact S3.out
          · rw [HSNk.out]; exact D3.out
        case measure => simp [intOf]; omega
      · obtain ⟨Ln, rfl⟩ : ∃ Ln : Nat, tl_ = (Ln : Int) := ⟨tl_.toNat, by show tl_ = _; have : 3 ≤ tl_ := h1; omega⟩
        obtain ⟨Dn, rfl⟩ : ∃ Dn : Nat, td = (Dn : Int) := ⟨td.toNat, by have : 1 ≤ td := h4; omega⟩
        have h1 : (3 : Int) ≤ (Ln : Int) := h1
        have h2 : (Ln : Int) ≤ 258 := h2
        have h4 : (1 : Int) ≤ (Dn : Int) := h4
        have h5 : (Dn : Int) ≤ 32768 := h5
        have e1 : cnt1 (SS, DD) (tb, (Ln : Int), (Dn : Int)) = (inc SS (lenS Ln).1, inc DD (nthF 2 (Dn - 1)).1) := by
          unfold cnt1
          rw [if_neg (by show ¬ (Ln : Int) = 0; omega)]
          rfl
        rw [e1] at HSNk
        have hS1 := lenS_lt (d := Ln) (by omega) (by omega)
        have hD1 := nth2_lt (d := Dn - 1) (by omega)
        have LS := Box'.mk (fun w => lengthSymbol_any Ln (by omega) (by omega) w)
        have DS := Box'.mk (fun w => distanceSymbol_any Dn (by omega) (by omega) w)
        have hLz : ((Ln : Int) == 0) = false := by rw [beq_eq_false_iff_ne]; omega
        generalize lenS Ln = LL at *
        generalize nthF 2 (Dn - 1) = NN at *
        obtain ⟨s1, x1, z1⟩ := LL
        obtain ⟨s2, x2, z2⟩ := NN
        simp only at hS1 hD1 HSNk LS DS
        have hvS := hbd.1 s1
        have hvD := hbd.2 s2
        clear hbd e1 h0
        go_wp2_with fail
        refine (LS.out _).mono ?_
        rintro e w3 ⟨rfl, b3⟩
        obtain ⟨w4, hw4⟩ : ∃ w4, w3.alloc (.cells #[.int .u64 (x1 : Int), .int .i64 (z1 : Int)] 73) = w4 := ⟨_, rfl⟩
        have b4 : Below w3.heap.size w3 w4 := by rw [← hw4]; exact (Below.refl _ _).alloc (Nat.le_refl _) _
        have HW4 := Box'.mk hw4
        have S4 := Box'.mk ((S2.out.below b3).below b4)
        have D4 := Box'.mk ((D2.out.below b3).below b4)
        have hB3 := B2.out.trans (b3.mono B2.out.size)
        have B4 := Box'.mk (hB3.trans (b4.mono hB3.size))
        have R4 := Box'.mk ((R2.out.below b3 R2.out.lt).below b4 (R2.out.below b3 R2.out.lt).lt)
        clear LS S2 D2 B2 R2 d0 d1 d2 hw4 b3 b4 hB3
        go_upto_region 8 with (fail)
        rw [HW4.out]
        clear HW4
        have cS : w4.cell? ⟨gS, s1, none⟩ = some (.int .i64 (SS.getD s1 0)) := S4.out.cell (k := s1) (by omega)
        have fS := S4.out.frozen s1
        have j1 : (0 : Int) ≤ (s1 : Int) := by omega
        have j2 : (s1 : Int) < 286 := by omega
        have S5 : Box' (SegI (w4.setCell ⟨gS, s1, none⟩ (.int .i64 (SS.getD s1 0 + 1))) gS (inc SS s1)) := ⟨S4.out.set s1 (SS.getD s1 0 + 1) (by omega)⟩
        have D5 := Box'.mk (D4.out.setOther gS s1 (.int .i64 (SS.getD s1 0 + 1)) (Ne.symm hne))
        have B5 := Box'.mk (B4.out.setCell (p := ⟨gS, s1, none⟩) hgS (.int .i64 (SS.getD s1 0 + 1)))
        have hR4 : wr.heap.size ≠ gS := fun e => by subst e; obtain ⟨cur, hc, _⟩ := S4.out; exact row_type_ne R4.out hc (by decide)
        have R5 := Box'.mk (R4.out.setOther ⟨gS, s1, none⟩ (.int .i64 (SS.getD s1 0 + 1)) hR4)
        obtain ⟨w5, hw5⟩ : ∃ w5, w4.setCell ⟨gS, s1, none⟩ (.int .i64 (SS.getD s1 0 + 1)) = w5 := ⟨_, rfl⟩
        rw [hw5] at S5 D5 B5 R5
        have HW5 := Box'.mk hw5
        clear hw5 S4 D4 B4 R4 hR4
        generalize SS.getD s1 0 = X1 at *
        go_upto_region 9 with (fail)
        rw [HW5.out]
        clear HW5 cS fS
        have d2 : w5.cell? ⟨wr.heap.size, 2, none⟩ = some (.int .i64 (Dn : Int)) := R5.out.cell 2
        go_wp2_with fail
        refine (DS.out _).mono ?_
        rintro e w6 ⟨rfl, b6⟩
        have S6 := Box'.mk (S5.out.below b6)
        have D6 := Box'.mk (D5.out.below b6)
        have B6 := Box'.mk (B5.out.trans (b6.mono B5.out.size))
        clear DS S5 D5 B5 R5 d2 b6
        have cD : w6.cell? ⟨gD, s2, none⟩ = some (.int .i64 (DD.getD s2 0)) := D6.out.cell (k := s2) (by omega)
        have fD := D6.out.frozen s2
        have i1 : (0 : Int) ≤ (s2 : Int) := by omega
        have i2 : (s2 : Int) < 30 := by omega
        have D7 : Box' (SegI (w6.setCell ⟨gD, s2, none⟩ (.int .i64 (DD.getD s2 0 + 1))) gD (inc DD s2)) := ⟨D6.out.set s2 (DD.getD s2 0 + 1) (by omega)⟩
        have S7 := Box'.mk (S6.out.setOther gD s2 (.int .i64 (DD.getD s2 0 + 1)) hne)
        have B7 := Box'.mk (B6.out.setCell (p := ⟨gD, s2, none⟩) hgD (.int .i64 (DD.getD s2 0 + 1)))
        generalize DD.getD s2 0 = X2 at *
        clear S6 D6 B6
        go_wp2_with fail
        go_roundw
        case rel =>
          refine ⟨k + 1, by omega, by go_num, ⟨?_⟩, ⟨?_⟩, B7⟩
          · rw [HSNk.out]; exact S7.out
          · rw [HSNk.out]; exact D7.out
        case measure => simp [intOf]; omega
    · obtain rfl : k = n := by omega
      rw [HALL.out] at HS HD hlS hlD
      have hbd := HBD.out k
      rw [HALL.out] at hbd
      have cS : wr.cell? ⟨gS, 256, none⟩ = some (.int .i64 ((cntS T).1.getD 256 0)) := HS.out.cell (k := 256) (by omega)
      have fS := HS.out.frozen 256
      have S5 : Box' (SegI (wr.setCell ⟨gS, 256, none⟩ (.int .i64 ((cntS T).1.getD 256 0 + 1))) gS (cntF T).1) := ⟨HS.out.set 256 ((cntS T).1.getD 256 0 + 1) (by omega)⟩
      have D5 : Box' (SegI (wr.setCell ⟨gS, 256, none⟩ (.int .i64 ((cntS T).1.getD 256 0 + 1))) gD (cntF T).2) := ⟨HD.out.setOther gS 256 (.int .i64 ((cntS T).1.getD 256 0 + 1)) (Ne.symm hne)⟩
      have B5 := Box'.mk (HB.out.setCell (p := ⟨gS, 256, none⟩) hgS (.int .i64 ((cntS T).1.getD 256 0 + 1)))
      have hv := hbd.1 256
      clear hbd HS HD HB
      generalize (cntS T).1.getD 256 0 = X1 at *
      go_wp2_with fail
      go_ret2
      exact ⟨gS, gD, rfl, hgS, hgD, hne, S5.out, D5.out, B5.out⟩
end Go.Proofs.Ytcjfaahlchbcmaa
