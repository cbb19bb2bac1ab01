/- The walk of KeysSafe. -/
import Derived.Test.YtepepoabbbjmgaaKj
namespace Go.Proofs.Ytepepoabbbjmgaa
open Go.RowKit Go.BigFrame
set_option linter.unusedSimpArgs false
set_option linter.unusedVariables false

theorem encF_paste {x : Ev} (h : x.kind.toNat = 3) : encF x false true = mkA ++ clean x.byt ++ mkZ := by
  unfold encF
  rw [if_neg (by omega), if_pos h, if_pos rfl]
set_option maxRecDepth 100000 in
set_option maxHeartbeats 8000000 in
theorem safe_walk (HE : EncC 6) (HA : AllC 12) (w : World) (s : Sc.Sn) (vg vt vm vl v : Value) (l : List Ev) (m : UInt8) (hl : l.length ≤ 1048576) (li : Sc.Li w.heap.size w s vg vt vm vl) (bo : Sc.Bo s) (h : Evs w.heap.size w v l) :
    Calls Try.prog 5 #[.agg (Sc.snA s vg vt vm vl), v, .int .u8 (m.toNat : Int)] w fun e w' => e = .returned (.bool true) ∧ Below w.heap.size w w' := by
  obtain ⟨w0, hw0⟩ : ∃ w0, w0 = w.alloc (.cells (Sc.snA s vg vt vm vl) 47) := ⟨_, rfl⟩
  have b0 : Below w.heap.size w w0 := by rw [hw0]; exact (Below.refl _ _).alloc (Nat.le_refl _) _
  have z0 : w0.heap.size = w.heap.size + 1 := by rw [hw0]; simp
  have r0 : Row w0 w.heap.size 47 (Sc.snA s vg vt vm vl) := by rw [hw0]; exact Row.new _ _ _
  have AC : Box' (∀ v l, l.length ≤ 1048576 → Evs w.heap.size w v l → ∀ w1, Below w0.heap.size w0 w1 → Calls Try.prog 12 #[.agg (Sc.snA s vg vt vm vl), v] w1 fun e w' => ∃ vv, e = .returned vv ∧ (∃ u, vv = .tuple #[u, .int .i64 (allS s l).2] ∧ OwnB w1.heap.size w' u (allS s l).1) ∧ Below w1.heap.size w1 w') := ⟨fun v l hl h w1 b1 => by
    have b2 := b0.trans (b1.mono b0.size)
    exact (HA w1 s vg vt vm vl v l hl (li.at b2) bo ((h.below b2 (Nat.le_refl _)).up b2.size)).mono fun e w' ⟨u, q1, q2, q3⟩ => ⟨_, q1, ⟨u, rfl, q2⟩, q3⟩⟩
  have EN : Box' (∀ vb (x : Ev), InE w.heap.size w vb x.byt → ∀ w1, Below w0.heap.size w0 w1 → Calls Try.prog 6 #[x.val vb, .bool false, .bool true] w1 fun e w' => ∃ u, e = .returned (.tuple #[u, .int .i64 (ansF x false true).2]) ∧ InB w'.heap.size w' u (ansF x false true).1 ∧ Below w1.heap.size w1 w') := ⟨fun vb x hi w1 b1 => by
    have b2 := b0.trans (b1.mono b0.size)
    exact HE w.heap.size w1 vb x false true b2.size (hi.below b2 (Nat.le_refl _))⟩
  have SM : Box' (∀ w0 v1 v2 l, InB w0.heap.size w0 v1 l → InB w0.heap.size w0 v2 l → Calls Try.prog 8 #[v1, v2] w0 fun e w' => e = .returned (.bool true) ∧ w' = w0) := ⟨fun w0 v1 v2 l h1 h2 => (refSame_any _ _ v1 v2 l l w0 h1.bts h2.bts).mono fun e w' hh => ⟨by rw [hh.1]; simp, hh.2⟩⟩
  have AN := Box'.mk (anch_any HE)
  have RW : Box' (∀ w1, Below w0.heap.size w0 w1 → Row w1 w.heap.size 47 (Sc.snA s vg vt vm vl)) := ⟨fun w1 b => r0.below b r0.lt⟩
  have R0 : Box' (∀ w1, Below w0.heap.size w0 w1 → Below w.heap.size w w1) := ⟨fun w1 b => b0.trans (b.mono b0.size)⟩
  have Z0 := Box'.mk z0
  have S0 : Box' ((Sc.snA s vg vt vm vl).size = 44) := ⟨rfl⟩
  have HH := Box'.mk h
  obtain ⟨a, c, rfl, hc⟩ := h.cap
  have HL := Box'.mk hl
  clear li bo r0 b0 z0 h HE HA hl
  generalize Sc.snA s vg vt vm vl = SN at *
  generalize hn : l.length = n at *
  have HN := Box'.mk hn
  clear hn
  have BS : Box' (Below w0.heap.size w0 w0) := ⟨Below.refl _ _⟩
  go_enter Try.func5, Try.ntmps5
  go_wp2_with fail
  rw [← hw0]
  clear hw0
  go_loopw [7] (fun i wr => ∃ k : Nat, i = .int .i64 (k : Int) ∧ k ≤ n ∧ Box' (Below w0.heap.size w0 wr)) (fun i _ => n - (intOf i).toNat)
  case atStart => exact ⟨0, rfl, Nat.zero_le _, BS⟩
  case round =>
    clear BS
    obtain ⟨k, rfl, hk, BB⟩ := hrel
    by_cases hlt : k < n
    · have hb := HL.out
      clear AC SM AN RW S0 HL
      obtain ⟨a', c', e, _, H3⟩ := HH.out
      obtain ⟨b, o, ha, hbN, vb, q1, q2, q3, q4, q5, q6⟩ := H3 k (by have := HN.out; omega)
      injection e with e1 e3 e2
      clear e3
      subst e2
      rw [ha] at e1
      subst e1
      have CE : ∀ q, wr.cell? ⟨b, q, Option.none⟩ = w.cell? ⟨b, q, Option.none⟩ := fun q => (R0.out wr BB.out).cell (p := ⟨b, q, Option.none⟩) hbN
      rw [← CE] at q1 q2 q3 q4 q5
      have en := EN.out vb _ q6 wr BB.out
      have PS := Box'.mk (fun h : (l.getD k Ev.none).kind.toNat = 3 => encF_paste h)
      have AF := Box'.mk (ansF.eq_1 (l.getD k Ev.none) false true)
      have SF := Box'.mk (paste_safe (l.getD k Ev.none).byt)
      have ML := Box'.mk (may_len (x := l.getD k Ev.none))
      have CN := Box'.mk (clean_len (l.getD k Ev.none).byt)
      obtain ⟨ax, cx, rfl, _⟩ := q6.slice
      clear EN H3 HH HN CE R0 q6 Z0
      unfold Ev.val at en
      generalize l.getD k Ev.none = x at *
      generalize ansF x false true = X at *
      generalize encF x false true = E at *
      generalize x.may = mm at *
      obtain ⟨xk, xl, xc, xr, xa⟩ := x
      simp only at en q1 q2 q3 q4 q5 PS SF ML CN
      generalize xl.length = xn at *
      by_cases h3 : xk.toNat = 3
      · have g3 : ((xk.toNat : Int) == 3) = true := by rw [beq_iff_eq]; omega
        have g4 : ((xk.toNat : Int) != 3) = false := by rw [bne_eq_false_iff_eq]; omega
        have pe := Box'.mk (PS.out h3)
        clear PS h3
        go_wp2_with fail
        refine en.mono ?_
        rintro e w1 ⟨u, rfl, iu, b1⟩
        have B1 := Box'.mk (BB.out.trans (b1.mono BB.out.size))
        clear en q1 q2 q3 q4 q5 b1 BB
        cases mm with
        | false =>
          have hX : X.2 = 2 := by rw [AF.out]; rfl
          rw [hX]
          clear hX AF SF pe iu ML CN
          go_wp2_with fail
          exact ⟨⟨k + 1, by go_num, by omega, B1⟩, by simp [intOf]; omega⟩
        | true =>
          have hX : X.2 = 0 := by rw [AF.out]; rfl
          have hX1 : X.1 = mkA ++ clean xl ++ mkZ := by rw [AF.out]; exact pe.out
          rw [hX1] at iu
          rw [hX]
          have sf := SF.out
          have len : 12 ≤ (mkA ++ clean xl ++ mkZ).length ∧ (mkA ++ clean xl ++ mkZ).length ≤ 140737488355328 := by
            have m1 := ML.out rfl
            have m2 := CN.out
            have e6 : mkA.length = 6 ∧ mkZ.length = 6 := ⟨rfl, rfl⟩
            rw [List.length_append, List.length_append, e6.1, e6.2]
            omega
          clear hX hX1 AF SF pe ML CN
          generalize mkA ++ clean xl ++ mkZ = P at *
          obtain ⟨ub, uo, uc, rfl, _, cu⟩ := iu.cell (k := 0) (by omega)
          have SG : Box' (∀ j, 1 ≤ j → j + 6 < P.length → ((P.getD j 0).toNat : Int) ≠ 27) := ⟨fun j h1 h2 e => sf j h1 h2 (UInt8.toNat_inj.1 (by simpa using (show (P.getD j 0).toNat = 27 by omega)))⟩
          have CU := Box'.mk cu
          obtain ⟨len1, len2⟩ := len
          clear sf cu iu
          generalize P.length = pn at *
          go_wp2_with fail
          go_loopw [10] (fun j wy => ∃ q : Nat, j = .int .i64 (q : Int) ∧ 1 ≤ q ∧ q + 6 ≤ pn ∧ wy = w1) (fun j _ => pn - (intOf j).toNat)
          case atStart => exact ⟨1, rfl, by omega, by omega, by first | rfl | trivial⟩
          case round =>
            obtain ⟨q, rfl, hq1, hq2, rfl⟩ := hrel
            by_cases hq : q + 6 < pn
            · have cq := CU.out q (by omega)
              have sg := SG.out q hq1 hq
              have sg2 : (((P.getD q 0).toNat : Int) == 27) = false := by rw [beq_eq_false_iff_ne]; exact sg
              clear CU SG sg
              generalize (P.getD q 0).toNat = y at *
              have hq7 : (q : Int) < (pn : Int) - 6 := by omega
              go_wp2_with fail
              exact ⟨⟨q + 1, by go_num, by omega, by omega, by first | rfl | trivial⟩, by simp [intOf]; omega⟩
            · have hq7 : ¬ ((q : Int) < (pn : Int) - 6) := by omega
              clear CU SG
              go_wp2_with fail
              exact ⟨⟨k + 1, by go_num, by omega, B1⟩, by simp [intOf]; omega⟩
      · have g3 : ((xk.toNat : Int) == 3) = false := by rw [beq_eq_false_iff_ne]; omega
        have g4 : ((xk.toNat : Int) != 3) = true := by rw [bne_iff_ne]; omega
        clear PS en AF SF h3 ML CN
        go_wp2_with fail
        exact ⟨⟨k + 1, by go_num, by omega, BB⟩, by simp [intOf]; omega⟩
    · obtain rfl : k = n := by omega
      clear EN
      have hb := HL.out
      have hrem : (m.toNat : Int) % ((k : Int) + 1) = ((m.toNat % (k + 1) : Nat) : Int) := by
        rw [Int.natCast_emod]; rfl
      have hkk : m.toNat % (k + 1) ≤ k := Nat.lt_succ_iff.1 (Nat.mod_lt _ (Nat.succ_pos _))
      generalize m.toNat % (k + 1) = kk at *
      have hm := m.toNat_lt
      have hr := RW.out wr BB.out
      have F1 : Evs w.heap.size w (.slice a kk kk) (l.take kk) := HH.out.front (by have := HN.out; omega)
      have F2 : Evs w.heap.size w (.slice (backE a c kk) (k - kk) (c - kk)) (l.drop kk) := HH.out.back (by have := HN.out; omega)
      have L1 : (l.take kk).length ≤ 1048576 := by have := HN.out; rw [List.length_take]; omega
      have L2 : (l.drop kk).length ≤ 1048576 := by have := HN.out; rw [List.length_drop]; omega
      have a1 := AC.out _ l (by have := HN.out; omega) HH.out wr BB.out
      have A2 := Box'.mk (AC.out _ _ L1 F1)
      have A3 := Box'.mk (AC.out _ _ L2 F2)
      have PT := Box'.mk (allS_parts s l kk)
      have LT := Box'.mk (allS_len s _ L1)
      have LU := Box'.mk (allS_len s _ L2)
      have SL1 := Box'.mk (run_frontE a k c kk (by omega))
      have SL2 := Box'.mk (run_backE a k c kk hkk hc)
      clear AC F1 F2 L1 L2 HH HN
      generalize allS s l = R at *
      generalize allS s (l.take kk) = T at *
      generalize allS s (l.drop kk) = U at *
      go_wp2_with (first | (refine wpList_load_row rfl 47 (.tmp 3) rfl w.heap.size rfl 47 _ hr _ Try.underlying47 rfl 44 (by kernel_rfl) S0.out ?_) | fail)
      refine a1.mono ?_
      rintro e w2 ⟨vv, rfl, ⟨u1, rfl, o1⟩, b1⟩
      have I1 := Box'.mk o1.inB
      have B2 := Box'.mk (BB.out.trans (b1.mono BB.out.size))
      have CB : Box' (∀ w3, Below w2.heap.size w2 w3 → Below w0.heap.size w0 w3) := ⟨fun w3 b3 => B2.out.trans (b3.mono B2.out.size)⟩
      clear a1 o1 b1 BB hr hrem hm
      go_wp2_with fail
      refine wp_region_grow 11 (by kernel_rfl) (by kernel_rfl) (fun wa wb => Below wa.heap.size wa wb) (fun wa => Below w2.heap.size w2 wa) (fun kc wa v => match kc with
        | 0 => v = .agg SN
        | 1 => v = .slice a k c
        | 2 => v = .int .i64 (kk : Int)
        | 3 => v = .int .i64 (kk : Int)
        | 4 => v = .slice a kk kk
        | 5 => ∃ u, v = .tuple #[u, .int .i64 T.2] ∧ OwnB w2.heap.size wa u T.1
        | 6 => ∃ u, v = .tuple #[u, .int .i64 T.2] ∧ OwnB w2.heap.size wa u T.1
        | 7 => OwnB w2.heap.size wa v T.1
        | 8 => v = .int .i64 T.2
        | 9 => OwnB w2.heap.size wa v T.1
        | 10 => v = .int .i64 T.2
        | _ => True) ?_ ?_ ?_ ?_ ?_
      · rintro wa wb hb q1
        exact q1.trans (hb.mono q1.size)
      · intro kc v wa wb hC1 hb h
        match kc, h with
        | 0, h => exact h
        | 1, h => exact h
        | 2, h => exact h
        | 3, h => exact h
        | 4, h => exact h
        | 5, h => exact let ⟨u, h1, h2⟩ := h; ⟨u, h1, OwnB.below h2 hb⟩
        | 6, h => exact let ⟨u, h1, h2⟩ := h; ⟨u, h1, OwnB.below h2 hb⟩
        | 7, h => exact OwnB.below h hb
        | 8, h => exact h
        | 9, h => exact OwnB.below h hb
        | 10, h => exact h
        | kc + 11, h => trivial
      · exact (Below.refl _ _).drew
      · refine ⟨?_, ?_, ?_, ?_, ?_, ?_, ?_, ?_, ?_, ?_, ?_, trivial⟩
        · intro f wq hC hd KK hK
          simp only [List.take_succ_cons, List.take_zero, setAll, List.setIfInBounds_toArray, List.set_cons_succ, List.set_cons_zero, Nat.zero_add, Nat.reduceAdd] at hK ⊢
          exact wp_load_row 47 (.tmp 3) rfl w.heap.size rfl 47 _ (RW.out wq (CB.out wq hC)) _ Try.underlying47 rfl 44 (by kernel_rfl) S0.out (hK _ _ rfl (Below.refl _ _))
        · intro f wq hC hd KK hK
          simp only [List.take_succ_cons, List.take_zero, setAll, List.setIfInBounds_toArray, List.set_cons_succ, List.set_cons_zero, Nat.zero_add, Nat.reduceAdd] at hK ⊢
          refine wp_of_quiet rfl ?_
          go_big_quiet_step (fail)
          exact wpQuiet_nil (hK _ _ rfl (Below.refl _ _))
        · intro f wq hC hd KK hK
          simp only [List.take_succ_cons, List.take_zero, setAll, List.setIfInBounds_toArray, List.set_cons_succ, List.set_cons_zero, Nat.zero_add, Nat.reduceAdd] at hK ⊢
          refine wp_of_quiet rfl ?_
          go_big_quiet_step (fail)
          exact wpQuiet_nil (hK _ _ rfl (Below.refl _ _))
        · intro f wq hC hd KK hK
          simp only [List.take_succ_cons, List.take_zero, setAll, List.setIfInBounds_toArray, List.set_cons_succ, List.set_cons_zero, Nat.zero_add, Nat.reduceAdd] at hK ⊢
          refine wp_of_quiet rfl ?_
          go_big_quiet_step (fail)
          exact wpQuiet_nil (hK _ _ rfl (Below.refl _ _))
        · intro f wq hC hd KK hK
          have g1 : f 1 = .slice a k c := hd 1 (by kernel_rfl)
          have g2 : f 2 = .int .i64 (kk : Int) := hd 2 (by kernel_rfl)
          have g3 : f 3 = .int .i64 (kk : Int) := hd 3 (by kernel_rfl)
          simp only [List.take_succ_cons, List.take_zero, setAll, List.setIfInBounds_toArray, List.set_cons_succ, List.set_cons_zero, Nat.zero_add, Nat.reduceAdd, g1, g2, g3] at hK ⊢
          exact wp_val _ (slice_op 48 (.tmp 69) none (some (.tmp 70)) (some (.tmp 71)) rfl _ _ (SL1.out _)) (hK _ _ rfl (Below.refl _ _))
        · intro f wq hC hd KK hK
          have g0 : f 0 = .agg SN := hd 0 (by kernel_rfl)
          have g4 : f 4 = .slice a kk kk := hd 4 (by kernel_rfl)
          simp only [List.take_succ_cons, List.take_zero, setAll, List.setIfInBounds_toArray, List.set_cons_succ, List.set_cons_zero, Nat.zero_add, Nat.reduceAdd, g0, g4] at hK ⊢
          exact wp_callE 12 #[.agg SN, .slice a kk kk] (by simp [go_sem]) _ (A2.out wq (CB.out wq hC)) (fun v w' hR => hK _ _ (let ⟨u, r1, r2⟩ := hR.1; ⟨u, r1, r2.less hC.size⟩) hR.2)
        · intro f wq hC hd KK hK
          have xx : ∃ u, f 5 = .tuple #[u, .int .i64 T.2] ∧ OwnB w2.heap.size wq u T.1 := hd 5 (by kernel_rfl)
          clear hd
          cases xx with | intro u yy =>
          have hu := yy.1
          have hin := yy.2
          clear yy
          simp only [List.take_succ_cons, List.take_zero, setAll, List.setIfInBounds_toArray, List.set_cons_succ, List.set_cons_zero, Nat.zero_add, Nat.reduceAdd, hu] at hK ⊢
          refine wp_of_quiet rfl ?_
          go_big_quiet_step (fail)
          exact wpQuiet_nil (hK _ _ ⟨u, rfl, hin⟩ (Below.refl _ _))
        · intro f wq hC hd KK hK
          have xx : ∃ u, f 6 = .tuple #[u, .int .i64 T.2] ∧ OwnB w2.heap.size wq u T.1 := hd 6 (by kernel_rfl)
          clear hd
          cases xx with | intro u yy =>
          have hu := yy.1
          have hin := yy.2
          clear yy
          simp only [List.take_succ_cons, List.take_zero, setAll, List.setIfInBounds_toArray, List.set_cons_succ, List.set_cons_zero, Nat.zero_add, Nat.reduceAdd, hu] at hK ⊢
          refine wp_of_quiet rfl ?_
          go_big_quiet_step (fail)
          exact wpQuiet_nil (hK _ _ hin (Below.refl _ _))
        · intro f wq hC hd KK hK
          have xx : ∃ u, f 6 = .tuple #[u, .int .i64 T.2] ∧ OwnB w2.heap.size wq u T.1 := hd 6 (by kernel_rfl)
          clear hd
          cases xx with | intro u yy =>
          have hu := yy.1
          have hin := yy.2
          clear yy
          simp only [List.take_succ_cons, List.take_zero, setAll, List.setIfInBounds_toArray, List.set_cons_succ, List.set_cons_zero, Nat.zero_add, Nat.reduceAdd, hu] at hK ⊢
          refine wp_of_quiet rfl ?_
          go_big_quiet_step (fail)
          exact wpQuiet_nil (hK _ _ rfl (Below.refl _ _))
        · intro f wq hC hd KK hK
          have hu : OwnB w2.heap.size wq (f 7) T.1 := hd 7 (by kernel_rfl)
          simp only [List.take_succ_cons, List.take_zero, setAll, List.setIfInBounds_toArray, List.set_cons_succ, List.set_cons_zero, Nat.zero_add, Nat.reduceAdd] at hK ⊢
          refine wp_of_quiet rfl ?_
          go_big_quiet_step (fail)
          exact wpQuiet_nil (hK _ _ hu (Below.refl _ _))
        · intro f wq hC hd KK hK
          have g8 : f 8 = .int .i64 T.2 := hd 8 (by kernel_rfl)
          simp only [List.take_succ_cons, List.take_zero, setAll, List.setIfInBounds_toArray, List.set_cons_succ, List.set_cons_zero, Nat.zero_add, Nat.reduceAdd, g8] at hK ⊢
          refine wp_of_quiet rfl ?_
          go_big_quiet_step (fail)
          exact wpQuiet_nil (hK _ _ rfl (Below.refl _ _))
      · intro f w3 hC hv
        have p0 : f 0 = .agg SN := hv 0 (by decide)
        have p1 : f 1 = .slice a k c := hv 1 (by decide)
        have p2 : f 2 = .int .i64 (kk : Int) := hv 2 (by decide)
        have p3 : f 3 = .int .i64 (kk : Int) := hv 3 (by decide)
        have p4 : f 4 = .slice a kk kk := hv 4 (by decide)
        obtain ⟨uu5, p5, _⟩ : ∃ u, f 5 = .tuple #[u, .int .i64 T.2] ∧ OwnB w2.heap.size w3 u T.1 := hv 5 (by decide)
        obtain ⟨uu6, p6, _⟩ : ∃ u, f 6 = .tuple #[u, .int .i64 T.2] ∧ OwnB w2.heap.size w3 u T.1 := hv 6 (by decide)
        have p7 : OwnB w2.heap.size w3 (f 7) T.1 := hv 7 (by decide)
        have p8 : f 8 = .int .i64 T.2 := hv 8 (by decide)
        have p9 : OwnB w2.heap.size w3 (f 9) T.1 := hv 9 (by decide)
        have p10 : f 10 = .int .i64 T.2 := hv 10 (by decide)
        simp only [List.take_succ_cons, List.take_zero, List.drop_succ_cons, List.drop_zero, setAll, List.setIfInBounds_toArray, List.set_cons_succ, List.set_cons_zero, Nat.zero_add, Nat.reduceAdd, p0, p1, p2, p3, p4, p5, p6, p8, p10]
        have O2 := Box'.mk p9
        have B3 := Box'.mk hC
        generalize f 7 = u7 at *
        generalize f 9 = u2 at *
        clear hv p7 p9 hC A2 SL1 p0 p1 p2 p3 p4 p5 p6 p8 p10
        go_wp2_with fail
        refine wp_region_grow 10 (by kernel_rfl) (by kernel_rfl) (fun wa wb => Below wa.heap.size wa wb) (fun wa => Below w2.heap.size w2 wa ∧ OwnB w2.heap.size wa u2 T.1) (fun kc wa v => match kc with
          | 0 => v = .agg SN
          | 1 => v = .slice a k c
          | 2 => v = .int .i64 (kk : Int)
          | 3 => v = .slice (backE a c kk) (k - kk) (c - kk)
          | 4 => ∃ u, v = .tuple #[u, .int .i64 U.2] ∧ InB wa.heap.size wa u U.1
          | 5 => ∃ u, v = .tuple #[u, .int .i64 U.2] ∧ InB wa.heap.size wa u U.1
          | 6 => InB wa.heap.size wa v U.1
          | 7 => v = .int .i64 U.2
          | 8 => InB wa.heap.size wa v U.1
          | 9 => v = .int .i64 U.2
          | _ => True) ?_ ?_ ?_ ?_ ?_
        · rintro wa wb hb ⟨q1, q2⟩
          exact ⟨q1.trans (hb.mono q1.size), q2.below hb⟩
        · intro kc v wa wb hC1 hb h
          match kc, h with
          | 0, h => exact h
          | 1, h => exact h
          | 2, h => exact h
          | 3, h => exact h
          | 4, h => exact let ⟨u, h1, h2⟩ := h; ⟨u, h1, (InB.below h2 hb (Nat.le_refl _)).up hb.size⟩
          | 5, h => exact let ⟨u, h1, h2⟩ := h; ⟨u, h1, (InB.below h2 hb (Nat.le_refl _)).up hb.size⟩
          | 6, h => exact (InB.below h hb (Nat.le_refl _)).up hb.size
          | 7, h => exact h
          | 8, h => exact (InB.below h hb (Nat.le_refl _)).up hb.size
          | 9, h => exact h
          | kc + 10, h => trivial
        · exact ⟨B3.out.drew, O2.out.drewN 1⟩
        · refine ⟨?_, ?_, ?_, ?_, ?_, ?_, ?_, ?_, ?_, ?_, trivial⟩
          · intro f wq hC hd KK hK
            simp only [List.take_succ_cons, List.take_zero, setAll, List.setIfInBounds_toArray, List.set_cons_succ, List.set_cons_zero, Nat.zero_add, Nat.reduceAdd] at hK ⊢
            exact wp_load_row 47 (.tmp 3) rfl w.heap.size rfl 47 _ (RW.out wq (CB.out wq hC.1)) _ Try.underlying47 rfl 44 (by kernel_rfl) S0.out (hK _ _ rfl (Below.refl _ _))
          · intro f wq hC hd KK hK
            simp only [List.take_succ_cons, List.take_zero, setAll, List.setIfInBounds_toArray, List.set_cons_succ, List.set_cons_zero, Nat.zero_add, Nat.reduceAdd] at hK ⊢
            refine wp_of_quiet rfl ?_
            go_big_quiet_step (fail)
            exact wpQuiet_nil (hK _ _ rfl (Below.refl _ _))
          · intro f wq hC hd KK hK
            simp only [List.take_succ_cons, List.take_zero, setAll, List.setIfInBounds_toArray, List.set_cons_succ, List.set_cons_zero, Nat.zero_add, Nat.reduceAdd] at hK ⊢
            refine wp_of_quiet rfl ?_
            go_big_quiet_step (fail)
            exact wpQuiet_nil (hK _ _ rfl (Below.refl _ _))
          · intro f wq hC hd KK hK
            have g1 : f 1 = .slice a k c := hd 1 (by kernel_rfl)
            have g2 : f 2 = .int .i64 (kk : Int) := hd 2 (by kernel_rfl)
            simp only [List.take_succ_cons, List.take_zero, setAll, List.setIfInBounds_toArray, List.set_cons_succ, List.set_cons_zero, Nat.zero_add, Nat.reduceAdd, g1, g2] at hK ⊢
            exact wp_val _ (slice_op 48 (.tmp 78) (some (.tmp 79)) none none rfl _ _ (SL2.out _)) (hK _ _ rfl (Below.refl _ _))
          · intro f wq hC hd KK hK
            have g0 : f 0 = .agg SN := hd 0 (by kernel_rfl)
            have g3 : f 3 = .slice (backE a c kk) (k - kk) (c - kk) := hd 3 (by kernel_rfl)
            simp only [List.take_succ_cons, List.take_zero, setAll, List.setIfInBounds_toArray, List.set_cons_succ, List.set_cons_zero, Nat.zero_add, Nat.reduceAdd, g0, g3] at hK ⊢
            exact wp_callE 12 #[.agg SN, .slice (backE a c kk) (k - kk) (c - kk)] (by simp [go_sem]) _ (A3.out wq (CB.out wq hC.1)) (fun v w' hR => hK _ _ (let ⟨u, r1, r2⟩ := hR.1; ⟨u, r1, r2.inB⟩) hR.2)
          · intro f wq hC hd KK hK
            have xx : ∃ u, f 4 = .tuple #[u, .int .i64 U.2] ∧ InB wq.heap.size wq u U.1 := hd 4 (by kernel_rfl)
            clear hd
            cases xx with | intro u yy =>
            have hu := yy.1
            have hin := yy.2
            clear yy
            simp only [List.take_succ_cons, List.take_zero, setAll, List.setIfInBounds_toArray, List.set_cons_succ, List.set_cons_zero, Nat.zero_add, Nat.reduceAdd, hu] at hK ⊢
            refine wp_of_quiet rfl ?_
            go_big_quiet_step (fail)
            exact wpQuiet_nil (hK _ _ ⟨u, rfl, hin⟩ (Below.refl _ _))
          · intro f wq hC hd KK hK
            have xx : ∃ u, f 5 = .tuple #[u, .int .i64 U.2] ∧ InB wq.heap.size wq u U.1 := hd 5 (by kernel_rfl)
            clear hd
            cases xx with | intro u yy =>
            have hu := yy.1
            have hin := yy.2
            clear yy
            simp only [List.take_succ_cons, List.take_zero, setAll, List.setIfInBounds_toArray, List.set_cons_succ, List.set_cons_zero, Nat.zero_add, Nat.reduceAdd, hu] at hK ⊢
            refine wp_of_quiet rfl ?_
            go_big_quiet_step (fail)
            exact wpQuiet_nil (hK _ _ hin (Below.refl _ _))
          · intro f wq hC hd KK hK
            have xx : ∃ u, f 5 = .tuple #[u, .int .i64 U.2] ∧ InB wq.heap.size wq u U.1 := hd 5 (by kernel_rfl)
            clear hd
            cases xx with | intro u yy =>
            have hu := yy.1
            have hin := yy.2
            clear yy
            simp only [List.take_succ_cons, List.take_zero, setAll, List.setIfInBounds_toArray, List.set_cons_succ, List.set_cons_zero, Nat.zero_add, Nat.reduceAdd, hu] at hK ⊢
            refine wp_of_quiet rfl ?_
            go_big_quiet_step (fail)
            exact wpQuiet_nil (hK _ _ rfl (Below.refl _ _))
          · intro f wq hC hd KK hK
            have hu : InB wq.heap.size wq (f 6) U.1 := hd 6 (by kernel_rfl)
            simp only [List.take_succ_cons, List.take_zero, setAll, List.setIfInBounds_toArray, List.set_cons_succ, List.set_cons_zero, Nat.zero_add, Nat.reduceAdd] at hK ⊢
            refine wp_of_quiet rfl ?_
            go_big_quiet_step (fail)
            exact wpQuiet_nil (hK _ _ hu (Below.refl _ _))
          · intro f wq hC hd KK hK
            have g7 : f 7 = .int .i64 U.2 := hd 7 (by kernel_rfl)
            simp only [List.take_succ_cons, List.take_zero, setAll, List.setIfInBounds_toArray, List.set_cons_succ, List.set_cons_zero, Nat.zero_add, Nat.reduceAdd, g7] at hK ⊢
            refine wp_of_quiet rfl ?_
            go_big_quiet_step (fail)
            exact wpQuiet_nil (hK _ _ rfl (Below.refl _ _))
        · intro f w4 hC hv
          have p0 : f 0 = .agg SN := hv 0 (by decide)
          have p1 : f 1 = .slice a k c := hv 1 (by decide)
          have p2 : f 2 = .int .i64 (kk : Int) := hv 2 (by decide)
          have p3 : f 3 = .slice (backE a c kk) (k - kk) (c - kk) := hv 3 (by decide)
          obtain ⟨uu4, p4, _⟩ : ∃ u, f 4 = .tuple #[u, .int .i64 U.2] ∧ InB w4.heap.size w4 u U.1 := hv 4 (by decide)
          obtain ⟨uu5, p5, _⟩ : ∃ u, f 5 = .tuple #[u, .int .i64 U.2] ∧ InB w4.heap.size w4 u U.1 := hv 5 (by decide)
          have p6 : InB w4.heap.size w4 (f 6) U.1 := hv 6 (by decide)
          have p7 : f 7 = .int .i64 U.2 := hv 7 (by decide)
          have p8 : InB w4.heap.size w4 (f 8) U.1 := hv 8 (by decide)
          have p9 : f 9 = .int .i64 U.2 := hv 9 (by decide)
          simp only [List.take_succ_cons, List.take_zero, List.drop_succ_cons, List.drop_zero, setAll, List.setIfInBounds_toArray, List.set_cons_succ, List.set_cons_zero, Nat.zero_add, Nat.reduceAdd, p0, p1, p2, p3, p4, p5, p7, p9]
          have I3 := Box'.mk p8
          have O4 := Box'.mk hC.2
          have B4 := Box'.mk hC.1
          generalize f 6 = u6' at *
          generalize f 8 = u3 at *
          clear hv p6 p8 hC A3 SL2 RW S0 O2 B3 p0 p1 p2 p3 p4 p5 p7 p9
          have BA : Box' (∀ w5, Below w2.heap.size w2 w5 → Below w.heap.size w w5) := ⟨fun w5 b5 => R0.out w5 (CB.out w5 b5)⟩
          rcases PT.out with ⟨r0, t0, u0, ej⟩ | ⟨r0, ej, tu⟩
          · clear PT
            have EJ := Box'.mk ej
            rw [r0, t0, u0]
            clear r0 t0 u0 ej
            go_wp2_with fail
            refine (AN.out w4).mono ?_
            rintro e w5 ⟨rfl, b5⟩
            have B5 := Box'.mk (B4.out.trans (b5.mono B4.out.size))
            have O5 := Box'.mk (O4.out.below b5)
            have I5 := Box'.mk (I3.out.below b5 (Nat.le_refl _))
            clear AN b5 B4 O4 I3
            have HL2 : Box' (T.1.length + U.1.length ≤ 140737488355328) := ⟨by have := LT.out; have := LU.out; omega⟩
            have hz5 : w2.heap.size ≤ w5.heap.size := B5.out.size
            have oA := O5.out
            have iA := I5.out
            clear O5 I5 LT LU
            go_wp2_with (first | (go_big_want; refine wp_app0 (.tmp 111) (.tmp 112) rfl w2.heap.size w4.heap.size hz5 _ T.1 rfl oA _ U.1 rfl iA HL2.out ?_; intro v6 w6 o6 f6; rw [EJ.out] at o6; have O6 := Box'.mk o6; have B6 := Box'.mk (B5.out.trans (f6.below hz5)); clear oA iA o6 f6 hz5) | fail)
            refine (SM.out w6 u1 v6 R.1 ((I1.out.below B6.out (Nat.le_refl _)).up B6.out.size) O6.out.inB).mono ?_
            rintro e w7 ⟨rfl, rfl⟩
            go_wp2_with fail
            go_ret
            exact ⟨rfl, BA.out _ B6.out⟩
          · have I4 := I1.out
            rw [ej] at I4
            obtain ⟨ad, cd, rfl, _⟩ := I4.slice
            simp only [List.length_nil] at *
            clear PT SM I4 I1 I3 O4 ej LT LU
            rw [r0]
            clear r0
            rcases tu with t0 | ⟨t0, u0⟩
            · rw [t0]
              generalize U.2 = uu at *
              go_wp2_with fail
              refine (AN.out w4).mono ?_
              rintro e w5 ⟨rfl, b5⟩
              have B5 := Box'.mk (BA.out w5 (B4.out.trans (b5.mono B4.out.size)))
              clear AN b5 B4 t0
              go_wp2_with fail
              go_ret
              exact ⟨rfl, B5.out⟩
            · rw [t0, u0]
              go_wp2_with fail
              refine (AN.out w4).mono ?_
              rintro e w5 ⟨rfl, b5⟩
              have B5 := Box'.mk (BA.out w5 (B4.out.trans (b5.mono B4.out.size)))
              clear AN b5 B4 t0 u0
              go_wp2_with fail
              go_ret
              exact ⟨rfl, B5.out⟩
end Go.Proofs.Ytepepoabbbjmgaa
