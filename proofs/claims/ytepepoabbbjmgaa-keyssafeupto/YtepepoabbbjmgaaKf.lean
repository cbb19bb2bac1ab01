/- The walk of the reference's All. -/
import Derived.Test.YtepepoabbbjmgaaKd
import Derived.Test.YtepepoabbbjmgaaGx
import Derived.Test.YtepepoabbbjmgaaSZj
namespace Go.Proofs.Ytepepoabbbjmgaa
open Go.RowKit Go.BigFrame
set_option linter.unusedSimpArgs false
set_option linter.unusedVariables false

/-- What All answers. -/
def allS (s : Sc.Sn) (l : List Ev) : List UInt8 × Int := if Sc.mayN s = true then allF l s.arr s.pas else ([], 2)
/-- What is asked of a function that tells all events. -/
def AllC (f : Nat) : Prop := ∀ (w : World) (s : Sc.Sn) (vg vt vm vl v : Value) (l : List Ev), l.length ≤ 1048576 → Sc.Li w.heap.size w s vg vt vm vl → Sc.Bo s → Evs w.heap.size w v l →
  Calls Try.prog f #[.agg (Sc.snA s vg vt vm vl), v] w fun e w' => ∃ u, e = .returned (.tuple #[u, .int .i64 (allS s l).2]) ∧ OwnB w.heap.size w' u (allS s l).1 ∧ Below w.heap.size w w'

set_option maxRecDepth 100000 in
set_option maxHeartbeats 4000000 in
theorem refAll_C : AllC 13 := by
  intro w s vg vt vm vl v l hl li bo h
  have HS := Box'.mk (allS.eq_1 s l)
  have HF := Box'.mk (allF.eq_1 l s.arr s.pas)
  have AS := Box'.mk (allK_step l s.arr s.pas)
  have AL := Box'.mk (allK_len l s.arr s.pas)
  have A0 : Box' (allK l s.arr s.pas 0 = []) := ⟨rfl⟩
  have BA := Box'.mk (fun k => badE_at (l := l) (k := k))
  have BN := Box'.mk (badE_none (l := l))
  obtain ⟨w0, hw0⟩ : ∃ w0, w0 = w.alloc (.cells (Sc.snA s vg vt vm vl) 47) := ⟨_, rfl⟩
  have b0 : Below w.heap.size w w0 := by rw [hw0]; exact (Below.refl _ _).alloc (Nat.le_refl _) _
  have z0 : w0.heap.size = w.heap.size + 1 := by rw [hw0]; simp
  have r0 : Row w0 w.heap.size 47 (Sc.snA s vg vt vm vl) := by rw [hw0]; exact Row.new _ _ _
  have my := Sc.rmay_any s vg vt vm vl w0 (li.at b0) bo
  have RW : Box' (∀ w1, Below w0.heap.size w0 w1 → Row w1 w.heap.size 47 (Sc.snA s vg vt vm vl)) := ⟨fun w1 b => r0.below b r0.lt⟩
  have B0 := Box'.mk b0
  have Z0 := Box'.mk z0
  have H0 := Box'.mk (h.below b0 (Nat.le_refl _))
  have R0 : Box' (∀ w1, Below w0.heap.size w0 w1 → Below w.heap.size w w1) := ⟨fun w1 b => B0.out.trans (b.mono B0.out.size)⟩
  obtain ⟨a, c, rfl, hc, _⟩ := h
  have c22 : (Sc.snA s vg vt vm vl)[22]? = some (.bool s.arr) := rfl
  have c23 : (Sc.snA s vg vt vm vl)[23]? = some (.bool s.pas) := rfl
  have C22 := Box'.mk c22
  have C23 := Box'.mk c23
  have S0 : Box' ((Sc.snA s vg vt vm vl).size = 44) := ⟨rfl⟩
  clear li bo r0 b0 z0 c22 c23
  generalize hsn : Sc.snA s vg vt vm vl = SN at *
  clear hsn
  generalize allS s l = R at *
  generalize s.arr = ar at *
  generalize s.pas = pa at *
  generalize Sc.mayN s = mm at *
  generalize allF l ar pa = F at *
  generalize hn : l.length = n at *
  have HN := Box'.mk hn
  clear hn
  rw [hw0] at my
  have hr := RW.out w0 (Below.refl _ _)
  rw [hw0] at hr
  go_enter Try.func13, Try.ntmps13
  go_wp2_with (first | (refine wpList_load_row rfl 47 (.tmp 2) rfl w.heap.size rfl 47 _ hr _ Try.underlying47 rfl 44 (by kernel_rfl) S0.out ?_) | fail)
  refine my.mono ?_
  rw [← hw0]
  rintro e w1 ⟨rfl, b1⟩
  have B1 := Box'.mk b1
  clear my b1 hr hw0
  cases mm with
  | false =>
    have RE : Box' (R = ([], 2)) := ⟨by rw [HS.out]; rfl⟩
    clear HS HF AS AL A0 BA BN
    go_wp2_with fail
    go_ret2
    exact ⟨_, by rw [RE.out]; rfl, by rw [RE.out]; exact OwnB.nil _ _, R0.out _ B1.out⟩
  | true =>
    have RE : Box' (R = F) := ⟨by rw [HS.out]; rfl⟩
    clear HS
    go_wp2_with fail
    go_loopw [6, 7] (fun u i wr => ∃ k : Nat, i = .int .i64 (k : Int) ∧ k ≤ n ∧ Box' (∀ j, j < k → (l.getD j Ev.none).may = true) ∧ Box' (OwnB w0.heap.size wr u (allK l ar pa k)) ∧ Box' (Below w0.heap.size w0 wr)) (fun _ i _ => n - (intOf i).toNat)
    case atStart => exact ⟨0, rfl, Nat.zero_le _, ⟨fun j hj => by omega⟩, ⟨by rw [A0.out]; exact OwnB.nil _ _⟩, B1⟩
    case round =>
      clear B1
      obtain ⟨k, rfl, hk, HJ, OO, BB⟩ := hrel
      obtain ⟨ao, co, rfl⟩ := OO.out.slice
      have hnn := HN.out
      by_cases hlt : k < n
      · obtain ⟨a', c', e, _, H3⟩ := H0.out
        obtain ⟨b, o, ha, hbN, vb, q1, q2, q3, q4, q5, q6⟩ := H3 k (by omega)
        injection e with e1 e3 e2
        clear e3
        subst e2
        rw [ha] at e1
        subst e1
        have CE : Box' (∀ w2, Below w0.heap.size w0 w2 → ∀ q, w2.cell? ⟨b, q, Option.none⟩ = w0.cell? ⟨b, q, Option.none⟩) := ⟨fun w2 hb q => hb.cell (p := ⟨b, q, Option.none⟩) (by show b < w0.heap.size; have := Z0.out; omega)⟩
        have EN : Box' (∀ w2, Below w0.heap.size w0 w2 → Calls Try.prog 7 #[(l.getD k Ev.none).val vb, .bool ar, .bool pa] w2 fun e w' => ∃ v, e = .returned v ∧ (∃ u, v = .tuple #[u, .int .i64 (ansF (l.getD k Ev.none) ar pa).2] ∧ InB w'.heap.size w' u (ansF (l.getD k Ev.none) ar pa).1) ∧ Below w2.heap.size w2 w') := ⟨fun w2 hb => (refEnc_C w.heap.size w2 vb _ ar pa (Nat.le_trans B0.out.size hb.size) (q6.below hb (by have := Z0.out; omega))).mono fun e w' ⟨u, r1, r2, r3⟩ => ⟨_, r1, ⟨u, rfl, r2⟩, r3⟩⟩
        have ba := Box'.mk (BA.out k (by omega))
        have aS1 := Box'.mk (AS.out k (by omega))
        have al := Box'.mk (AL.out k (by omega) HJ.out)
        have HJ2 : Box' ((l.getD k Ev.none).may = true → ∀ j, j < k + 1 → (l.getD j Ev.none).may = true) := ⟨fun h j hj => by
          rcases Nat.lt_succ_iff_lt_or_eq.1 hj with h1 | rfl
          · exact HJ.out j h1
          · exact h⟩
        have LE := Box'.mk (fun h => encF_len (x := l.getD k Ev.none) h ar pa)
        have AF := Box'.mk (ansF.eq_1 (l.getD k Ev.none) ar pa)
        obtain ⟨ax, cx, rfl, _⟩ := q6.slice
        clear BA BN AS AL HJ q6 H3 H0 A0 hnn
        unfold Ev.val at EN
        generalize l.getD k Ev.none = x at *
        generalize ansF x ar pa = X at *
        generalize hxe : encF x ar pa = E at *
        generalize hmm : x.may = mm at *
        clear hxe hmm
        obtain ⟨xk, xl, xc, xr, xa⟩ := x
        simp only at EN q1 q2 q3 q4 q5
        generalize xl.length = xn at *
        generalize hD : allK l ar pa k = D at *
        clear hD
        go_wp2_with fail
        refine wp_region_grow 14 (by kernel_rfl) (by kernel_rfl) (fun wa wb => Below wa.heap.size wa wb) (fun wa => Below w0.heap.size w0 wa ∧ OwnB w0.heap.size wa (.slice ao D.length co) D) (fun kc wa v => match kc with
          | 0 => v = .slice (some ⟨b, o, none⟩) n c
          | 1 => v = .int .i64 (k : Int)
          | 2 => v = .pointer (some ⟨b, o + k * 5, none⟩)
          | 3 => v = .agg #[.int .u8 (xk.toNat : Int), .slice ax xn cx, .int .i64 xc, .int .i64 xr, .int .u8 (xa.toNat : Int)]
          | 4 => v = .pointer (some ⟨w.heap.size, 22, none⟩)
          | 5 => v = .bool ar
          | 6 => v = .pointer (some ⟨w.heap.size, 23, none⟩)
          | 7 => v = .bool pa
          | 8 => ∃ u, v = .tuple #[u, .int .i64 X.2] ∧ InB wa.heap.size wa u X.1
          | 9 => ∃ u, v = .tuple #[u, .int .i64 X.2] ∧ InB wa.heap.size wa u X.1
          | 10 => InB wa.heap.size wa v X.1
          | 11 => v = .int .i64 X.2
          | 12 => InB wa.heap.size wa v X.1
          | 13 => v = .int .i64 X.2
          | _ => True) ?_ ?_ ?_ ?_ ?_
        · rintro wa wb hb ⟨q1, q2⟩
          exact ⟨q1.trans (hb.mono q1.size), q2.below hb⟩
        · intro kc v wa wb hC1 hb h
          match kc, h with
          | 0, h => exact h
          | 1, h => exact h
          | 2, h => exact h
          | 3, h => exact h
          | 4, h => exact h
          | 5, h => exact h
          | 6, h => exact h
          | 7, h => exact h
          | 8, h => exact let ⟨u, h1, h2⟩ := h; ⟨u, h1, (h2.below hb (Nat.le_refl _)).up hb.size⟩
          | 9, h => exact let ⟨u, h1, h2⟩ := h; ⟨u, h1, (h2.below hb (Nat.le_refl _)).up hb.size⟩
          | 10, h => exact (InB.below h hb (Nat.le_refl _)).up hb.size
          | 11, h => exact h
          | 12, h => exact (InB.below h hb (Nat.le_refl _)).up hb.size
          | 13, h => exact h
          | kc + 14, h => trivial
        · exact ⟨BB.out.drew, OO.out.drewN 1⟩
        · refine ⟨?_, ?_, ?_, ?_, ?_, ?_, ?_, ?_, ?_, ?_, ?_, ?_, ?_, ?_, trivial⟩
          · intro f wq hC hd KK hK
            simp only [List.take_succ_cons, List.take_zero, setAll, List.setIfInBounds_toArray, List.set_cons_succ, List.set_cons_zero, Nat.zero_add, Nat.reduceAdd] at hK ⊢
            refine wp_of_quiet rfl ?_
            go_big_quiet_step (fail)
            exact wpQuiet_nil (hK _ _ rfl (Below.refl _ _))
          · intro f wq hC hd KK hK
            simp only [List.take_succ_cons, List.take_zero, setAll, List.setIfInBounds_toArray, List.set_cons_succ, List.set_cons_zero, Nat.zero_add, Nat.reduceAdd] at hK ⊢
            refine wp_of_quiet rfl ?_
            go_big_quiet_step (fail)
            exact wpQuiet_nil (hK _ _ rfl (Below.refl _ _))
          · intro f wq hC hd KK hK
            have g0 : f 0 = .slice (some ⟨b, o, none⟩) n c := hd 0 (by kernel_rfl)
            have g1 : f 1 = .int .i64 (k : Int) := hd 1 (by kernel_rfl)
            simp only [List.take_succ_cons, List.take_zero, setAll, List.setIfInBounds_toArray, List.set_cons_succ, List.set_cons_zero, Nat.zero_add, Nat.reduceAdd, g0, g1] at hK ⊢
            refine wp_of_quiet rfl ?_
            go_big_quiet_step (fail)
            exact wpQuiet_nil (hK _ _ rfl (Below.refl _ _))
          · intro f wq hC hd KK hK
            have g2 : f 2 = .pointer (some ⟨b, o + k * 5, none⟩) := hd 2 (by kernel_rfl)
            have cw := CE.out wq hC.1; rw [← cw] at q1 q2 q3 q4 q5
            simp only [List.take_succ_cons, List.take_zero, setAll, List.setIfInBounds_toArray, List.set_cons_succ, List.set_cons_zero, Nat.zero_add, Nat.reduceAdd, g2] at hK ⊢
            refine wp_of_quiet rfl ?_
            go_big_quiet_step (fail)
            exact wpQuiet_nil (hK _ _ rfl (Below.refl _ _))
          · intro f wq hC hd KK hK
            simp only [List.take_succ_cons, List.take_zero, setAll, List.setIfInBounds_toArray, List.set_cons_succ, List.set_cons_zero, Nat.zero_add, Nat.reduceAdd] at hK ⊢
            refine wp_of_quiet rfl ?_
            go_big_quiet_step (fail)
            exact wpQuiet_nil (hK _ _ rfl (Below.refl _ _))
          · intro f wq hC hd KK hK
            have g4 : f 4 = .pointer (some ⟨w.heap.size, 22, none⟩) := hd 4 (by kernel_rfl)
            have cx : wq.cell? ⟨w.heap.size, 22, none⟩ = some (.bool ar) := by rw [(RW.out wq hC.1).cell]; exact C22.out
            simp only [List.take_succ_cons, List.take_zero, setAll, List.setIfInBounds_toArray, List.set_cons_succ, List.set_cons_zero, Nat.zero_add, Nat.reduceAdd, g4] at hK ⊢
            refine wp_of_quiet rfl ?_
            go_big_quiet_step (fail)
            exact wpQuiet_nil (hK _ _ rfl (Below.refl _ _))
          · intro f wq hC hd KK hK
            simp only [List.take_succ_cons, List.take_zero, setAll, List.setIfInBounds_toArray, List.set_cons_succ, List.set_cons_zero, Nat.zero_add, Nat.reduceAdd] at hK ⊢
            refine wp_of_quiet rfl ?_
            go_big_quiet_step (fail)
            exact wpQuiet_nil (hK _ _ rfl (Below.refl _ _))
          · intro f wq hC hd KK hK
            have g6 : f 6 = .pointer (some ⟨w.heap.size, 23, none⟩) := hd 6 (by kernel_rfl)
            have cx : wq.cell? ⟨w.heap.size, 23, none⟩ = some (.bool pa) := by rw [(RW.out wq hC.1).cell]; exact C23.out
            simp only [List.take_succ_cons, List.take_zero, setAll, List.setIfInBounds_toArray, List.set_cons_succ, List.set_cons_zero, Nat.zero_add, Nat.reduceAdd, g6] at hK ⊢
            refine wp_of_quiet rfl ?_
            go_big_quiet_step (fail)
            exact wpQuiet_nil (hK _ _ rfl (Below.refl _ _))
          · intro f wq hC hd KK hK
            have g3 : f 3 = .agg #[.int .u8 (xk.toNat : Int), .slice ax xn cx, .int .i64 xc, .int .i64 xr, .int .u8 (xa.toNat : Int)] := hd 3 (by kernel_rfl)
            have g5 : f 5 = .bool ar := hd 5 (by kernel_rfl)
            have g7 : f 7 = .bool pa := hd 7 (by kernel_rfl)
            simp only [List.take_succ_cons, List.take_zero, setAll, List.setIfInBounds_toArray, List.set_cons_succ, List.set_cons_zero, Nat.zero_add, Nat.reduceAdd, g3, g5, g7] at hK ⊢
            exact wp_callE 7 #[.agg #[.int .u8 (xk.toNat : Int), .slice ax xn cx, .int .i64 xc, .int .i64 xr, .int .u8 (xa.toNat : Int)], .bool ar, .bool pa] (by simp [go_sem]) _ (EN.out wq hC.1) (fun v w' hR => hK _ _ hR.1 hR.2)
          · intro f wq hC hd KK hK
            have xx : ∃ u, f 8 = .tuple #[u, .int .i64 X.2] ∧ InB wq.heap.size wq u X.1 := hd 8 (by kernel_rfl)
            clear hd
            cases xx with | intro u yy =>
            have hu := yy.1
            have hin := yy.2
            clear yy
            simp only [List.take_succ_cons, List.take_zero, setAll, List.setIfInBounds_toArray, List.set_cons_succ, List.set_cons_zero, Nat.zero_add, Nat.reduceAdd, hu] at hK ⊢
            refine wp_of_quiet rfl ?_
            go_big_quiet_step (fail)
            exact wpQuiet_nil (hK _ _ ⟨u, rfl, hin⟩ (Below.refl _ _))
          · intro f wq hC hd KK hK
            have xx : ∃ u, f 9 = .tuple #[u, .int .i64 X.2] ∧ InB wq.heap.size wq u X.1 := hd 9 (by kernel_rfl)
            clear hd
            cases xx with | intro u yy =>
            have hu := yy.1
            have hin := yy.2
            clear yy
            simp only [List.take_succ_cons, List.take_zero, setAll, List.setIfInBounds_toArray, List.set_cons_succ, List.set_cons_zero, Nat.zero_add, Nat.reduceAdd, hu] at hK ⊢
            refine wp_of_quiet rfl ?_
            go_big_quiet_step (fail)
            exact wpQuiet_nil (hK _ _ hin (Below.refl _ _))
          · intro f wq hC hd KK hK
            have xx : ∃ u, f 9 = .tuple #[u, .int .i64 X.2] ∧ InB wq.heap.size wq u X.1 := hd 9 (by kernel_rfl)
            clear hd
            cases xx with | intro u yy =>
            have hu := yy.1
            have hin := yy.2
            clear yy
            simp only [List.take_succ_cons, List.take_zero, setAll, List.setIfInBounds_toArray, List.set_cons_succ, List.set_cons_zero, Nat.zero_add, Nat.reduceAdd, hu] at hK ⊢
            refine wp_of_quiet rfl ?_
            go_big_quiet_step (fail)
            exact wpQuiet_nil (hK _ _ rfl (Below.refl _ _))
          · intro f wq hC hd KK hK
            have hu : InB wq.heap.size wq (f 10) X.1 := hd 10 (by kernel_rfl)
            simp only [List.take_succ_cons, List.take_zero, setAll, List.setIfInBounds_toArray, List.set_cons_succ, List.set_cons_zero, Nat.zero_add, Nat.reduceAdd] at hK ⊢
            refine wp_of_quiet rfl ?_
            go_big_quiet_step (fail)
            exact wpQuiet_nil (hK _ _ hu (Below.refl _ _))
          · intro f wq hC hd KK hK
            have g11 : f 11 = .int .i64 X.2 := hd 11 (by kernel_rfl)
            simp only [List.take_succ_cons, List.take_zero, setAll, List.setIfInBounds_toArray, List.set_cons_succ, List.set_cons_zero, Nat.zero_add, Nat.reduceAdd, g11] at hK ⊢
            refine wp_of_quiet rfl ?_
            go_big_quiet_step (fail)
            exact wpQuiet_nil (hK _ _ rfl (Below.refl _ _))
        · intro f w1 hC hv
          have p0 : f 0 = .slice (some ⟨b, o, none⟩) n c := hv 0 (by decide)
          have p1 : f 1 = .int .i64 (k : Int) := hv 1 (by decide)
          have p2 : f 2 = .pointer (some ⟨b, o + k * 5, none⟩) := hv 2 (by decide)
          have p3 : f 3 = .agg #[.int .u8 (xk.toNat : Int), .slice ax xn cx, .int .i64 xc, .int .i64 xr, .int .u8 (xa.toNat : Int)] := hv 3 (by decide)
          have p4 : f 4 = .pointer (some ⟨w.heap.size, 22, none⟩) := hv 4 (by decide)
          have p5 : f 5 = .bool ar := hv 5 (by decide)
          have p6 : f 6 = .pointer (some ⟨w.heap.size, 23, none⟩) := hv 6 (by decide)
          have p7 : f 7 = .bool pa := hv 7 (by decide)
          obtain ⟨uu8, p8, _⟩ : ∃ u, f 8 = .tuple #[u, .int .i64 X.2] ∧ InB w1.heap.size w1 u X.1 := hv 8 (by decide)
          obtain ⟨uu9, p9, _⟩ : ∃ u, f 9 = .tuple #[u, .int .i64 X.2] ∧ InB w1.heap.size w1 u X.1 := hv 9 (by decide)
          have p10 : InB w1.heap.size w1 (f 10) X.1 := hv 10 (by decide)
          have p11 : f 11 = .int .i64 X.2 := hv 11 (by decide)
          have p12 : InB w1.heap.size w1 (f 12) X.1 := hv 12 (by decide)
          have p13 : f 13 = .int .i64 X.2 := hv 13 (by decide)
          simp only [List.take_succ_cons, List.take_zero, List.drop_succ_cons, List.drop_zero, setAll, List.setIfInBounds_toArray, List.set_cons_succ, List.set_cons_zero, Nat.zero_add, Nat.reduceAdd, p0, p1, p2, p3, p4, p5, p6, p7, p8, p9, p11, p13]
          generalize f 10 = u10 at *
          generalize f 12 = u12 at *
          clear hv p10 p0 p1 p2 p3 p4 p5 p6 p7 p8 p9 p11 p13 q1 q2 q3 q4 q5 CE C22 C23 EN RW
          have IU := Box'.mk p12
          have BC := Box'.mk hC.1
          have OC := Box'.mk hC.2
          clear p12 hC OO BB
          cases mm with
          | false =>
            have XE : Box' (X = ([], 2)) := ⟨by rw [AF.out]; rfl⟩
            have hX : X.2 = 2 := by rw [XE.out]
            have RF : Box' (R = ([], 2)) := ⟨by rw [RE.out, HF.out, if_pos (ba.out rfl)]⟩
            rw [hX]
            clear hX XE RE HF ba aS1 al HJ2 LE AF IU OC
            go_wp2_with fail
            go_ret2
            exact ⟨_, by rw [RF.out]; rfl, by rw [RF.out]; exact OwnB.nil _ _, R0.out _ BC.out⟩
          | true =>
            have XE : Box' (X = (E, 0)) := ⟨by rw [AF.out]; rfl⟩
            have hX : X.2 = 0 := by rw [XE.out]
            have hX1 : X.1 = E := by rw [XE.out]
            have oA := OC.out
            have iA := IU.out
            rw [hX1] at iA
            have hz : w0.heap.size ≤ w1.heap.size := BC.out.size
            have HJ3 := Box'.mk (HJ2.out rfl)
            have HL : Box' (D.length + E.length ≤ 140737488355328) := ⟨by have := al.out; have := LE.out rfl; omega⟩
            rw [hX]
            clear hX hX1 XE RE HF ba al HJ2 LE AF IU OC
            go_wp2_with (refine wpList_app rfl (.tmp 34) (.tmp 35) rfl w0.heap.size w1.heap.size hz _ D rfl oA _ E rfl iA HL.out ?_; intro v4 w4 o4 f4; rw [← aS1.out] at o4; have O4 := Box'.mk o4; have B4 := Box'.mk (BC.out.trans (f4.below hz)); clear oA iA o4 f4 hz)
            exact ⟨⟨k + 1, by go_num, by omega, HJ3, O4, B4⟩, by simp [intOf]; omega⟩
      · obtain rfl : k = n := by omega
        have RF : Box' (R = (allK l ar pa k, 0)) := ⟨by rw [RE.out, HF.out, if_neg (by rw [BN.out (fun j hj => HJ.out j (by omega))]; decide)]⟩
        have O2 : Box' (OwnB w.heap.size wr (.slice ao (allK l ar pa k).length co) (allK l ar pa k)) := ⟨OO.out.less (by have := Z0.out; omega)⟩
        clear RE HF AS AL A0 BA BN HJ hnn OO H0
        go_wp2_with fail
        go_ret2
        exact ⟨_, by rw [RF.out]; rfl, by rw [RF.out]; exact O2.out, R0.out _ BB.out⟩
end Go.Proofs.Ytepepoabbbjmgaa
