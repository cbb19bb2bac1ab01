/- The drawn region of the reference's Take that keeps a part, by itself. -/
import Derived.Test.YthmcmdojnnbefaaVa
namespace Go.Proofs.Ythmcmdojnnbefaa
open Go.RowKit Go.BigFrame
set_option linter.unusedVariables false
set_option linter.unusedSimpArgs false

theorem run_buildQ (w : World) (i n : Int) (l : Bool) (a : Option Addr) (k c : Nat) : (Instr.buildSlice 35 1 #[(0, .agg #[.int .u64 i, .int .i64 n, .bool l, .slice a k c])]).run Try.prog w = .ok (.slice (some ⟨w.heap.size, 0, none⟩) 1 1) (w.alloc (.cells #[.int .u64 i, .int .i64 n, .bool l, .slice a k c] 25)) := by
  simp [go_sem, Instr.buildSlice]
theorem wp_buildQ {op : Oper} {a : Act} {w : World} {K : Act → World → Prop} {Q : Exit → Act → World → Prop} (x : Operand) (ho : op.op = .buildSlice 35 1 #[(0, x)]) (i n : Int) (l : Bool) (ad : Option Addr) (k c : Nat) (hx : a.eval x = .agg #[.int .u64 i, .int .i64 n, .bool l, .slice ad k c])
    (h : K (a.put op.dst (.slice (some ⟨w.heap.size, 0, none⟩) 1 1)) (w.alloc (.cells #[.int .u64 i, .int .i64 n, .bool l, .slice ad k c] 25))) : op.wp Try.prog a w K Q := by
  have hr := run_buildQ w i n l ad k c
  unfold Oper.wp execOp
  simp only [ho, Sem.run_bind, List.map_toArray, List.map_cons, List.map_nil, hx, hr, Result.andThen_ok, Sem.run_pure]
  exact h
theorem wp_appQ {o : Oper} {a : Act} {w : World} {K : Act → World → Prop} {Q : Exit → Act → World → Prop} (s x : Operand)
    (ho : o.op = .call { callee := .builtin .append, args := #[s, x], argTypes := #[35, 35] }) (N : Nat) (hN : N ≤ w.heap.size)
    (v : Value) (l : List (Prt × Value)) (hs : a.eval s = v) (hown : OwnQ N w v l) (e : Prt) (vb : Value) (hob : OwnB N w vb e.d) (g0 c : Nat) (hx : a.eval x = .slice (some ⟨g0, 0, none⟩) 1 c)
    (hr : Row w g0 25 (prC e vb).toArray) (hmax : l.length + 1 ≤ 300000)
    (h : ∀ v' w', OwnQ N w' v' (l ++ [(e, vb)]) → w.grownBy w' v.ownBlock → K (a.put o.dst v') w') : o.wp Try.prog a w K Q := by
  obtain ⟨i, h1, h2, h3, h4⟩ := Try.info25a
  obtain ⟨v', w', hrun, g2, g3, _⟩ := run_append_own (P := Try.prog) w N 35 o.type 25 i _ 4 48 Try.underlying35 h1 h2 h3 h4 rfl (by decide) v l.length _ hown.row ⟨g0, 0, none⟩ 1 c (prC e vb) rfl (fun j u hu => by
    rw [Addr.add_mid, Nat.zero_add, hr.cell]; simpa using hu) (prC_one hob) (by unfold maxLen; omega) (by omega) hN
  have hkeep : ∀ {p : Prt × Value}, OwnB N w p.2 p.1.d → OwnB N w' p.2 p.1.d := fun {p} hp => hp.same fun k hk => by
    obtain ⟨_, cur, r2⟩ := hp.lt k hk
    refine g3.block k r2.lt fun e => ?_
    obtain ⟨_, cur3, r3⟩ := hown.lt k e.symm
    unfold Row at r2 r3
    rw [r2] at r3
    simp at r3
  have g2' : OwnQ N w' v' (l ++ [(e, vb)]) := by
    refine ⟨?_, fun p hp => ?_⟩
    · rw [List.length_append, List.flatMap_append]
      simpa using g2
    · rcases List.mem_append.1 hp with hp | hp
      · exact hkeep (hown.own p hp)
      · rw [List.mem_singleton] at hp
        subst hp
        exact hkeep (p := (e, vb)) hob
  unfold Oper.wp execOp
  simp only [ho, resolve, invoke, builtin, Sem.run_bind, Sem.run_pure, Result.andThen_ok, List.map_toArray, List.map_cons, List.map_nil, hs, hx, hrun]
  exact h v' w' g2' g3
set_option maxRecDepth 1000000 in
set_option maxHeartbeats 4000000 in
theorem rkReg (N tb pb pi pn nL cL bl cb : Nat) (pl : Bool) (aL ab : Option Addr) (d : List UInt8) (qs : List (Prt × Value)) (u1 u2 u4 u5 u6 u7 u8 u9 u10 u11 u12 u13 u14 u15 u16 u17 u18 u19 u20 u21 u22 u23 u24 u25 u26 u27 u28 u29 u30 u31 u32 u33 u34 u35 u36 u37 u38 u39 u40 u41 u42 u43 u44 u45 u46 u47 u48 u49 u50 u51 u52 u53 u54 u55 u56 u57 u58 u59 u60 u61 u62 u63 u64 u65 u66 u67 u68 u69 u70 u71 u72 u73 u74 u75 u76 u77 u78 u79 u80 u81 u82 u83 u84 u85 u86 u87 u88 u89 u90 u91 u92 u93 u94 u95 u96 u97 u98 u99 u100 u101 u102 u103 u104 u105 u106 u107 u108 u109 : Value) (w : World) (hN : N ≤ w.heap.size) (hO : OwnQ N w (.slice aL nL cL) qs ∧ OwnB N w (.slice ab bl cb) d) (hC1 : ∀ w1, w.grownBy w1 (Value.ownBlock (.slice aL nL cL)) → w1.cell? ⟨tb, 1, none⟩ = some (.slice aL nL cL)) (hFZ : ∀ w1, w.grownBy w1 (Value.ownBlock (.slice aL nL cL)) → ∀ j, w1.frozen? ⟨tb, j, none⟩ = false) (hP : ∀ w1, w.grownBy w1 (Value.ownBlock (.slice aL nL cL)) → Row w1 pb 25 #[.int .u64 (pi : Int), .int .i64 (pn : Int), .bool pl, .slice ab bl cb]) (hMX : qs.length + 1 ≤ 300000) :
    Code.wp Try.prog ((Try.f20.body.bind (regOf' 10)).getD .skip) (fun e a' w' => e = .normal ∧ ∃ v76 v77 v78 v79 v80 v81 v82 v83 v84 v85 : Value, a' = ⟨List.toArray (.pointer (some ⟨tb, 0, none⟩) :: u1 :: u2 :: .pointer (some ⟨pb, 0, none⟩) :: u4 :: u5 :: u6 :: u7 :: u8 :: u9 :: u10 :: u11 :: u12 :: u13 :: u14 :: u15 :: u16 :: u17 :: u18 :: u19 :: u20 :: u21 :: u22 :: u23 :: u24 :: u25 :: u26 :: u27 :: u28 :: u29 :: u30 :: u31 :: u32 :: u33 :: u34 :: u35 :: u36 :: u37 :: u38 :: u39 :: u40 :: u41 :: u42 :: u43 :: u44 :: u45 :: u46 :: u47 :: u48 :: u49 :: u50 :: u51 :: u52 :: u53 :: u54 :: u55 :: u56 :: u57 :: u58 :: u59 :: u60 :: u61 :: u62 :: u63 :: u64 :: u65 :: u66 :: u67 :: u68 :: u69 :: u70 :: u71 :: u72 :: u73 :: u74 :: u75 :: v76 :: v77 :: v78 :: v79 :: v80 :: v81 :: v82 :: v83 :: v84 :: v85 :: u86 :: u87 :: u88 :: u89 :: u90 :: u91 :: u92 :: u93 :: u94 :: u95 :: u96 :: u97 :: u98 :: u99 :: u100 :: u101 :: u102 :: u103 :: u104 :: u105 :: u106 :: u107 :: u108 :: u109 :: []), []⟩ ∧ ∃ vd w1, w.grownBy w1 (Value.ownBlock (.slice aL nL cL)) ∧ OwnQ N w1 vd (qs ++ [(⟨pi, (pn : Int), pl, d⟩, .slice ab bl cb)]) ∧ w' = w1.setCell ⟨tb, 1, none⟩ vd) ⟨List.toArray (.pointer (some ⟨tb, 0, none⟩) :: u1 :: u2 :: .pointer (some ⟨pb, 0, none⟩) :: u4 :: u5 :: u6 :: u7 :: u8 :: u9 :: u10 :: u11 :: u12 :: u13 :: u14 :: u15 :: u16 :: u17 :: u18 :: u19 :: u20 :: u21 :: u22 :: u23 :: u24 :: u25 :: u26 :: u27 :: u28 :: u29 :: u30 :: u31 :: u32 :: u33 :: u34 :: u35 :: u36 :: u37 :: u38 :: u39 :: u40 :: u41 :: u42 :: u43 :: u44 :: u45 :: u46 :: u47 :: u48 :: u49 :: u50 :: u51 :: u52 :: u53 :: u54 :: u55 :: u56 :: u57 :: u58 :: u59 :: u60 :: u61 :: u62 :: u63 :: u64 :: u65 :: u66 :: u67 :: u68 :: u69 :: u70 :: u71 :: u72 :: u73 :: u74 :: u75 :: u76 :: u77 :: u78 :: u79 :: u80 :: u81 :: u82 :: u83 :: u84 :: u85 :: u86 :: u87 :: u88 :: u89 :: u90 :: u91 :: u92 :: u93 :: u94 :: u95 :: u96 :: u97 :: u98 :: u99 :: u100 :: u101 :: u102 :: u103 :: u104 :: u105 :: u106 :: u107 :: u108 :: u109 :: []), []⟩ w := by
  conv => arg 2; whnf
  have HC1 := Box'.mk hC1
  have HFZ := Box'.mk hFZ
  have HP := Box'.mk hP
  have HMX := Box'.mk hMX
  have h0 : w.grownBy w.drew (Value.ownBlock (.slice aL nL cL)) := ⟨rfl, rfl, rfl, Nat.le_refl _, fun _ _ _ => rfl⟩
  clear hC1 hFZ hP hMX
  refine wp_region_spentA 8 7 (fun k => k == 6) (by kernel_rfl) (by kernel_rfl) _ rfl (by kernel_rfl) (fun a b => Below a.heap.size a b) (fun a b => a.grownBy b (Value.ownBlock (.slice aL nL cL))) (fun w1 => w.grownBy w1 (Value.ownBlock (.slice aL nL cL))) (fun w1 => OwnQ N w1 (.slice aL nL cL) qs ∧ OwnB N w1 (.slice ab bl cb) d) (fun k w1 v => match k with
      | 0 => v = .pointer (some ⟨tb, 0, none⟩)
      | 1 => v = .pointer (some ⟨tb, 0, none⟩)
      | 2 => v = .pointer (some ⟨tb, 0, none⟩)
      | 3 => v = .pointer (some ⟨tb, 1, none⟩)
      | 4 => v = .slice aL nL cL
      | 5 => v = .agg #[.int .u64 (pi : Int), .int .i64 (pn : Int), .bool pl, .slice ab bl cb]
      | 6 => ∃ q, v = .slice (some ⟨q, 0, none⟩) 1 1 ∧ Row w1 q 25 #[.int .u64 (pi : Int), .int .i64 (pn : Int), .bool pl, .slice ab bl cb]
      | 7 => OwnQ N w1 v (qs ++ [(⟨pi, (pn : Int), pl, d⟩, .slice ab bl cb)])
      | _ => True) ?_ ?_ ?_ ?_ ?_ ?_ ?_ ?_ ?_ ?_
  · intro a b' hb hC; exact grown_trans hC (grown_below hb)
  · intro a b' hC hb h; exact ⟨h.1.below hb, h.2.below hb⟩
  · intro k v w1 w2 hC1 hb h
    match k, h with
    | 0, h => exact h
    | 1, h => exact h
    | 2, h => exact h
    | 3, h => exact h
    | 4, h => exact h
    | 5, h => exact h
    | 6, h => exact Exists.elim h fun q hq => ⟨q, hq.1, hq.2.below hb hq.2.lt⟩
    | 7, h => exact h.below hb
    | k + 8, h => trivial
  · intro a b' hb hC; exact grown_trans hC hb
  · intro k v w1 w2 hne hsp hC1 hb h
    match k, hne, hsp, h with
    | 0, _, _, h => exact h
    | 1, _, _, h => exact h
    | 2, _, _, h => exact h
    | 3, _, _, h => exact h
    | 4, _, _, h => exact h
    | 5, _, _, h => exact h
    | 6, _, hsp, h => exact absurd hsp (by decide)
    | 7, hne, _, h => exact absurd rfl hne
    | k + 8, _, _, h => trivial
  · exact h0
  · exact ⟨hO.1.below (Below.refl _ _).drew, hO.2.below (Below.refl _ _).drew⟩
  · refine ⟨?_, ?_, ?_, ?_, ?_, ?_, ?_, ?_, trivial⟩
    · intro hj f w1 hC hA hd KK hK
      clear hd
      simp only [List.take_succ_cons, List.take_zero, setAll, List.setIfInBounds_toArray, List.set_cons_succ, List.set_cons_zero, Nat.zero_add, Nat.reduceAdd] at hK ⊢
      refine wp_of_quiet rfl ?_
      go_big_quiet_step (fail)
      exact wpQuiet_nil (hK _ _ rfl (Below.refl _ _))
    · intro hj f w1 hC hA hd KK hK
      clear hd
      simp only [List.take_succ_cons, List.take_zero, setAll, List.setIfInBounds_toArray, List.set_cons_succ, List.set_cons_zero, Nat.zero_add, Nat.reduceAdd] at hK ⊢
      refine wp_of_quiet rfl ?_
      go_big_quiet_step (fail)
      exact wpQuiet_nil (hK _ _ rfl (Below.refl _ _))
    · intro hj f w1 hC hA hd KK hK
      have g1 : f 1 = _ := hd 1 (by kernel_rfl)
      clear hd
      simp only [List.take_succ_cons, List.take_zero, setAll, List.setIfInBounds_toArray, List.set_cons_succ, List.set_cons_zero, Nat.zero_add, Nat.reduceAdd, g1] at hK ⊢
      refine wp_of_quiet rfl ?_
      go_big_quiet_step (fail)
      exact wpQuiet_nil (hK _ _ rfl (Below.refl _ _))
    · intro hj f w1 hC hA hd KK hK
      have g2 : f 2 = _ := hd 2 (by kernel_rfl)
      clear hd
      simp only [List.take_succ_cons, List.take_zero, setAll, List.setIfInBounds_toArray, List.set_cons_succ, List.set_cons_zero, Nat.zero_add, Nat.reduceAdd, g2] at hK ⊢
      refine wp_of_quiet rfl ?_
      go_big_quiet_step (fail)
      exact wpQuiet_nil (hK _ _ rfl (Below.refl _ _))
    · intro hj f w1 hC hA hd KK hK
      have g3 : f 3 = _ := hd 3 (by kernel_rfl)
      clear hd
      simp only [List.take_succ_cons, List.take_zero, setAll, List.setIfInBounds_toArray, List.set_cons_succ, List.set_cons_zero, Nat.zero_add, Nat.reduceAdd, g3] at hK ⊢
      have cc := HC1.out w1 hC
      refine wp_of_quiet rfl ?_
      go_big_quiet_step (fail)
      exact wpQuiet_nil (hK _ _ rfl (Below.refl _ _))
    · intro hj f w1 hC hA hd KK hK
      clear hd
      simp only [List.take_succ_cons, List.take_zero, setAll, List.setIfInBounds_toArray, List.set_cons_succ, List.set_cons_zero, Nat.zero_add, Nat.reduceAdd] at hK ⊢
      have cc := HP.out w1 hC
      refine wp_load_row 25 _ rfl _ rfl _ _ cc _ Try.underlying25 rfl 4 Try.info25 rfl ?_
      exact hK _ _ rfl (Below.refl _ _)
    · intro hj f w1 hC hA hd KK hK
      have g5 : f 5 = _ := hd 5 (by kernel_rfl)
      clear hd
      simp only [List.take_succ_cons, List.take_zero, setAll, List.setIfInBounds_toArray, List.set_cons_succ, List.set_cons_zero, Nat.zero_add, Nat.reduceAdd, g5] at hK ⊢
      refine wp_buildQ _ rfl _ _ _ _ _ _ rfl ?_
      exact hK _ _ ⟨_, rfl, Row.new _ _ _⟩ ((Below.refl _ _).alloc (Nat.le_refl _) _)
    · intro hj; exact absurd rfl hj
  · intro f w1 hC hA hd KK hK
    have g4 : f 4 = _ := hd 4 (by kernel_rfl)
    have x6 : ∃ q, (f 6) = .slice (some ⟨q, 0, none⟩) 1 1 ∧ Row w1 q 25 #[.int .u64 (pi : Int), .int .i64 (pn : Int), .bool pl, .slice ab bl cb] := hd 6 (by kernel_rfl)
    clear hd
    cases x6 with | intro u6 y60 =>
    have g6 := y60.1
    have z60 := y60.2
    clear y60
    have p6 := z60
    clear z60
    simp only [List.take_succ_cons, List.take_zero, setAll, List.setIfInBounds_toArray, List.set_cons_succ, List.set_cons_zero, Nat.zero_add, Nat.reduceAdd, g4, g6] at hK ⊢
    refine wp_appQ (.tmp 80) (.tmp 82) rfl N (Nat.le_trans hN hC.size) _ qs rfl hA.1 ⟨pi, (pn : Int), pl, d⟩ _ hA.2 u6 1 rfl p6 HMX.out (fun v' w' q1 q2 => hK _ _ q1 q2)
  · intro f w1 hC hv
    have g0 : f 0 = _ := hv 0 (by decide) (by decide)
    have g1 : f 1 = _ := hv 1 (by decide) (by decide)
    have g2 : f 2 = _ := hv 2 (by decide) (by decide)
    have g3 : f 3 = _ := hv 3 (by decide) (by decide)
    have g4 : f 4 = _ := hv 4 (by decide) (by decide)
    have g5 : f 5 = _ := hv 5 (by decide) (by decide)
    have p7 : OwnQ N w1 (f 7) (qs ++ [(⟨pi, (pn : Int), pl, d⟩, .slice ab bl cb)]) := hv 7 (by decide) (by decide)
    simp only [List.take_succ_cons, List.take_zero, List.drop_succ_cons, List.drop_zero, setAll, List.setIfInBounds_toArray, List.set_cons_succ, List.set_cons_zero, Nat.zero_add, Nat.reduceAdd, g0, g1, g2, g3, g4, g5]
    clear g0 g1 g2 g3 g4 g5 hv
    have C1 := Box'.mk hC
    have O1 := Box'.mk p7
    have cc := HC1.out w1 hC
    have ff := HFZ.out w1 hC
    clear p7 hC
    generalize f 6 = x6 at *
    generalize f 7 = x7 at *
    obtain ⟨a7, c7, hx7⟩ := O1.out.slice
    subst hx7
    generalize hl7 : (qs ++ [((⟨pi, (pn : Int), pl, d⟩ : Prt), Value.slice ab bl cb)]).length = l7 at *
    clear hl7
    go_wp2_with fail
    exact ⟨_, w1, C1.out, O1.out, rfl⟩

end Go.Proofs.Ythmcmdojnnbefaa
