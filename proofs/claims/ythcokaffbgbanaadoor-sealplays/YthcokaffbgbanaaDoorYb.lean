/- The drawn region of the reference's Bytes, by itself. -/
import Derived.Test.YthcokaffbgbanaaDoorZg
import Derived.Test.YthcokaffbgbanaaDoorXm
import Derived.Laws.Append
namespace Go.Proofs.YthcokaffbgbanaaDoor
open Go.RowKit Go.BigFrame

theorem run_build4 (w : World) : (Instr.buildSlice 26 4 #[(0, .int .u8 0), (1, .int .u8 0), (2, .int .u8 0), (3, .int .u8 0)]).run Tryd.prog w = .ok (.slice (some ⟨w.heap.size, 0, none⟩) 4 4) (w.alloc (.cells (ag [0, 0, 0, 0]) 5)) := by
  simp [go_sem, Instr.buildSlice]
  rfl
theorem wp_build4 {op : Oper} {a : Act} {w : World} {K : Act → World → Prop} {Q : Exit → Act → World → Prop} (ho : op.op = .buildSlice 26 4 #[(0, .const (.int .u8 0)), (1, .const (.int .u8 0)), (2, .const (.int .u8 0)), (3, .const (.int .u8 0))])
    (h : K (a.put op.dst (.slice (some ⟨w.heap.size, 0, none⟩) 4 4)) (w.alloc (.cells (ag [0, 0, 0, 0]) 5))) : op.wp Tryd.prog a w K Q := by
  have hr := run_build4 w
  unfold Oper.wp execOp
  simp only [ho, List.map_toArray, List.map_cons, List.map_nil, Act.eval, Sem.run_bind, hr, Result.andThen_ok]
  exact h
/-- append([]byte{0, 0, 0, 0}, x...) of eight bytes: a row of its own. -/
theorem wp_app48 {op : Oper} {a : Act} {w : World} {K : Act → World → Prop} {Q : Exit → Act → World → Prop} (s x : Operand) (ho : op.op = .call { callee := .builtin .append, args := #[s, x], argTypes := #[26, 26] }) (g : Nat)
    (hs : a.eval s = .slice (some ⟨g, 0, none⟩) 4 4) (hg : Row w g 5 (ag [0, 0, 0, 0])) (l : List UInt8) (hl : l.length = 8) (vx : Value) (hx : a.eval x = vx) (hin : InE w.heap.size w vx l)
    (h : ∀ v' w', Own w.heap.size w' v' ([0, 0, 0, 0] ++ l) → Below w.heap.size w w' → K (a.put op.dst v') w') : op.wp Tryd.prog a w K Q := by
  obtain ⟨i, h1, h2, h3, h4⟩ := Tryd.info5a
  rcases hin with ⟨_, rfl⟩ | ⟨ad, c, rfl, hc, hb, hr⟩
  · cases hl
  have hown : Own 0 w (.slice (some ⟨g, 0, none⟩) 4 4) [0, 0, 0, 0] := ⟨rfl, .inr ⟨g, 4, ag [0, 0, 0, 0], rfl, Nat.zero_le _, hg, Nat.le_refl _, by unfold maxLen; omega, rfl, rfl⟩⟩
  obtain ⟨v', w', hr1, g2, g3, _⟩ := run_append_own (P := Tryd.prog) w 0 26 op.type 5 i _ 1 1 Tryd.underlying26 h1 h2 h3 h4 rfl (by decide) (.slice (some ⟨g, 0, none⟩) 4 4) 4 _ hown ad l.length c (l.map B) (by rw [List.length_map, Nat.mul_one]) hr (one_By l) (by unfold maxLen; omega) (by omega) (Nat.zero_le _)
  have hr2 := run_append_grow (P := Tryd.prog) w 26 op.type 5 i _ Tryd.underlying26 h1 h2 ⟨g, 0, none⟩ 4 4 ([0, 0, 0, 0].map B) (by rw [h3]; rfl) (fun j v hv => by rw [Addr.add_mid, Nat.zero_add, hg.cell]; simpa [ag] using hv) ad l.length c (l.map B) (by rw [List.length_map, h3, Nat.mul_one]) hr (by omega) (by omega) (by rw [h4, hl]; decide)
  rw [hr1] at hr2
  injection hr2 with e1 e2
  have hB : Below w.heap.size w w' := by rw [e2]; exact ((Below.refl _ _).drew).alloc (Nat.le_refl _) _
  have hO : Own w.heap.size w' v' ([0, 0, 0, 0] ++ l) := by
    obtain ⟨q1, q2⟩ := g2
    refine ⟨by rw [List.length_map, Nat.mul_one], ?_⟩
    rcases q2 with ⟨e, _⟩ | ⟨g', cap, cur, k1, k2, k3, k4, k5, k6, k7⟩
    · rw [e1] at e; cases e
    · refine .inr ⟨g', cap, cur, ?_, ?_, k3, ?_, k5, k6, ?_⟩
      · rw [k1, List.length_append]; rfl
      · rw [e1] at k1; injection k1 with k1; injection k1 with k1; injection k1 with k1; omega
      · rw [List.length_append]; exact k4
      · rw [List.length_append, List.map_append]; exact k7
  unfold Oper.wp execOp
  simp only [ho, resolve, invoke, builtin, Sem.run_bind, Sem.run_pure, Result.andThen_ok, List.map_toArray, List.map_cons, List.map_nil, hs, hx, hr1]
  exact h _ _ hO hB
set_option maxRecDepth 1000000 in
set_option maxHeartbeats 4000000 in
theorem rsealReg (key P : List UInt8) (hkey : key.length = 16) (hP : P.length ≤ 65536) (H kb N : Nat) (w0 : World) (vp vh : Value) (u0 u1 u2 u4 u5 u6 u7 u10 u11 u12 u13 u14 u15 u16 u17 u18 u19 u20 u21 u22 u23 u24 u25 u26 u27 u28 u29 u30 u31 u32 u33 u34 u35 u36 u37 u38 u39 u40 u41 u42 u43 u44 u45 u46 u47 u48 u49 u50 u51 u52 u53 u54 u55 u56 u57 u58 u59 : Value) (w : World) (hN : N ≤ w0.heap.size) (hb0 : Below N w0 w) (ho : Own N w vp P) (hh : Own N w vh (Gf.be8 H)) (hk : Row w kb 23 (ag key)) :
    Code.wp Tryd.prog ((Tryd.f12.body.bind (regOf' 5)).getD .skip) (fun e a' w' => e = .normal ∧ ∃ v10 v11 v48 v49 v50 v51 v52 v53 v54 v55 v56 : Value, a' = ⟨List.toArray (u0 :: u1 :: u2 :: .pointer (some ⟨kb, 0, none⟩) :: u4 :: u5 :: u6 :: u7 :: vh :: vp :: v10 :: v11 :: u12 :: u13 :: u14 :: u15 :: u16 :: u17 :: u18 :: u19 :: u20 :: u21 :: u22 :: u23 :: u24 :: u25 :: u26 :: u27 :: u28 :: u29 :: u30 :: u31 :: u32 :: u33 :: u34 :: u35 :: u36 :: u37 :: u38 :: u39 :: u40 :: u41 :: u42 :: u43 :: u44 :: u45 :: u46 :: u47 :: v48 :: v49 :: v50 :: v51 :: v52 :: v53 :: v54 :: v55 :: v56 :: u57 :: u58 :: u59 :: []), []⟩ ∧ Own N w' v10 (Gf.sealed key (Gf.nnc H) [] P) ∧ Own N w' vh (Gf.be8 H) ∧ Below N w0 w') ⟨List.toArray (u0 :: u1 :: u2 :: .pointer (some ⟨kb, 0, none⟩) :: u4 :: u5 :: u6 :: u7 :: vh :: vp :: u10 :: u11 :: u12 :: u13 :: u14 :: u15 :: u16 :: u17 :: u18 :: u19 :: u20 :: u21 :: u22 :: u23 :: u24 :: u25 :: u26 :: u27 :: u28 :: u29 :: u30 :: u31 :: u32 :: u33 :: u34 :: u35 :: u36 :: u37 :: u38 :: u39 :: u40 :: u41 :: u42 :: u43 :: u44 :: u45 :: u46 :: u47 :: u48 :: u49 :: u50 :: u51 :: u52 :: u53 :: u54 :: u55 :: u56 :: u57 :: u58 :: u59 :: []), []⟩ w := by
  conv => arg 2; whnf
  have HSE := Box'.mk (fun (vn : Value) (w1 : World) (h2 : Bts (· < w1.heap.size) w1 vn (Gf.nnc H)) (h3 : Bts (· < w1.heap.size) w1 vp P) =>
    refSeal_ok key hkey vn (.slice none 0 0) vp (Gf.nnc H) [] P (by rw [Gf.nnc_len]; omega) (by rw [Gf.nnc_len]; omega) (by simp) hP w1 h2 (noBts w1) h3)
  refine wp_region_grow 10 (by kernel_rfl) (by kernel_rfl) (fun a b => Below a.heap.size a b) (fun w1 => Below N w0 w1 ∧ Own N w1 vp P ∧ Own N w1 vh (Gf.be8 H) ∧ Row w1 kb 23 (ag key)) (fun k w1 v => match k with
      | 0 => v = .agg (ag key)
      | 1 => ∃ g, v = .slice (some ⟨g, 0, none⟩) 4 4 ∧ Row w1 g 5 (ag [0, 0, 0, 0])
      | 2 => v = vh
      | 3 => Own N w1 v (Gf.nnc H)
      | 4 => v = vp
      | 5 => ∃ u, v = .tuple #[u, .int .i64 0] ∧ Own N w1 u (Gf.sealed key (Gf.nnc H) [] P)
      | 6 => ∃ u, v = .tuple #[u, .int .i64 0] ∧ Own N w1 u (Gf.sealed key (Gf.nnc H) [] P)
      | 7 => Own N w1 v (Gf.sealed key (Gf.nnc H) [] P)
      | 8 => v = .int .i64 0
      | 9 => Own N w1 v (Gf.sealed key (Gf.nnc H) [] P)
      | _ => True) ?_ ?_ ?_ ?_ ?_
  · intro a b hb hC; exact ⟨hC.1.trans (hb.mono (Nat.le_trans hN hC.1.size)), hC.2.1.below hb, hC.2.2.1.below hb, hC.2.2.2.below hb hC.2.2.2.lt⟩
  · intro k v w1 w2 hC1 hb h
    match k, h with
    | 0, h => exact h
    | 1, h => exact Exists.elim h fun g hg => ⟨g, hg.1, hg.2.below hb hg.2.lt⟩
    | 2, h => exact h
    | 3, h => exact Own.below h hb
    | 4, h => exact h
    | 5, h => exact Exists.elim h fun u hu => ⟨u, hu.1, Own.below hu.2 hb⟩
    | 6, h => exact Exists.elim h fun u hu => ⟨u, hu.1, Own.below hu.2 hb⟩
    | 7, h => exact Own.below h hb
    | 8, h => exact h
    | 9, h => exact Own.below h hb
    | k + 10, h => trivial
  · exact ⟨hb0.drew, ho, hh, hk⟩
  · refine ⟨?_, ?_, ?_, ?_, ?_, ?_, ?_, ?_, ?_, ?_, trivial⟩
    · intro f w1 hC hd KK hK
      clear hd
      simp only [List.take_succ_cons, List.take_zero, setAll, List.setIfInBounds_toArray, List.set_cons_succ, List.set_cons_zero, Nat.zero_add, Nat.reduceAdd] at hK ⊢
      refine wp_load_row 23 _ rfl _ rfl _ _ (hC.2.2.2) _ Tryd.underlying23 rfl 16 Tryd.info23 (by rw [ag_size]; exact hkey) ?_
      exact hK _ _ rfl (Below.refl _ _)
    · intro f w1 hC hd KK hK
      clear hd
      simp only [List.take_succ_cons, List.take_zero, setAll, List.setIfInBounds_toArray, List.set_cons_succ, List.set_cons_zero, Nat.zero_add, Nat.reduceAdd] at hK ⊢
      refine wp_build4 rfl ?_
      exact hK _ _ ⟨_, rfl, Row.new _ _ _⟩ ((Below.refl _ _).alloc (Nat.le_refl _) _)
    · intro f w1 hC hd KK hK
      clear hd
      simp only [List.take_succ_cons, List.take_zero, setAll, List.setIfInBounds_toArray, List.set_cons_succ, List.set_cons_zero, Nat.zero_add, Nat.reduceAdd] at hK ⊢
      refine wp_of_quiet rfl ?_
      go_big_quiet_step (fail)
      exact wpQuiet_nil (hK _ _ rfl (Below.refl _ _))
    · intro f w1 hC hd KK hK
      have x1 : ∃ g, (f 1) = .slice (some ⟨g, 0, none⟩) 4 4 ∧ Row w1 g 5 (ag [0, 0, 0, 0]) := hd 1 (by kernel_rfl)
      have g2 : f 2 = _ := hd 2 (by kernel_rfl)
      clear hd
      cases x1 with | intro u1 y10 =>
      have g1 := y10.1
      have z10 := y10.2
      clear y10
      have p1 := z10
      clear z10
      simp only [List.take_succ_cons, List.take_zero, setAll, List.setIfInBounds_toArray, List.set_cons_succ, List.set_cons_zero, Nat.zero_add, Nat.reduceAdd, g1, g2] at hK ⊢
      refine wp_app48 _ _ rfl u1 rfl p1 (Gf.be8 H) (Gf.be8_len H) vh rfl hC.2.2.1.inB.inE ?_
      intro v w' ho hb
      exact hK _ _ (ho.less (Nat.le_trans hN hC.1.size)) hb
    · intro f w1 hC hd KK hK
      clear hd
      simp only [List.take_succ_cons, List.take_zero, setAll, List.setIfInBounds_toArray, List.set_cons_succ, List.set_cons_zero, Nat.zero_add, Nat.reduceAdd] at hK ⊢
      refine wp_of_quiet rfl ?_
      go_big_quiet_step (fail)
      exact wpQuiet_nil (hK _ _ rfl (Below.refl _ _))
    · intro f w1 hC hd KK hK
      have g0 : f 0 = _ := hd 0 (by kernel_rfl)
      have p3 : Own N w1 (f 3) (Gf.nnc H) := hd 3 (by kernel_rfl)
      have g4 : f 4 = _ := hd 4 (by kernel_rfl)
      clear hd
      simp only [List.take_succ_cons, List.take_zero, setAll, List.setIfInBounds_toArray, List.set_cons_succ, List.set_cons_zero, Nat.zero_add, Nat.reduceAdd, g0, g4] at hK ⊢
      refine wp_callE 36 #[.agg (ag key), f 3, .slice none 0 0, vp] (by simp [go_sem]) (fun v w' => (∃ u, v = .tuple #[u, .int .i64 0] ∧ Own w1.heap.size w' u (Gf.sealed key (Gf.nnc H) [] P)) ∧ Below w1.heap.size w1 w') ?_ ?_
      · exact ((HSE.out (f 3) w1 p3.bts hC.2.1.bts).mono fun e w' h => by obtain ⟨g, rfl, h5, h6⟩ := h; exact ⟨_, rfl, ⟨_, rfl, h5⟩, h6⟩)
      · intro v w' hr
        obtain ⟨⟨u, hu, ho⟩, hb⟩ := hr
        exact hK _ _ ⟨u, hu, ho.less (Nat.le_trans hN hC.1.size)⟩ hb
    · intro f w1 hC hd KK hK
      have x5 : ∃ u, (f 5) = .tuple #[u, .int .i64 0] ∧ Own N w1 u (Gf.sealed key (Gf.nnc H) [] P) := hd 5 (by kernel_rfl)
      clear hd
      cases x5 with | intro u5 y50 =>
      have g5 := y50.1
      have z50 := y50.2
      clear y50
      have p5 := z50
      clear z50
      simp only [List.take_succ_cons, List.take_zero, setAll, List.setIfInBounds_toArray, List.set_cons_succ, List.set_cons_zero, Nat.zero_add, Nat.reduceAdd, g5] at hK ⊢
      refine wp_of_quiet rfl ?_
      go_big_quiet_step (fail)
      exact wpQuiet_nil (hK _ _ ⟨u5, rfl, p5⟩ (Below.refl _ _))
    · intro f w1 hC hd KK hK
      have x6 : ∃ u, (f 6) = .tuple #[u, .int .i64 0] ∧ Own N w1 u (Gf.sealed key (Gf.nnc H) [] P) := hd 6 (by kernel_rfl)
      clear hd
      cases x6 with | intro u6 y60 =>
      have g6 := y60.1
      have z60 := y60.2
      clear y60
      have p6 := z60
      clear z60
      simp only [List.take_succ_cons, List.take_zero, setAll, List.setIfInBounds_toArray, List.set_cons_succ, List.set_cons_zero, Nat.zero_add, Nat.reduceAdd, g6] at hK ⊢
      refine wp_of_quiet rfl ?_
      go_big_quiet_step (fail)
      exact wpQuiet_nil (hK _ _ p6 (Below.refl _ _))
    · intro f w1 hC hd KK hK
      have x6 : ∃ u, (f 6) = .tuple #[u, .int .i64 0] ∧ Own N w1 u (Gf.sealed key (Gf.nnc H) [] P) := hd 6 (by kernel_rfl)
      clear hd
      cases x6 with | intro u6 y60 =>
      have g6 := y60.1
      have z60 := y60.2
      clear y60
      have p6 := z60
      clear z60
      simp only [List.take_succ_cons, List.take_zero, setAll, List.setIfInBounds_toArray, List.set_cons_succ, List.set_cons_zero, Nat.zero_add, Nat.reduceAdd, g6] at hK ⊢
      refine wp_of_quiet rfl ?_
      go_big_quiet_step (fail)
      exact wpQuiet_nil (hK _ _ rfl (Below.refl _ _))
    · intro f w1 hC hd KK hK
      have p7 : Own N w1 (f 7) (Gf.sealed key (Gf.nnc H) [] P) := hd 7 (by kernel_rfl)
      clear hd
      simp only [List.take_succ_cons, List.take_zero, setAll, List.setIfInBounds_toArray, List.set_cons_succ, List.set_cons_zero, Nat.zero_add, Nat.reduceAdd] at hK ⊢
      refine wp_of_quiet rfl ?_
      go_big_quiet_step (fail)
      exact wpQuiet_nil (hK _ _ p7 (Below.refl _ _))
  · intro f w1 hC hv
    have g0 : f 0 = _ := hv 0 (by decide)
    have x1 : ∃ g, (f 1) = .slice (some ⟨g, 0, none⟩) 4 4 ∧ Row w1 g 5 (ag [0, 0, 0, 0]) := hv 1 (by decide)
    have g2 : f 2 = _ := hv 2 (by decide)
    have p3 : Own N w1 (f 3) (Gf.nnc H) := hv 3 (by decide)
    have g4 : f 4 = _ := hv 4 (by decide)
    have x5 : ∃ u, (f 5) = .tuple #[u, .int .i64 0] ∧ Own N w1 u (Gf.sealed key (Gf.nnc H) [] P) := hv 5 (by decide)
    have x6 : ∃ u, (f 6) = .tuple #[u, .int .i64 0] ∧ Own N w1 u (Gf.sealed key (Gf.nnc H) [] P) := hv 6 (by decide)
    have p7 : Own N w1 (f 7) (Gf.sealed key (Gf.nnc H) [] P) := hv 7 (by decide)
    have g8 : f 8 = _ := hv 8 (by decide)
    have p9 : Own N w1 (f 9) (Gf.sealed key (Gf.nnc H) [] P) := hv 9 (by decide)
    cases x1 with | intro u1 y10 =>
    have g1 := y10.1
    have z10 := y10.2
    clear y10
    have p1 := z10
    clear z10
    cases x5 with | intro u5 y50 =>
    have g5 := y50.1
    have z50 := y50.2
    clear y50
    have p5 := z50
    clear z50
    cases x6 with | intro u6 y60 =>
    have g6 := y60.1
    have z60 := y60.2
    clear y60
    have p6 := z60
    clear z60
    simp only [List.take_succ_cons, List.take_zero, List.drop_succ_cons, List.drop_zero, setAll, List.setIfInBounds_toArray, List.set_cons_succ, List.set_cons_zero, Nat.zero_add, Nat.reduceAdd, g0, g1, g2, g4, g5, g6, g8]
    clear g0 g1 g2 g4 g5 g6 g8 hv
    have q8 := hC.1
    have q9 := hC.2.2.1
    go_wp2_with fail
end Go.Proofs.YthcokaffbgbanaaDoor
