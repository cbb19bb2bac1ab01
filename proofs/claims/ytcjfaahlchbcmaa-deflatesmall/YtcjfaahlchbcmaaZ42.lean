/- The drawn region of spelled. -/
import Derived.Test.YtcjfaahlchbcmaaZ41
import Derived.Test.YtcjfaahlchbcmaaZ16
namespace Go.Proofs.Ytcjfaahlchbcmaa
open Go.RowKit Go.BigFrame
set_option linter.unusedVariables false
set_option linter.unusedSimpArgs false

theorem row_pcs1 {w : World} {q x : Nat} {y : Int} (h : Row w q 73 #[.int .u64 (x : Int), .int .i64 y]) : ∀ j u, (pcs [(x, y)])[j]? = some u → w.cell? ((⟨q, 0, none⟩ : Addr).add j) = some u := by
  intro j u hu
  have e := h.cell j
  rw [Addr.add_mid, Nat.zero_add, e]
  simpa [pcs, pc] using hu
theorem row_pcs2 {w : World} {q x x' : Nat} {y y' : Int} (h : Row w q 73 #[.int .u64 (x : Int), .int .i64 y, .int .u64 (x' : Int), .int .i64 y']) : ∀ j u, (pcs [(x, y), (x', y')])[j]? = some u → w.cell? ((⟨q, 0, none⟩ : Addr).add j) = some u := by
  intro j u hu
  have e := h.cell j
  rw [Addr.add_mid, Nat.zero_add, e]
  simpa [pcs, pc] using hu
theorem ownP_ne {N : Nat} {w : World} {v : Value} {d : List Bt} (h : OwnP N w v d) {q : Nat} (e : v.ownBlock = some q) {t : TypeId} {c : Array Value} (hr : Row w q t c) (ht : t ≠ 73) : False := by
  obtain ⟨_, c', h'⟩ := h.row e
  exact row_type_ne hr h' ht
theorem run_buildP2 (w : World) (x x' : Nat) (y y' : Int) : (Instr.buildSlice 48 2 #[(0, .agg #[.int .u64 (x : Int), .int .i64 y]), (1, .agg #[.int .u64 (x' : Int), .int .i64 y'])]).run Try.prog w = .ok (.slice (some ⟨w.heap.size, 0, none⟩) 2 2) (w.alloc (.cells #[.int .u64 (x : Int), .int .i64 y, .int .u64 (x' : Int), .int .i64 y'] 73)) := by
  simp [go_sem, Instr.buildSlice]

theorem wp_buildP2 {op : Oper} {a : Act} {w : World} {K : Act → World → Prop} {Q : Exit → Act → World → Prop} (s s' : Operand) (ho : op.op = .buildSlice 48 2 #[(0, s), (1, s')]) (x x' : Nat) (y y' : Int) (hx : a.eval s = .agg #[.int .u64 (x : Int), .int .i64 y]) (hx' : a.eval s' = .agg #[.int .u64 (x' : Int), .int .i64 y'])
    (h : K (a.put op.dst (.slice (some ⟨w.heap.size, 0, none⟩) 2 2)) (w.alloc (.cells #[.int .u64 (x : Int), .int .i64 y, .int .u64 (x' : Int), .int .i64 y'] 73))) : op.wp Try.prog a w K Q := by
  have hr := run_buildP2 w x x' y y'
  unfold Oper.wp execOp
  simp only [ho, Sem.run_bind, List.map_toArray, List.map_cons, List.map_nil, hx, hx', hr, Result.andThen_ok, Sem.run_pure]
  exact h
set_option maxRecDepth 1000000 in
set_option maxHeartbeats 4000000 in
theorem spReg (gc p N q cv t1 : Nat) (va : Value) (cl t2 : Int) (d : List Bt) (arr : Array Value) (u0 u1 u2 u3 u4 u5 u6 u7 u9 u10 u12 u13 u14 u16 u17 u18 u19 u20 u21 u22 u23 u24 u25 u26 u27 u28 u29 u30 u31 u32 u33 u34 u35 u36 u37 u38 u39 u40 u41 u42 u43 u44 u45 u46 u47 u48 u49 u50 u51 u52 u53 u54 u55 u56 u57 u58 u59 u60 u61 u62 u63 u64 u65 u66 u67 u68 u69 u70 u71 u72 u73 u74 u75 u76 u77 u78 u79 u80 : Value) (w : World) (hNH : N ≤ w.heap.size) (hr : Row w p 110 #[.int .i64 (q : Int), .int .u64 (t1 : Int), .int .i64 t2]) (hg : Row w gc 73 arr) (hgN : gc < N) (ha0 : arr[q * 2]? = some (.int .u64 (cv : Int))) (ha1 : arr[q * 2 + 1]? = some (.int .i64 cl)) (hO : OwnP N w va d) (hd5 : d.length + 2 ≤ 1000000) (hva : ∀ q, va.ownBlock = some q → q < w.heap.size) (j1 : (0 : Int) ≤ (q : Int)) (j2 : (q : Int) < 19) :
    Code.wp Try.prog ((Try.f38.body.bind (regOf' 19)).getD .skip) (fun e a' w' => e = .normal ∧ ∃ v11 v69 v70 v71 v72 v73 v74 v75 v76 v77 v78 : Value, a' = ⟨List.toArray (u0 :: u1 :: u2 :: u3 :: u4 :: u5 :: u6 :: u7 :: .slice (some ⟨gc, 0, none⟩) 19 19 :: u9 :: u10 :: v11 :: u12 :: u13 :: u14 :: .pointer (some ⟨p, 0, none⟩) :: u16 :: u17 :: u18 :: u19 :: u20 :: u21 :: u22 :: u23 :: u24 :: u25 :: u26 :: u27 :: u28 :: u29 :: u30 :: u31 :: u32 :: u33 :: u34 :: u35 :: u36 :: u37 :: u38 :: u39 :: u40 :: u41 :: u42 :: u43 :: u44 :: u45 :: u46 :: u47 :: u48 :: u49 :: u50 :: u51 :: u52 :: u53 :: u54 :: u55 :: u56 :: u57 :: u58 :: u59 :: u60 :: u61 :: u62 :: u63 :: u64 :: u65 :: u66 :: u67 :: u68 :: v69 :: v70 :: v71 :: v72 :: v73 :: v74 :: v75 :: v76 :: v77 :: v78 :: u79 :: u80 :: []), []⟩ ∧ OwnP N w' v11 (d ++ [(cv, cl), (t1, t2)]) ∧ Below N w w') ⟨List.toArray (u0 :: u1 :: u2 :: u3 :: u4 :: u5 :: u6 :: u7 :: .slice (some ⟨gc, 0, none⟩) 19 19 :: u9 :: u10 :: va :: u12 :: u13 :: u14 :: .pointer (some ⟨p, 0, none⟩) :: u16 :: u17 :: u18 :: u19 :: u20 :: u21 :: u22 :: u23 :: u24 :: u25 :: u26 :: u27 :: u28 :: u29 :: u30 :: u31 :: u32 :: u33 :: u34 :: u35 :: u36 :: u37 :: u38 :: u39 :: u40 :: u41 :: u42 :: u43 :: u44 :: u45 :: u46 :: u47 :: u48 :: u49 :: u50 :: u51 :: u52 :: u53 :: u54 :: u55 :: u56 :: u57 :: u58 :: u59 :: u60 :: u61 :: u62 :: u63 :: u64 :: u65 :: u66 :: u67 :: u68 :: u69 :: u70 :: u71 :: u72 :: u73 :: u74 :: u75 :: u76 :: u77 :: u78 :: u79 :: u80 :: []), []⟩ w := by
  conv => arg 2; whnf
  refine wp_region_once 10 9 (by kernel_rfl) (by kernel_rfl) _ rfl (fun a b => Below a.heap.size a b) (fun a b => a.grownBy b va.ownBlock) (fun wa => Below N w wa ∧ Row wa p 110 #[.int .i64 (q : Int), .int .u64 (t1 : Int), .int .i64 t2] ∧ Row wa gc 73 arr) (fun wa => OwnP N wa va d) (fun k w1 v => match k with
      | 0 => v = va
      | 1 => v = .slice (some ⟨gc, 0, none⟩) 19 19
      | 2 => v = .pointer (some ⟨p, 0, none⟩)
      | 3 => v = .int .i64 (q : Int)
      | 4 => v = .pointer (some ⟨gc, q * 2, none⟩)
      | 5 => v = .agg #[.int .u64 (cv : Int), .int .i64 cl]
      | 6 => v = .pointer (some ⟨p, 1, none⟩)
      | 7 => v = .agg #[.int .u64 (t1 : Int), .int .i64 t2]
      | 8 => ∃ q', v = .slice (some ⟨q', 0, none⟩) 2 2 ∧ w.heap.size ≤ q' ∧ Row w1 q' 73 #[.int .u64 (cv : Int), .int .i64 cl, .int .u64 (t1 : Int), .int .i64 t2]
      | 9 => OwnP N w1 v (d ++ [(cv, cl), (t1, t2)])
      | _ => True) ?_ ?_ ?_ ?_ ?_ ?_ ?_ ?_ ?_ ?_
  · intro a b' hb hC; exact ⟨hC.1.trans (hb.mono (Nat.le_trans hNH hC.1.size)), hC.2.1.below hb hC.2.1.lt, hC.2.2.below hb hC.2.2.lt⟩
  · intro a b' hC hb h; exact h.below hb
  · intro k v w1 w2 hC1 hb h
    match k, h with
    | 0, h => exact h
    | 1, h => exact h
    | 2, h => exact h
    | 3, h => exact h
    | 4, h => exact h
    | 5, h => exact h
    | 6, h => exact h
    | 7, h => exact h
    | 8, h => exact Exists.elim h fun q hq => ⟨q, hq.1, hq.2.1, hq.2.2.below hb hq.2.2.lt⟩
    | 9, h => exact OwnP.below h hb
    | k + 10, h => trivial
  · intro a b' hb hC hA; exact ⟨below_grownP hC.1 hNH hA hb, hC.2.1.same (hb.block _ hC.2.1.lt (fun e => ownP_ne hA e.symm hC.2.1 (by decide))), hC.2.2.same (hb.block _ hC.2.2.lt (fun e => by have := (hA.row e.symm).1; omega))⟩
  · intro k v w1 w2 hne hC1 hA1 hb h
    match k, hne, h with
    | 0, _, h => exact h
    | 1, _, h => exact h
    | 2, _, h => exact h
    | 3, _, h => exact h
    | 4, _, h => exact h
    | 5, _, h => exact h
    | 6, _, h => exact h
    | 7, _, h => exact h
    | 8, _, h => exact Exists.elim h fun q hq => ⟨q, hq.1, hq.2.1, hq.2.2.same (hb.block q hq.2.2.lt (fun e => by have := (hva q e.symm); omega))⟩
    | 9, hne, h => exact absurd rfl hne
    | k + 10, _, h => trivial
  · exact ⟨(Below.refl _ _).drew, hr, hg⟩
  · exact hO
  · refine ⟨?_, ?_, ?_, ?_, ?_, ?_, ?_, ?_, ?_, ?_, trivial⟩
    · intro hj f w1 hC hd KK hK
      clear hd
      simp only [List.take_succ_cons, List.take_zero, setAll, List.setIfInBounds_toArray, List.set_cons_succ, List.set_cons_zero, Nat.zero_add, Nat.reduceAdd] at hK ⊢
      refine wp_of_quiet rfl ?_
      go_big_quiet_step (fail)
      exact wpQuiet_nil (hK _ _ rfl (Below.refl _ _))
    · intro hj f w1 hC hd KK hK
      clear hd
      simp only [List.take_succ_cons, List.take_zero, setAll, List.setIfInBounds_toArray, List.set_cons_succ, List.set_cons_zero, Nat.zero_add, Nat.reduceAdd] at hK ⊢
      refine wp_of_quiet rfl ?_
      go_big_quiet_step (fail)
      exact wpQuiet_nil (hK _ _ rfl (Below.refl _ _))
    · intro hj f w1 hC hd KK hK
      clear hd
      simp only [List.take_succ_cons, List.take_zero, setAll, List.setIfInBounds_toArray, List.set_cons_succ, List.set_cons_zero, Nat.zero_add, Nat.reduceAdd] at hK ⊢
      refine wp_of_quiet rfl ?_
      go_big_quiet_step (fail)
      exact wpQuiet_nil (hK _ _ rfl (Below.refl _ _))
    · intro hj f w1 hC hd KK hK
      have g2 : f 2 = _ := hd 2 (by kernel_rfl)
      clear hd
      simp only [List.take_succ_cons, List.take_zero, setAll, List.setIfInBounds_toArray, List.set_cons_succ, List.set_cons_zero, Nat.zero_add, Nat.reduceAdd, g2] at hK ⊢
      have cc : w1.cell? ⟨p, 0, none⟩ = some (.int .i64 (q : Int)) := by rw [hC.2.1.cell]; rfl
      refine wp_of_quiet rfl ?_
      go_big_quiet_step (fail)
      exact wpQuiet_nil (hK _ _ rfl (Below.refl _ _))
    · intro hj f w1 hC hd KK hK
      have g1 : f 1 = _ := hd 1 (by kernel_rfl)
      have g3 : f 3 = _ := hd 3 (by kernel_rfl)
      clear hd
      simp only [List.take_succ_cons, List.take_zero, setAll, List.setIfInBounds_toArray, List.set_cons_succ, List.set_cons_zero, Nat.zero_add, Nat.reduceAdd, g1, g3] at hK ⊢
      refine wp_of_quiet rfl ?_
      go_big_quiet_step (fail)
      exact wpQuiet_nil (hK _ _ rfl (Below.refl _ _))
    · intro hj f w1 hC hd KK hK
      have g4 : f 4 = _ := hd 4 (by kernel_rfl)
      clear hd
      simp only [List.take_succ_cons, List.take_zero, setAll, List.setIfInBounds_toArray, List.set_cons_succ, List.set_cons_zero, Nat.zero_add, Nat.reduceAdd, g4] at hK ⊢
      have cc : w1.cell? ⟨gc, q * 2, none⟩ = some (.int .u64 (cv : Int)) := by rw [hC.2.2.cell]; exact ha0
      have cd : w1.cell? ⟨gc, q * 2 + 1, none⟩ = some (.int .i64 cl) := by rw [hC.2.2.cell]; exact ha1
      refine wp_of_quiet rfl ?_
      go_big_quiet_step (fail)
      exact wpQuiet_nil (hK _ _ rfl (Below.refl _ _))
    · intro hj f w1 hC hd KK hK
      clear hd
      simp only [List.take_succ_cons, List.take_zero, setAll, List.setIfInBounds_toArray, List.set_cons_succ, List.set_cons_zero, Nat.zero_add, Nat.reduceAdd] at hK ⊢
      refine wp_of_quiet rfl ?_
      go_big_quiet_step (fail)
      exact wpQuiet_nil (hK _ _ rfl (Below.refl _ _))
    · intro hj f w1 hC hd KK hK
      have g6 : f 6 = _ := hd 6 (by kernel_rfl)
      clear hd
      simp only [List.take_succ_cons, List.take_zero, setAll, List.setIfInBounds_toArray, List.set_cons_succ, List.set_cons_zero, Nat.zero_add, Nat.reduceAdd, g6] at hK ⊢
      have cc : w1.cell? ⟨p, 1, none⟩ = some (.int .u64 (t1 : Int)) := by rw [hC.2.1.cell]; rfl
      have cd : w1.cell? ⟨p, 2, none⟩ = some (.int .i64 t2) := by rw [hC.2.1.cell]; rfl
      refine wp_of_quiet rfl ?_
      go_big_quiet_step (fail)
      exact wpQuiet_nil (hK _ _ rfl (Below.refl _ _))
    · intro hj f w1 hC hd KK hK
      have g5 : f 5 = _ := hd 5 (by kernel_rfl)
      have g7 : f 7 = _ := hd 7 (by kernel_rfl)
      clear hd
      simp only [List.take_succ_cons, List.take_zero, setAll, List.setIfInBounds_toArray, List.set_cons_succ, List.set_cons_zero, Nat.zero_add, Nat.reduceAdd, g5, g7] at hK ⊢
      refine wp_buildP2 _ _ rfl cv t1 cl t2 rfl rfl ?_
      exact hK _ _ ⟨_, rfl, hC.1.size, Row.new _ _ _⟩ ((Below.refl _ _).alloc (Nat.le_refl _) _)
    · intro hj; exact absurd rfl hj
  · intro f w1 hC hA hd KK hK
    have g0 : f 0 = _ := hd 0 (by kernel_rfl)
    have x8 : ∃ q', (f 8) = .slice (some ⟨q', 0, none⟩) 2 2 ∧ w.heap.size ≤ q' ∧ Row w1 q' 73 #[.int .u64 (cv : Int), .int .i64 cl, .int .u64 (t1 : Int), .int .i64 t2] := hd 8 (by kernel_rfl)
    clear hd
    cases x8 with | intro u8 y80 =>
    have g8 := y80.1
    have z80 := y80.2
    clear y80
    have p8 := z80.1
    have z81 := z80.2
    clear z80
    have q8 := z81
    clear z81
    simp only [List.take_succ_cons, List.take_zero, setAll, List.setIfInBounds_toArray, List.set_cons_succ, List.set_cons_zero, Nat.zero_add, Nat.reduceAdd, g0, g8] at hK ⊢
    refine wp_appP (.tmp 69) (.tmp 77) rfl N (Nat.le_trans hNH hC.1.size) va d rfl hA _ 2 2 [(cv, cl), (t1, t2)] rfl rfl (row_pcs2 q8) hd5 ?_
    intro v' w' h1 h2 _
    exact hK _ _ h1 h2
  · intro f w1 hC hv
    have g0 : f 0 = _ := hv 0 (by decide)
    have g1 : f 1 = _ := hv 1 (by decide)
    have g2 : f 2 = _ := hv 2 (by decide)
    have g3 : f 3 = _ := hv 3 (by decide)
    have g4 : f 4 = _ := hv 4 (by decide)
    have g5 : f 5 = _ := hv 5 (by decide)
    have g6 : f 6 = _ := hv 6 (by decide)
    have g7 : f 7 = _ := hv 7 (by decide)
    have x8 : ∃ q', (f 8) = .slice (some ⟨q', 0, none⟩) 2 2 ∧ w.heap.size ≤ q' ∧ Row w1 q' 73 #[.int .u64 (cv : Int), .int .i64 cl, .int .u64 (t1 : Int), .int .i64 t2] := hv 8 (by decide)
    have p9 : OwnP N w1 (f 9) (d ++ [(cv, cl), (t1, t2)]) := hv 9 (by decide)
    cases x8 with | intro u8 y80 =>
    have g8 := y80.1
    have z80 := y80.2
    clear y80
    have p8 := z80.1
    have z81 := z80.2
    clear z80
    have q8 := z81
    clear z81
    simp only [List.take_succ_cons, List.take_zero, List.drop_succ_cons, List.drop_zero, setAll, List.setIfInBounds_toArray, List.set_cons_succ, List.set_cons_zero, Nat.zero_add, Nat.reduceAdd, g0, g1, g2, g3, g4, g5, g6, g7, g8]
    clear g0 g1 g2 g3 g4 g5 g6 g7 g8 hv
    clear q8 p8
    generalize f 9 = v9 at *
    have HB := Box'.mk hC.1
    have P9 := Box'.mk p9
    clear p9 hC
    go_wp2_with fail
    exact ⟨P9.out, HB.out⟩
end Go.Proofs.Ytcjfaahlchbcmaa
