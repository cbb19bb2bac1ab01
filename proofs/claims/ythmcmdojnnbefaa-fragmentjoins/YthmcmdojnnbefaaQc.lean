/- The drawn region of Take that stores a part, by itself. -/
import Derived.Test.YthmcmdojnnbefaaQb
namespace Go.Proofs.Ythmcmdojnnbefaa
open Go.RowKit Go.BigFrame
set_option linter.unusedVariables false

set_option maxRecDepth 1000000 in
set_option maxHeartbeats 4000000 in
theorem upReg (jb g kb pb id n : Nat) (la : Bool) (va : Option Addr) (vn vc : Nat) (d : List UInt8) (ps : List (Pc × Value)) (x : Pc) (u1 u2 u4 u5 u6 u8 u9 u10 u11 u12 u13 u14 u15 u16 u17 u18 u19 u20 u21 u22 u23 u24 u25 u26 u27 u28 u29 u30 u31 u32 u33 u34 u35 u36 u37 u38 u39 u40 u41 u42 u43 u44 u45 u46 u47 u48 u49 u50 u51 u52 u53 u54 u55 u56 u57 u58 u59 u60 u61 u62 u63 u64 u65 u66 u67 u68 u69 u70 u71 u72 u73 u74 u75 u76 u77 u78 u79 u80 u81 u82 u83 u84 u85 u86 u87 : Value) (w : World) (hC2 : ∀ w1, Below w.heap.size w w1 → w1.cell? ⟨jb, 2, none⟩ = some (.map (some g))) (hKk : ∀ w1, Below w.heap.size w w1 → Row w1 kb 72 #[.int .u64 (id : Int), .int .i64 (n : Int)]) (hP2 : ∀ w1, Below w.heap.size w w1 → w1.cell? ⟨pb, 2, none⟩ = some (.bool la)) (hP3 : ∀ w1, Below w.heap.size w w1 → w1.cell? ⟨pb, 3, none⟩ = some (.slice va vn vc)) (hCl : ∀ w1, Below w.heap.size w w1 → Calls Try.prog 28 #[.slice va vn vc] w1 fun e w' => ∃ v', e = .returned v' ∧ OwnB w1.heap.size w' v' d ∧ Below w1.heap.size w1 w') (hU : ∀ w1, Below w.heap.size w w1 → ∀ u, ∃ w', (Instr.mapUpdate 67 (.map (some g)) (ky id n) (.agg #[.bool la, u])).run Try.prog w1 = .ok () w' ∧ JM w' g id (ps ++ [(x, u)]) ∧ w1.grownBy w' (some g)) :
    Code.wp Try.prog ((Try.f19.body.bind (regOf' 15)).getD .skip) (fun e a' w' => e = .normal ∧ ∃ v59 v60 v61 v62 v63 v64 v65 v66 v67 v68 v69 : Value, a' = ⟨List.toArray (.pointer (some ⟨jb, 0, none⟩) :: u1 :: u2 :: .pointer (some ⟨pb, 0, none⟩) :: u4 :: u5 :: u6 :: .pointer (some ⟨kb, 0, none⟩) :: u8 :: u9 :: u10 :: u11 :: u12 :: u13 :: u14 :: u15 :: u16 :: u17 :: u18 :: u19 :: u20 :: u21 :: u22 :: u23 :: u24 :: u25 :: u26 :: u27 :: u28 :: u29 :: u30 :: u31 :: u32 :: u33 :: u34 :: u35 :: u36 :: u37 :: u38 :: u39 :: u40 :: u41 :: u42 :: u43 :: u44 :: u45 :: u46 :: u47 :: u48 :: u49 :: u50 :: u51 :: u52 :: u53 :: u54 :: u55 :: u56 :: u57 :: u58 :: v59 :: v60 :: v61 :: v62 :: v63 :: v64 :: v65 :: v66 :: v67 :: v68 :: v69 :: u70 :: u71 :: u72 :: u73 :: u74 :: u75 :: u76 :: u77 :: u78 :: u79 :: u80 :: u81 :: u82 :: u83 :: u84 :: u85 :: u86 :: u87 :: []), []⟩ ∧ ∃ u w1, Below w.heap.size w w1 ∧ OwnB w.heap.size w1 u d ∧ JM w' g id (ps ++ [(x, u)]) ∧ w1.grownBy w' (some g)) ⟨List.toArray (.pointer (some ⟨jb, 0, none⟩) :: u1 :: u2 :: .pointer (some ⟨pb, 0, none⟩) :: u4 :: u5 :: u6 :: .pointer (some ⟨kb, 0, none⟩) :: u8 :: u9 :: u10 :: u11 :: u12 :: u13 :: u14 :: u15 :: u16 :: u17 :: u18 :: u19 :: u20 :: u21 :: u22 :: u23 :: u24 :: u25 :: u26 :: u27 :: u28 :: u29 :: u30 :: u31 :: u32 :: u33 :: u34 :: u35 :: u36 :: u37 :: u38 :: u39 :: u40 :: u41 :: u42 :: u43 :: u44 :: u45 :: u46 :: u47 :: u48 :: u49 :: u50 :: u51 :: u52 :: u53 :: u54 :: u55 :: u56 :: u57 :: u58 :: u59 :: u60 :: u61 :: u62 :: u63 :: u64 :: u65 :: u66 :: u67 :: u68 :: u69 :: u70 :: u71 :: u72 :: u73 :: u74 :: u75 :: u76 :: u77 :: u78 :: u79 :: u80 :: u81 :: u82 :: u83 :: u84 :: u85 :: u86 :: u87 :: []), []⟩ w := by
  conv => arg 2; whnf
  have HC2 := Box'.mk hC2
  have HKk := Box'.mk hKk
  have HP2 := Box'.mk hP2
  have HP3 := Box'.mk hP3
  have HCl := Box'.mk hCl
  have HU := Box'.mk hU
  clear hC2 hKk hP2 hP3 hCl hU
  refine wp_region_grow 11 (by kernel_rfl) (by kernel_rfl) (fun a b => Below a.heap.size a b) (fun w1 => Below w.heap.size w w1) (fun k w1 v => match k with
      | 0 => v = .pointer (some ⟨jb, 0, none⟩)
      | 1 => v = .pointer (some ⟨jb, 0, none⟩)
      | 2 => v = .pointer (some ⟨jb, 2, none⟩)
      | 3 => v = .map (some g)
      | 4 => v = ky id n
      | 5 => v = .pointer (some ⟨pb, 2, none⟩)
      | 6 => v = .bool la
      | 7 => v = .pointer (some ⟨pb, 3, none⟩)
      | 8 => v = .slice va vn vc
      | 9 => OwnB w.heap.size w1 v d
      | 10 => ∃ u, v = .agg #[.bool la, u] ∧ OwnB w.heap.size w1 u d
      | _ => True) ?_ ?_ ?_ ?_ ?_
  · intro a b' hb hC; exact hC.trans (hb.mono hC.size)
  · intro k v w1 w2 hC1 hb h
    match k, h with
    | 0, h => exact h
    | 1, h => exact h
    | 2, h => exact h
    | 3, h => exact h
    | 4, h => exact h
    | 5, h => exact h
    | 6, h => exact h
    | 7, h => exact h
    | 8, h => exact h
    | 9, h => exact OwnB.below h hb
    | 10, h => exact Exists.elim h fun u hu => ⟨u, hu.1, hu.2.below hb⟩
    | k + 11, h => trivial
  · exact (Below.refl _ _).drew
  · refine ⟨?_, ?_, ?_, ?_, ?_, ?_, ?_, ?_, ?_, ?_, ?_, trivial⟩
    · intro f w1 hC hd KK hK
      clear hd
      simp only [List.take_succ_cons, List.take_zero, setAll, List.setIfInBounds_toArray, List.set_cons_succ, List.set_cons_zero, Nat.zero_add, Nat.reduceAdd] at hK ⊢
      refine wp_of_quiet rfl ?_
      go_big_quiet_step (fail)
      exact wpQuiet_nil (hK _ _ rfl (Below.refl _ _))
    · intro f w1 hC hd KK hK
      have g0 : f 0 = _ := hd 0 (by kernel_rfl)
      clear hd
      simp only [List.take_succ_cons, List.take_zero, setAll, List.setIfInBounds_toArray, List.set_cons_succ, List.set_cons_zero, Nat.zero_add, Nat.reduceAdd, g0] at hK ⊢
      refine wp_of_quiet rfl ?_
      go_big_quiet_step (fail)
      exact wpQuiet_nil (hK _ _ rfl (Below.refl _ _))
    · intro f w1 hC hd KK hK
      have g1 : f 1 = _ := hd 1 (by kernel_rfl)
      clear hd
      simp only [List.take_succ_cons, List.take_zero, setAll, List.setIfInBounds_toArray, List.set_cons_succ, List.set_cons_zero, Nat.zero_add, Nat.reduceAdd, g1] at hK ⊢
      refine wp_of_quiet rfl ?_
      go_big_quiet_step (fail)
      exact wpQuiet_nil (hK _ _ rfl (Below.refl _ _))
    · intro f w1 hC hd KK hK
      have g2 : f 2 = _ := hd 2 (by kernel_rfl)
      clear hd
      simp only [List.take_succ_cons, List.take_zero, setAll, List.setIfInBounds_toArray, List.set_cons_succ, List.set_cons_zero, Nat.zero_add, Nat.reduceAdd, g2] at hK ⊢
      have cc := HC2.out w1 hC
      refine wp_of_quiet rfl ?_
      go_big_quiet_step (fail)
      exact wpQuiet_nil (hK _ _ rfl (Below.refl _ _))
    · intro f w1 hC hd KK hK
      clear hd
      simp only [List.take_succ_cons, List.take_zero, setAll, List.setIfInBounds_toArray, List.set_cons_succ, List.set_cons_zero, Nat.zero_add, Nat.reduceAdd] at hK ⊢
      have cc := HKk.out w1 hC
      refine wp_load_row 72 _ rfl _ rfl _ _ cc _ Try.underlying72 rfl 2 Try.info72 rfl ?_
      exact hK _ _ rfl (Below.refl _ _)
    · intro f w1 hC hd KK hK
      clear hd
      simp only [List.take_succ_cons, List.take_zero, setAll, List.setIfInBounds_toArray, List.set_cons_succ, List.set_cons_zero, Nat.zero_add, Nat.reduceAdd] at hK ⊢
      refine wp_of_quiet rfl ?_
      go_big_quiet_step (fail)
      exact wpQuiet_nil (hK _ _ rfl (Below.refl _ _))
    · intro f w1 hC hd KK hK
      have g5 : f 5 = _ := hd 5 (by kernel_rfl)
      clear hd
      simp only [List.take_succ_cons, List.take_zero, setAll, List.setIfInBounds_toArray, List.set_cons_succ, List.set_cons_zero, Nat.zero_add, Nat.reduceAdd, g5] at hK ⊢
      have cc := HP2.out w1 hC
      refine wp_of_quiet rfl ?_
      go_big_quiet_step (fail)
      exact wpQuiet_nil (hK _ _ rfl (Below.refl _ _))
    · intro f w1 hC hd KK hK
      clear hd
      simp only [List.take_succ_cons, List.take_zero, setAll, List.setIfInBounds_toArray, List.set_cons_succ, List.set_cons_zero, Nat.zero_add, Nat.reduceAdd] at hK ⊢
      refine wp_of_quiet rfl ?_
      go_big_quiet_step (fail)
      exact wpQuiet_nil (hK _ _ rfl (Below.refl _ _))
    · intro f w1 hC hd KK hK
      have g7 : f 7 = _ := hd 7 (by kernel_rfl)
      clear hd
      simp only [List.take_succ_cons, List.take_zero, setAll, List.setIfInBounds_toArray, List.set_cons_succ, List.set_cons_zero, Nat.zero_add, Nat.reduceAdd, g7] at hK ⊢
      have cc := HP3.out w1 hC
      refine wp_of_quiet rfl ?_
      go_big_quiet_step (fail)
      exact wpQuiet_nil (hK _ _ rfl (Below.refl _ _))
    · intro f w1 hC hd KK hK
      have g8 : f 8 = _ := hd 8 (by kernel_rfl)
      clear hd
      simp only [List.take_succ_cons, List.take_zero, setAll, List.setIfInBounds_toArray, List.set_cons_succ, List.set_cons_zero, Nat.zero_add, Nat.reduceAdd, g8] at hK ⊢
      refine wp_callE 28 #[.slice va vn vc] (by simp [go_sem]) (fun v w' => OwnB w.heap.size w' v d ∧ Below w1.heap.size w1 w') ?_ ?_
      · exact ((HCl.out w1 hC).mono fun e w' h => by obtain ⟨u, rfl, h1, h2⟩ := h; exact ⟨_, rfl, h1.less hC.size, h2⟩)
      · intro v w' hr
        exact hK _ _ hr.1 hr.2
    · intro f w1 hC hd KK hK
      have g6 : f 6 = _ := hd 6 (by kernel_rfl)
      have p9 : OwnB w.heap.size w1 (f 9) d := hd 9 (by kernel_rfl)
      clear hd
      simp only [List.take_succ_cons, List.take_zero, setAll, List.setIfInBounds_toArray, List.set_cons_succ, List.set_cons_zero, Nat.zero_add, Nat.reduceAdd, g6] at hK ⊢
      obtain ⟨ax, cx, hx⟩ := p9.slice
      have qq := p9
      rw [hx] at qq
      have g9 : f 9 = .slice ax d.length cx := hx
      simp only [g9] at hK ⊢
      refine wp_of_quiet rfl ?_
      go_big_quiet_step (fail)
      exact wpQuiet_nil (hK _ _ ⟨_, rfl, qq⟩ (Below.refl _ _))
  · intro f w1 hC hv
    have g0 : f 0 = _ := hv 0 (by decide)
    have g1 : f 1 = _ := hv 1 (by decide)
    have g2 : f 2 = _ := hv 2 (by decide)
    have g3 : f 3 = _ := hv 3 (by decide)
    have g4 : f 4 = _ := hv 4 (by decide)
    have g5 : f 5 = _ := hv 5 (by decide)
    have g6 : f 6 = _ := hv 6 (by decide)
    have g7 : f 7 = _ := hv 7 (by decide)
    have g8 : f 8 = _ := hv 8 (by decide)
    have p9 : OwnB w.heap.size w1 (f 9) d := hv 9 (by decide)
    have x10 : ∃ u, (f 10) = .agg #[.bool la, u] ∧ OwnB w.heap.size w1 u d := hv 10 (by decide)
    cases x10 with | intro u10 y100 =>
    have g10 := y100.1
    have z100 := y100.2
    clear y100
    have p10 := z100
    clear z100
    simp only [List.take_succ_cons, List.take_zero, List.drop_succ_cons, List.drop_zero, setAll, List.setIfInBounds_toArray, List.set_cons_succ, List.set_cons_zero, Nat.zero_add, Nat.reduceAdd, g0, g1, g2, g3, g4, g5, g6, g7, g8, g10]
    clear g0 g1 g2 g3 g4 g5 g6 g7 g8 g10 hv
    obtain ⟨w2, hrun, hm, hgr⟩ := HU.out w1 hC u10
    have q8 := hC
    go_wp2_with (refine wpList_update rfl (.tmp 62) (.tmp 63) (.tmp 69) rfl w2 hrun ?_)
    exact ⟨u10, w1, q8, p10, hm, hgr⟩

end Go.Proofs.Ythmcmdojnnbefaa
