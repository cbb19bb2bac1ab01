/- The reference's Same. -/
import Derived.Test.YthmcmdojnnbefaaUb
namespace Go.Proofs.Ythmcmdojnnbefaa
open Go.RowKit Go.BigFrame
set_option linter.unusedVariables false
set_option linter.unusedSimpArgs false

set_option maxRecDepth 1000000 in
set_option maxHeartbeats 4000000 in
theorem smReg (ga gb n ca cb kc : Nat) (p : Prt) (va vb : Value) (u2 u3 u4 u6 u7 u8 u9 u10 u11 u12 u13 u14 u15 u16 u17 u18 u19 u20 u21 u22 u23 u24 u25 u26 : Value) (w : World) (hk : kc < n) (hA : ∀ w1, Below w.heap.size w w1 → w1.rangeAt ga (kc * 4) (prC p va)) (hB : ∀ w1, Below w.heap.size w w1 → w1.rangeAt gb (kc * 4) (prC p vb)) (hO : ∀ w1, Below w.heap.size w w1 → Calls Try.prog 15 #[.agg (prC p va).toArray, .agg (prC p vb).toArray] w1 fun e w' => e = .returned (.bool true) ∧ Below w1.heap.size w1 w') :
    Code.wp Try.prog ((Try.f16.body.bind (regOf' 6)).getD .skip) (fun e a' w' => e = .normal ∧ ∃ v17 v18 v19 v20 v21 v22 v23 v24 v25 v26 : Value, a' = ⟨List.toArray (.slice (some ⟨ga, 0, none⟩) n ca :: .slice (some ⟨gb, 0, none⟩) n cb :: u2 :: u3 :: u4 :: .int .i64 (kc : Int) :: u6 :: u7 :: u8 :: u9 :: u10 :: u11 :: u12 :: u13 :: u14 :: u15 :: u16 :: v17 :: v18 :: v19 :: v20 :: v21 :: v22 :: v23 :: v24 :: v25 :: v26 :: []), []⟩ ∧ v26 = .bool false ∧ Below w.heap.size w w') ⟨List.toArray (.slice (some ⟨ga, 0, none⟩) n ca :: .slice (some ⟨gb, 0, none⟩) n cb :: u2 :: u3 :: u4 :: .int .i64 (kc : Int) :: u6 :: u7 :: u8 :: u9 :: u10 :: u11 :: u12 :: u13 :: u14 :: u15 :: u16 :: u17 :: u18 :: u19 :: u20 :: u21 :: u22 :: u23 :: u24 :: u25 :: u26 :: []), []⟩ w := by
  conv => arg 2; whnf
  have HA := Box'.mk hA
  have HBB := Box'.mk hB
  have HO := Box'.mk hO
  clear hA hB hO
  refine wp_region_grow 10 (by kernel_rfl) (by kernel_rfl) (fun a b => Below a.heap.size a b) (fun w1 => Below w.heap.size w w1) (fun k w1 v => match k with
      | 0 => v = .slice (some ⟨ga, 0, none⟩) n ca
      | 1 => v = .int .i64 (kc : Int)
      | 2 => v = .pointer (some ⟨ga, kc * 4, none⟩)
      | 3 => v = .agg (prC p va).toArray
      | 4 => v = .slice (some ⟨gb, 0, none⟩) n cb
      | 5 => v = .int .i64 (kc : Int)
      | 6 => v = .pointer (some ⟨gb, kc * 4, none⟩)
      | 7 => v = .agg (prC p vb).toArray
      | 8 => v = .bool true
      | 9 => v = .bool false
      | _ => True) ?_ ?_ ?_ ?_ ?_
  · intro a b' hb hC; exact hC.trans (hb.mono hC.size)
  · intro k v w1 w2 hC1 hb h
    match k, h with
    | 0, h => exact h
    | 1, h => exact h
    | 2, h => exact h
    | 3, h => exact h
    | 4, h => exact h
    | 5, h => exact h
    | 6, h => exact h
    | 7, h => exact h
    | 8, h => exact h
    | 9, h => exact h
    | k + 10, h => trivial
  · exact (Below.refl _ _).drew
  · refine ⟨?_, ?_, ?_, ?_, ?_, ?_, ?_, ?_, ?_, ?_, trivial⟩
    · intro f w1 hC hd KK hK
      clear hd
      simp only [List.take_succ_cons, List.take_zero, setAll, List.setIfInBounds_toArray, List.set_cons_succ, List.set_cons_zero, Nat.zero_add, Nat.reduceAdd] at hK ⊢
      refine wp_of_quiet rfl ?_
      go_big_quiet_step (fail)
      exact wpQuiet_nil (hK _ _ rfl (Below.refl _ _))
    · intro f w1 hC hd KK hK
      clear hd
      simp only [List.take_succ_cons, List.take_zero, setAll, List.setIfInBounds_toArray, List.set_cons_succ, List.set_cons_zero, Nat.zero_add, Nat.reduceAdd] at hK ⊢
      refine wp_of_quiet rfl ?_
      go_big_quiet_step (fail)
      exact wpQuiet_nil (hK _ _ rfl (Below.refl _ _))
    · intro f w1 hC hd KK hK
      have g0 : f 0 = _ := hd 0 (by kernel_rfl)
      have g1 : f 1 = _ := hd 1 (by kernel_rfl)
      clear hd
      simp only [List.take_succ_cons, List.take_zero, setAll, List.setIfInBounds_toArray, List.set_cons_succ, List.set_cons_zero, Nat.zero_add, Nat.reduceAdd, g0, g1] at hK ⊢
      refine wp_of_quiet rfl ?_
      go_big_quiet_step (fail)
      exact wpQuiet_nil (hK _ _ (by first | rfl | simp) (Below.refl _ _))
    · intro f w1 hC hd KK hK
      have g2 : f 2 = _ := hd 2 (by kernel_rfl)
      clear hd
      simp only [List.take_succ_cons, List.take_zero, setAll, List.setIfInBounds_toArray, List.set_cons_succ, List.set_cons_zero, Nat.zero_add, Nat.reduceAdd, g2] at hK ⊢
      refine wp_load_mid 25 _ rfl _ _ rfl _ _ (HA.out w1 hC) Try.underlying25 rfl Try.info25 ?_
      exact hK _ _ rfl (Below.refl _ _)
    · intro f w1 hC hd KK hK
      clear hd
      simp only [List.take_succ_cons, List.take_zero, setAll, List.setIfInBounds_toArray, List.set_cons_succ, List.set_cons_zero, Nat.zero_add, Nat.reduceAdd] at hK ⊢
      refine wp_of_quiet rfl ?_
      go_big_quiet_step (fail)
      exact wpQuiet_nil (hK _ _ rfl (Below.refl _ _))
    · intro f w1 hC hd KK hK
      clear hd
      simp only [List.take_succ_cons, List.take_zero, setAll, List.setIfInBounds_toArray, List.set_cons_succ, List.set_cons_zero, Nat.zero_add, Nat.reduceAdd] at hK ⊢
      refine wp_of_quiet rfl ?_
      go_big_quiet_step (fail)
      exact wpQuiet_nil (hK _ _ rfl (Below.refl _ _))
    · intro f w1 hC hd KK hK
      have g4 : f 4 = _ := hd 4 (by kernel_rfl)
      have g5 : f 5 = _ := hd 5 (by kernel_rfl)
      clear hd
      simp only [List.take_succ_cons, List.take_zero, setAll, List.setIfInBounds_toArray, List.set_cons_succ, List.set_cons_zero, Nat.zero_add, Nat.reduceAdd, g4, g5] at hK ⊢
      refine wp_of_quiet rfl ?_
      go_big_quiet_step (fail)
      exact wpQuiet_nil (hK _ _ (by first | rfl | simp) (Below.refl _ _))
    · intro f w1 hC hd KK hK
      have g6 : f 6 = _ := hd 6 (by kernel_rfl)
      clear hd
      simp only [List.take_succ_cons, List.take_zero, setAll, List.setIfInBounds_toArray, List.set_cons_succ, List.set_cons_zero, Nat.zero_add, Nat.reduceAdd, g6] at hK ⊢
      refine wp_load_mid 25 _ rfl _ _ rfl _ _ (HBB.out w1 hC) Try.underlying25 rfl Try.info25 ?_
      exact hK _ _ rfl (Below.refl _ _)
    · intro f w1 hC hd KK hK
      have g3 : f 3 = _ := hd 3 (by kernel_rfl)
      have g7 : f 7 = _ := hd 7 (by kernel_rfl)
      clear hd
      simp only [List.take_succ_cons, List.take_zero, setAll, List.setIfInBounds_toArray, List.set_cons_succ, List.set_cons_zero, Nat.zero_add, Nat.reduceAdd, g3, g7] at hK ⊢
      refine wp_callE 15 #[.agg (prC p va).toArray, .agg (prC p vb).toArray] (by simp [go_sem]) (fun v w' => v = .bool true ∧ Below w1.heap.size w1 w') ?_ ?_
      · exact ((HO.out w1 hC).mono fun e w' h => by obtain ⟨rfl, h2⟩ := h; exact ⟨_, rfl, rfl, h2⟩)
      · intro v w' hr
        exact hK _ _ hr.1 hr.2
    · intro f w1 hC hd KK hK
      have g8 : f 8 = _ := hd 8 (by kernel_rfl)
      clear hd
      simp only [List.take_succ_cons, List.take_zero, setAll, List.setIfInBounds_toArray, List.set_cons_succ, List.set_cons_zero, Nat.zero_add, Nat.reduceAdd, g8] at hK ⊢
      refine wp_of_quiet rfl ?_
      go_big_quiet_step (fail)
      exact wpQuiet_nil (hK _ _ rfl (Below.refl _ _))
  · intro f w1 hC hv
    have g0 : f 0 = _ := hv 0 (by decide)
    have g1 : f 1 = _ := hv 1 (by decide)
    have g2 : f 2 = _ := hv 2 (by decide)
    have g3 : f 3 = _ := hv 3 (by decide)
    have g4 : f 4 = _ := hv 4 (by decide)
    have g5 : f 5 = _ := hv 5 (by decide)
    have g6 : f 6 = _ := hv 6 (by decide)
    have g7 : f 7 = _ := hv 7 (by decide)
    have g8 : f 8 = _ := hv 8 (by decide)
    have g9 : f 9 = _ := hv 9 (by decide)
    simp only [List.take_succ_cons, List.take_zero, List.drop_succ_cons, List.drop_zero, setAll, List.setIfInBounds_toArray, List.set_cons_succ, List.set_cons_zero, Nat.zero_add, Nat.reduceAdd, g0, g1, g2, g3, g4, g5, g6, g7, g8, g9]
    clear g0 g1 g2 g3 g4 g5 g6 g7 g8 g9 hv
    have q8 := hC
    go_wp2_with fail

theorem OwnQ.range {N : Nat} {w w' : World} {v : Value} {l : List (Prt × Value)} (h : OwnQ N w v l) {k : Nat} (hk : k < l.length) {g c : Nat} (hv : v = .slice (some ⟨g, 0, none⟩) l.length c) (hb : Below w.heap.size w w') : w'.rangeAt g (k * 4) (prC l[k].1 l[k].2) := by
  obtain ⟨g', c', e, _, r⟩ := (h.below hb).at hk
  rw [e] at hv
  injection hv with h1
  injection h1 with h1
  injection h1 with h1
  subst h1
  exact r
set_option maxRecDepth 100000 in
set_option maxHeartbeats 4000000 in
theorem sameQ_any (N M : Nat) (w : World) (u v : Value) (qa qb : List (Prt × Value)) (ha : OwnQ N w u qa) (hb : OwnQ M w v qb) (heq : qa.map (·.1) = qb.map (·.1)) (hn : qa.length ≤ 300000) :
    Calls Try.prog 16 #[u, v] w fun e w' => e = .returned (.bool true) ∧ Below w.heap.size w w' := by
  have hlen : qb.length = qa.length := by have := congrArg List.length heq; simpa using this.symm
  obtain ⟨au, cu, rfl⟩ := ha.slice
  obtain ⟨av, cv, rfl⟩ := hb.slice
  have HA := Box'.mk ha
  have HBQ := Box'.mk hb
  have HE := Box'.mk heq
  clear ha hb heq
  rw [hlen] at HBQ ⊢
  have HLB := Box'.mk hlen
  clear hlen
  generalize hql : qa.length = n at *
  have HLA := Box'.mk hql
  clear hql
  go_enter Try.func16, Try.ntmps16
  go_wp2_with fail
  go_loopw [5] (fun i wr => ∃ k : Nat, i = .int .i64 (k : Int) ∧ k ≤ n ∧ Box' (Below w.heap.size w wr)) (fun i _ => n - (intOf i).toNat)
  case atStart => exact ⟨0, rfl, by omega, ⟨Below.refl _ _⟩⟩
  case round =>
    obtain ⟨k, rfl, hk, HB⟩ := hrel
    by_cases hlt : k < n
    · have hka : k < qa.length := by rw [HLA.out]; exact hlt
      have hkb : k < qb.length := by rw [HLB.out]; exact hlt
      obtain ⟨ga, ca, ea, _⟩ := HA.out.at hka
      obtain ⟨gb, cb, eb, _⟩ := HBQ.out.at hkb
      have ea' := ea
      have eb' := eb
      rw [HLA.out] at ea
      rw [HLB.out] at eb
      injection ea with ea1 _ ea2
      injection eb with eb1 _ eb2
      subst ea1 ea2 eb1 eb2
      have hpp : qa[k].1 = qb[k].1 := by
        have := congrArg (fun l => l[k]?) HE.out
        simpa [hka, hkb] using this
      have hA : ∀ w1, Below wr.heap.size wr w1 → w1.rangeAt ga (k * 4) (prC qa[k].1 qa[k].2) := fun w1 hb => (HA.out.below HB.out).range hka ea' hb
      have hB : ∀ w1, Below wr.heap.size wr w1 → w1.rangeAt gb (k * 4) (prC qa[k].1 qb[k].2) := fun w1 hb => by rw [hpp]; exact (HBQ.out.below HB.out).range hkb eb' hb
      have hO : ∀ w1, Below wr.heap.size wr w1 → Calls Try.prog 15 #[.agg (prC qa[k].1 qa[k].2).toArray, .agg (prC qa[k].1 qb[k].2).toArray] w1 fun e w' => e = .returned (.bool true) ∧ Below w1.heap.size w1 w' := fun w1 hb => by
        have o1 := ((HA.out.own _ (List.getElem_mem hka)).below HB.out).below hb
        have o2 := ((HBQ.out.own _ (List.getElem_mem hkb)).below HB.out).below hb
        rw [← hpp] at o2
        have := one_any w1 qa[k].1 qa[k].1 qa[k].2 qb[k].2 _ _ o1.bts o2.bts (fun b hb => hb) (fun b hb => hb)
        rw [oneN_iff.2 rfl] at this
        exact this
      clear ea' eb' hpp
      generalize qa[k].1 = p at *
      generalize qa[k].2 = va at *
      generalize qb[k].2 = vb at *
      go_upto_region 6 with fail
      refine wp_mono (smReg ga gb n cu cv k p va vb _ _ _ _ _ _ _ _ _ _ _ _ _ _ _ _ _ _ _ _ _ _ _ _ _ hlt hA hB hO) ?_
      rintro r a' w2 ⟨rfl, v17, v18, v19, v20, v21, v22, v23, v24, v25, v26, rfl, rfl, b2⟩
      have HB2 : Box' (Below w.heap.size w w2) := ⟨HB.out.trans (b2.mono HB.out.size)⟩
      clear hA hB hO b2 HB
      go_wp2_with fail
      exact ⟨⟨k + 1, by go_num, by omega, HB2⟩, by simp [intOf]; omega⟩
    · obtain rfl : k = n := by omega
      have B2 := HB.out
      clear HA HBQ HE HLA HLB HB
      go_wp2_with fail
      go_ret
      exact ⟨rfl, B2⟩

end Go.Proofs.Ythmcmdojnnbefaa
