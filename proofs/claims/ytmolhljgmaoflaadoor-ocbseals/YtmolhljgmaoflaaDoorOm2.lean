/- The walk of tagOf. -/
import Derived.Test.YtmolhljgmaoflaaDoorOl
namespace Go.Proofs.YtmolhljgmaoflaaDoor
open Go.RowKit Go.BigFrame

def Gf.tag (key l0 off plain beside : List UInt8) : List UInt8 :=
  Gf.bxor (Gf.encrypt key (Gf.bxor (Gf.bxor (Gf.sumFrom (Gf.zeros 16) plain) off) (Gf.ell l0 1))) (Gf.digFrom key l0 1 (Gf.zeros 16) (Gf.zeros 16) beside)
theorem Gf.tag_len (key l0 off plain beside : List UInt8) : (Gf.tag key l0 off plain beside).length = 16 := Gf.bxor_len _ _
theorem Tryd.zero23 : (Tryd.prog.info? 23).map (fun i => (i.zero, i.size)) = some (some (.agg (ag (Gf.zeros 16))), 16) := by kernel_rfl

/-- What stands while a tag is made. -/
structure TE (mb : Nat) (l0 key off : List UInt8) (N : Nat) (w0 w : World) : Prop where
  kk : Row w N 23 (ag key)
  ro : Row w (N + 1) 23 (ag off)
  rr : Room w (N + 1 + 1) 23 16
  tb : Tab w
  s1 : Sf mb l0 w 1
  f0 : Sf mb l0 w N
  f1 : Sf mb l0 w (N + 1)
  f2 : Sf mb l0 w (N + 1 + 1)
  g : Gm mb l0 w0 w
  n1 : 1 < N
  nz : w0.heap.size = N
section
variable {mb : Nat} {l0 key off : List UInt8} {N : Nat} {w0 w w' : World}
theorem TE.go (h : TE mb l0 key off N w0 w) (g : Gm mb l0 w w') : TE mb l0 key off N w0 w' :=
  ⟨h.f0.row g h.kk, h.f1.row g h.ro, h.f2.room g h.rr, h.tb.go h.s1 g, h.s1.go g, h.f0.go g, h.f1.go g, h.f2.go g, h.g.trans g, h.n1, h.nz⟩
theorem TE.set (h : TE mb l0 key off N w0 w) (p : Nat) (hp : Sf mb l0 w p) (hN : N + 1 + 1 < p) (c : Array Value) : TE mb l0 key off N w0 (w.setRow p c) := by
  have := h.n1
  have := h.nz
  exact ⟨h.kk.setRowOther _ _ (by omega), h.ro.setRowOther _ _ (by omega), h.rr.setRowOther _ _ (by omega), h.tb.set _ (by omega) _, hp.set h.s1 _, hp.set h.f0 _, hp.set h.f1 _, hp.set h.f2 _, h.g.setRow hp (by omega) _, h.n1, h.nz⟩
end

set_option maxRecDepth 100000 in
set_option maxHeartbeats 2000000 in
theorem tag_any (mb : Nat) (l0 key off : List UInt8) (hl0 : l0.length = 16) (hkey : key.length = 16) (hoff : off.length = 16) (vp vb : Value) (lp lb : List UInt8) (hmp : lp.length ≤ 100000) (hmb : lb.length ≤ 100000) (w : World) (ht : Tab w) (hs1 : Sf mb l0 w 1) (hP : Bts (Sf mb l0 w) w vp lp) (hB : Bts (Sf mb l0 w) w vb lb) :
    Calls Tryd.prog 24 #[.agg (ag key), mskFn mb, .agg (ag off), vp, vb] w fun e w' => e = .returned (.agg (ag (Gf.tag key l0 off lp lb))) ∧ Gm mb l0 w w' := by
  obtain ⟨R, hR0⟩ : ∃ R, Gf.tag key l0 off lp lb = R := ⟨_, rfl⟩
  have lR : R.length = 16 := by rw [← hR0]; exact Gf.tag_len _ _ _ _ _
  rw [hR0]
  obtain ⟨X, hX⟩ : ∃ X, Gf.sumFrom (Gf.zeros 16) lp = X := ⟨_, rfl⟩
  obtain ⟨D, hD⟩ : ∃ D, Gf.digFrom key l0 1 (Gf.zeros 16) (Gf.zeros 16) lb = D := ⟨_, rfl⟩
  have lX : X.length = 16 := by rw [← hX]; exact Gf.sumFrom_len _ _ rfl
  have lD : D.length = 16 := by rw [← hD]; exact Gf.digFrom_len _ _ _ _ _ _ rfl
  have hRe : Gf.bxor (Gf.encrypt key (Gf.bxor (Gf.bxor X off) (Gf.ell l0 1))) D = R := by rw [← hX, ← hD]; exact hR0
  have hR := Box'.mk hRe
  have HX := Box'.mk hX
  have HD := Box'.mk hD
  clear hR0 hX hD hRe
  go_enter Tryd.func24, Tryd.ntmps24
  go_wp2
  have hd : ∀ W, W = (((w.alloc (.cells (ag key) 23)).alloc (.cells (ag off) 23)).alloc (.cells (ag (Gf.zeros 16)) 23)) → TE mb l0 key off w.heap.size w W ∧ Bts (Old mb l0 w.heap.size W) W vp lp ∧ Bts (Old mb l0 w.heap.size W) W vb lb := by
    intro W hW
    obtain ⟨bb, hm⟩ := hs1.is
    have hlt := ht.lt
    have b1 : Below w.heap.size w W := by rw [hW]; exact (((Below.refl _ _).alloc (Nat.le_refl _) _).alloc (by simp) _).alloc (by simp; omega) _
    have g1 : Gm mb l0 w W := Gm.of b1
    obtain ⟨b2, m2, e2, _⟩ := g1.to bb hm
    have hme := hm.mlt
    have hbe : b2 < w.heap.size := by
      have := (hm.same b1.size (b1.block mb hm.mlt) (b1.block bb hm.lt)).one m2
      have := hm.lt
      omega
    have hsz : W.heap.size = w.heap.size + 1 + 1 + 1 := by rw [hW]; simp
    have hf : ∀ k, w.heap.size ≤ k → k < W.heap.size → Sf mb l0 W k := fun k h1 h2 => ⟨h2, by omega, fun b3 m3 => by rw [← m2.one m3]; omega, b2, m2⟩
    refine ⟨⟨?_, ?_, ?_, ht.below b1 hlt, hs1.go g1, hf _ (by omega) (by omega), hf _ (by omega) (by omega), hf _ (by omega) (by omega), g1, hlt, rfl⟩, hP.keep fun b h => ⟨⟨h.go g1, h.lt⟩, (h.keep g1).2⟩, hB.keep fun b h => ⟨⟨h.go g1, h.lt⟩, (h.keep g1).2⟩⟩
    · rw [hW]; exact ((Row.new _ _ _).alloc _).alloc _
    · rw [hW]; exact (Row.made _ _ _ _ _ rfl (by simp)).alloc _
    · rw [hW]; exact Room.made _ _ _ _ _ rfl (by simp)
  obtain ⟨d1, d2, d3⟩ := hd _ rfl
  clear hd hB hP ht hs1
  generalize hN : w.heap.size = N at *
  refine wp_region_grow 8 (by kernel_rfl) (by kernel_rfl) (Gm mb l0) (fun w1 => TE mb l0 key off N w w1 ∧ Bts (Old mb l0 N w1) w1 vp lp ∧ Bts (Old mb l0 N w1) w1 vb lb) (fun k w1 v => match k with
    | 0 => v = vp
    | 1 => v = .agg (ag X)
    | 2 => v = .agg (ag off)
    | 3 => v = .agg (ag (Gf.bxor X off))
    | 4 => v = mskFn mb
    | 5 => v = .agg (ag (Gf.ell l0 1))
    | 6 => v = .agg (ag (Gf.bxor (Gf.bxor X off) (Gf.ell l0 1)))
    | 7 => ∃ p, v = .pointer (some ⟨p, 0, none⟩) ∧ N + 1 + 1 < p ∧ Room w1 p 23 16 ∧ Sf mb l0 w1 p
    | _ => True) ?_ ?_ ?_ ?_ ?_
  · rintro w1 w2 hb ⟨c1, c2, c3⟩
    exact ⟨c1.go hb, c2.go hb, c3.go hb⟩
  · intro k v w1 w2 hC1 hb h
    match k, h with
    | 0, h => exact h
    | 1, h => exact h
    | 2, h => exact h
    | 3, h => exact h
    | 4, h => exact h
    | 5, h => exact h
    | 6, h => exact h
    | 7, ⟨p, e1, e2, e3, e4⟩ => exact ⟨p, e1, e2, e4.room hb e3, e4.go hb⟩
    | k + 8, h => trivial
  · exact ⟨d1.go (Gm.refl _ _ _).drew, d2.go (Gm.refl _ _ _).drew, d3.go (Gm.refl _ _ _).drew⟩
  · refine ⟨?_, ?_, ?_, ?_, ?_, ?_, ?_, ?_, trivial⟩
    · intro f w1 hC hd KK hK
      simp only [List.take_succ_cons, List.take_zero, setAll, List.setIfInBounds_toArray, List.set_cons_succ, List.set_cons_zero, Nat.zero_add, Nat.reduceAdd] at hK ⊢
      refine wp_of_quiet rfl ?_
      go_big_quiet_step (fail)
      exact wpQuiet_nil (hK _ _ rfl (Gm.refl _ _ _))
    · intro f w1 hC hd KK hK
      have g0 : f 0 = _ := hd 0 rfl
      simp only [List.take_succ_cons, List.take_zero, setAll, List.setIfInBounds_toArray, List.set_cons_succ, List.set_cons_zero, Nat.zero_add, Nat.reduceAdd, g0] at hK ⊢
      exact wp_call 48 #[vp] (by simp [go_sem]) _ _ (sum_any (Old mb l0 N w1) vp lp hmp w1 (fun b h => h.1.lt) hC.2.1) (fun w' hb => hK _ _ (by rw [HX.out]) (Gm.of hb))
    · intro f w1 hC hd KK hK
      simp only [List.take_succ_cons, List.take_zero, setAll, List.setIfInBounds_toArray, List.set_cons_succ, List.set_cons_zero, Nat.zero_add, Nat.reduceAdd] at hK ⊢
      refine wp_load_row 23 _ rfl _ rfl _ _ (hC.1.ro) _ Tryd.underlying23 rfl 16 Tryd.info23 (by rw [ag_size]; exact hoff) ?_
      exact hK _ _ rfl (Gm.refl _ _ _)
    · intro f w1 hC hd KK hK
      have g1 : f 1 = _ := hd 1 rfl
      have g2 : f 2 = _ := hd 2 rfl
      simp only [List.take_succ_cons, List.take_zero, setAll, List.setIfInBounds_toArray, List.set_cons_succ, List.set_cons_zero, Nat.zero_add, Nat.reduceAdd, g1, g2] at hK ⊢
      exact wp_call 40 #[.agg (ag X), .agg (ag off)] (by simp [go_sem]) _ _ (ocbAgainst_any X off lX hoff w1) (fun w' hb => hK _ _ rfl (Gm.of hb))
    · intro f w1 hC hd KK hK
      simp only [List.take_succ_cons, List.take_zero, setAll, List.setIfInBounds_toArray, List.set_cons_succ, List.set_cons_zero, Nat.zero_add, Nat.reduceAdd] at hK ⊢
      refine wp_of_quiet rfl ?_
      go_big_quiet_step (fail)
      exact wpQuiet_nil (hK _ _ rfl (Gm.refl _ _ _))
    · intro f w1 hC hd KK hK
      have g4 : f 4 = _ := hd 4 rfl
      simp only [List.take_succ_cons, List.take_zero, setAll, List.setIfInBounds_toArray, List.set_cons_succ, List.set_cons_zero, Nat.zero_add, Nat.reduceAdd, g4] at hK ⊢
      exact wp_call 38 #[.int .i64 1, .pointer (some ⟨mb, 0, none⟩)] (by simp [go_sem, mskFn]) _ _ (maskAt hl0 hC.1.s1 1 (by omega)) (fun w' hb => hK _ _ rfl hb)
    · intro f w1 hC hd KK hK
      have g3 : f 3 = _ := hd 3 rfl
      have g5 : f 5 = _ := hd 5 rfl
      simp only [List.take_succ_cons, List.take_zero, setAll, List.setIfInBounds_toArray, List.set_cons_succ, List.set_cons_zero, Nat.zero_add, Nat.reduceAdd, g3, g5] at hK ⊢
      exact wp_call 40 #[.agg (ag (Gf.bxor X off)), .agg (ag (Gf.ell l0 1))] (by simp [go_sem]) _ _ (ocbAgainst_any _ _ (Gf.bxor_len _ _) (Gf.ell_len l0 hl0 _) w1) (fun w' hb => hK _ _ rfl (Gm.of hb))
    · intro f w1 hC hd KK hK
      simp only [List.take_succ_cons, List.take_zero, setAll, List.setIfInBounds_toArray, List.set_cons_succ, List.set_cons_zero, Nat.zero_add, Nat.reduceAdd] at hK ⊢
      have hp := hC.1.f2.lt
      obtain ⟨bb, hm⟩ := hC.1.s1.is
      refine wp_alloc_row 23 rfl _ _ Tryd.zero23 ?_
      exact hK _ _ ⟨_, rfl, hp, Room.new _ _ _ _ (by rw [ag_size]; rfl), Sf.new hm _⟩ (Gm.of ((Below.refl _ _).alloc (Nat.le_refl _) _))
  · intro f w1 hC hv
    have g0 : f 0 = _ := hv 0 (by decide)
    have g1 : f 1 = _ := hv 1 (by decide)
    have g2 : f 2 = _ := hv 2 (by decide)
    have g3 : f 3 = _ := hv 3 (by decide)
    have g4 : f 4 = _ := hv 4 (by decide)
    have g5 : f 5 = _ := hv 5 (by decide)
    have g6 : f 6 = _ := hv 6 (by decide)
    obtain ⟨p, g7, hp1, hp2, hp3⟩ := hv 7 (by decide)
    simp only [List.take_succ_cons, List.take_zero, List.drop_succ_cons, List.drop_zero, setAll, List.setIfInBounds_toArray, List.set_cons_succ, List.set_cons_zero, Nat.zero_add, Nat.reduceAdd, g0, g1, g2, g3, g4, g5, g6, g7]
    clear g0 g1 g2 g3 g4 g5 g6 g7 hv
    obtain ⟨c1, c2, c3⟩ := hC
    have lM : (Gf.bxor (Gf.bxor X off) (Gf.ell l0 1)).length = 16 := Gf.bxor_len _ _
    have z1 := c1.set p hp3 hp1 (ag (Gf.bxor (Gf.bxor X off) (Gf.ell l0 1)))
    have z2 := c3.set p hp3 (by omega) (ag (Gf.bxor (Gf.bxor X off) (Gf.ell l0 1)))
    have z3 := hp2.setRow (ag (Gf.bxor (Gf.bxor X off) (Gf.ell l0 1)))
    have z4 := hp3.set hp3 (ag (Gf.bxor (Gf.bxor X off) (Gf.ell l0 1)))
    clear d1 d2 d3 c1 c2 c3 hp3
    go_wp2_with (refine wpList_store_row rfl 23 (.tmp 11) (.tmp 18) rfl _ rfl _ rfl _ _ hp2 Tryd.info23 (by rw [ag_size]; exact lM) (ag_one _) ?_)
    clear hp2
    generalize World.setRow _ _ _ = W3 at *
    refine wp_region_grow 8 (by kernel_rfl) (by kernel_rfl) (Gm mb l0) (fun w1 => TE mb l0 key off N w w1 ∧ Bts (Old mb l0 N w1) w1 vb lb ∧ Row w1 p 23 (ag (Gf.bxor (Gf.bxor X off) (Gf.ell l0 1))) ∧ Sf mb l0 w1 p) (fun k w1 v => match k with
      | 0 => v = .agg (ag key)
      | 1 => v = .agg (ag (Gf.bxor (Gf.bxor X off) (Gf.ell l0 1)))
      | 2 => v = .agg (ag (Gf.encrypt key (Gf.bxor (Gf.bxor X off) (Gf.ell l0 1))))
      | 3 => v = .agg (ag key)
      | 4 => v = mskFn mb
      | 5 => v = vb
      | 6 => v = .agg (ag D)
      | 7 => v = .agg (ag R)
      | _ => True) ?_ ?_ ?_ ?_ ?_
    · rintro w1 w2 hb ⟨c1, c2, c3, c4⟩
      exact ⟨c1.go hb, c2.go hb, c4.row hb c3, c4.go hb⟩
    · intro k v w1 w2 hC1 hb h
      match k, h with
      | 0, h => exact h
      | 1, h => exact h
      | 2, h => exact h
      | 3, h => exact h
      | 4, h => exact h
      | 5, h => exact h
      | 6, h => exact h
      | 7, h => exact h
      | k + 8, h => trivial
    · exact ⟨z1.go (Gm.refl _ _ _).drew, z2.go (Gm.refl _ _ _).drew, z3.drew, z4.go (Gm.refl _ _ _).drew⟩
    · refine ⟨?_, ?_, ?_, ?_, ?_, ?_, ?_, ?_, trivial⟩
      · intro f w1 hC hd KK hK
        simp only [List.take_succ_cons, List.take_zero, setAll, List.setIfInBounds_toArray, List.set_cons_succ, List.set_cons_zero, Nat.zero_add, Nat.reduceAdd] at hK ⊢
        refine wp_load_row 23 _ rfl _ rfl _ _ (hC.1.kk) _ Tryd.underlying23 rfl 16 Tryd.info23 (by rw [ag_size]; exact hkey) ?_
        exact hK _ _ rfl (Gm.refl _ _ _)
      · intro f w1 hC hd KK hK
        simp only [List.take_succ_cons, List.take_zero, setAll, List.setIfInBounds_toArray, List.set_cons_succ, List.set_cons_zero, Nat.zero_add, Nat.reduceAdd] at hK ⊢
        refine wp_load_row 23 _ rfl _ rfl _ _ (hC.2.2.1) _ Tryd.underlying23 rfl 16 Tryd.info23 (by rw [ag_size]; exact Gf.bxor_len _ _) ?_
        exact hK _ _ rfl (Gm.refl _ _ _)
      · intro f w1 hC hd KK hK
        have g0 : f 0 = _ := hd 0 rfl
        have g1 : f 1 = _ := hd 1 rfl
        simp only [List.take_succ_cons, List.take_zero, setAll, List.setIfInBounds_toArray, List.set_cons_succ, List.set_cons_zero, Nat.zero_add, Nat.reduceAdd, g0, g1] at hK ⊢
        exact wp_call 22 #[.agg (ag key), .agg (ag (Gf.bxor (Gf.bxor X off) (Gf.ell l0 1)))] (by simp [go_sem]) _ _ (encrypt_any key _ hkey (Gf.bxor_len _ _) w1) (fun w' hb => hK _ _ rfl (Gm.of hb))
      · intro f w1 hC hd KK hK
        simp only [List.take_succ_cons, List.take_zero, setAll, List.setIfInBounds_toArray, List.set_cons_succ, List.set_cons_zero, Nat.zero_add, Nat.reduceAdd] at hK ⊢
        refine wp_load_row 23 _ rfl _ rfl _ _ (hC.1.kk) _ Tryd.underlying23 rfl 16 Tryd.info23 (by rw [ag_size]; exact hkey) ?_
        exact hK _ _ rfl (Gm.refl _ _ _)
      · intro f w1 hC hd KK hK
        simp only [List.take_succ_cons, List.take_zero, setAll, List.setIfInBounds_toArray, List.set_cons_succ, List.set_cons_zero, Nat.zero_add, Nat.reduceAdd] at hK ⊢
        refine wp_of_quiet rfl ?_
        go_big_quiet_step (fail)
        exact wpQuiet_nil (hK _ _ rfl (Gm.refl _ _ _))
      · intro f w1 hC hd KK hK
        simp only [List.take_succ_cons, List.take_zero, setAll, List.setIfInBounds_toArray, List.set_cons_succ, List.set_cons_zero, Nat.zero_add, Nat.reduceAdd] at hK ⊢
        refine wp_of_quiet rfl ?_
        go_big_quiet_step (fail)
        exact wpQuiet_nil (hK _ _ rfl (Gm.refl _ _ _))
      · intro f w1 hC hd KK hK
        have g3 : f 3 = _ := hd 3 rfl
        have g4 : f 4 = _ := hd 4 rfl
        have g5 : f 5 = _ := hd 5 rfl
        simp only [List.take_succ_cons, List.take_zero, setAll, List.setIfInBounds_toArray, List.set_cons_succ, List.set_cons_zero, Nat.zero_add, Nat.reduceAdd, g3, g4, g5] at hK ⊢
        exact wp_call 49 #[.agg (ag key), mskFn mb, vb] (by simp [go_sem]) _ _ (digest_any mb l0 key hl0 hkey vb lb hmb w1 hC.1.tb hC.1.s1 (hC.2.1.re fun b h => h.1)) (fun w' hb => hK _ _ (by rw [HD.out]) hb)
      · intro f w1 hC hd KK hK
        have g2 : f 2 = _ := hd 2 rfl
        have g6 : f 6 = _ := hd 6 rfl
        simp only [List.take_succ_cons, List.take_zero, setAll, List.setIfInBounds_toArray, List.set_cons_succ, List.set_cons_zero, Nat.zero_add, Nat.reduceAdd, g2, g6] at hK ⊢
        exact wp_call 40 #[.agg (ag (Gf.encrypt key (Gf.bxor (Gf.bxor X off) (Gf.ell l0 1)))), .agg (ag D)] (by simp [go_sem]) _ _ (ocbAgainst_any _ D (Gf.encrypt_len _ _) lD w1) (fun w' hb => hK _ _ (by rw [hR.out]) (Gm.of hb))
    · intro f w1 hC hv
      have g0 : f 0 = _ := hv 0 (by decide)
      have g1 : f 1 = _ := hv 1 (by decide)
      have g2 : f 2 = _ := hv 2 (by decide)
      have g3 : f 3 = _ := hv 3 (by decide)
      have g4 : f 4 = _ := hv 4 (by decide)
      have g5 : f 5 = _ := hv 5 (by decide)
      have g6 : f 6 = _ := hv 6 (by decide)
      have g7 : f 7 = _ := hv 7 (by decide)
      simp only [List.take_succ_cons, List.take_zero, List.drop_succ_cons, List.drop_zero, setAll, List.setIfInBounds_toArray, List.set_cons_succ, List.set_cons_zero, Nat.zero_add, Nat.reduceAdd, g0, g1, g2, g3, g4, g5, g6, g7]
      clear g0 g1 g2 g3 g4 g5 g6 g7 hv
      obtain ⟨c1, c2, c3, c4⟩ := hC
      have hNz : w.heap.size ≤ N + 1 + 1 := by omega
      have zg := c1.g.setRow c1.f2 hNz (ag R)
      have rr := c1.rr
      clear z1 z2 z3 z4 c1 c2 c3 c4
      go_wp2_with (refine wpList_store_row rfl 23 (.tmp 10) (.tmp 26) rfl _ rfl _ rfl _ _ rr Tryd.info23 (by rw [ag_size]; exact lR) (ag_one _) ?_)
      exact bodyPost_ret (results_row rfl _ _ rfl _ _ (rr.setRow _) _ Tryd.underlying23 rfl 16 Tryd.info23 (by rw [ag_size]; exact lR)) rfl ⟨rfl, zg⟩
end Go.Proofs.YtmolhljgmaoflaaDoor
