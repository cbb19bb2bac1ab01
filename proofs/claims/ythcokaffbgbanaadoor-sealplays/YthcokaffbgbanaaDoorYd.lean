/- The drawn region of the opening in the reference Datagram, by itself. -/
import Derived.Test.YthcokaffbgbanaaDoorYb
import Derived.Test.YthcokaffbgbanaaDoorXn
namespace Go.Proofs.YthcokaffbgbanaaDoor
open Go.RowKit Go.BigFrame
set_option linter.unusedVariables false

theorem refOpen_own (key : List UInt8) (hkey : key.length = 16) (vn : Value) (ln ls : List UInt8) (hn : ln.length = 12) (h1 : 16 ≤ ls.length) (h2 : ls.length ≤ 65552) (b o n c : Nat) (hl : ls.length = n) (hc : n ≤ c) (w : World)
    (hv : Bts (· < w.heap.size) w vn ln) (hb : b < w.heap.size) (hr : w.rangeAt b o (ls.map B)) :
    Calls Tryd.prog 42 #[.agg (ag key), vn, .slice none 0 0, .slice (some ⟨b, o, none⟩) n c] w fun e w' => ∃ v, e = .returned v ∧ (∃ u, v = .tuple #[u, .int .i64 (Gf.opE key ln [] ls)] ∧ Own w.heap.size w' u (Gf.opL key ln [] ls)) ∧ Below w.heap.size w w' := by
  subst hl
  refine (refOpen_ok key hkey vn (.slice none 0 0) (.slice (some ⟨b, o, none⟩) ls.length c) ln [] ls (by omega) (by omega) (by simp) h1 h2 w hv (noBts w) ⟨_, _, rfl, hc, .inr ⟨b, o, rfl, hb, hr⟩⟩).mono ?_
  rintro e w' ⟨hbl, hh⟩
  rcases Gf.opE_cases key ln ls hn h1 h2 with ⟨hd, e1, e2⟩ | ⟨hd, e1, e2⟩
  · rcases hh with ⟨_, v', rfl, hO⟩ | ⟨hd0, _⟩
    · rw [e1, e2]; exact ⟨_, rfl, ⟨_, rfl, hO⟩, hbl⟩
    · exact absurd ((Gf.fits key ln [] ls h1).1 hd) hd0
  · rcases hh with ⟨hd0, _⟩ | ⟨_, rfl⟩
    · exact absurd ((Gf.fits key ln [] ls h1).2 hd0) hd
    · rw [e1, e2]; exact ⟨_, rfl, ⟨_, rfl, Own.nil _ _⟩, hbl⟩
set_option maxRecDepth 1000000 in
set_option maxHeartbeats 4000000 in
theorem ropenReg (key S L : List UInt8) (hkey : key.length = 16) (E : Int) (H kb N b o n c : Nat) (w0 : World) (hS1 : 16 ≤ S.length) (hS2 : S.length ≤ 65552) (hSn : S.length = n - 8) (hn8 : 8 ≤ n) (hnc : n ≤ c) (h8c : 8 < c) (hE : Gf.opE key (Gf.nnc H) [] S = E) (hL : Gf.opL key (Gf.nnc H) [] S = L) (u0 u1 u4 u5 u6 u7 u8 u9 u10 u11 u12 u13 u14 u15 u16 u17 u18 u19 u20 u21 u22 u23 u24 u25 u26 u27 u28 u29 u30 u31 u32 u33 u34 u35 u36 u37 u38 u39 u40 u41 u42 u43 u44 u45 u46 u47 u48 u49 u50 u51 u52 u53 u54 u55 u56 u57 u58 u59 u60 u61 u62 u63 u64 u65 u66 u67 u68 u69 u70 u71 u72 u73 u74 u75 u76 u77 u78 u79 u80 u81 u82 u83 u84 u85 u86 u87 : Value) (w : World) (hN : N ≤ w0.heap.size) (hb0 : Below N w0 w) (hk : Row w kb 23 (ag key)) (hr8 : w.rangeAt b o ((Gf.be8 H).map B)) (hr : w.rangeAt b (o + 8) (S.map B)) (hbw : b < w.heap.size) :
    Code.wp Tryd.prog ((Tryd.f14.body.bind (regOf' 15)).getD .skip) (fun e a' w' => e = .normal ∧ ∃ v11 v12 v49 v50 v51 v52 v53 v54 v55 v56 v57 v58 v59 : Value, a' = ⟨List.toArray (u0 :: u1 :: .slice (some ⟨b, o, none⟩) n c :: .pointer (some ⟨kb, 0, none⟩) :: u4 :: u5 :: u6 :: u7 :: u8 :: u9 :: u10 :: v11 :: v12 :: u13 :: u14 :: u15 :: u16 :: u17 :: u18 :: u19 :: u20 :: u21 :: u22 :: u23 :: u24 :: u25 :: u26 :: u27 :: u28 :: u29 :: u30 :: u31 :: u32 :: u33 :: u34 :: u35 :: u36 :: u37 :: u38 :: u39 :: u40 :: u41 :: u42 :: u43 :: u44 :: u45 :: u46 :: u47 :: u48 :: v49 :: v50 :: v51 :: v52 :: v53 :: v54 :: v55 :: v56 :: v57 :: v58 :: v59 :: u60 :: u61 :: u62 :: u63 :: u64 :: u65 :: u66 :: u67 :: u68 :: u69 :: u70 :: u71 :: u72 :: u73 :: u74 :: u75 :: u76 :: u77 :: u78 :: u79 :: u80 :: u81 :: u82 :: u83 :: u84 :: u85 :: u86 :: u87 :: []), []⟩ ∧ Own N w' v11 L ∧ v12 = .int .i64 E ∧ Below N w0 w') ⟨List.toArray (u0 :: u1 :: .slice (some ⟨b, o, none⟩) n c :: .pointer (some ⟨kb, 0, none⟩) :: u4 :: u5 :: u6 :: u7 :: u8 :: u9 :: u10 :: u11 :: u12 :: u13 :: u14 :: u15 :: u16 :: u17 :: u18 :: u19 :: u20 :: u21 :: u22 :: u23 :: u24 :: u25 :: u26 :: u27 :: u28 :: u29 :: u30 :: u31 :: u32 :: u33 :: u34 :: u35 :: u36 :: u37 :: u38 :: u39 :: u40 :: u41 :: u42 :: u43 :: u44 :: u45 :: u46 :: u47 :: u48 :: u49 :: u50 :: u51 :: u52 :: u53 :: u54 :: u55 :: u56 :: u57 :: u58 :: u59 :: u60 :: u61 :: u62 :: u63 :: u64 :: u65 :: u66 :: u67 :: u68 :: u69 :: u70 :: u71 :: u72 :: u73 :: u74 :: u75 :: u76 :: u77 :: u78 :: u79 :: u80 :: u81 :: u82 :: u83 :: u84 :: u85 :: u86 :: u87 :: []), []⟩ w := by
  conv => arg 2; whnf
  have HOP := Box'.mk (fun (vn : Value) (w1 : World) (h2 : Bts (· < w1.heap.size) w1 vn (Gf.nnc H)) (h3 : w1.rangeAt b (o + 8) (S.map B) ∧ b < w1.heap.size) =>
    refOpen_own key hkey vn (Gf.nnc H) S (Gf.nnc_len H) hS1 hS2 b (o + 8) (n - 8) (c - 8) hSn (by omega) w1 h2 h3.2 h3.1)
  rw [hE, hL] at HOP
  refine wp_region_grow 12 (by kernel_rfl) (by kernel_rfl) (fun a b => Below a.heap.size a b) (fun w1 => Below N w0 w1 ∧ Row w1 kb 23 (ag key) ∧ (w1.rangeAt b o ((Gf.be8 H).map B) ∧ w1.rangeAt b (o + 8) (S.map B)) ∧ b < w1.heap.size) (fun k w1 v => match k with
      | 0 => v = .agg (ag key)
      | 1 => ∃ g, v = .slice (some ⟨g, 0, none⟩) 4 4 ∧ Row w1 g 5 (ag [0, 0, 0, 0])
      | 2 => v = .slice (some ⟨b, o, none⟩) n c
      | 3 => v = .slice (some ⟨b, o, none⟩) 8 c
      | 4 => Own N w1 v (Gf.nnc H)
      | 5 => v = .slice (some ⟨b, o, none⟩) n c
      | 6 => v = .slice (some ⟨b, o + 8, none⟩) (n - 8) (c - 8)
      | 7 => ∃ u, v = .tuple #[u, .int .i64 E] ∧ Own N w1 u L
      | 8 => ∃ u, v = .tuple #[u, .int .i64 E] ∧ Own N w1 u L
      | 9 => Own N w1 v L
      | 10 => v = .int .i64 E
      | 11 => Own N w1 v L
      | _ => True) ?_ ?_ ?_ ?_ ?_
  · intro a b' hb hC; exact ⟨hC.1.trans (hb.mono (Nat.le_trans hN hC.1.size)), hC.2.1.below hb hC.2.1.lt, ⟨range_below hC.2.2.1.1 hb hC.2.2.2, range_below hC.2.2.1.2 hb hC.2.2.2⟩, Nat.lt_of_lt_of_le hC.2.2.2 hb.size⟩
  · intro k v w1 w2 hC1 hb h
    match k, h with
    | 0, h => exact h
    | 1, h => exact Exists.elim h fun g hg => ⟨g, hg.1, hg.2.below hb hg.2.lt⟩
    | 2, h => exact h
    | 3, h => exact h
    | 4, h => exact Own.below h hb
    | 5, h => exact h
    | 6, h => exact h
    | 7, h => exact Exists.elim h fun u hu => ⟨u, hu.1, Own.below hu.2 hb⟩
    | 8, h => exact Exists.elim h fun u hu => ⟨u, hu.1, Own.below hu.2 hb⟩
    | 9, h => exact Own.below h hb
    | 10, h => exact h
    | 11, h => exact Own.below h hb
    | k + 12, h => trivial
  · exact ⟨hb0.drew, hk, ⟨hr8, hr⟩, hbw⟩
  · refine ⟨?_, ?_, ?_, ?_, ?_, ?_, ?_, ?_, ?_, ?_, ?_, ?_, trivial⟩
    · intro f w1 hC hd KK hK
      clear hd
      simp only [List.take_succ_cons, List.take_zero, setAll, List.setIfInBounds_toArray, List.set_cons_succ, List.set_cons_zero, Nat.zero_add, Nat.reduceAdd] at hK ⊢
      refine wp_load_row 23 _ rfl _ rfl _ _ (hC.2.1) _ Tryd.underlying23 rfl 16 Tryd.info23 (by rw [ag_size]; exact hkey) ?_
      exact hK _ _ rfl (Below.refl _ _)
    · intro f w1 hC hd KK hK
      clear hd
      simp only [List.take_succ_cons, List.take_zero, setAll, List.setIfInBounds_toArray, List.set_cons_succ, List.set_cons_zero, Nat.zero_add, Nat.reduceAdd] at hK ⊢
      refine wp_build4 rfl ?_
      exact hK _ _ ⟨_, rfl, Row.new _ _ _⟩ ((Below.refl _ _).alloc (Nat.le_refl _) _)
    · intro f w1 hC hd KK hK
      clear hd
      simp only [List.take_succ_cons, List.take_zero, setAll, List.setIfInBounds_toArray, List.set_cons_succ, List.set_cons_zero, Nat.zero_add, Nat.reduceAdd] at hK ⊢
      refine wp_of_quiet rfl ?_
      go_big_quiet_step (fail)
      exact wpQuiet_nil (hK _ _ rfl (Below.refl _ _))
    · intro f w1 hC hd KK hK
      have g2 : f 2 = _ := hd 2 (by kernel_rfl)
      clear hd
      simp only [List.take_succ_cons, List.take_zero, setAll, List.setIfInBounds_toArray, List.set_cons_succ, List.set_cons_zero, Nat.zero_add, Nat.reduceAdd, g2] at hK ⊢
      refine wp_of_quiet rfl ?_
      go_big_quiet_step (fail)
      exact wpQuiet_nil (hK _ _ rfl (Below.refl _ _))
    · intro f w1 hC hd KK hK
      have x1 : ∃ g, (f 1) = .slice (some ⟨g, 0, none⟩) 4 4 ∧ Row w1 g 5 (ag [0, 0, 0, 0]) := hd 1 (by kernel_rfl)
      have g3 : f 3 = _ := hd 3 (by kernel_rfl)
      clear hd
      cases x1 with | intro u1 y10 =>
      have g1 := y10.1
      have z10 := y10.2
      clear y10
      have p1 := z10
      clear z10
      simp only [List.take_succ_cons, List.take_zero, setAll, List.setIfInBounds_toArray, List.set_cons_succ, List.set_cons_zero, Nat.zero_add, Nat.reduceAdd, g1, g3] at hK ⊢
      refine wp_app48 _ _ rfl u1 rfl p1 (Gf.be8 H) (Gf.be8_len H) (.slice (some ⟨b, o, none⟩) 8 c) rfl (.inr ⟨⟨b, o, none⟩, c, by rw [Gf.be8_len], by rw [Gf.be8_len]; omega, .inr hC.2.2.2, fun j u hu => by rw [Addr.add_mid]; exact hC.2.2.1.1 j u hu⟩) ?_
      intro v w' ho hb
      exact hK _ _ (ho.less (Nat.le_trans hN hC.1.size)) hb
    · intro f w1 hC hd KK hK
      clear hd
      simp only [List.take_succ_cons, List.take_zero, setAll, List.setIfInBounds_toArray, List.set_cons_succ, List.set_cons_zero, Nat.zero_add, Nat.reduceAdd] at hK ⊢
      refine wp_of_quiet rfl ?_
      go_big_quiet_step (fail)
      exact wpQuiet_nil (hK _ _ rfl (Below.refl _ _))
    · intro f w1 hC hd KK hK
      have g5 : f 5 = _ := hd 5 (by kernel_rfl)
      clear hd
      simp only [List.take_succ_cons, List.take_zero, setAll, List.setIfInBounds_toArray, List.set_cons_succ, List.set_cons_zero, Nat.zero_add, Nat.reduceAdd, g5] at hK ⊢
      refine wp_of_quiet rfl ?_
      go_big_quiet_step (fail)
      exact wpQuiet_nil (hK _ _ rfl (Below.refl _ _))
    · intro f w1 hC hd KK hK
      have g0 : f 0 = _ := hd 0 (by kernel_rfl)
      have p4 : Own N w1 (f 4) (Gf.nnc H) := hd 4 (by kernel_rfl)
      have g6 : f 6 = _ := hd 6 (by kernel_rfl)
      clear hd
      simp only [List.take_succ_cons, List.take_zero, setAll, List.setIfInBounds_toArray, List.set_cons_succ, List.set_cons_zero, Nat.zero_add, Nat.reduceAdd, g0, g6] at hK ⊢
      refine wp_callE 42 #[.agg (ag key), f 4, .slice none 0 0, .slice (some ⟨b, o + 8, none⟩) (n - 8) (c - 8)] (by simp [go_sem]) (fun v w' => (∃ u, v = .tuple #[u, .int .i64 E] ∧ Own w1.heap.size w' u L) ∧ Below w1.heap.size w1 w') ?_ ?_
      · exact (HOP.out (f 4) w1 p4.bts ⟨hC.2.2.1.2, hC.2.2.2⟩)
      · intro v w' hr
        obtain ⟨⟨u, hu, ho⟩, hb⟩ := hr
        exact hK _ _ ⟨u, hu, ho.less (Nat.le_trans hN hC.1.size)⟩ hb
    · intro f w1 hC hd KK hK
      have x7 : ∃ u, (f 7) = .tuple #[u, .int .i64 E] ∧ Own N w1 u L := hd 7 (by kernel_rfl)
      clear hd
      cases x7 with | intro u7 y70 =>
      have g7 := y70.1
      have z70 := y70.2
      clear y70
      have p7 := z70
      clear z70
      simp only [List.take_succ_cons, List.take_zero, setAll, List.setIfInBounds_toArray, List.set_cons_succ, List.set_cons_zero, Nat.zero_add, Nat.reduceAdd, g7] at hK ⊢
      refine wp_of_quiet rfl ?_
      go_big_quiet_step (fail)
      exact wpQuiet_nil (hK _ _ ⟨u7, rfl, p7⟩ (Below.refl _ _))
    · intro f w1 hC hd KK hK
      have x8 : ∃ u, (f 8) = .tuple #[u, .int .i64 E] ∧ Own N w1 u L := hd 8 (by kernel_rfl)
      clear hd
      cases x8 with | intro u8 y80 =>
      have g8 := y80.1
      have z80 := y80.2
      clear y80
      have p8 := z80
      clear z80
      simp only [List.take_succ_cons, List.take_zero, setAll, List.setIfInBounds_toArray, List.set_cons_succ, List.set_cons_zero, Nat.zero_add, Nat.reduceAdd, g8] at hK ⊢
      refine wp_of_quiet rfl ?_
      go_big_quiet_step (fail)
      exact wpQuiet_nil (hK _ _ p8 (Below.refl _ _))
    · intro f w1 hC hd KK hK
      have x8 : ∃ u, (f 8) = .tuple #[u, .int .i64 E] ∧ Own N w1 u L := hd 8 (by kernel_rfl)
      clear hd
      cases x8 with | intro u8 y80 =>
      have g8 := y80.1
      have z80 := y80.2
      clear y80
      have p8 := z80
      clear z80
      simp only [List.take_succ_cons, List.take_zero, setAll, List.setIfInBounds_toArray, List.set_cons_succ, List.set_cons_zero, Nat.zero_add, Nat.reduceAdd, g8] at hK ⊢
      refine wp_of_quiet rfl ?_
      go_big_quiet_step (fail)
      exact wpQuiet_nil (hK _ _ rfl (Below.refl _ _))
    · intro f w1 hC hd KK hK
      have p9 : Own N w1 (f 9) L := hd 9 (by kernel_rfl)
      clear hd
      simp only [List.take_succ_cons, List.take_zero, setAll, List.setIfInBounds_toArray, List.set_cons_succ, List.set_cons_zero, Nat.zero_add, Nat.reduceAdd] at hK ⊢
      refine wp_of_quiet rfl ?_
      go_big_quiet_step (fail)
      exact wpQuiet_nil (hK _ _ p9 (Below.refl _ _))
  · intro f w1 hC hv
    have g0 : f 0 = _ := hv 0 (by decide)
    have x1 : ∃ g, (f 1) = .slice (some ⟨g, 0, none⟩) 4 4 ∧ Row w1 g 5 (ag [0, 0, 0, 0]) := hv 1 (by decide)
    have g2 : f 2 = _ := hv 2 (by decide)
    have g3 : f 3 = _ := hv 3 (by decide)
    have p4 : Own N w1 (f 4) (Gf.nnc H) := hv 4 (by decide)
    have g5 : f 5 = _ := hv 5 (by decide)
    have g6 : f 6 = _ := hv 6 (by decide)
    have x7 : ∃ u, (f 7) = .tuple #[u, .int .i64 E] ∧ Own N w1 u L := hv 7 (by decide)
    have x8 : ∃ u, (f 8) = .tuple #[u, .int .i64 E] ∧ Own N w1 u L := hv 8 (by decide)
    have p9 : Own N w1 (f 9) L := hv 9 (by decide)
    have g10 : f 10 = _ := hv 10 (by decide)
    have p11 : Own N w1 (f 11) L := hv 11 (by decide)
    cases x1 with | intro u1 y10 =>
    have g1 := y10.1
    have z10 := y10.2
    clear y10
    have p1 := z10
    clear z10
    cases x7 with | intro u7 y70 =>
    have g7 := y70.1
    have z70 := y70.2
    clear y70
    have p7 := z70
    clear z70
    cases x8 with | intro u8 y80 =>
    have g8 := y80.1
    have z80 := y80.2
    clear y80
    have p8 := z80
    clear z80
    simp only [List.take_succ_cons, List.take_zero, List.drop_succ_cons, List.drop_zero, setAll, List.setIfInBounds_toArray, List.set_cons_succ, List.set_cons_zero, Nat.zero_add, Nat.reduceAdd, g0, g1, g2, g3, g5, g6, g7, g8, g10]
    clear g0 g1 g2 g3 g5 g6 g7 g8 g10 hv
    have q8 := hC.1
    go_wp2_with fail
end Go.Proofs.YthcokaffbgbanaaDoor
