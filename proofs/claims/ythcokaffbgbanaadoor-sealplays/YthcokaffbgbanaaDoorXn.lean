/- The drawn regions of Datagram, by themselves. -/
import Derived.Test.YthcokaffbgbanaaDoorXm
import Derived.Test.YthcokaffbgbanaaDoorXa
namespace Go.Proofs.YthcokaffbgbanaaDoor
open Go.RowKit Go.BigFrame

/-- What is opened: bytes of one's own, or nothing; how they lie. -/
structure PU (N : Nat) (E : Int) (m : Nat) (L : List UInt8) (w : World) (u : Value) : Prop where
  own : Own N w u L
  is : E = 0 → ∃ g, u = .slice (some ⟨g, 0, none⟩) m (m + 16)
  no : E ≠ 0 → u = .slice none 0 0
theorem PU.below {N : Nat} {E : Int} {m : Nat} {L : List UInt8} {w w' : World} {u : Value} (h : PU N E m L w u) (hb : Below w.heap.size w w') : PU N E m L w' u := ⟨h.own.below hb, h.is, h.no⟩
theorem PU.less {N M : Nat} {E : Int} {m : Nat} {L : List UInt8} {w : World} {u : Value} (h : PU N E m L w u) (hM : M ≤ N) : PU M E m L w u := ⟨h.own.less hM, h.is, h.no⟩
theorem open_own (key : List UInt8) (hkey : key.length = 16) (vn : Value) (ln ls : List UInt8) (hn : ln.length = 12) (h1 : 16 ≤ ls.length) (h2 : ls.length ≤ 65552) (b o n c : Nat) (hl : ls.length = n) (hc : n ≤ c) (w : World) (ht : Tab w)
    (hv : Bts (· < w.heap.size) w vn ln) (hb : b < w.heap.size) (hr : w.rangeAt b o (ls.map B)) :
    Calls Tryd.prog 40 #[.agg (ag key), vn, .slice none 0 0, .slice (some ⟨b, o, none⟩) n c] w fun e w' => ∃ v, e = .returned v ∧ (∃ u, v = .tuple #[u, .int .i64 (Gf.opE key ln [] ls)] ∧ PU w.heap.size (Gf.opE key ln [] ls) (ls.length - 16) (Gf.opL key ln [] ls) w' u) ∧ Below w.heap.size w w' := by
  subst hl
  refine (open_ok key hkey vn (.slice none 0 0) (.slice (some ⟨b, o, none⟩) ls.length c) ln [] ls (by omega) (by omega) (by simp) h1 h2 w ht hv (noBts w) ⟨_, _, rfl, hc, .inr ⟨b, o, rfl, hb, hr⟩⟩).mono ?_
  rintro e w' ⟨hbl, hyes, hno⟩
  rcases Gf.opE_cases key ln ls hn h1 h2 with ⟨hd, e1, e2⟩ | ⟨hd, e1, e2⟩
  · obtain ⟨g, rfl, hbu, hg⟩ := hyes hd
    have lP : (Gf.unturned key ln ls).1.length = ls.length - 16 := by
      have h5 := Gf.sealed_len key ln [] (Gf.unturned key ln ls).1
      rw [Gf.seal_opened key ln [] ls hd] at h5
      omega
    rw [e1, e2]
    refine ⟨_, rfl, ⟨_, rfl, ⟨?_, fun _ => ⟨g, rfl⟩, fun h => absurd rfl h⟩⟩, hbl⟩
    obtain ⟨q1, q2⟩ := hbu
    refine ⟨q1, ?_⟩
    rcases q2 with ⟨e, _⟩ | ⟨g', cap, cur, e1', _, e3⟩
    · cases e
    · simp only [Value.slice.injEq, Option.some.injEq, Addr.mk.injEq, and_true, true_and] at e1'
      obtain ⟨rfl, rfl⟩ := e1'
      exact .inr ⟨g, _, cur, by rw [lP], hg, e3⟩
  · obtain rfl := hno hd
    rw [e1, e2]
    exact ⟨_, rfl, ⟨_, rfl, ⟨Own.nil _ _, fun h => absurd h (by decide), fun _ => rfl⟩⟩, hbl⟩
set_option maxRecDepth 1000000 in
set_option maxHeartbeats 4000000 in
theorem openReg (key S L : List UInt8) (hkey : key.length = 16) (E : Int) (H kb N b o n c m : Nat) (w0 : World) (hS1 : 16 ≤ S.length) (hS2 : S.length ≤ 65552) (hSn : S.length = n - 8) (hn8 : 8 ≤ n) (hnc : n ≤ c) (h8c : 8 < c) (hE : Gf.opE key (Gf.nnc H) [] S = E) (hL : Gf.opL key (Gf.nnc H) [] S = L) (hm : S.length - 16 = m) (u0 u1 u4 u5 u6 u7 u9 u10 u11 u12 u13 u14 u15 u16 u17 u18 u19 u20 u21 u22 u23 u24 u25 u26 u27 u28 u29 u30 u31 u32 u33 u34 u35 u36 u37 u38 u39 u40 u41 u42 u43 u44 u45 u46 u47 u48 u49 u50 u51 u52 u53 u54 u55 u56 u57 u58 u59 : Value) (w : World) (hN : N ≤ w0.heap.size) (hb0 : Below N w0 w) (hk : Row w kb 23 (ag key)) (hr : w.rangeAt b (o + 8) (S.map B)) (hbw : b < w.heap.size) (hT : ∀ w1, Below N w0 w1 → Tab w1) :
    Code.wp Tryd.prog ((Tryd.f13.body.bind (regOf' 10)).getD .skip) (fun e a' w' => e = .normal ∧ ∃ v9 v10 v37 v38 v39 v40 v41 v42 v43 v44 v45 : Value, a' = ⟨List.toArray (u0 :: u1 :: .slice (some ⟨b, o, none⟩) n c :: .pointer (some ⟨kb, 0, none⟩) :: u4 :: u5 :: u6 :: u7 :: .int .u64 (H : Int) :: v9 :: v10 :: u11 :: u12 :: u13 :: u14 :: u15 :: u16 :: u17 :: u18 :: u19 :: u20 :: u21 :: u22 :: u23 :: u24 :: u25 :: u26 :: u27 :: u28 :: u29 :: u30 :: u31 :: u32 :: u33 :: u34 :: u35 :: u36 :: v37 :: v38 :: v39 :: v40 :: v41 :: v42 :: v43 :: v44 :: v45 :: u46 :: u47 :: u48 :: u49 :: u50 :: u51 :: u52 :: u53 :: u54 :: u55 :: u56 :: u57 :: u58 :: u59 :: []), []⟩ ∧ PU N E m L w' v9 ∧ v10 = .int .i64 E ∧ Below N w0 w') ⟨List.toArray (u0 :: u1 :: .slice (some ⟨b, o, none⟩) n c :: .pointer (some ⟨kb, 0, none⟩) :: u4 :: u5 :: u6 :: u7 :: .int .u64 (H : Int) :: u9 :: u10 :: u11 :: u12 :: u13 :: u14 :: u15 :: u16 :: u17 :: u18 :: u19 :: u20 :: u21 :: u22 :: u23 :: u24 :: u25 :: u26 :: u27 :: u28 :: u29 :: u30 :: u31 :: u32 :: u33 :: u34 :: u35 :: u36 :: u37 :: u38 :: u39 :: u40 :: u41 :: u42 :: u43 :: u44 :: u45 :: u46 :: u47 :: u48 :: u49 :: u50 :: u51 :: u52 :: u53 :: u54 :: u55 :: u56 :: u57 :: u58 :: u59 :: []), []⟩ w := by
  conv => arg 2; whnf
  have HNO := Box'.mk (nonceOf_any H)
  have HOP := Box'.mk (fun (vn : Value) (w1 : World) (h1 : Below N w0 w1) (h2 : Bts (· < w1.heap.size) w1 vn (Gf.nnc H)) (h3 : w1.rangeAt b (o + 8) (S.map B) ∧ b < w1.heap.size) =>
    open_own key hkey vn (Gf.nnc H) S (Gf.nnc_len H) hS1 hS2 b (o + 8) (n - 8) (c - 8) hSn (by omega) w1 (hT w1 h1) h2 h3.2 h3.1)
  rw [hE, hL, hm] at HOP
  refine wp_region_grow 10 (by kernel_rfl) (by kernel_rfl) (fun a b => Below a.heap.size a b) (fun w1 => Below N w0 w1 ∧ Row w1 kb 23 (ag key) ∧ w1.rangeAt b (o + 8) (S.map B) ∧ b < w1.heap.size) (fun k w1 v => match k with
      | 0 => v = .agg (ag key)
      | 1 => v = .int .u64 (H : Int)
      | 2 => Own N w1 v (Gf.nnc H)
      | 3 => v = .slice (some ⟨b, o, none⟩) n c
      | 4 => v = .slice (some ⟨b, o + 8, none⟩) (n - 8) (c - 8)
      | 5 => ∃ u, v = .tuple #[u, .int .i64 E] ∧ PU N E m L w1 u
      | 6 => ∃ u, v = .tuple #[u, .int .i64 E] ∧ PU N E m L w1 u
      | 7 => PU N E m L w1 v
      | 8 => v = .int .i64 E
      | 9 => PU N E m L w1 v
      | _ => True) ?_ ?_ ?_ ?_ ?_
  · intro a b' hb hC; exact ⟨hC.1.trans (hb.mono (Nat.le_trans hN hC.1.size)), hC.2.1.below hb hC.2.1.lt, range_below hC.2.2.1 hb hC.2.2.2, Nat.lt_of_lt_of_le hC.2.2.2 hb.size⟩
  · intro k v w1 w2 hC1 hb h
    match k, h with
    | 0, h => exact h
    | 1, h => exact h
    | 2, h => exact Own.below h hb
    | 3, h => exact h
    | 4, h => exact h
    | 5, h => exact Exists.elim h fun u hu => ⟨u, hu.1, hu.2.below hb⟩
    | 6, h => exact Exists.elim h fun u hu => ⟨u, hu.1, hu.2.below hb⟩
    | 7, h => exact PU.below h hb
    | 8, h => exact h
    | 9, h => exact PU.below h hb
    | k + 10, h => trivial
  · exact ⟨hb0.drew, hk, hr, hbw⟩
  · refine ⟨?_, ?_, ?_, ?_, ?_, ?_, ?_, ?_, ?_, ?_, trivial⟩
    · intro f w1 hC hd KK hK
      clear hd
      simp only [List.take_succ_cons, List.take_zero, setAll, List.setIfInBounds_toArray, List.set_cons_succ, List.set_cons_zero, Nat.zero_add, Nat.reduceAdd] at hK ⊢
      refine wp_load_row 23 _ rfl _ rfl _ _ (hC.2.1) _ Tryd.underlying23 rfl 16 Tryd.info23 (by rw [ag_size]; exact hkey) ?_
      exact hK _ _ rfl (Below.refl _ _)
    · intro f w1 hC hd KK hK
      clear hd
      simp only [List.take_succ_cons, List.take_zero, setAll, List.setIfInBounds_toArray, List.set_cons_succ, List.set_cons_zero, Nat.zero_add, Nat.reduceAdd] at hK ⊢
      refine wp_of_quiet rfl ?_
      go_big_quiet_step (fail)
      exact wpQuiet_nil (hK _ _ rfl (Below.refl _ _))
    · intro f w1 hC hd KK hK
      have g1 : f 1 = _ := hd 1 (by kernel_rfl)
      clear hd
      simp only [List.take_succ_cons, List.take_zero, setAll, List.setIfInBounds_toArray, List.set_cons_succ, List.set_cons_zero, Nat.zero_add, Nat.reduceAdd, g1] at hK ⊢
      refine wp_callE 32 #[.int .u64 (H : Int)] (by simp [go_sem]) (fun v w' => Own w1.heap.size w' v (Gf.nnc H) ∧ Below w1.heap.size w1 w') ?_ ?_
      · exact (HNO.out w1)
      · intro v w' hr
        exact hK _ _ (hr.1.less (Nat.le_trans hN hC.1.size)) hr.2
    · intro f w1 hC hd KK hK
      clear hd
      simp only [List.take_succ_cons, List.take_zero, setAll, List.setIfInBounds_toArray, List.set_cons_succ, List.set_cons_zero, Nat.zero_add, Nat.reduceAdd] at hK ⊢
      refine wp_of_quiet rfl ?_
      go_big_quiet_step (fail)
      exact wpQuiet_nil (hK _ _ rfl (Below.refl _ _))
    · intro f w1 hC hd KK hK
      have g3 : f 3 = _ := hd 3 (by kernel_rfl)
      clear hd
      simp only [List.take_succ_cons, List.take_zero, setAll, List.setIfInBounds_toArray, List.set_cons_succ, List.set_cons_zero, Nat.zero_add, Nat.reduceAdd, g3] at hK ⊢
      refine wp_of_quiet rfl ?_
      go_big_quiet_step (fail)
      exact wpQuiet_nil (hK _ _ rfl (Below.refl _ _))
    · intro f w1 hC hd KK hK
      have g0 : f 0 = _ := hd 0 (by kernel_rfl)
      have p2 : Own N w1 (f 2) (Gf.nnc H) := hd 2 (by kernel_rfl)
      have g4 : f 4 = _ := hd 4 (by kernel_rfl)
      clear hd
      simp only [List.take_succ_cons, List.take_zero, setAll, List.setIfInBounds_toArray, List.set_cons_succ, List.set_cons_zero, Nat.zero_add, Nat.reduceAdd, g0, g4] at hK ⊢
      refine wp_callE 40 #[.agg (ag key), f 2, .slice none 0 0, .slice (some ⟨b, o + 8, none⟩) (n - 8) (c - 8)] (by simp [go_sem]) (fun v w' => (∃ u, v = .tuple #[u, .int .i64 E] ∧ PU w1.heap.size E m L w' u) ∧ Below w1.heap.size w1 w') ?_ ?_
      · exact (HOP.out (f 2) w1 hC.1 p2.bts hC.2.2)
      · intro v w' hr
        obtain ⟨⟨u, hu, ho⟩, hb⟩ := hr
        exact hK _ _ ⟨u, hu, ho.less (Nat.le_trans hN hC.1.size)⟩ hb
    · intro f w1 hC hd KK hK
      have x5 : ∃ u, (f 5) = .tuple #[u, .int .i64 E] ∧ PU N E m L w1 u := hd 5 (by kernel_rfl)
      clear hd
      cases x5 with | intro u5 y50 =>
      have g5 := y50.1
      have z50 := y50.2
      clear y50
      have p5 := z50
      clear z50
      simp only [List.take_succ_cons, List.take_zero, setAll, List.setIfInBounds_toArray, List.set_cons_succ, List.set_cons_zero, Nat.zero_add, Nat.reduceAdd, g5] at hK ⊢
      refine wp_of_quiet rfl ?_
      go_big_quiet_step (fail)
      exact wpQuiet_nil (hK _ _ ⟨u5, rfl, p5⟩ (Below.refl _ _))
    · intro f w1 hC hd KK hK
      have x6 : ∃ u, (f 6) = .tuple #[u, .int .i64 E] ∧ PU N E m L w1 u := hd 6 (by kernel_rfl)
      clear hd
      cases x6 with | intro u6 y60 =>
      have g6 := y60.1
      have z60 := y60.2
      clear y60
      have p6 := z60
      clear z60
      simp only [List.take_succ_cons, List.take_zero, setAll, List.setIfInBounds_toArray, List.set_cons_succ, List.set_cons_zero, Nat.zero_add, Nat.reduceAdd, g6] at hK ⊢
      refine wp_of_quiet rfl ?_
      go_big_quiet_step (fail)
      exact wpQuiet_nil (hK _ _ p6 (Below.refl _ _))
    · intro f w1 hC hd KK hK
      have x6 : ∃ u, (f 6) = .tuple #[u, .int .i64 E] ∧ PU N E m L w1 u := hd 6 (by kernel_rfl)
      clear hd
      cases x6 with | intro u6 y60 =>
      have g6 := y60.1
      have z60 := y60.2
      clear y60
      have p6 := z60
      clear z60
      simp only [List.take_succ_cons, List.take_zero, setAll, List.setIfInBounds_toArray, List.set_cons_succ, List.set_cons_zero, Nat.zero_add, Nat.reduceAdd, g6] at hK ⊢
      refine wp_of_quiet rfl ?_
      go_big_quiet_step (fail)
      exact wpQuiet_nil (hK _ _ rfl (Below.refl _ _))
    · intro f w1 hC hd KK hK
      have p7 : PU N E m L w1 (f 7) := hd 7 (by kernel_rfl)
      clear hd
      simp only [List.take_succ_cons, List.take_zero, setAll, List.setIfInBounds_toArray, List.set_cons_succ, List.set_cons_zero, Nat.zero_add, Nat.reduceAdd] at hK ⊢
      refine wp_of_quiet rfl ?_
      go_big_quiet_step (fail)
      exact wpQuiet_nil (hK _ _ p7 (Below.refl _ _))
  · intro f w1 hC hv
    have g0 : f 0 = _ := hv 0 (by decide)
    have g1 : f 1 = _ := hv 1 (by decide)
    have p2 : Own N w1 (f 2) (Gf.nnc H) := hv 2 (by decide)
    have g3 : f 3 = _ := hv 3 (by decide)
    have g4 : f 4 = _ := hv 4 (by decide)
    have x5 : ∃ u, (f 5) = .tuple #[u, .int .i64 E] ∧ PU N E m L w1 u := hv 5 (by decide)
    have x6 : ∃ u, (f 6) = .tuple #[u, .int .i64 E] ∧ PU N E m L w1 u := hv 6 (by decide)
    have p7 : PU N E m L w1 (f 7) := hv 7 (by decide)
    have g8 : f 8 = _ := hv 8 (by decide)
    have p9 : PU N E m L w1 (f 9) := hv 9 (by decide)
    cases x5 with | intro u5 y50 =>
    have g5 := y50.1
    have z50 := y50.2
    clear y50
    have p5 := z50
    clear z50
    cases x6 with | intro u6 y60 =>
    have g6 := y60.1
    have z60 := y60.2
    clear y60
    have p6 := z60
    clear z60
    simp only [List.take_succ_cons, List.take_zero, List.drop_succ_cons, List.drop_zero, setAll, List.setIfInBounds_toArray, List.set_cons_succ, List.set_cons_zero, Nat.zero_add, Nat.reduceAdd, g0, g1, g3, g4, g5, g6, g8]
    clear g0 g1 g3 g4 g5 g6 g8 hv
    have q8 := hC.1
    go_wp2_with fail
set_option maxRecDepth 1000000 in
set_option maxHeartbeats 4000000 in
theorem putReg (P : List UInt8) (H sq rb N g m : Nat) (w0 : World) (hm4 : 4 ≤ m) (u0 u1 u2 u3 u4 u5 u7 u10 u11 u12 u13 u14 u15 u16 u17 u18 u19 u20 u21 u22 u23 u24 u25 u26 u27 u28 u29 u30 u31 u32 u33 u34 u35 u36 u37 u38 u39 u40 u41 u42 u43 u44 u45 u46 u47 u48 u49 u50 u51 u52 u53 u54 u55 u56 u57 u58 u59 : Value) (w : World) (hN : N ≤ w0.heap.size) (hrN : N ≤ rb) (hb0 : Below N w0 w) (ho : Own N w (.slice (some ⟨g, 0, none⟩) m (m + 16)) P) (hrr : Row w rb 28 #[.int .u64 0, .int .u16 0, .int .u16 0, .slice none 0 0]) (hcl : ∀ k, k < m → w.cell? ⟨g, k, none⟩ = some (.int .u8 ((P.getD k 0).toNat : Int))) (hQ : ∀ w1, Calls Tryd.prog 39 #[.int .u64 (H : Int)] w1 fun e w' => e = .returned (.int .u64 (sq : Int)) ∧ w' = w1) :
    Code.wp Tryd.prog ((Tryd.f13.body.bind (regOf' 13)).getD .skip) (fun e a' w' => e = .normal ∧ ∃ v7 v50 v51 v52 v53 v54 v55 v56 v57 v58 v59 : Value, a' = ⟨List.toArray (u0 :: u1 :: u2 :: u3 :: u4 :: u5 :: .pointer (some ⟨rb, 0, none⟩) :: v7 :: .int .u64 (H : Int) :: .slice (some ⟨g, 0, none⟩) m (m + 16) :: u10 :: u11 :: u12 :: u13 :: u14 :: u15 :: u16 :: u17 :: u18 :: u19 :: u20 :: u21 :: u22 :: u23 :: u24 :: u25 :: u26 :: u27 :: u28 :: u29 :: u30 :: u31 :: u32 :: u33 :: u34 :: u35 :: u36 :: u37 :: u38 :: u39 :: u40 :: u41 :: u42 :: u43 :: u44 :: u45 :: u46 :: u47 :: u48 :: u49 :: v50 :: v51 :: v52 :: v53 :: v54 :: v55 :: v56 :: v57 :: v58 :: v59 :: []), []⟩ ∧ v7 = .int .i64 0 ∧ Row w' rb 28 (dgv sq (Gf.tmA P 0) (Gf.tmA P 2) (.slice (some ⟨g, 4, none⟩) (m - 4) (m + 16 - 4))) ∧ Own N w' (.slice (some ⟨g, 0, none⟩) m (m + 16)) P ∧ Below N w0 w') ⟨List.toArray (u0 :: u1 :: u2 :: u3 :: u4 :: u5 :: .pointer (some ⟨rb, 0, none⟩) :: u7 :: .int .u64 (H : Int) :: .slice (some ⟨g, 0, none⟩) m (m + 16) :: u10 :: u11 :: u12 :: u13 :: u14 :: u15 :: u16 :: u17 :: u18 :: u19 :: u20 :: u21 :: u22 :: u23 :: u24 :: u25 :: u26 :: u27 :: u28 :: u29 :: u30 :: u31 :: u32 :: u33 :: u34 :: u35 :: u36 :: u37 :: u38 :: u39 :: u40 :: u41 :: u42 :: u43 :: u44 :: u45 :: u46 :: u47 :: u48 :: u49 :: u50 :: u51 :: u52 :: u53 :: u54 :: u55 :: u56 :: u57 :: u58 :: u59 :: []), []⟩ w := by
  conv => arg 2; whnf
  have HQ := Box'.mk (fun (w1 : World) => hQ w1)
  have hDV1 : (dgv sq (Gf.tmA P 0) (Gf.tmA P 2) (.slice (some ⟨g, 4, none⟩) (m - 4) (m + 16 - 4))).size = 4 := rfl
  have hDV2 : (dgv sq (Gf.tmA P 0) (Gf.tmA P 2) (.slice (some ⟨g, 4, none⟩) (m - 4) (m + 16 - 4))).all (·.oneCell') = true := by simp [dgv, Value.oneCell']
  refine wp_region_grow 10 (by kernel_rfl) (by kernel_rfl) (fun a b => Below a.heap.size a b) (fun w1 => (Below N w0 w1 ∧ Own N w1 (.slice (some ⟨g, 0, none⟩) m (m + 16)) P) ∧ Row w1 rb 28 #[.int .u64 0, .int .u16 0, .int .u16 0, .slice none 0 0] ∧ ∀ k, k < m → w1.cell? ⟨g, k, none⟩ = some (.int .u8 ((P.getD k 0).toNat : Int))) (fun k w1 v => match k with
      | 0 => v = .int .u64 (H : Int)
      | 1 => v = .int .u64 (sq : Int)
      | 2 => v = .slice (some ⟨g, 0, none⟩) m (m + 16)
      | 3 => v = .int .u16 ((Gf.tmA P 0 : Nat) : Int)
      | 4 => v = .slice (some ⟨g, 0, none⟩) m (m + 16)
      | 5 => v = .slice (some ⟨g, 2, none⟩) (m - 2) (m + 16 - 2)
      | 6 => v = .int .u16 ((Gf.tmA P 2 : Nat) : Int)
      | 7 => v = .slice (some ⟨g, 0, none⟩) m (m + 16)
      | 8 => v = .slice (some ⟨g, 4, none⟩) (m - 4) (m + 16 - 4)
      | 9 => v = .agg (dgv sq (Gf.tmA P 0) (Gf.tmA P 2) (.slice (some ⟨g, 4, none⟩) (m - 4) (m + 16 - 4)))
      | _ => True) ?_ ?_ ?_ ?_ ?_
  · intro a b' hb hC; exact ⟨⟨hC.1.1.trans (hb.mono (Nat.le_trans hN hC.1.1.size)), hC.1.2.below hb⟩, hC.2.1.below hb hC.2.1.lt, fun k hk => by rw [hb.cell (World.block_lt_of_cell? _ _ (hC.2.2 k hk))]; exact hC.2.2 k hk⟩
  · intro k v w1 w2 hC1 hb h
    match k, h with
    | 0, h => exact h
    | 1, h => exact h
    | 2, h => exact h
    | 3, h => exact h
    | 4, h => exact h
    | 5, h => exact h
    | 6, h => exact h
    | 7, h => exact h
    | 8, h => exact h
    | 9, h => exact h
    | k + 10, h => trivial
  · exact ⟨⟨hb0.drew, ho⟩, hrr, hcl⟩
  · refine ⟨?_, ?_, ?_, ?_, ?_, ?_, ?_, ?_, ?_, ?_, trivial⟩
    · intro f w1 hC hd KK hK
      clear hd
      simp only [List.take_succ_cons, List.take_zero, setAll, List.setIfInBounds_toArray, List.set_cons_succ, List.set_cons_zero, Nat.zero_add, Nat.reduceAdd] at hK ⊢
      refine wp_of_quiet rfl ?_
      go_big_quiet_step (fail)
      exact wpQuiet_nil (hK _ _ rfl (Below.refl _ _))
    · intro f w1 hC hd KK hK
      have g0 : f 0 = _ := hd 0 (by kernel_rfl)
      clear hd
      simp only [List.take_succ_cons, List.take_zero, setAll, List.setIfInBounds_toArray, List.set_cons_succ, List.set_cons_zero, Nat.zero_add, Nat.reduceAdd, g0] at hK ⊢
      refine wp_callE 39 #[.int .u64 (H : Int)] (by simp [go_sem]) (fun v w' => v = .int .u64 (sq : Int) ∧ Below w1.heap.size w1 w') ?_ ?_
      · exact ((HQ.out w1).mono fun e w' h => ⟨_, h.1, rfl, by rw [h.2]; exact Below.refl _ _⟩)
      · intro v w' hr
        exact hK _ _ hr.1 hr.2
    · intro f w1 hC hd KK hK
      clear hd
      simp only [List.take_succ_cons, List.take_zero, setAll, List.setIfInBounds_toArray, List.set_cons_succ, List.set_cons_zero, Nat.zero_add, Nat.reduceAdd] at hK ⊢
      refine wp_of_quiet rfl ?_
      go_big_quiet_step (fail)
      exact wpQuiet_nil (hK _ _ rfl (Below.refl _ _))
    · intro f w1 hC hd KK hK
      have g2 : f 2 = _ := hd 2 (by kernel_rfl)
      clear hd
      simp only [List.take_succ_cons, List.take_zero, setAll, List.setIfInBounds_toArray, List.set_cons_succ, List.set_cons_zero, Nat.zero_add, Nat.reduceAdd, g2] at hK ⊢
      refine wp_callE 41 #[.slice (some ⟨g, 0, none⟩) m (m + 16)] (by simp [go_sem]) (fun v w' => v = .int .u16 ((Gf.tmA P 0 : Nat) : Int) ∧ Below w1.heap.size w1 w') ?_ ?_
      · exact ((readTime_any g 0 _ _ (P.getD 0 0) (P.getD (0 + 1) 0) w1 (by omega) (hC.2.2 0 (by omega)) (hC.2.2 (0 + 1) (by omega))).mono fun e w' h => ⟨_, h.1, rfl, h.2⟩)
      · intro v w' hr
        exact hK _ _ hr.1 hr.2
    · intro f w1 hC hd KK hK
      clear hd
      simp only [List.take_succ_cons, List.take_zero, setAll, List.setIfInBounds_toArray, List.set_cons_succ, List.set_cons_zero, Nat.zero_add, Nat.reduceAdd] at hK ⊢
      refine wp_of_quiet rfl ?_
      go_big_quiet_step (fail)
      exact wpQuiet_nil (hK _ _ rfl (Below.refl _ _))
    · intro f w1 hC hd KK hK
      have g4 : f 4 = _ := hd 4 (by kernel_rfl)
      clear hd
      simp only [List.take_succ_cons, List.take_zero, setAll, List.setIfInBounds_toArray, List.set_cons_succ, List.set_cons_zero, Nat.zero_add, Nat.reduceAdd, g4] at hK ⊢
      refine wp_of_quiet rfl ?_
      go_big_quiet_step (fail)
      exact wpQuiet_nil (hK _ _ rfl (Below.refl _ _))
    · intro f w1 hC hd KK hK
      have g5 : f 5 = _ := hd 5 (by kernel_rfl)
      clear hd
      simp only [List.take_succ_cons, List.take_zero, setAll, List.setIfInBounds_toArray, List.set_cons_succ, List.set_cons_zero, Nat.zero_add, Nat.reduceAdd, g5] at hK ⊢
      refine wp_callE 41 #[.slice (some ⟨g, 2, none⟩) (m - 2) (m + 16 - 2)] (by simp [go_sem]) (fun v w' => v = .int .u16 ((Gf.tmA P 2 : Nat) : Int) ∧ Below w1.heap.size w1 w') ?_ ?_
      · exact ((readTime_any g 2 _ _ (P.getD 2 0) (P.getD (2 + 1) 0) w1 (by omega) (hC.2.2 2 (by omega)) (hC.2.2 (2 + 1) (by omega))).mono fun e w' h => ⟨_, h.1, rfl, h.2⟩)
      · intro v w' hr
        exact hK _ _ hr.1 hr.2
    · intro f w1 hC hd KK hK
      clear hd
      simp only [List.take_succ_cons, List.take_zero, setAll, List.setIfInBounds_toArray, List.set_cons_succ, List.set_cons_zero, Nat.zero_add, Nat.reduceAdd] at hK ⊢
      refine wp_of_quiet rfl ?_
      go_big_quiet_step (fail)
      exact wpQuiet_nil (hK _ _ rfl (Below.refl _ _))
    · intro f w1 hC hd KK hK
      have g7 : f 7 = _ := hd 7 (by kernel_rfl)
      clear hd
      simp only [List.take_succ_cons, List.take_zero, setAll, List.setIfInBounds_toArray, List.set_cons_succ, List.set_cons_zero, Nat.zero_add, Nat.reduceAdd, g7] at hK ⊢
      refine wp_of_quiet rfl ?_
      go_big_quiet_step (fail)
      exact wpQuiet_nil (hK _ _ rfl (Below.refl _ _))
    · intro f w1 hC hd KK hK
      have g1 : f 1 = _ := hd 1 (by kernel_rfl)
      have g3 : f 3 = _ := hd 3 (by kernel_rfl)
      have g6 : f 6 = _ := hd 6 (by kernel_rfl)
      have g8 : f 8 = _ := hd 8 (by kernel_rfl)
      clear hd
      simp only [List.take_succ_cons, List.take_zero, setAll, List.setIfInBounds_toArray, List.set_cons_succ, List.set_cons_zero, Nat.zero_add, Nat.reduceAdd, g1, g3, g6, g8] at hK ⊢
      refine wp_of_quiet rfl ?_
      go_big_quiet_step (fail)
      exact wpQuiet_nil (hK _ _ rfl (Below.refl _ _))
  · intro f w1 hC hv
    have g0 : f 0 = _ := hv 0 (by decide)
    have g1 : f 1 = _ := hv 1 (by decide)
    have g2 : f 2 = _ := hv 2 (by decide)
    have g3 : f 3 = _ := hv 3 (by decide)
    have g4 : f 4 = _ := hv 4 (by decide)
    have g5 : f 5 = _ := hv 5 (by decide)
    have g6 : f 6 = _ := hv 6 (by decide)
    have g7 : f 7 = _ := hv 7 (by decide)
    have g8 : f 8 = _ := hv 8 (by decide)
    have g9 : f 9 = _ := hv 9 (by decide)
    simp only [List.take_succ_cons, List.take_zero, List.drop_succ_cons, List.drop_zero, setAll, List.setIfInBounds_toArray, List.set_cons_succ, List.set_cons_zero, Nat.zero_add, Nat.reduceAdd, g0, g1, g2, g3, g4, g5, g6, g7, g8, g9]
    clear g0 g1 g2 g3 g4 g5 g6 g7 g8 g9 hv
    have hrm : Room w1 rb 28 4 := ⟨_, hC.2.1, rfl⟩
    have hfin : Below N w0 (w1.setRow rb (dgv sq (Gf.tmA P 0) (Gf.tmA P 2) (.slice (some ⟨g, 4, none⟩) (m - 4) (m + 16 - 4)))) := below_setRow hC.1.1 hrN _
    have hrow : Row (w1.setRow rb (dgv sq (Gf.tmA P 0) (Gf.tmA P 2) (.slice (some ⟨g, 4, none⟩) (m - 4) (m + 16 - 4)))) rb 28 (dgv sq (Gf.tmA P 0) (Gf.tmA P 2) (.slice (some ⟨g, 4, none⟩) (m - 4) (m + 16 - 4))) := hrm.setRow _
    have hown : Own N (w1.setRow rb (dgv sq (Gf.tmA P 0) (Gf.tmA P 2) (.slice (some ⟨g, 4, none⟩) (m - 4) (m + 16 - 4)))) (.slice (some ⟨g, 0, none⟩) m (m + 16)) P := hC.1.2.setRow hrm (by decide) _
    clear hC
    generalize dgv sq (Gf.tmA P 0) (Gf.tmA P 2) (.slice (some ⟨g, 4, none⟩) (m - 4) (m + 16 - 4)) = DV at *
    go_wp2_with (first | (refine wpList_store_row rfl 28 (.tmp 6) (.tmp 59) rfl _ rfl _ rfl _ _ hrm Tryd.size28 hDV1 hDV2 ?_) | fail)
end Go.Proofs.YthcokaffbgbanaaDoor

/- A region that draws its order, by what stands when so much of its head is done; its tail is forced. -/
namespace Go.Proofs.YthcokaffbgbanaaDoor
open Go.RowKit
section
variable {P : Program} {Q : Exit → Act → World → Prop}
def updB (D : Nat → Bool) (i : Nat) : Nat → Bool := fun k => if k = i then true else D k
/-- What each operation of the head must do. -/
def Walks (P : Program) (Q : Exit → Act → World → Prop) (J : (Nat → Bool) → (Nat → Value) → World → Prop) (l0 : List Oper) (t : Array Value) (df : List Deferred) : List Oper → Nat → Prop
  | [], _ => True
  | o :: r, k => (∀ D f w, J D f w → D k = false → (∀ j, behind o j = true → D j = true) → ∀ K : Act → World → Prop, (∀ v w', J (updB D k) (upd f k v) w' → K ((⟨setAll l0 0 f t, df⟩ : Act).put o.dst v) w') → o.wp P ⟨setAll l0 0 f t, df⟩ w K Q) ∧ Walks P Q J l0 t df r (k + 1)
theorem Walks.at {J : (Nat → Bool) → (Nat → Value) → World → Prop} {l0 : List Oper} {t : Array Value} {df : List Deferred} {l : List Oper} {k : Nat} (h : Walks P Q J l0 t df l k) (i : Nat) (o : Oper) (ho : l[i]? = some o) :
    ∀ D f w, J D f w → D (k + i) = false → (∀ j, behind o j = true → D j = true) → ∀ K : Act → World → Prop, (∀ v w', J (updB D (k + i)) (upd f (k + i) v) w' → K ((⟨setAll l0 0 f t, df⟩ : Act).put o.dst v) w') → o.wp P ⟨setAll l0 0 f t, df⟩ w K Q := by
  induction l generalizing k i with
  | nil => simp at ho
  | cons p r ih =>
    cases i with
    | zero => simp only [List.getElem?_cons_zero, Option.some.injEq] at ho; subst ho; exact h.1
    | succ i =>
      have e : k + (i + 1) = k + 1 + i := by omega
      rw [e]
      exact ih h.2 i (by simpa using ho)
theorem wp_region_walk {id : Nat} {t : Array Value} {df : List Deferred} {w : World} {l : List Oper} (n : Nat) (hm : P.follows .mixedOrders = true) (hB : growB l n = true)
    (J : (Nat → Bool) → (Nat → Value) → World → Prop) (h0 : ∀ f, J (fun _ => false) f w.drew)
    (hops : Walks P Q J (l.take n) t df (l.take n) 0)
    (hend : ∀ D f w', (∀ k, k < n → D k = true) → J D f w' → wpList P l.toArray Q (l.drop n) ⟨setAll (l.take n) 0 f t, df⟩ w') :
    (Code.region id l.toArray true).wp P Q ⟨t, df⟩ w := by
  simp only [growB, Bool.and_eq_true, List.all_eq_true, List.mem_range, decide_eq_true_eq] at hB
  obtain ⟨⟨⟨hB1, hB2⟩, hB3⟩, hn⟩ := hB
  have hget : ∀ i o, i < n → l[i]? = some o → (l.take n)[i]? = some o := fun i o hi ho => by rw [List.getElem?_take, if_pos hi]; exact ho
  have hone : ∀ i o d, i < n → l[i]? = some o → o.dst = some d → ∀ j o', (l.take n)[j]? = some o' → o'.dst = some d → j = i := by
    intro i o d hi ho hd j o' hj hd'
    have hjn : j < n := by
      rcases Nat.lt_or_ge j n with h | h
      · exact h
      · rw [List.getElem?_take, if_neg (by omega)] at hj; cases hj
    rw [List.getElem?_take, if_pos hjn] at hj
    have := hB1 i hi
    rw [ho] at this
    simp only [Option.map_some, Option.getD_some, Bool.and_eq_true, List.all_eq_true, List.mem_range, Bool.or_eq_true, decide_eq_true_eq, hd, Option.isNone_some, Bool.false_eq_true, false_or] at this
    rcases this.2 j hjn with h | h
    · exact h
    · rw [hj] at h
      simp [hd'] at h
  have hdepAll : ∀ (L : Array Bool) i o, closedB l L → n ≤ i → l[i]? = some o → (∀ e ∈ o.after, Region.binds .any e = true → L.getD e.on false = true) → ∀ k, k < i → L.getD k false = true := by
    intro L i o hc hi ho hdep k hk
    have hil : i < l.length := (List.getElem?_eq_some_iff.1 ho).1
    have := hB3 i hil
    simp only [Bool.or_eq_true, decide_eq_true_eq, List.all_eq_true, List.mem_range] at this
    rcases this with h | h
    · omega
    · exact anc_done l L hc _ i k o ho hdep (h k hk)
  have hwpo : ∀ i o K a w, l[i]? = some o → wpList P l.toArray Q (o :: l.drop (i + 1)) a w → (∀ a w, wpList P l.toArray Q (l.drop (i + 1)) a w → K a w) → wpOp P l.toArray Q i K a w := by
    intro i o K a w ho h hK
    refine wpOp_mono hK ?_
    unfold wpOp
    have ho' : l.toArray[i]? = some o := by simpa using ho
    rw [ho']
    exact h
  have hdrop : ∀ i o, l[i]? = some o → l.drop i = o :: l.drop (i + 1) := fun i o ho => by
    obtain ⟨h1, h2⟩ := List.getElem?_eq_some_iff.1 ho
    rw [List.drop_eq_getElem_cons h1, h2]
  refine wp_region_inv hm (fun L a w => L.size = l.length ∧ closedB l L ∧
    (((∀ k, n ≤ k → ¬ L.getD k false = true) ∧ ∃ f, a = ⟨setAll (l.take n) 0 f t, df⟩ ∧ J (fun k => L.getD k false) f w)
    ∨ (∃ j, n ≤ j ∧ j ≤ l.length ∧ (∀ k, k < j → L.getD k false = true) ∧ (∀ k, j ≤ k → ¬ L.getD k false = true) ∧ wpList P l.toArray Q (l.drop j) a w))) ?_ ?_ ?_
  · have hn0 : ∀ k, ¬ ((Array.replicate l.toArray.size false).getD k false = true) := by
      intro k h
      rw [Array.getD_eq_getD_getElem?, Array.getElem?_replicate] at h
      split at h <;> simp at h
    have hdf : (fun _ => false) = (fun k => (Array.replicate l.toArray.size false).getD k false) := by funext k; exact (Bool.eq_false_iff.2 (hn0 k)).symm
    refine ⟨by simp, fun i o _ h => absurd h (hn0 i), .inl ⟨fun k _ => hn0 k, fun k => t.getD (((l[k]?).bind (·.dst)).getD 0) undef, ?_, hdf ▸ h0 _⟩⟩
    rw [setAll_init]
    intro i o d ho hd
    have ho2 : l[i]? = some o := by
      rw [List.getElem?_take] at ho
      split at ho
      · exact ho
      · cases ho
    simp only [Nat.zero_add, ho2, Option.bind_some, hd, Option.getD_some]
  · rintro L a w i o ⟨hsz, hcl, hI⟩ hL ho hdep
    have ho' : l[i]? = some o := by simpa using ho
    have hil : i < l.length := (List.getElem?_eq_some_iff.1 ho').1
    have hnd := getD_not hL
    have hS : (L.setIfInBounds i true).size = l.length := by simpa using hsz
    have hdone : (L.setIfInBounds i true).getD i false = true := by
      rw [Array.getD_eq_getD_getElem?, Array.getElem?_setIfInBounds]
      simp [hsz, hil]
    have hcl' : closedB l (L.setIfInBounds i true) := by
      intro k o' ho2 hk e he hb
      rcases getD_set L i k hk with rfl | h'
      · rw [ho'] at ho2; cases ho2
        exact getD_keep L _ _ (hdep e he hb)
      · exact getD_keep L _ _ (hcl k o' ho2 h' e he hb)
    rcases hI with ⟨ht, f, rfl, hJ⟩ | ⟨j, hj1, hj2, hj3, hj4, hw⟩
    · by_cases hi : i < n
      · have hgd := hB1 i hi
        rw [ho'] at hgd
        simp only [Option.map_some, Option.getD_some, Bool.and_eq_true, Option.isNone_iff_eq_none] at hgd
        have hg := hgd.1
        have hD : (fun k => (L.setIfInBounds i true).getD k false) = updB (fun k => L.getD k false) i := by
          funext k
          unfold updB
          by_cases e : k = i
          · subst e; rw [if_pos rfl]; exact hdone
          · rw [if_neg e]; show (L.setIfInBounds i true).getD k false = L.getD k false; simp only [Array.getD_eq_getD_getElem?, Array.getElem?_setIfInBounds_ne (fun h => e h.symm)]
        refine wpOp_plain ho hg (Walks.at hops i o (hget i o hi ho') (fun k => L.getD k false) f w hJ (Bool.eq_false_iff.2 (by simpa using hnd)) (fun k hk => ?_) _ (fun v w' hv => ?_))
        · unfold behind at hk
          rw [List.any_eq_true] at hk
          obtain ⟨e, he', hh⟩ := hk
          have he := Array.mem_toList_iff.1 he'
          simp only [Bool.and_eq_true, beq_iff_eq] at hh
          have h1 := hdep e he hh.2
          rw [hh.1] at h1
          exact h1
        · refine ⟨hS, hcl', .inl ⟨fun k hk h => ?_, upd f i v, ?_, by rw [hD]; simpa using hv⟩⟩
          · rcases getD_set L i k h with rfl | h'
            · omega
            · exact ht k hk h'
          · cases hd : o.dst with
            | some d =>
              have := setAll_upd (l.take n) 0 f t i v o d (hget i o hi ho') hd (hone i o d hi ho' hd)
              rw [Nat.zero_add] at this
              simp only [Act.put, this]
            | none =>
              have := setAll_none (l.take n) 0 f t i v o (hget i o hi ho') hd
              rw [Nat.zero_add] at this
              simp only [Act.put, this]
      · have hall := hdepAll L i o hcl (by omega) ho' hdep
        have hin : i = n := by
          rcases Nat.lt_or_ge n i with h | h
          · exact absurd (hall n h) (ht n (Nat.le_refl _))
          · omega
        subst hin
        have hw := hend _ f w (fun k hk => hall k hk) hJ
        rw [hdrop i o ho'] at hw
        refine hwpo i o _ _ _ ho' hw fun a w h => ⟨hS, hcl', .inr ⟨i + 1, by omega, by omega, fun k hk => ?_, fun k hk h => ?_, h⟩⟩
        · by_cases e : k = i
          · subst e; exact hdone
          · exact getD_keep L i k (hall k (by omega))
        · rcases getD_set L i k h with h' | h'
          · omega
          · exact ht k (by omega) h'
    · have hij : j ≤ i := by
        rcases Nat.lt_or_ge i j with h | h
        · exact absurd (hj3 i h) hnd
        · exact h
      have hall := hdepAll L i o hcl (by omega) ho' hdep
      have hin : i = j := by
        rcases Nat.lt_or_ge j i with h | h
        · exact absurd (hall j h) (hj4 j (Nat.le_refl _))
        · omega
      subst hin
      rw [hdrop i o ho'] at hw
      refine hwpo i o _ _ _ ho' hw fun a w h => ⟨hS, hcl', .inr ⟨i + 1, by omega, by omega, fun k hk => ?_, fun k hk h => ?_, h⟩⟩
      · by_cases e : k = i
        · subst e; exact hdone
        · exact getD_keep L i k (hall k (by omega))
      · rcases getD_set L i k h with h' | h'
        · omega
        · exact hj4 k (by omega) h'
  · rintro L a w ⟨hsz, _, hI⟩ hr
    have hall := all_done' hB2 L hsz hr
    rcases hI with ⟨ht, f, rfl, hJ⟩ | ⟨j, hj1, hj2, hj3, hj4, hw⟩
    · have hnl : n = l.length := by
        rcases Nat.lt_or_ge n l.length with h | h
        · exact absurd (hall n h) (ht n (Nat.le_refl _))
        · omega
      have hw := hend _ f w (fun k hk => hall k (by omega)) hJ
      rw [List.drop_eq_nil_of_le (by omega)] at hw
      exact hw
    · have hjl : j = l.length := by
        rcases Nat.lt_or_ge j l.length with h | h
        · exact absurd (hall j h) (hj4 j (Nat.le_refl _))
        · omega
      rw [List.drop_eq_nil_of_le (by omega)] at hw
      exact hw

/-- What each operation of the head must do, but the j-th, which writes. -/
def GrowsBut (P : Program) (Q : Exit → Act → World → Prop) (j : Nat) (G : World → World → Prop) (C : World → Prop) (V : Nat → World → Value → Prop) (l0 : List Oper) (t : Array Value) (df : List Deferred) : List Oper → Nat → Prop
  | [], _ => True
  | o :: r, k => (k ≠ j → ∀ f w, C w → (∀ i, behind o i = true → V i w (f i)) → ∀ K : Act → World → Prop, (∀ v w', V k w' v → G w w' → K ((⟨setAll l0 0 f t, df⟩ : Act).put o.dst v) w') → o.wp P ⟨setAll l0 0 f t, df⟩ w K Q) ∧ GrowsBut P Q j G C V l0 t df r (k + 1)
def Jr (n j : Nat) (ow : Oper) (C : World → Prop) (V : Nat → World → Value → Prop) (R : (Nat → Value) → World → Prop) (D : Nat → Bool) (f : Nat → Value) (w : World) : Prop :=
  C w ∧ (∀ k, k < n → k ≠ j → D k = true → V k w (f k)) ∧ (D j = true → R f w ∧ ∀ i, behind ow i = true → D i = true)
theorem growsBut_wr {n j : Nat} {ow : Oper} {G G' : World → World → Prop} {C : World → Prop} {V : Nat → World → Value → Prop} {R : (Nat → Value) → World → Prop} {l0 : List Oper} {t : Array Value} {df : List Deferred}
    (hjj : behind ow j = false) (hnj : ∀ (i : Nat) (o : Oper), l0[i]? = some o → behind o j = false)
    (hC : ∀ w w', G w w' → C w → C w') (hV : ∀ k v w w', C w → G w w' → V k w v → V k w' v) (hR : ∀ f w w', C w → G w w' → R f w → R f w')
    (hC' : ∀ w w', G' w w' → C w → C w') (hV' : ∀ k v w w', k ≠ j → C w → G' w w' → V k w v → V k w' v) (hRf : ∀ f k v w, behind ow k = false → R f w → R (upd f k v) w) :
    ∀ (l : List Oper) (k : Nat), GrowsBut P Q j G C V l0 t df l k → (∀ (i : Nat) (o : Oper), l[i]? = some o → l0[k + i]? = some o) → (∀ (i : Nat) (o : Oper), l[i]? = some o → ∀ q, behind o q = true → q < n) →
      (∀ (i : Nat) (o : Oper), l[i]? = some o → k + i = j → o = ow ∧ ∀ f w, C w → (∀ i, behind ow i = true → V i w (f i)) → ∀ K : Act → World → Prop, (∀ v w', R f w' → G' w w' → K ((⟨setAll l0 0 f t, df⟩ : Act).put ow.dst v) w') → ow.wp P ⟨setAll l0 0 f t, df⟩ w K Q) →
      Walks P Q (Jr n j ow C V R) l0 t df l k := by
  intro l
  induction l with
  | nil => intro k _ _ _ _; trivial
  | cons o r ih =>
    intro k hg hl hb hw
    refine ⟨fun D f w hJ hD hbD K hK => ?_, ih (k + 1) hg.2 (fun i o' h => by rw [show k + 1 + i = k + (i + 1) by omega]; exact hl (i + 1) o' (by simpa using h)) (fun i o' h q hq => hb (i + 1) o' (by simpa using h) q hq) (fun i o' h e => hw (i + 1) o' (by simpa using h) (by omega))⟩
    obtain ⟨h1, h2, h3⟩ := hJ
    have hbv : ∀ i, behind o i = true → V i w (f i) := fun i hi => h2 i (hb 0 o rfl i hi) (fun e => by rw [e, hnj k o (hl 0 o rfl)] at hi; cases hi) (hbD i hi)
    by_cases e : k = j
    · subst e
      obtain ⟨rfl, hw0⟩ := hw 0 o rfl (by omega)
      refine hw0 f w h1 hbv K fun v w' hv hG => hK v w' ⟨hC' _ _ hG h1, fun q hq hqj hd => ?_, fun _ => ⟨hRf f k v w' hjj hv, fun i hi => ?_⟩⟩
      · simp only [upd, if_neg hqj]
        simp only [updB, if_neg hqj] at hd
        exact hV' q _ _ _ hqj h1 hG (h2 q hq hqj hd)
      · unfold updB
        split
        · rfl
        · exact hbD i hi
    · refine hg.1 e f w h1 hbv K fun v w' hv hG => hK v w' ⟨hC _ _ hG h1, fun q hq hqj hd => ?_, fun hd => ?_⟩
      · by_cases e2 : q = k
        · subst e2; simpa [upd] using hv
        · simp only [upd, if_neg e2]
          simp only [updB, if_neg e2] at hd
          exact hV q _ _ _ h1 hG (h2 q hq hqj hd)
      · simp only [updB, if_neg (fun (h : j = k) => e h.symm)] at hd
        obtain ⟨r1, r2⟩ := h3 hd
        have hbk : behind ow k = false := by
          cases hq : behind ow k with
          | false => rfl
          | true => rw [r2 k hq] at hD; cases hD
        refine ⟨hRf f k v w' hbk (hR f _ _ h1 hG r1), fun i hi => ?_⟩
        unfold updB
        split
        · rfl
        · exact r2 i hi
/-- A region that draws its order, of which one operation writes; what it wrote may hang on the values of the others. -/
theorem wp_region_wr {id : Nat} {t : Array Value} {df : List Deferred} {w : World} {l : List Oper} (n j : Nat) (hm : P.follows .mixedOrders = true) (hB : growB l n = true) (ow : Oper) (how : (l.take n)[j]? = some ow)
    (hjj : behind ow j = false) (hnj : ((l.take n).all fun o => !behind o j) = true)
    (G G' : World → World → Prop) (C : World → Prop) (V : Nat → World → Value → Prop) (R : (Nat → Value) → World → Prop)
    (hC : ∀ w w', G w w' → C w → C w') (hV : ∀ k v w w', C w → G w w' → V k w v → V k w' v) (hR : ∀ f w w', C w → G w w' → R f w → R f w')
    (hC' : ∀ w w', G' w w' → C w → C w') (hV' : ∀ k v w w', k ≠ j → C w → G' w w' → V k w v → V k w' v) (hRf : ∀ f k v w, behind ow k = false → R f w → R (upd f k v) w)
    (h0 : C w.drew)
    (hops : GrowsBut P Q j G C V (l.take n) t df (l.take n) 0)
    (hwr : ∀ f w, C w → (∀ i, behind ow i = true → V i w (f i)) → ∀ K : Act → World → Prop, (∀ v w', R f w' → G' w w' → K ((⟨setAll (l.take n) 0 f t, df⟩ : Act).put ow.dst v) w') → ow.wp P ⟨setAll (l.take n) 0 f t, df⟩ w K Q)
    (hend : ∀ f w', C w' → (∀ k, k < n → k ≠ j → V k w' (f k)) → (j < n → R f w') → wpList P l.toArray Q (l.drop n) ⟨setAll (l.take n) 0 f t, df⟩ w') :
    (Code.region id l.toArray true).wp P Q ⟨t, df⟩ w := by
  have hJ0 : ∀ f, Jr n j ow C V R (fun _ => false) f w.drew := fun f => And.intro h0 (And.intro (fun k _ _ h => absurd h (by simp)) (fun h => absurd h (by simp)))
  refine wp_region_walk n hm hB (Jr n j ow C V R) hJ0 (growsBut_wr hjj (fun i o ho => ?_) hC hV hR hC' hV' hRf _ 0 hops (fun i o ho => by rw [Nat.zero_add]; exact ho) ?_ ?_) (fun D f w' hD hJ => hend f w' hJ.1 (fun k hk hkj => hJ.2.1 k hk hkj (hD k hk)) fun hj => (hJ.2.2 (hD j hj)).1)
  · have := List.all_eq_true.1 hnj o (List.mem_of_getElem? ho)
    simpa using this
  · intro i o ho q hq
    simp only [growB, Bool.and_eq_true, List.all_eq_true, List.mem_range, decide_eq_true_eq] at hB
    obtain ⟨⟨⟨_, hB2⟩, _⟩, hn⟩ := hB
    have hin : i < n := by
      rcases Nat.lt_or_ge i n with h | h
      · exact h
      · rw [List.getElem?_take, if_neg (by omega)] at ho; cases ho
    rw [List.getElem?_take, if_pos hin] at ho
    have h2 := hB2 i (by omega)
    rw [ho] at h2
    simp only [Option.map_some, Option.getD_some, List.all_eq_true, Bool.or_eq_true, Bool.not_eq_true', decide_eq_true_eq] at h2
    unfold behind at hq
    rw [List.any_eq_true] at hq
    obtain ⟨e, he, hh⟩ := hq
    simp only [Bool.and_eq_true, beq_iff_eq] at hh
    have h3 := (h2 e he).resolve_left (by rw [hh.2]; simp)
    rw [hh.1] at h3
    omega
  · intro i o ho e
    have e' : i = j := by omega
    subst e'
    rw [how] at ho
    cases ho
    exact ⟨rfl, hwr⟩
end
end Go.Proofs.YthcokaffbgbanaaDoor

/- What a store into a struct leaves; bytes in a row of bytes. -/
namespace Go.Proofs.YthcokaffbgbanaaDoor
open Go.RowKit Go.BigFrame

/-- What a store into a struct of a type leaves: all below, all of other types. -/
structure Wr (N : Nat) (t0 : TypeId) (w w' : World) : Prop where
  bel : Below N w w'
  rows : ∀ b t c, Row w b t c → t ≠ t0 → Row w' b t c
  room : ∀ b n, Room w b t0 n → Room w' b t0 n
theorem Wr.setRow {N : Nat} {t0 : TypeId} {w : World} {q n : Nat} (hq : Room w q t0 n) (hN : N ≤ q) (c : Array Value) (hc : c.size = n) : Wr N t0 w (w.setRow q c) :=
  ⟨below_setRow (Below.refl _ _) hN _, fun b t c' hr ht => hr.setRowOther _ _ (fun e => by subst e; exact row_ne hr hq.choose_spec.1 ht rfl), fun b m hb => by
    by_cases e : b = q
    · subst e
      obtain ⟨c1, h1, h2⟩ := hb
      obtain ⟨c2, h3, h4⟩ := hq
      have e3 : some (Obj.cells c1 t0 (0, 0)) = some (.cells c2 t0 (0, 0)) := Eq.trans (Eq.symm h1) h3
      injection e3 with e3
      injection e3 with e4
      exact ⟨c, h3.setRow c, by rw [hc, ← h4, ← e4, h2]⟩
    · exact hb.setRowOther _ _ e⟩
/-- Bytes in a row of bytes, or none. -/
def In5 (w : World) (v : Value) (l : List UInt8) : Prop :=
  (v = .slice none 0 0 ∧ l = []) ∨ ∃ g o c cur, v = .slice (some ⟨g, o, none⟩) l.length c ∧ l.length ≤ c ∧ Row w g 5 cur ∧ ∀ j u, (l.map B)[j]? = some u → cur[o + j]? = some u
theorem In5.inE {w : World} {v : Value} {l : List UInt8} (h : In5 w v l) : InE w.heap.size w v l := by
  rcases h with h | ⟨g, o, c, cur, h1, h2, h3, h4⟩
  · exact .inl h
  · exact .inr ⟨_, c, h1, h2, .inr h3.lt, fun j u hu => by rw [Addr.add_mid, h3.cell]; exact h4 j u hu⟩
theorem In5.same {w w' : World} {v : Value} {l : List UInt8} (h : In5 w v l) (hk : ∀ b c, Row w b 5 c → Row w' b 5 c) : In5 w' v l := by
  rcases h with h | ⟨g, o, c, cur, h1, h2, h3, h4⟩
  · exact .inl h
  · exact .inr ⟨g, o, c, cur, h1, h2, hk _ _ h3, h4⟩
theorem In5.below {w w' : World} {v : Value} {l : List UInt8} (h : In5 w v l) (hb : Below w.heap.size w w') : In5 w' v l := h.same fun _ _ hr => hr.below hb hr.lt
theorem In5.wr {N : Nat} {w w' : World} {v : Value} {l : List UInt8} (h : In5 w v l) (hb : Wr N 28 w w') : In5 w' v l := h.same fun _ _ hr => hb.rows _ _ _ hr (by decide)
theorem In5.slice {w : World} {v : Value} {l : List UInt8} (h : In5 w v l) : ∃ a c, v = .slice a l.length c := by
  rcases h with ⟨rfl, rfl⟩ | ⟨g, o, c, cur, h1, _⟩
  · exact ⟨_, _, rfl⟩
  · exact ⟨_, _, h1⟩
theorem Tryd.zero28 : (Tryd.prog.info? 28).map (fun i => (i.zero, i.size)) = some (some (.agg #[.int .u64 0, .int .u16 0, .int .u16 0, .slice none 0 0]), 4) := by kernel_rfl
theorem dgv_one (q s e : Nat) (u : Value) (hu : u.oneCell' = true) : (dgv q s e u).all (·.oneCell') = true := by simp [dgv, Value.oneCell'] ; exact hu
end Go.Proofs.YthcokaffbgbanaaDoor

/- The walk of Datagram. -/
namespace Go.Proofs.YthcokaffbgbanaaDoor
open Go.RowKit Go.BigFrame

set_option maxRecDepth 100000 in
set_option maxHeartbeats 4000000 in
theorem dgram_late (key : List UInt8) (hkey : key.length = 16) (f : Nat) (l : List UInt8) (b o c : Nat) (w : World) (ht : Tab w) (hbw : b < w.heap.size) (hr : w.rangeAt b o (l.map B)) (hc : l.length ≤ c)
    (h1 : f = 1 ∨ f = 2) (h2 : 28 ≤ l.length) (h3 : Gf.sdN (Gf.numTo l 0 8) = f) (h4 : Gf.sqN (Gf.numTo l 0 8) < 4611686018427387904) (h5 : l.length ≤ 65028) :
    Calls Tryd.prog 13 #[.agg (ag key), .int .u8 (f : Int), .slice (some ⟨b, o, none⟩) l.length c] w fun r w' => ∃ u, r = .returned (.tuple #[.agg (dgv (Gf.dgQ key f l) (Gf.dgS key f l) (Gf.dgO key f l) u), .int .i64 (Gf.dgE key f l)]) ∧ In5 w' u (Gf.dgL key f l) ∧ Below w.heap.size w w' := by
  have hS := fun w => isSide_any f w
  rw [decide_eq_true h1] at hS
  have hlt := ht.lt
  have hB : Box' (Below w.heap.size w ((w.alloc (.cells (ag key) 23)).alloc (.cells #[.int .u64 0, .int .u16 0, .int .u16 0, .slice none 0 0] 28))) := ⟨((Below.refl _ _).alloc (Nat.le_refl _) _).alloc (by simp) _⟩
  have R1 : Box' (Row ((w.alloc (.cells (ag key) 23)).alloc (.cells #[.int .u64 0, .int .u16 0, .int .u16 0, .slice none 0 0] 28)) (w.heap.size + 1) 28 #[.int .u64 0, .int .u16 0, .int .u16 0, .slice none 0 0]) := ⟨Row.made _ _ _ _ _ rfl (by simp)⟩
  have R0 : Box' (Row ((w.alloc (.cells (ag key) 23)).alloc (.cells #[.int .u64 0, .int .u16 0, .int .u16 0, .slice none 0 0] 28)) w.heap.size 23 (ag key)) := ⟨(Row.new _ _ _).alloc _⟩
  have hrz : (w.alloc (.cells (ag key) 23)).rangeAt b o (l.map B) := range_below hr ((Below.refl w.heap.size w).alloc (Nat.le_refl _) _) hbw
  have HR : Box' (((w.alloc (.cells (ag key) 23)).alloc (.cells #[.int .u64 0, .int .u16 0, .int .u16 0, .slice none 0 0] 28)).rangeAt b o (l.map B)) := ⟨range_below hrz ((Below.refl (w.heap.size + 1) _).alloc (by simp) _) (by omega)⟩
  have hH := Box'.mk (fun (w1 : World) (h : w1.rangeAt b o (l.map B)) => readHead_any b o c l.length l w1 rfl (by omega) hc h)
  have hD := Box'.mk (fun (w1 : World) => sideOf_any (Gf.numTo l 0 8) w1)
  have hQ := Box'.mk (fun (w1 : World) => seqOf_any (Gf.numTo l 0 8) (Gf.numTo_lt8 l 0) w1)
  have d2 : decide ((l.length : Int) < 28) = false := decide_eq_false (by omega)
  have d3 : (((Gf.sdN (Gf.numTo l 0 8) : Nat) : Int) != (f : Int)) = false := by rw [h3]; simp
  have d4 : decide ((4611686018427387904 : Int) ≤ ((Gf.sqN (Gf.numTo l 0 8) : Nat) : Int)) = false := decide_eq_false (by omega)
  have d5 : decide ((65028 : Int) < (l.length : Int)) = false := decide_eq_false (by omega)
  have HE : Box' (Gf.dgE key f l = Gf.opE key (Gf.nnc (Gf.numTo l 0 8)) [] (l.drop 8)) := ⟨by unfold Gf.dgE; rw [if_pos h1, if_neg (by omega), if_pos h3, if_neg (by omega)]⟩
  have HP : Box' (Gf.dgE key f l = 0 → Gf.dgQ key f l = Gf.sqN (Gf.numTo l 0 8) ∧ Gf.dgS key f l = Gf.tmA (Gf.dgP key l) 0 ∧ Gf.dgO key f l = Gf.tmA (Gf.dgP key l) 2 ∧ Gf.dgL key f l = (Gf.dgP key l).drop 4 ∧ (Gf.dgP key l).length = l.length - 24) := ⟨fun h => ⟨if_pos h, if_pos h, if_pos h, if_pos h, Gf.dgP_len h⟩⟩
  have HX : Box' (Gf.dgE key f l ≠ 0 → Gf.dgQ key f l = 0 ∧ Gf.dgS key f l = 0 ∧ Gf.dgO key f l = 0 ∧ Gf.dgL key f l = []) := ⟨fun h => ⟨if_neg h, if_neg h, if_neg h, if_neg h⟩⟩
  have HL : Box' (Gf.dgP key l = Gf.opL key (Gf.nnc (Gf.numTo l 0 8)) [] (l.drop 8)) := ⟨rfl⟩
  clear h1 h3 hr hrz
  generalize Gf.dgQ key f l = DQ at *
  generalize Gf.dgS key f l = DS at *
  generalize Gf.dgO key f l = DO at *
  generalize Gf.dgL key f l = DL at *
  generalize Gf.dgE key f l = DE at *
  generalize Gf.dgP key l = DP at *
  generalize Gf.sqN (Gf.numTo l 0 8) = sq at *
  generalize Gf.sdN (Gf.numTo l 0 8) = sd at *
  generalize Gf.numTo l 0 8 = H at *
  obtain ⟨n, hn⟩ : ∃ n, l.length = n := ⟨_, rfl⟩
  have HN := Box'.mk hn
  rw [hn] at hH d2 d5 hc h2 h5 HP ⊢
  clear hn
  unfold dgv
  go_enter Tryd.func13, Tryd.ntmps13
  go_upto_region 10 with (first | (go_at_call 28; refine (hS _).mono ?_; rintro e1 w1 ⟨rfl, rfl⟩) | (go_at_call 37; refine (hH.out _ HR.out).mono ?_; rintro e2 w2 ⟨rfl, rfl⟩) | (go_at_call 38; refine (hD.out _).mono ?_; rintro e3 w3 ⟨rfl, rfl⟩) | (go_at_call 39; refine (hQ.out _).mono ?_; rintro e4 w4 ⟨rfl, rfl⟩) | fail)
  have hz0 : ((w.alloc (.cells (ag key) 23)).alloc (.cells #[.int .u64 0, .int .u16 0, .int .u16 0, .slice none 0 0] 28)).heap.size = w.heap.size + 1 + 1 := by simp
  obtain ⟨W0, hW0⟩ : ∃ W0, (w.alloc (.cells (ag key) 23)).alloc (.cells #[.int .u64 0, .int .u16 0, .int .u16 0, .slice none 0 0] 28) = W0 := ⟨_, rfl⟩
  rw [hW0] at hB R0 R1 hz0 HR ⊢
  clear hW0 hS hH hD d2 d3 d4 d5
  have HW : Box' (∀ w1, Below W0.heap.size W0 w1 → Tab w1) := ⟨fun w1 h => ht.below (hB.out.trans (h.mono (by omega))) hlt⟩
  have lS : (l.drop 8).length = n - 8 := by rw [List.length_drop, HN.out]
  have hrS : W0.rangeAt b (o + 8) ((l.drop 8).map B) := range_drop HR.out 8
  refine wp_mono (openReg key (l.drop 8) DP hkey DE H w.heap.size W0.heap.size b o n c (n - 24) W0 (by omega) (by omega) lS (by omega) hc (by omega) HE.out.symm HL.out.symm (by rw [lS]; omega) _ _ _ _ _ _ _ _ _ _ _ _ _ _ _ _ _ _ _ _ _ _ _ _ _ _ _ _ _ _ _ _ _ _ _ _ _ _ _ _ _ _ _ _ _ _ _ _ _ _ _ _ _ _ _ _ _ _ (Nat.le_refl _) (Below.refl _ _) R0.out hrS (by omega) HW.out) ?_
  rintro r a' w6 ⟨rfl, v9, v10, v37, v38, v39, v40, v41, v42, v43, v44, v45, rfl, pu, rfl, b6⟩
  clear HW hrS HR
  have r6 := R1.out.below b6 (by omega)
  have PU6 := Box'.mk pu
  clear pu
  by_cases hE0 : DE = 0
  · obtain ⟨g, rfl⟩ := PU6.out.is hE0
    obtain ⟨e1, e2, e3, e4, e5⟩ := HP.out hE0
    subst hE0
    have h4 : 4 ≤ n - 24 := by omega
    have hne : DP ≠ [] := fun h => by rw [h] at e5; simp at e5; omega
    obtain ⟨g', cap', eg, _, _, hcl⟩ := PU6.out.own.at hne
    obtain ⟨rfl, hlen⟩ : g' = g ∧ DP.length = n - 24 := by
      simp only [Value.slice.injEq, Option.some.injEq, Addr.mk.injEq, and_true] at eg
      exact ⟨eg.1.symm, e5⟩
    rw [hlen] at hcl
    have HCL := Box'.mk hcl
    have HEQ : Box' (DQ = sq ∧ DS = Gf.tmA DP 0 ∧ DO = Gf.tmA DP 2 ∧ DL = DP.drop 4) := ⟨e1, e2, e3, e4⟩
    clear e1 e2 e3 e4 e5 eg hcl hne HP HX HE HL
    go_upto_region 13 with (fail)
    refine wp_mono (putReg DP H sq (w.heap.size + 1) (w.heap.size + 1) g' (n - 24) W0 h4 _ _ _ _ _ _ _ _ _ _ _ _ _ _ _ _ _ _ _ _ _ _ _ _ _ _ _ _ _ _ _ _ _ _ _ _ _ _ _ _ _ _ _ _ _ _ _ _ _ _ _ _ _ _ _ _ _ _ (by omega) (Nat.le_refl _) (b6.mono (by omega)) (PU6.out.own.less (by omega)) r6 HCL.out (fun w1 => hQ.out w1)) ?_
    rintro r a' w7 ⟨rfl, v7, v50, v51, v52, v53, v54, v55, v56, v57, v58, v59, rfl, rfl, r7, o7, b7⟩
    clear HCL r6 b6 PU6
    go_wp2_with fail
    refine bodyPost_ret (results_row_slot Tryd.results13 _ (w.heap.size + 1) rfl _ rfl _ _ r7 _ Tryd.underlying28 rfl 4 Tryd.size28 rfl) rfl ?_
    obtain ⟨rfl, rfl, rfl, rfl⟩ := HEQ.out
    refine ⟨_, rfl, ?_, hB.out.trans (b7.mono (by omega))⟩
    right
    rcases o7.2 with ⟨e, _⟩ | ⟨g2, cap, cur, q1, q2, q3, q4, q5, q6, q7⟩
    · cases e
    · simp only [Value.slice.injEq, Option.some.injEq, Addr.mk.injEq, and_true] at q1
      obtain ⟨rfl, hm, rfl⟩ := q1
      refine ⟨g', 4, n - 24 + 16 - 4, cur, by rw [List.length_drop, ← hm], by rw [List.length_drop, ← hm]; omega, q3, fun j u hu => ?_⟩
      have hj := (List.getElem?_eq_some_iff.1 hu).1
      rw [List.length_map, List.length_drop] at hj
      rw [List.map_drop, List.getElem?_drop, ← q7, List.getElem?_take_of_lt (by omega)] at hu
      simpa using hu
  · obtain rfl := PU6.out.no hE0
    obtain ⟨e1, e2, e3, e4⟩ := HX.out hE0
    have HEQ : Box' (DQ = 0 ∧ DS = 0 ∧ DO = 0 ∧ DL = []) := ⟨e1, e2, e3, e4⟩
    have hd : (DE != 0) = true := by rw [bne_iff_ne]; exact hE0
    have hrm : Room w6 (w.heap.size + 1) 28 4 := ⟨_, r6, rfl⟩
    clear e1 e2 e3 e4 HP HX HE HL hE0
    have h1c : (#[.int .u64 0, .int .u16 0, .int .u16 0, .slice none 0 0] : Array Value).all (·.oneCell') = true := by simp [Value.oneCell']
    have r7 : Row (w6.setRow (w.heap.size + 1) #[.int .u64 0, .int .u16 0, .int .u16 0, .slice none 0 0]) (w.heap.size + 1) 28 #[.int .u64 0, .int .u16 0, .int .u16 0, .slice none 0 0] := hrm.setRow _
    have b7 : Below w.heap.size W0 (w6.setRow (w.heap.size + 1) #[.int .u64 0, .int .u16 0, .int .u16 0, .slice none 0 0]) := below_setRow (b6.mono (by omega)) (by omega) _
    go_wp2_with (first | (refine wpList_store_row rfl 28 (.tmp 6) (.tmp 48) rfl _ rfl _ rfl _ _ hrm Tryd.size28 rfl h1c ?_) | fail)
    refine bodyPost_ret (results_row_slot Tryd.results13 _ (w.heap.size + 1) rfl _ rfl _ _ r7 _ Tryd.underlying28 rfl 4 Tryd.size28 rfl) rfl ?_
    obtain ⟨rfl, rfl, rfl, rfl⟩ := HEQ.out
    exact ⟨_, rfl, .inl ⟨rfl, rfl⟩, hB.out.trans b7⟩
theorem dgram_any (key : List UInt8) (hkey : key.length = 16) (f : Nat) (hf : f < 256) (vb : Value) (l : List UInt8) (hl : l.length ≤ maxLen) (w : World) (ht : Tab w) (hb : Bts (· < w.heap.size) w vb l) :
    Calls Tryd.prog 13 #[.agg (ag key), .int .u8 (f : Int), vb] w fun r w' => ∃ u, r = .returned (.tuple #[.agg (dgv (Gf.dgQ key f l) (Gf.dgS key f l) (Gf.dgO key f l) u), .int .i64 (Gf.dgE key f l)]) ∧ In5 w' u (Gf.dgL key f l) ∧ Below w.heap.size w w' := by
  by_cases h : (f = 1 ∨ f = 2) ∧ 28 ≤ l.length ∧ Gf.sdN (Gf.numTo l 0 8) = f ∧ Gf.sqN (Gf.numTo l 0 8) < 4611686018427387904 ∧ l.length ≤ 65028
  · obtain ⟨a, c, rfl, hc, hr⟩ := hb
    rcases hr with rfl | ⟨b, o, rfl, hbw, hr⟩
    · simp at h
    · exact dgram_late key hkey f l b o c w ht hbw hr hc h.1 h.2.1 h.2.2.1 h.2.2.2.1 h.2.2.2.2
  · refine (dgram_early key f hf vb l hl w hb h).mono ?_
    rintro r w' ⟨rfl, hB⟩
    have hE : Gf.dgE key f l ≠ 0 := fun h0 => by
      obtain ⟨q1, q2, q3, q4, q5, _⟩ := Gf.dgE_ok h0
      exact h ⟨q1, q2, q4, q5, q3⟩
    have e1 : Gf.dgQ key f l = 0 := if_neg hE
    have e2 : Gf.dgS key f l = 0 := if_neg hE
    have e3 : Gf.dgO key f l = 0 := if_neg hE
    have e4 : Gf.dgL key f l = [] := if_neg hE
    rw [e1, e2, e3, e4]
    exact ⟨_, rfl, .inl ⟨rfl, rfl⟩, hB⟩
end Go.Proofs.YthcokaffbgbanaaDoor

/- The drawn region of Take, by itself. -/
namespace Go.Proofs.YthcokaffbgbanaaDoor
open Go.RowKit Go.BigFrame

set_option maxRecDepth 1000000 in
set_option maxHeartbeats 4000000 in
theorem takeReg (key L : List UInt8) (E : Int) (hk : key.length = 16) (p fr n t o b DQ DS DO N : Nat) (va : Option Addr) (vn vc : Nat) (w0 : World) (u2 u3 u4 u5 u6 u7 u8 u9 u10 u11 u12 u13 u14 u15 u16 u17 u18 u19 u20 u21 u22 u23 u24 u25 u26 u27 u28 u29 u30 u31 u32 u33 u34 u35 u36 u37 u38 u39 u40 u41 u42 u43 u44 u45 u46 u47 u48 u49 u50 u51 u52 u53 u54 u55 u56 u57 u58 u59 u60 u61 u62 u63 u64 : Value) (w : World) (hN : N ≤ w0.heap.size) (hb0 : Below N w0 w) (hr : Row w p 94 (opO key fr n t o b)) (hDG : ∀ w1, Below N w0 w1 → Calls Tryd.prog 13 #[.agg (ag key), .int .u8 (fr : Int), .slice va vn vc] w1 fun r w' => ∃ u, r = .returned (.tuple #[.agg (dgv DQ DS DO u), .int .i64 E]) ∧ In5 w' u L ∧ Below w1.heap.size w1 w') :
    Code.wp Tryd.prog ((Tryd.f23.body.bind (regOf' 3)).getD .skip) (fun e a' w' => e = .normal ∧ ∃ v6 v7 v12 v13 v14 v15 v16 v17 v18 v19 v20 v21 v22 v23 v24 : Value, a' = ⟨List.toArray (.pointer (some ⟨p, 0, none⟩) :: .slice va vn vc :: u2 :: u3 :: u4 :: u5 :: v6 :: v7 :: u8 :: u9 :: u10 :: u11 :: v12 :: v13 :: v14 :: v15 :: v16 :: v17 :: v18 :: v19 :: v20 :: v21 :: v22 :: v23 :: v24 :: u25 :: u26 :: u27 :: u28 :: u29 :: u30 :: u31 :: u32 :: u33 :: u34 :: u35 :: u36 :: u37 :: u38 :: u39 :: u40 :: u41 :: u42 :: u43 :: u44 :: u45 :: u46 :: u47 :: u48 :: u49 :: u50 :: u51 :: u52 :: u53 :: u54 :: u55 :: u56 :: u57 :: u58 :: u59 :: u60 :: u61 :: u62 :: u63 :: u64 :: []), []⟩ ∧ ∃ q u, v6 = .pointer (some ⟨q, 0, none⟩) ∧ N ≤ q ∧ In5 w' u L ∧ Row w' q 28 (dgv DQ DS DO u) ∧ v7 = .int .i64 E ∧ Below N w0 w') ⟨List.toArray (.pointer (some ⟨p, 0, none⟩) :: .slice va vn vc :: u2 :: u3 :: u4 :: u5 :: u6 :: u7 :: u8 :: u9 :: u10 :: u11 :: u12 :: u13 :: u14 :: u15 :: u16 :: u17 :: u18 :: u19 :: u20 :: u21 :: u22 :: u23 :: u24 :: u25 :: u26 :: u27 :: u28 :: u29 :: u30 :: u31 :: u32 :: u33 :: u34 :: u35 :: u36 :: u37 :: u38 :: u39 :: u40 :: u41 :: u42 :: u43 :: u44 :: u45 :: u46 :: u47 :: u48 :: u49 :: u50 :: u51 :: u52 :: u53 :: u54 :: u55 :: u56 :: u57 :: u58 :: u59 :: u60 :: u61 :: u62 :: u63 :: u64 :: []), []⟩ w := by
  conv => arg 2; whnf
  have HDG := Box'.mk hDG
  refine wp_region_wr 15 14 (by kernel_rfl) (by kernel_rfl) _ rfl (by kernel_rfl) (by kernel_rfl) (fun a b => Below a.heap.size a b) (fun a b => Wr N 28 a b) (fun w1 => Below N w0 w1 ∧ Row w1 p 94 (opO key fr n t o b)) (fun k w1 v => match k with
      | 0 => v = .pointer (some ⟨p, 0, none⟩)
      | 1 => v = .pointer (some ⟨p, 0, none⟩)
      | 2 => v = .pointer (some ⟨p, 0, none⟩)
      | 3 => v = .agg (ag key)
      | 4 => v = .pointer (some ⟨p, 0, none⟩)
      | 5 => v = .pointer (some ⟨p, 0, none⟩)
      | 6 => v = .pointer (some ⟨p, 16, none⟩)
      | 7 => v = .int .u8 (fr : Int)
      | 8 => v = .slice va vn vc
      | 9 => ∃ u, v = .tuple #[.agg (dgv DQ DS DO u), .int .i64 E] ∧ In5 w1 u L
      | 10 => ∃ u, v = .tuple #[.agg (dgv DQ DS DO u), .int .i64 E] ∧ In5 w1 u L
      | 11 => ∃ u, v = .agg (dgv DQ DS DO u) ∧ In5 w1 u L
      | 12 => v = .int .i64 E
      | 13 => ∃ q, v = .pointer (some ⟨q, 0, none⟩) ∧ N ≤ q ∧ Room w1 q 28 4
      | _ => True) (fun f w1 => ∃ q, f 13 = .pointer (some ⟨q, 0, none⟩) ∧ N ≤ q ∧ ∃ u, f 11 = .agg (dgv DQ DS DO u) ∧ In5 w1 u L ∧ Row w1 q 28 (dgv DQ DS DO u)) ?_ ?_ ?_ ?_ ?_ ?_ ?_ ?_ ?_ ?_
  · intro a b' hb hC; exact ⟨hC.1.trans (hb.mono (Nat.le_trans hN hC.1.size)), hC.2.below hb hC.2.lt⟩
  · intro k v w1 w2 hC1 hb h
    match k, h with
    | 0, h => exact h
    | 1, h => exact h
    | 2, h => exact h
    | 3, h => exact h
    | 4, h => exact h
    | 5, h => exact h
    | 6, h => exact h
    | 7, h => exact h
    | 8, h => exact h
    | 9, h => exact Exists.elim h fun u hu => ⟨u, hu.1, In5.below hu.2 hb⟩
    | 10, h => exact Exists.elim h fun u hu => ⟨u, hu.1, In5.below hu.2 hb⟩
    | 11, h => exact Exists.elim h fun u hu => ⟨u, hu.1, In5.below hu.2 hb⟩
    | 12, h => exact h
    | 13, h => exact Exists.elim h fun q hq => ⟨q, hq.1, hq.2.1, hq.2.2.below hb (hq.2.2.elim fun _ x => x.1.lt)⟩
    | 14, h => trivial
    | k + 15, h => trivial
  · intro f a b' hC hb h; obtain ⟨q, h1, h2, u, h3, h4, h5⟩ := h; exact ⟨q, h1, h2, u, h3, h4.below hb, h5.below hb h5.lt⟩
  · intro a b' hb hC; exact ⟨hC.1.trans hb.bel, hb.rows _ _ _ hC.2 (by decide)⟩
  · intro k v w1 w2 hkj hC1 hb h
    match k, h with
    | 0, h => exact h
    | 1, h => exact h
    | 2, h => exact h
    | 3, h => exact h
    | 4, h => exact h
    | 5, h => exact h
    | 6, h => exact h
    | 7, h => exact h
    | 8, h => exact h
    | 9, h => exact Exists.elim h fun u hu => ⟨u, hu.1, In5.wr hu.2 hb⟩
    | 10, h => exact Exists.elim h fun u hu => ⟨u, hu.1, In5.wr hu.2 hb⟩
    | 11, h => exact Exists.elim h fun u hu => ⟨u, hu.1, In5.wr hu.2 hb⟩
    | 12, h => exact h
    | 13, h => exact Exists.elim h fun q hq => ⟨q, hq.1, hq.2.1, hb.room _ _ hq.2.2⟩
    | 14, h => trivial
    | k + 15, h => trivial
  · intro f k v w1 hk hR
    have hn11 : upd f k v 11 = f 11 := if_neg (fun e => by subst e; exact (by decide : ¬ (false = true)) (hk.symm.trans (by kernel_rfl)))
    have hn13 : upd f k v 13 = f 13 := if_neg (fun e => by subst e; exact (by decide : ¬ (false = true)) (hk.symm.trans (by kernel_rfl)))
    obtain ⟨q, h1, h2, u, h3, h4, h5⟩ := hR; exact ⟨q, by rw [hn13]; exact h1, h2, u, by rw [hn11]; exact h3, h4, h5⟩
  · exact ⟨hb0.drew, hr⟩
  · refine ⟨?_, ?_, ?_, ?_, ?_, ?_, ?_, ?_, ?_, ?_, ?_, ?_, ?_, ?_, ?_, trivial⟩
    · intro _ f w1 hC hd KK hK
      clear hd
      simp only [List.take_succ_cons, List.take_zero, setAll, List.setIfInBounds_toArray, List.set_cons_succ, List.set_cons_zero, Nat.zero_add, Nat.reduceAdd] at hK ⊢
      refine wp_of_quiet rfl ?_
      go_big_quiet_step (fail)
      exact wpQuiet_nil (hK _ _ rfl (Below.refl _ _))
    · intro _ f w1 hC hd KK hK
      have g0 : f 0 = _ := hd 0 (by kernel_rfl)
      clear hd
      simp only [List.take_succ_cons, List.take_zero, setAll, List.setIfInBounds_toArray, List.set_cons_succ, List.set_cons_zero, Nat.zero_add, Nat.reduceAdd, g0] at hK ⊢
      refine wp_of_quiet rfl ?_
      go_big_quiet_step (fail)
      exact wpQuiet_nil (hK _ _ rfl (Below.refl _ _))
    · intro _ f w1 hC hd KK hK
      have g1 : f 1 = _ := hd 1 (by kernel_rfl)
      clear hd
      simp only [List.take_succ_cons, List.take_zero, setAll, List.setIfInBounds_toArray, List.set_cons_succ, List.set_cons_zero, Nat.zero_add, Nat.reduceAdd, g1] at hK ⊢
      refine wp_of_quiet rfl ?_
      go_big_quiet_step (fail)
      exact wpQuiet_nil (hK _ _ rfl (Below.refl _ _))
    · intro _ f w1 hC hd KK hK
      have g2 : f 2 = _ := hd 2 (by kernel_rfl)
      clear hd
      simp only [List.take_succ_cons, List.take_zero, setAll, List.setIfInBounds_toArray, List.set_cons_succ, List.set_cons_zero, Nat.zero_add, Nat.reduceAdd, g2] at hK ⊢
      refine wp_load_mid 23 _ rfl _ _ rfl _ (key_range hC.2) _ Tryd.underlying23 rfl 16 Tryd.info23 hk ?_
      exact hK _ _ rfl (Below.refl _ _)
    · intro _ f w1 hC hd KK hK
      clear hd
      simp only [List.take_succ_cons, List.take_zero, setAll, List.setIfInBounds_toArray, List.set_cons_succ, List.set_cons_zero, Nat.zero_add, Nat.reduceAdd] at hK ⊢
      refine wp_of_quiet rfl ?_
      go_big_quiet_step (fail)
      exact wpQuiet_nil (hK _ _ rfl (Below.refl _ _))
    · intro _ f w1 hC hd KK hK
      have g4 : f 4 = _ := hd 4 (by kernel_rfl)
      clear hd
      simp only [List.take_succ_cons, List.take_zero, setAll, List.setIfInBounds_toArray, List.set_cons_succ, List.set_cons_zero, Nat.zero_add, Nat.reduceAdd, g4] at hK ⊢
      refine wp_of_quiet rfl ?_
      go_big_quiet_step (fail)
      exact wpQuiet_nil (hK _ _ rfl (Below.refl _ _))
    · intro _ f w1 hC hd KK hK
      have g5 : f 5 = _ := hd 5 (by kernel_rfl)
      clear hd
      simp only [List.take_succ_cons, List.take_zero, setAll, List.setIfInBounds_toArray, List.set_cons_succ, List.set_cons_zero, Nat.zero_add, Nat.reduceAdd, g5] at hK ⊢
      refine wp_of_quiet rfl ?_
      go_big_quiet_step (fail)
      exact wpQuiet_nil (hK _ _ rfl (Below.refl _ _))
    · intro _ f w1 hC hd KK hK
      have g6 : f 6 = _ := hd 6 (by kernel_rfl)
      clear hd
      simp only [List.take_succ_cons, List.take_zero, setAll, List.setIfInBounds_toArray, List.set_cons_succ, List.set_cons_zero, Nat.zero_add, Nat.reduceAdd, g6] at hK ⊢
      have cc : w1.cell? ⟨p, 16, none⟩ = some (.int .u8 (fr : Int)) := by rw [hC.2.cell]; exact opO_at hk fr n t o b 16 (by omega)
      refine wp_of_quiet rfl ?_
      go_big_quiet_step (fail)
      exact wpQuiet_nil (hK _ _ rfl (Below.refl _ _))
    · intro _ f w1 hC hd KK hK
      clear hd
      simp only [List.take_succ_cons, List.take_zero, setAll, List.setIfInBounds_toArray, List.set_cons_succ, List.set_cons_zero, Nat.zero_add, Nat.reduceAdd] at hK ⊢
      refine wp_of_quiet rfl ?_
      go_big_quiet_step (fail)
      exact wpQuiet_nil (hK _ _ rfl (Below.refl _ _))
    · intro _ f w1 hC hd KK hK
      have g3 : f 3 = _ := hd 3 (by kernel_rfl)
      have g7 : f 7 = _ := hd 7 (by kernel_rfl)
      have g8 : f 8 = _ := hd 8 (by kernel_rfl)
      clear hd
      simp only [List.take_succ_cons, List.take_zero, setAll, List.setIfInBounds_toArray, List.set_cons_succ, List.set_cons_zero, Nat.zero_add, Nat.reduceAdd, g3, g7, g8] at hK ⊢
      refine wp_callE 13 #[.agg (ag key), .int .u8 (fr : Int), .slice va vn vc] (by simp [go_sem]) (fun v w' => (∃ u, v = .tuple #[.agg (dgv DQ DS DO u), .int .i64 E] ∧ In5 w' u L) ∧ Below w1.heap.size w1 w') ?_ ?_
      · exact ((HDG.out w1 hC.1).mono fun e w' h => by obtain ⟨u, rfl, h1, h2⟩ := h; exact ⟨_, rfl, ⟨u, rfl, h1⟩, h2⟩)
      · intro v w' hr
        exact hK _ _ hr.1 hr.2
    · intro _ f w1 hC hd KK hK
      have x9 : ∃ u, (f 9) = .tuple #[.agg (dgv DQ DS DO u), .int .i64 E] ∧ In5 w1 u L := hd 9 (by kernel_rfl)
      clear hd
      cases x9 with | intro u9 y90 =>
      have g9 := y90.1
      have z90 := y90.2
      clear y90
      have p9 := z90
      clear z90
      simp only [List.take_succ_cons, List.take_zero, setAll, List.setIfInBounds_toArray, List.set_cons_succ, List.set_cons_zero, Nat.zero_add, Nat.reduceAdd, g9] at hK ⊢
      refine wp_of_quiet rfl ?_
      go_big_quiet_step (fail)
      exact wpQuiet_nil (hK _ _ ⟨u9, rfl, p9⟩ (Below.refl _ _))
    · intro _ f w1 hC hd KK hK
      have x10 : ∃ u, (f 10) = .tuple #[.agg (dgv DQ DS DO u), .int .i64 E] ∧ In5 w1 u L := hd 10 (by kernel_rfl)
      clear hd
      cases x10 with | intro u10 y100 =>
      have g10 := y100.1
      have z100 := y100.2
      clear y100
      have p10 := z100
      clear z100
      simp only [List.take_succ_cons, List.take_zero, setAll, List.setIfInBounds_toArray, List.set_cons_succ, List.set_cons_zero, Nat.zero_add, Nat.reduceAdd, g10] at hK ⊢
      refine wp_of_quiet rfl ?_
      go_big_quiet_step (fail)
      exact wpQuiet_nil (hK _ _ ⟨u10, rfl, p10⟩ (Below.refl _ _))
    · intro _ f w1 hC hd KK hK
      have x10 : ∃ u, (f 10) = .tuple #[.agg (dgv DQ DS DO u), .int .i64 E] ∧ In5 w1 u L := hd 10 (by kernel_rfl)
      clear hd
      cases x10 with | intro u10 y100 =>
      have g10 := y100.1
      have z100 := y100.2
      clear y100
      have p10 := z100
      clear z100
      simp only [List.take_succ_cons, List.take_zero, setAll, List.setIfInBounds_toArray, List.set_cons_succ, List.set_cons_zero, Nat.zero_add, Nat.reduceAdd, g10] at hK ⊢
      refine wp_of_quiet rfl ?_
      go_big_quiet_step (fail)
      exact wpQuiet_nil (hK _ _ rfl (Below.refl _ _))
    · intro _ f w1 hC hd KK hK
      clear hd
      simp only [List.take_succ_cons, List.take_zero, setAll, List.setIfInBounds_toArray, List.set_cons_succ, List.set_cons_zero, Nat.zero_add, Nat.reduceAdd] at hK ⊢
      refine wp_alloc_row 28 rfl _ 4 Tryd.zero28 ?_
      exact hK _ _ ⟨_, rfl, Nat.le_trans hN hC.1.size, Room.new _ _ _ _ rfl⟩ ((Below.refl _ _).alloc (Nat.le_refl _) _)
    · intro h
      exact (h (by decide)).elim
  · intro f w1 hC hd KK hK
    have x11 : ∃ u, (f 11) = .agg (dgv DQ DS DO u) ∧ In5 w1 u L := hd 11 (by kernel_rfl)
    have x13 : ∃ q, (f 13) = .pointer (some ⟨q, 0, none⟩) ∧ N ≤ q ∧ Room w1 q 28 4 := hd 13 (by kernel_rfl)
    clear hd
    cases x11 with | intro u11 y110 =>
    have g11 := y110.1
    have z110 := y110.2
    clear y110
    have p11 := z110
    clear z110
    cases x13 with | intro u13 y130 =>
    have g13 := y130.1
    have z130 := y130.2
    clear y130
    have p13 := z130.1
    have z131 := z130.2
    clear z130
    have q13 := z131
    clear z131
    simp only [List.take_succ_cons, List.take_zero, setAll, List.setIfInBounds_toArray, List.set_cons_succ, List.set_cons_zero, Nat.zero_add, Nat.reduceAdd, g11, g13] at hK ⊢
    have X13 := g13
    have X11 := g11
    obtain ⟨va1, vc1, rfl⟩ := p11.slice
    refine wp_store_row 28 _ _ rfl u13 rfl _ rfl 28 4 q13 Tryd.size28 rfl (dgv_one _ _ _ _ rfl) ?_
    exact hK _ _ ⟨u13, rfl, p13, _, rfl, (p11.wr (Wr.setRow q13 p13 _ rfl)), q13.setRow _⟩ (Wr.setRow q13 p13 _ rfl)
  · intro f w1 hC hv hr
    have hR := hr (by decide)
    have g0 : f 0 = _ := hv 0 (by decide) (by decide)
    have g1 : f 1 = _ := hv 1 (by decide) (by decide)
    have g2 : f 2 = _ := hv 2 (by decide) (by decide)
    have g3 : f 3 = _ := hv 3 (by decide) (by decide)
    have g4 : f 4 = _ := hv 4 (by decide) (by decide)
    have g5 : f 5 = _ := hv 5 (by decide) (by decide)
    have g6 : f 6 = _ := hv 6 (by decide) (by decide)
    have g7 : f 7 = _ := hv 7 (by decide) (by decide)
    have g8 : f 8 = _ := hv 8 (by decide) (by decide)
    have x9 : ∃ u, (f 9) = .tuple #[.agg (dgv DQ DS DO u), .int .i64 E] ∧ In5 w1 u L := hv 9 (by decide) (by decide)
    have x10 : ∃ u, (f 10) = .tuple #[.agg (dgv DQ DS DO u), .int .i64 E] ∧ In5 w1 u L := hv 10 (by decide) (by decide)
    have g12 : f 12 = _ := hv 12 (by decide) (by decide)
    cases x9 with | intro u9 y90 =>
    have g9 := y90.1
    have z90 := y90.2
    clear y90
    have p9 := z90
    clear z90
    cases x10 with | intro u10 y100 =>
    have g10 := y100.1
    have z100 := y100.2
    clear y100
    have p10 := z100
    clear z100
    simp only [List.take_succ_cons, List.take_zero, List.drop_succ_cons, List.drop_zero, setAll, List.setIfInBounds_toArray, List.set_cons_succ, List.set_cons_zero, Nat.zero_add, Nat.reduceAdd, g0, g1, g2, g3, g4, g5, g6, g7, g8, g9, g10, g12]
    clear hv
    cases hR with | intro q hR2 =>
    have g13 := hR2.1
    have hNq := hR2.2.1
    cases hR2.2.2 with | intro u hu =>
    have g11 := hu.1
    have hI := hu.2.1
    have hRow := hu.2.2
    clear hu hR2
    simp only [g11, g13]
    have q8 := hC.1
    go_wp2_with fail
    exact ⟨_, _, ⟨rfl, rfl⟩, q, rfl, hNq, u, hI, hRow, rfl⟩
end Go.Proofs.YthcokaffbgbanaaDoor

/- The walk of Take. -/
namespace Go.Proofs.YthcokaffbgbanaaDoor
open Go.RowKit Go.BigFrame
set_option linter.unusedVariables false

theorem take_nil (vb : Value) (w : World) : Calls Tryd.prog 23 #[.pointer none, vb] w fun r w' => r = .returned (dg0 1) ∧ Below w.heap.size w w' := by
  have hT := oThere_nil (w.alloc (.cells #[.int .u64 0, .int .u16 0, .int .u16 0, .slice none 0 0] 28))
  have hB : Box' (Below w.heap.size w (w.alloc (.cells #[.int .u64 0, .int .u16 0, .int .u16 0, .slice none 0 0] 28))) := ⟨(Below.refl _ _).alloc (Nat.le_refl _) _⟩
  have HW : Box' (Row (w.alloc (.cells #[.int .u64 0, .int .u16 0, .int .u16 0, .slice none 0 0] 28)) w.heap.size 28 #[.int .u64 0, .int .u16 0, .int .u16 0, .slice none 0 0]) := ⟨Row.new _ _ _⟩
  unfold dg0
  go_enter Tryd.func23, Tryd.ntmps23
  go_wp2_with (first | (go_at_call 44; refine hT.mono ?_; rintro e1 w1 ⟨rfl, rfl⟩) | fail)
  exact bodyPost_ret (results_row_slot Tryd.results23 _ w.heap.size rfl _ rfl _ _ HW.out _ Tryd.underlying28 rfl 4 Tryd.size28 rfl) rfl ⟨rfl, hB.out⟩
/-- What Take answers: the error; the opener's cells behind it. -/
def Gf.tkE (key : List UInt8) (f n : Nat) (l : List UInt8) : Int := if Gf.dgE key f l = 0 then (if Gf.dgQ key f l < n then 81 else 0) else Gf.dgE key f l
def tkO (key : List UInt8) (f n t o b : Nat) (l : List UInt8) : Array Value :=
  if Gf.dgE key f l = 0 then (if Gf.dgQ key f l < n then opO key f n t (o + 1) b else opO key f (Gf.dgQ key f l + 1) (t + 1) o b) else opO key f n t o (b + 1)
theorem opO_size {key : List UInt8} (hk : key.length = 16) (f n t o b : Nat) : (opO key f n t o b).size = 21 := by unfold opO; rw [Array.size_append, ag_size, hk]; rfl
theorem opO_set {key : List UInt8} (hk : key.length = 16) (f n t o b m : Nat) : (opO key f n t o b).setIfInBounds 17 (.int .u64 (m : Int)) = opO key f m t o b ∧ (opO key f n t o b).setIfInBounds 18 (.int .i64 (m : Int)) = opO key f n m o b ∧ (opO key f n t o b).setIfInBounds 19 (.int .i64 (m : Int)) = opO key f n t m b ∧ (opO key f n t o b).setIfInBounds 20 (.int .i64 (m : Int)) = opO key f n t o m := by
  obtain ⟨k0, k1, k2, k3, k4, k5, k6, k7, k8, k9, k10, k11, k12, k13, k14, k15, rfl⟩ := list16 key hk
  exact ⟨rfl, rfl, rfl, rfl⟩
theorem In5.setCell {w : World} {v : Value} {l : List UInt8} (h : In5 w v l) {p : Nat} {t : TypeId} {c : Array Value} (hp : Row w p t c) (ht : t ≠ 5) (k : Nat) (u : Value) : In5 (w.setCell ⟨p, k, none⟩ u) v l :=
  h.same fun b _ hr => hr.setOther _ _ (row_ne hr hp (Ne.symm ht))
theorem Bt.setRow {p : Nat} {w w' : World} (h : Bt p w w') {q : Nat} (hq : w.heap.size ≤ q) (c : Array Value) : Bt p w (w'.setRow q c) := by
  have hb : Below q w' (w'.setRow q c) := below_setRow (Below.refl _ _) (Nat.le_refl _) _
  exact ⟨hb.os.trans h.os, hb.tape.trans h.tape, hb.output.trans h.output, Nat.le_trans h.size hb.size, fun i hi hp => (hb.block i (by omega)).trans (h.block i hi hp)⟩
set_option maxRecDepth 100000 in
set_option maxHeartbeats 4000000 in
theorem take_any (p : Nat) (key : List UInt8) (hk : key.length = 16) (f n t o b : Nat) (hf : f = 1 ∨ f = 2) (hcnt : t + o + b < 4611686018427387904) (vb : Value) (l : List UInt8) (hl : l.length ≤ maxLen) (w : World) (ht : Tab w) (hp : Row w p 94 (opO key f n t o b)) (hb : Bts (· < w.heap.size) w vb l) :
    Calls Tryd.prog 23 #[.pointer (some ⟨p, 0, none⟩), vb] w fun r w' => ∃ q s e u L, r = .returned (.tuple #[.agg (dgv q s e u), .int .i64 (Gf.tkE key f n l)]) ∧ In5 w' u L ∧ Row w' p 94 (tkO key f n t o b l) ∧ Bt p w w' ∧ (Gf.tkE key f n l = 0 → q = Gf.dgQ key f l ∧ s = Gf.dgS key f l ∧ e = Gf.dgO key f l ∧ L = Gf.dgL key f l) ∧ (Gf.tkE key f n l ≠ 0 → q = 0 ∧ s = 0 ∧ e = 0 ∧ L = []) := by
  have hlt := ht.lt
  have hplt := hp.lt
  have hT := fun (w1 : World) (h1 : Row w1 p 94 (opO key f n t o b)) => oThere_any p key hk f n t o b w1 h1
  rw [decide_eq_true hf] at hT
  have HT := Box'.mk hT
  clear hT
  have hb0 : Below w.heap.size w (w.alloc (.cells #[.int .u64 0, .int .u16 0, .int .u16 0, .slice none 0 0] 28)) := (Below.refl _ _).alloc (Nat.le_refl _) _
  have HR := Box'.mk (hp.below hb0 hplt)
  have HB0 := Box'.mk hb0
  have hz0 : (w.alloc (.cells #[.int .u64 0, .int .u16 0, .int .u16 0, .slice none 0 0] 28)).heap.size = w.heap.size + 1 := by simp
  have HRR : Box' (Row (w.alloc (.cells #[.int .u64 0, .int .u16 0, .int .u16 0, .slice none 0 0] 28)) w.heap.size 28 #[.int .u64 0, .int .u16 0, .int .u16 0, .slice none 0 0]) := ⟨Row.new _ _ _⟩
  have hDG := fun (w1 : World) (h1 : Below (w.heap.size + 1) (w.alloc (.cells #[.int .u64 0, .int .u16 0, .int .u16 0, .slice none 0 0] 28)) w1) => dgram_any key hk f (by omega) vb l hl w1 (ht.below (hb0.trans (h1.mono (by omega))) hlt) (hb.keep fun b hbb => ⟨Nat.lt_of_lt_of_le hbb (Nat.le_trans hb0.size h1.size), (hb0.trans (h1.mono (by omega))).block b hbb⟩)
  have HDG := Box'.mk hDG
  have HQ := Gf.dgQ_lt key f l
  have HE : Box' (Gf.tkE key f n l = if Gf.dgE key f l = 0 then (if Gf.dgQ key f l < n then 81 else 0) else Gf.dgE key f l) := ⟨rfl⟩
  have HO : Box' (tkO key f n t o b l = if Gf.dgE key f l = 0 then (if Gf.dgQ key f l < n then opO key f n t (o + 1) b else opO key f (Gf.dgQ key f l + 1) (t + 1) o b) else opO key f n t o (b + 1)) := ⟨rfl⟩
  clear hDG hb0 hp
  obtain ⟨va, vc, rfl, hvc, _⟩ := hb
  clear hvc
  generalize Gf.tkE key f n l = TE at *
  generalize tkO key f n t o b l = TO at *
  generalize Gf.dgE key f l = E at *
  generalize Gf.dgQ key f l = DQ at *
  generalize Gf.dgS key f l = DS at *
  generalize Gf.dgO key f l = DO at *
  generalize Gf.dgL key f l = DL at *
  generalize l.length = ln at *
  unfold dgv
  go_enter Tryd.func23, Tryd.ntmps23
  go_upto_region 3 with (first | (go_at_call 44; refine (HT.out _ HR.out).mono ?_; rintro e1 w1 ⟨rfl, rfl⟩) | fail)
  obtain ⟨V0, hV0⟩ : ∃ V0, (w.alloc (.cells #[.int .u64 0, .int .u16 0, .int .u16 0, .slice none 0 0] 28)) = V0 := ⟨_, rfl⟩
  rw [hV0] at HB0 HR HRR HDG hz0 ⊢
  clear hV0 HT
  refine wp_mono (takeReg key DL E hk p f n t o b DQ DS DO (w.heap.size + 1) va ln vc V0 _ _ _ _ _ _ _ _ _ _ _ _ _ _ _ _ _ _ _ _ _ _ _ _ _ _ _ _ _ _ _ _ _ _ _ _ _ _ _ _ _ _ _ _ _ _ _ _ _ _ _ _ _ _ _ _ _ _ _ _ _ _ _ _ (by omega) (Below.refl _ _) HR.out HDG.out) ?_
  rintro r a' w2 ⟨rfl, v6, v7, v12, v13, v14, v15, v16, v17, v18, v19, v20, v21, v22, v23, v24, rfl, q, u, rfl, hNq, hI, hq, rfl, b2⟩
  have hB2 : Below w.heap.size w w2 := HB0.out.trans (b2.mono (by omega))
  have r2 := HR.out.below b2 (by omega)
  have rr2 := HRR.out.below b2 (by omega)
  have hpq : p ≠ q := by omega
  have hpr : p ≠ w.heap.size := by omega
  have hqr : q ≠ w.heap.size := by omega
  clear HDG HR HRR b2
  have hrm : Room w2 w.heap.size 28 4 := ⟨_, rr2, rfl⟩
  have h1c : (#[.int .u64 0, .int .u16 0, .int .u16 0, .slice none 0 0] : Array Value).all (·.oneCell') = true := by simp [Value.oneCell']
  by_cases hE : E = 0
  · subst hE
    rw [if_pos rfl] at HE HO
    have c17 : w2.cell? ⟨p, 17, none⟩ = some (.int .u64 (n : Int)) := by rw [r2.cell]; exact opO_at hk f n t o b 17 (by omega)
    have cq : w2.cell? ⟨q, 0, none⟩ = some (.int .u64 (DQ : Int)) := hq.cell 0
    by_cases hlt2 : DQ < n
    · rw [if_pos hlt2] at HE HO
      have d1 : decide (DQ < n) = true := decide_eq_true hlt2
      have c19 : w2.cell? ⟨p, 19, none⟩ = some (.int .i64 (o : Int)) := by rw [r2.cell]; exact opO_at hk f n t o b 19 (by omega)
      have f19 := r2.frozen 19
      have hrmA : Room (w2.drew.setCell ⟨p, 19, none⟩ (.int .i64 ((o : Int) + 1))) w.heap.size 28 4 := hrm.drew.setOther _ _ (fun e => hpr e.symm)
      have rP : Row (w2.drew.setCell ⟨p, 19, none⟩ (.int .i64 ((o : Int) + 1))) p 94 (opO key f n t (o + 1) b) := by
        rw [← (opO_set hk f n t o b (o + 1)).2.2.1]
        exact r2.drew.setCell 19 _
      have bP : Bt p w (w2.drew.setCell ⟨p, 19, none⟩ (.int .i64 ((o : Int) + 1))) := (Bt.of (hB2.drew)).setCell 19 _
      clear hlt2
      go_upto_region 7 with (fail)
      go_region
      clear c17 cq
      go_wp2_with (first | (refine wpList_store_row rfl 28 (.tmp 4) (.tmp 50) rfl _ rfl _ rfl _ _ hrmA Tryd.size28 rfl h1c ?_) | fail)
      refine bodyPost_ret (results_row_slot Tryd.results23 _ w.heap.size rfl _ rfl _ _ (hrmA.setRow _) _ Tryd.underlying28 rfl 4 Tryd.size28 rfl) rfl ?_
      rw [HE.out, HO.out]
      exact ⟨0, 0, 0, _, [], rfl, .inl ⟨rfl, rfl⟩, rP.setRowOther _ _ hpr, bP.setRow (Nat.le_refl _) _, fun h => absurd h (by decide), fun _ => ⟨rfl, rfl, rfl, rfl⟩⟩
    · rw [if_neg hlt2] at HE HO
      have d1 : decide (DQ < n) = false := decide_eq_false hlt2
      have f17 := r2.frozen 17
      have c18 : w2.cell? ⟨p, 18, none⟩ = some (.int .i64 (t : Int)) := by rw [r2.cell]; exact opO_at hk f n t o b 18 (by omega)
      have f18 := r2.frozen 18
      have e1 : ((DQ : Int) + 1) = ((DQ + 1 : Nat) : Int) := by omega
      have e2 : ((t : Int) + 1) = ((t + 1 : Nat) : Int) := by omega
      have rP : Row ((w2.drew.setCell ⟨p, 17, none⟩ (.int .u64 ((DQ : Int) + 1))).setCell ⟨p, 18, none⟩ (.int .i64 ((t : Int) + 1))) p 94 (opO key f (DQ + 1) (t + 1) o b) := by
        have h1 := r2.drew.setCell 17 (.int .u64 ((DQ : Int) + 1))
        rw [e1, (opO_set hk f n t o b (DQ + 1)).1] at h1
        have h2 := h1.setCell 18 (.int .i64 ((t : Int) + 1))
        rw [e2, (opO_set hk f (DQ + 1) t o b (t + 1)).2.1] at h2
        rw [e1, e2]
        exact h2
      have hqB : Row ((w2.drew.setCell ⟨p, 17, none⟩ (.int .u64 ((DQ : Int) + 1))).setCell ⟨p, 18, none⟩ (.int .i64 ((t : Int) + 1))) q 28 (dgv DQ DS DO u) := (hq.drew.setOther _ _ (fun e => hpq e.symm)).setOther _ _ (fun e => hpq e.symm)
      have hrmB : Room ((w2.drew.setCell ⟨p, 17, none⟩ (.int .u64 ((DQ : Int) + 1))).setCell ⟨p, 18, none⟩ (.int .i64 ((t : Int) + 1))) w.heap.size 28 4 := (hrm.drew.setOther _ _ (fun e => hpr e.symm)).setOther _ _ (fun e => hpr e.symm)
      have bP : Bt p w ((w2.drew.setCell ⟨p, 17, none⟩ (.int .u64 ((DQ : Int) + 1))).setCell ⟨p, 18, none⟩ (.int .i64 ((t : Int) + 1))) := ((Bt.of (hB2.drew)).setCell 17 _).setCell 18 _
      have hI2 : In5 ((w2.drew.setCell ⟨p, 17, none⟩ (.int .u64 ((DQ : Int) + 1))).setCell ⟨p, 18, none⟩ (.int .i64 ((t : Int) + 1))) u DL := hI.same fun b' _ hr => (hr.drew.setOther _ _ (row_ne hr r2 (by decide))).setOther _ _ (row_ne hr r2 (by decide))
      obtain ⟨ua, uc, rfl⟩ := hI.slice
      have h1d := dgv_one DQ DS DO (.slice ua DL.length uc) rfl
      clear hlt2 e1 e2
      unfold dgv at h1d hqB
      go_upto_region 7 with (fail)
      go_region
      go_wp2_with (first | (refine wpList_load_row rfl 28 (.tmp 6) rfl _ rfl _ _ hqB _ Tryd.underlying28 rfl 4 Tryd.size28 rfl ?_) | (refine wpList_store_row rfl 28 (.tmp 4) (.tmp 64) rfl _ rfl _ rfl _ _ hrmB Tryd.size28 rfl h1d ?_) | fail)
      refine bodyPost_ret (results_row_slot Tryd.results23 _ w.heap.size rfl _ rfl _ _ (hrmB.setRow _) _ Tryd.underlying28 rfl 4 Tryd.size28 rfl) rfl ?_
      rw [HE.out, HO.out]
      exact ⟨DQ, DS, DO, _, DL, rfl, hI2.same (fun b' _ hr => hr.setRowOther _ _ (row_ne hr hrmB.choose_spec.1 (by decide))), rP.setRowOther _ _ hpr, bP.setRow (Nat.le_refl _) _, fun _ => ⟨rfl, rfl, rfl, rfl⟩, fun h => absurd rfl h⟩
  · rw [if_neg hE] at HE HO
    have dE : (E != 0) = true := by rw [bne_iff_ne]; exact hE
    have c20 : w2.cell? ⟨p, 20, none⟩ = some (.int .i64 (b : Int)) := by rw [r2.cell]; exact opO_at hk f n t o b 20 (by omega)
    have f20 := r2.frozen 20
    have hrmA : Room (w2.setCell ⟨p, 20, none⟩ (.int .i64 ((b : Int) + 1))) w.heap.size 28 4 := hrm.setOther _ _ (fun e => hpr e.symm)
    have rP : Row (w2.setCell ⟨p, 20, none⟩ (.int .i64 ((b : Int) + 1))) p 94 (opO key f n t o (b + 1)) := by
      rw [← (opO_set hk f n t o b (b + 1)).2.2.2]
      exact r2.setCell 20 _
    have bP : Bt p w (w2.setCell ⟨p, 20, none⟩ (.int .i64 ((b : Int) + 1))) := (Bt.of hB2).setCell 20 _
    have HE2 := Box'.mk hE
    clear hE
    go_wp2_with (first | (refine wpList_store_row rfl 28 (.tmp 4) (.tmp 34) rfl _ rfl _ rfl _ _ hrmA Tryd.size28 rfl h1c ?_) | fail)
    refine bodyPost_ret (results_row_slot Tryd.results23 _ w.heap.size rfl _ rfl _ _ (hrmA.setRow _) _ Tryd.underlying28 rfl 4 Tryd.size28 rfl) rfl ?_
    rw [HE.out, HO.out]
    exact ⟨0, 0, 0, _, [], rfl, .inl ⟨rfl, rfl⟩, rP.setRowOther _ _ hpr, bP.setRow (Nat.le_refl _) _, fun h => absurd h HE2.out, fun _ => ⟨rfl, rfl, rfl, rfl⟩⟩
end Go.Proofs.YthcokaffbgbanaaDoor

/- The walk of the reference's Same. -/
namespace Go.Proofs.YthcokaffbgbanaaDoor
open Go.RowKit Go.BigFrame

set_option maxRecDepth 100000 in
set_option maxHeartbeats 2000000 in
theorem same8_any (q s e q' s' e' : Nat) (u u' : Value) (L L' : List UInt8) (w : World) (h1 : Bts (· < w.heap.size) w u L) (h2 : Bts (· < w.heap.size) w u' L') :
    Calls Tryd.prog 16 #[.agg (dgv q s e u), .agg (dgv q' s' e' u')] w fun r w' => r = .returned (.bool (decide (q = q' ∧ s = s' ∧ e = e' ∧ L = L'))) ∧ Below w.heap.size w w' := by
  have b0 : Below w.heap.size w ((w.alloc (.cells (dgv q s e u) 28)).alloc (.cells (dgv q' s' e' u') 28)) := ((Below.refl _ _).alloc (Nat.le_refl _) _).alloc (by simp) _
  have hS := fun (w1 : World) (hb : Below w.heap.size w w1) => refSame_any _ _ u u' L L' w1 (h1.below hb (fun _ h => h)) (h2.below hb (fun _ h => h))
  have HS := Box'.mk hS
  have HB := Box'.mk b0
  obtain ⟨a, c, rfl, _⟩ := h1
  obtain ⟨a', c', rfl, _⟩ := h2
  clear hS b0
  generalize L.length = n1 at *
  generalize L'.length = n2 at *
  unfold dgv at *
  by_cases e1 : q = q'
  · have d1 : ((q : Int) == (q' : Int)) = true := by rw [beq_iff_eq]; omega
    by_cases e2 : s = s'
    · have d2 : ((s : Int) == (s' : Int)) = true := by rw [beq_iff_eq]; omega
      by_cases e3 : e = e'
      · have d3 : ((e : Int) == (e' : Int)) = true := by rw [beq_iff_eq]; omega
        rw [show decide (q = q' ∧ s = s' ∧ e = e' ∧ L = L') = decide (L = L') by simp [e1, e2, e3]]
        generalize decide (L = L') = r at *
        clear e1 e2 e3
        go_enter Tryd.func16, Tryd.ntmps16
        go_wp2_with (first | (go_at_call 15; refine (HS.out _ HB.out).mono ?_; rintro e1 w1 ⟨rfl, rfl⟩) | fail)
        go_ret
        exact ⟨rfl, HB.out⟩
      · have d3 : ((e : Int) == (e' : Int)) = false := by rw [beq_eq_false_iff_ne]; omega
        rw [show decide (q = q' ∧ s = s' ∧ e = e' ∧ L = L') = false from decide_eq_false (fun h => e3 h.2.2.1)]
        clear e1 e2 e3
        go_enter Tryd.func16, Tryd.ntmps16
        go_wp2_with fail
        go_ret
        exact ⟨rfl, HB.out⟩
    · have d2 : ((s : Int) == (s' : Int)) = false := by rw [beq_eq_false_iff_ne]; omega
      rw [show decide (q = q' ∧ s = s' ∧ e = e' ∧ L = L') = false from decide_eq_false (fun h => e2 h.2.1)]
      clear e1 e2
      go_enter Tryd.func16, Tryd.ntmps16
      go_wp2_with fail
      go_ret
      exact ⟨rfl, HB.out⟩
  · have d1 : ((q : Int) == (q' : Int)) = false := by rw [beq_eq_false_iff_ne]; omega
    rw [show decide (q = q' ∧ s = s' ∧ e = e' ∧ L = L') = false from decide_eq_false (fun h => e1 h.1)]
    clear e1
    go_enter Tryd.func16, Tryd.ntmps16
    go_wp2_with fail
    go_ret
    exact ⟨rfl, HB.out⟩
end Go.Proofs.YthcokaffbgbanaaDoor
