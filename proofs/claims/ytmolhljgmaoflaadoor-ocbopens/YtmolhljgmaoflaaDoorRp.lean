/- The walk of the reference's Open. -/
import Derived.Test.YtmolhljgmaoflaaDoorRo
import Derived.Test.YtmolhljgmaoflaaDoorDf
import Derived.Test.YtmolhljgmaoflaaDoorOt
namespace Go.Proofs.YtmolhljgmaoflaaDoor
open Go.RowKit Go.BigFrame

set_option maxRecDepth 100000 in
set_option maxHeartbeats 16000000 in
theorem refOpen_ok (key : List UInt8) (hkey : key.length = 16) (vn vb vs : Value) (ln lb ls : List UInt8) (hn1 : 0 < ln.length) (hn2 : ln.length ≤ 15) (hlb : lb.length ≤ 65536) (hls1 : 16 ≤ ls.length) (hls : ls.length ≤ 65552) (w : World)
    (hn : Bts (· < w.heap.size) w vn ln) (hb : Bts (· < w.heap.size) w vb lb) (hp : Bts (· < w.heap.size) w vs ls) :
    Calls Tryd.prog 16 #[.agg (ag key), vn, vb, vs] w fun e w' => Below w.heap.size w w' ∧
      ((Gf.sealed key ln lb (Gf.unturned key ln ls).1 = ls ∧ ∃ v', e = .returned (.tuple #[v', .int .i64 0]) ∧ Own w.heap.size w' v' (Gf.unturned key ln ls).1) ∨
       (Gf.sealed key ln lb (Gf.unturned key ln ls).1 ≠ ls ∧ e = .returned (.tuple #[.slice none 0 0, .int .i64 20]))) := by
  obtain ⟨an, cn, rfl, hcn, hn3⟩ := hn
  obtain ⟨ab, cb, rfl, hcb, hb3⟩ := hb
  obtain ⟨ap, cp0, rfl, hcp, hp3⟩ := hp
  have hn : Bts (· < w.heap.size) w (.slice an ln.length cn) ln := ⟨an, cn, rfl, hcn, hn3⟩
  have hb : Bts (· < w.heap.size) w (.slice ab lb.length cb) lb := ⟨ab, cb, rfl, hcb, hb3⟩
  have hp : Bts (· < w.heap.size) w (.slice ap ls.length cp0) ls := ⟨ap, cp0, rfl, hcp, hp3⟩
  obtain ⟨pb, po0, rfl, hpS, hpr⟩ : ∃ b o, ap = some ⟨b, o, none⟩ ∧ b < w.heap.size ∧ w.rangeAt b o (ls.map B) := by
    rcases hp3 with rfl | h
    · simp at hls1
    · exact h
  clear hn3 hb3
  have lTK0 : (ls.take (ls.length - 16)).length = ls.length - 16 := by rw [List.length_take]; omega
  have hin0 : Bts (· < w.heap.size) w (.slice (some ⟨pb, po0, none⟩) (ls.length - 16) cp0) (ls.take (ls.length - 16)) := by
    refine ⟨_, _, by rw [lTK0], by omega, ?_⟩
    by_cases h0 : ls.length - 16 = 0
    · left; apply List.eq_nil_of_length_eq_zero; omega
    · right
      refine ⟨pb, po0, rfl, hpS, fun j u hu => hpr j u ?_⟩
      rw [List.map_take, List.getElem?_take] at hu
      split at hu
      · exact hu
      · cases hu
  clear hpr hpS
  have hbad := fun w => bad_any an ln.length cn ab lb.length cb ((ls.length : Int) - 16) (by unfold maxLen; omega) (by unfold maxLen; omega) w
  have hb0 : Gf.badE ln.length lb.length ((ls.length : Int) - 16) = 0 := by unfold Gf.badE; rw [if_neg (by omega), if_neg (by omega)]
  rw [hb0] at hbad
  clear hb0
  obtain ⟨S1, hS1⟩ : ∃ S1, (Gf.unturned key ln ls).1 = S1 := ⟨_, rfl⟩
  have lS1 : S1.length = ls.length - 16 := by rw [← hS1]; unfold Gf.unturned; rw [(Gf.turnFrom_len _ _ _ _ _ _ (Gf.begin_len _ _)).1, lTK0]
  have HR0 : Box' ([] ++ (Gf.turnFrom (Gf.decrypt key) key (Gf.star key) 1 (Gf.begin key ln) (ls.take (ls.length - 16))).1 = S1) := ⟨hS1⟩
  rw [hS1]
  clear hS1
  have lBG := Gf.begin_len key ln
  obtain ⟨N, hN⟩ : ∃ N, w.heap.size = N := ⟨_, rfl⟩
  rw [hN] at hn hb hp hin0 ⊢
  obtain ⟨SLd, hSLd⟩ : ∃ SLd, Gf.sealed key ln lb S1 = SLd := ⟨_, rfl⟩
  have hSeal : ∀ (v1 : Value) (w3 : World), Below N w w3 → N ≤ w3.heap.size → Bts (· < w3.heap.size) w3 v1 S1 → Calls Tryd.prog 9 #[.agg (ag key), .slice an ln.length cn, .slice ab lb.length cb, v1] w3 fun e w' => ∃ v', e = .returned (.tuple #[v', .int .i64 0]) ∧ Own w3.heap.size w' v' SLd ∧ Below w3.heap.size w3 w' := fun v1 w3 h1 h2 h3 => by
    rw [← hSLd]
    exact refSeal_ok key hkey _ _ v1 ln lb S1 hn1 hn2 hlb (by omega) w3 (hn.keep fun b hbb => ⟨by omega, h1.block b hbb⟩) (hb.keep fun b hbb => ⟨by omega, h1.block b hbb⟩) h3
  have hSame : ∀ (v1 : Value) (w3 : World), Bts (· < w3.heap.size) w3 v1 SLd → Below N w w3 → Calls Tryd.prog 10 #[v1, .slice (some ⟨pb, po0, none⟩) ls.length cp0] w3 fun e w' => e = .returned (.bool (decide (SLd = ls))) ∧ w' = w3 := fun v1 w3 h1 h2 =>
    refSame_any _ (· < N) _ _ SLd ls w3 h1 (hp.up fun b hbb => h2.block b hbb)
  rw [hSLd]
  have HSeal := Box'.mk hSeal
  have HSame := Box'.mk hSame
  clear hSLd hSeal hSame
  obtain ⟨Z, zs, zz⟩ : ∃ Z : Array Value, Z.size = 209 ∧ (Tryd.prog.info? 54).map (fun i => (i.zero, i.size)) = some (some (.agg Z), 209) := ⟨_, els_size _ _ _ _ (List.length_replicate) rfl rfl, Tryd.zero54⟩
  have ZZ := Box'.mk zz
  clear zz
  have b0 : Below N w (w.alloc (.cells (ag key) 23)) := by rw [← hN]; exact (Below.refl _ _).alloc (Nat.le_refl _) _
  have r0 : Row (w.alloc (.cells (ag key) 23)) N 23 (ag key) := by rw [← hN]; exact Row.new _ _ _
  have z0 : (w.alloc (.cells (ag key) 23)).heap.size = N + 1 := by simp [hN]
  go_enter Tryd.func16, Tryd.ntmps16
  go_wp2_with (first
    | (go_at_call 25; refine (hbad _).mono ?_; rintro e w1 ⟨rfl, rfl⟩)
    | (refine wpList_load_row rfl 23 (.tmp 4) rfl _ rfl _ _ r0 _ Tryd.underlying23 rfl 16 Tryd.info23 (by rw [ag_size]; exact hkey) ?_)
    | fail)
  refine (newElls_any key hkey _).mono ?_
  rintro e w1 ⟨sb, rfl, t1, hb1⟩
  have bl1 : Below N w w1 := b0.trans (hb1.mono (by omega))
  have k1 : Row w1 N 23 (ag key) := r0.below hb1 r0.lt
  have hz1 := bl1.size
  have rc : ∀ {w3 : World} {b : Nat}, Row w3 b 54 (elk key sb) → _ := fun {w3} {b} h => elk_range (w := w3) (b := b) h
  have lCP := cipk_size key sb
  have en : ∀ (b : List UInt8), b.length = 16 → ∀ w3, Row w3 sb 66 (ag Gf.sbox) → Calls Tryd.prog 31 #[.agg (cip (.pointer (some ⟨sb, 0, none⟩)) (Gf.keys Gf.sbox key)), .agg (ag b)] w3 fun e w' => e = .returned (.agg (ag (Gf.encrypt key b))) ∧ Below w3.heap.size w3 w' := fun b hb w3 h => elk_enc key b hb h
  generalize cip (.pointer (some ⟨sb, 0, none⟩)) (Gf.keys Gf.sbox key) = CP at *
  have RC := Box'.mk @rc
  have EC := Box'.mk en
  clear rc en hb1 b0 r0 z0
  have le := elk_size key sb
  have oe := elk_one key sb
  have q54 : Room (w1.alloc (.cells Z 54)) w1.heap.size 54 209 := Room.new _ _ _ _ zs
  have ba2 : Below w1.heap.size w1 (w1.alloc (.cells (elk key sb) 54)) := (Below.refl _ _).alloc (Nat.le_refl _) _
  have e2 : Row (w1.alloc (.cells (elk key sb) 54)) w1.heap.size 54 (elk key sb) := Row.new _ _ _
  have t2 := t1.below ba2 t1.lt
  have k2 := k1.below ba2 k1.lt
  have bl2 : Below N w (w1.alloc (.cells (elk key sb) 54)) := bl1.trans (ba2.mono (by omega))
  clear t1 ba2 bl1 k1
  generalize hEL : elk key sb = EL at *
  have HEL := Box'.mk hEL
  clear hEL
  go_wp2_with (first
    | (refine wpList_alloc_row rfl 54 rfl _ _ ZZ.out ?_)
    | (refine wpList_store_row rfl 54 (.tmp 11) (.tmp 34) rfl _ rfl _ rfl _ _ q54 Tryd.info54 le oe ?_; rw [World.setRow_alloc_new])
    | (refine wpList_load_row rfl 54 (.tmp 11) rfl _ rfl _ _ e2 _ Tryd.underlying54 rfl 209 Tryd.info54 le ?_)
    | fail)
  obtain rfl := HEL.out
  clear HEL le oe
  refine (refBegin_any (· < N) key _ ln hn1 hn2 _ (hn.up fun b hb => bl2.block b hb) sb t2).mono ?_
  rintro e w3 ⟨rfl, hb3⟩
  generalize hBG : Gf.begin key ln = BG at *
  clear hBG q54
  generalize hne : w1.heap.size = ne at *
  clear hne
  have e3 := e2.below hb3 e2.lt
  have t3 := t2.below hb3 t2.lt
  have k3 := k2.below hb3 k2.lt
  have bl3 : Below N w w3 := bl2.trans (hb3.mono (by have := bl2.size; omega))
  have hz3 := bl3.size
  rw [hN] at hz3
  have hkN := k3.lt
  clear e2 t2 bl2 hb3 k2
  have qz : Room (w3.alloc (.cells (ag (Gf.zeros 16)) 23)) w3.heap.size 23 16 := Room.new _ _ _ _ rfl
  have sE : En key sb N ne w3.heap.size N w (w3.alloc (.cells (ag BG) 23)) BG key := by
    have ba : Below w3.heap.size w3 (w3.alloc (.cells (ag BG) 23)) := (Below.refl _ _).alloc (Nat.le_refl _) _
    exact ⟨e3.below ba e3.lt, t3.below ba t3.lt, Row.new _ _ _, k3.below ba k3.lt, bl3.trans (ba.mono hz3), hz3, Nat.le_refl _, by omega⟩
  have em : (ls.length : Int) - 16 = ((ls.length - 16 : Nat) : Int) := by omega
  have hm0 : ls.length - 16 ≤ cp0 := by omega
  generalize hmm : ls.length - 16 = mm at *
  go_wp2_with (first
    | (refine wpList_alloc_row rfl 23 rfl _ _ Tryd.zero23 ?_)
    | (refine wpList_store_row rfl 23 (.tmp 12) (.tmp 37) rfl _ rfl _ rfl _ _ qz Tryd.info23 (by rw [ag_size]; exact lBG) (ag_one _) ?_; rw [World.setRow_alloc_new])
    | fail)
  have hBp : Bts (· < N) (w3.alloc (.cells (ag BG) 23)) (.slice (some ⟨pb, po0, none⟩) mm cp0) (ls.take mm) := hin0.up fun b hb => sE.bl.block b hb
  have oN : Own N (w3.alloc (.cells (ag BG) 23)) (.slice none 0 0) [] := Own.nil _ _
  generalize w3.alloc (.cells (ag BG) 23) = W5 at *
  generalize w3.heap.size = po at *
  clear qz e3 t3 bl3 hz3 k3 hin0 hb hn hp hbad em
  go_loopw [13, 14, 15] (fun t ou j wr => ∃ (i : Nat) (l' o out : List UInt8), 0 < i ∧ 16 * i + l'.length ≤ 65552 ∧ out.length + l'.length = mm ∧ j = .int .i64 (i : Int) ∧ Bts (· < N) wr t l' ∧ Own N wr ou out ∧ o.length = 16 ∧ En key sb N ne po N w wr o key ∧ Box' (out ++ (Gf.turnFrom (Gf.decrypt key) key (Gf.star key) i o l').1 = S1)) (fun t _ _ _ => sliceLen t)
  case atStart => exact ⟨1, ls.take mm, _, [], by omega, by omega, by simp; omega, rfl, hBp, oN, lBG, sE, HR0⟩
  case round =>
    clear hBp oN sE HR0
    obtain ⟨i, l', o, out, hi0, hi1, hlen, rfl, hB1, hOw, lo, hE, HR⟩ := hrel
    obtain ⟨a, c, rfl, hcl, h3⟩ := hB1
    obtain ⟨n, hn⟩ : ∃ n, l'.length = n := ⟨_, rfl⟩
    by_cases h16 : 16 ≤ n
    · rcases h3 with rfl | ⟨b, oo, rfl, hbN, hr⟩
      · simp at hn; omega
      have hfirst : Bts (· < N) wr (.slice (some ⟨b, oo, none⟩) 16 c) (l'.take 16) := Bts.first (by omega) hcl hbN hr
      have hrest0 : Bts (· < N) wr (rest16 b oo l'.length c) (l'.drop 16) := Bts.rest (by omega) hcl hbN hr
      have lTK : (l'.take 16).length = 16 := by rw [List.length_take]; omega
      have lDR : (l'.drop 16).length = n - 16 := by rw [List.length_drop]; omega
      have hAt := fun w => refAt_any key sb i hi0 (by omega) w
      have lLL := Gf.ell_len (Gf.star key) (Gf.star_len key) (2 + Gf.ntz i)
      have hst := HR.out
      rw [Gf.turnFrom_eq, dif_pos (by omega)] at hst
      generalize Gf.ell (Gf.star key) (2 + Gf.ntz i) = LL at *
      have hP1 := fun w => refPlus_any o LL lo lLL w
      have lo2 := Gf.bxor_len o LL
      generalize Gf.bxor o LL = o2 at *
      generalize l'.take 16 = TK at *
      have hP2 := fun w => refPlus_any TK o2 lTK lo2 w
      have lp1 := Gf.bxor_len TK o2
      generalize Gf.bxor TK o2 = p1 at *
      have hD1 := fun w => refDecrypt_any key p1 hkey lp1 w
      have le1 := Gf.decrypt_len key p1
      generalize Gf.decrypt key p1 = e1 at *
      have hP3 := fun w => refPlus_any e1 o2 le1 lo2 w
      have lx1 := Gf.bxor_len e1 o2
      generalize Gf.bxor e1 o2 = x1 at *
      have HR2 : Box' (out ++ x1 ++ (Gf.turnFrom (Gf.decrypt key) key (Gf.star key) (i + 1) o2 (l'.drop 16)).1 = S1) := ⟨by rw [List.append_assoc]; exact hst⟩
      rw [hn] at hcl hrest0 hi1 hlen
      rw [hn]
      clear hst hr HR
      go_upto_region 13 with (fail)
      refine wp_region_grow 5 (by kernel_rfl) (by kernel_rfl) (fun a b => Below a.heap.size a b) (fun w3 => En key sb N ne po N w w3 o key ∧ Own N w3 u14 out) (fun k w1 v => match k with
        | 0 => v = .agg (ag o)
        | 1 => v = .agg (elk key sb)
        | 2 => v = .int .i64 (i : Int)
        | 3 => v = .agg (ag LL)
        | 4 => v = .agg (ag o2)
        | _ => True) ?_ ?_ ?_ ?_ ?_
      · rintro a b hb ⟨c1, c2⟩
        exact ⟨c1.below hb, c2.below hb⟩
      · intro k v w1 w2 hC1 hb h
        match k, h with
        | 0, h => exact h
        | 1, h => exact h
        | 2, h => exact h
        | 3, h => exact h
        | 4, h => exact h
        | k + 5, h => trivial
      · exact ⟨hE.drew, hOw.drew⟩
      · refine ⟨?_, ?_, ?_, ?_, ?_, trivial⟩
        · intro f w1 hC hd KK hK
          simp only [List.take_succ_cons, List.take_zero, setAll, List.setIfInBounds_toArray, List.set_cons_succ, List.set_cons_zero, Nat.zero_add, Nat.reduceAdd] at hK ⊢
          refine wp_load_row 23 _ rfl _ rfl _ _ (hC.1.ro) _ Tryd.underlying23 rfl 16 Tryd.info23 (by rw [ag_size]; exact lo) ?_
          exact hK _ _ rfl (Below.refl _ _)
        · intro f w1 hC hd KK hK
          simp only [List.take_succ_cons, List.take_zero, setAll, List.setIfInBounds_toArray, List.set_cons_succ, List.set_cons_zero, Nat.zero_add, Nat.reduceAdd] at hK ⊢
          refine wp_load_row 54 _ rfl _ rfl _ _ (hC.1.el) _ Tryd.underlying54 rfl 209 Tryd.info54 (elk_size _ _) ?_
          exact hK _ _ rfl (Below.refl _ _)
        · intro f w1 hC hd KK hK
          simp only [List.take_succ_cons, List.take_zero, setAll, List.setIfInBounds_toArray, List.set_cons_succ, List.set_cons_zero, Nat.zero_add, Nat.reduceAdd] at hK ⊢
          refine wp_of_quiet rfl ?_
          go_big_quiet_step (fail)
          exact wpQuiet_nil (hK _ _ rfl (Below.refl _ _))
        · intro f w1 hC hd KK hK
          have g1 : f 1 = _ := hd 1 rfl
          have g2 : f 2 = _ := hd 2 rfl
          simp only [List.take_succ_cons, List.take_zero, setAll, List.setIfInBounds_toArray, List.set_cons_succ, List.set_cons_zero, Nat.zero_add, Nat.reduceAdd, g1, g2] at hK ⊢
          exact wp_call 30 #[.agg (elk key sb), .int .i64 (i : Int)] (by simp [go_sem]) _ _ (hAt _) (fun w' hb => hK _ _ rfl hb)
        · intro f w1 hC hd KK hK
          have g0 : f 0 = _ := hd 0 rfl
          have g3 : f 3 = _ := hd 3 rfl
          simp only [List.take_succ_cons, List.take_zero, setAll, List.setIfInBounds_toArray, List.set_cons_succ, List.set_cons_zero, Nat.zero_add, Nat.reduceAdd, g0, g3] at hK ⊢
          exact wp_call 29 #[.agg (ag o), .agg (ag LL)] (by simp [go_sem]) _ _ (hP1 _) (fun w' hb => hK _ _ rfl hb)
      · intro f w1 hC hv
        have g0 : f 0 = _ := hv 0 (by decide)
        have g1 : f 1 = _ := hv 1 (by decide)
        have g2 : f 2 = _ := hv 2 (by decide)
        have g3 : f 3 = _ := hv 3 (by decide)
        have g4 : f 4 = _ := hv 4 (by decide)
        simp only [List.take_succ_cons, List.take_zero, List.drop_succ_cons, List.drop_zero, setAll, List.setIfInBounds_toArray, List.set_cons_succ, List.set_cons_zero, Nat.zero_add, Nat.reduceAdd, g0, g1, g2, g3, g4]
        clear g0 g1 g2 g3 g4 hv
        obtain ⟨c1, c2⟩ := hC
        have sQ := c1.setO o2
        have hro := c1.ro.room (n := 16) (by rw [ag_size]; exact lo)
        have o12 := c2.setRow hro (by decide) (ag o2)
        have hF : ∀ w3, Below N w w3 → Bts (· < N) w3 (.slice (some ⟨b, oo, none⟩) 16 c) TK := fun w3 h3 => Bts.bel hfirst hE.bl h3
        clear c1 c2
        go_upto_region 14 with (first
          | (refine wpList_store_row rfl 23 (.tmp 12) (.tmp 52) rfl _ rfl _ rfl _ _ hro Tryd.info23 (by rw [ag_size]; exact lo2) (ag_one _) ?_)
          | fail)
        clear hro
        generalize w1.setRow po (ag o2) = wQ at *
        obtain ⟨Q0, hQ0⟩ : ∃ Q0, Q0 = wQ.heap.size := ⟨_, rfl⟩
        have hq1 := sQ.ro.lt
        have hq2 := sQ.rd.lt
        have hNq := sQ.n1
        rw [← hQ0] at hq1 hq2
        have HQ0 := Box'.mk hQ0
        clear hQ0
        refine wp_region_grow 10 (by kernel_rfl) (by kernel_rfl) (fun a b => Below a.heap.size a b) (fun w3 => En key sb N ne po N w w3 o2 key ∧ Own N w3 u14 out ∧ Q0 ≤ w3.heap.size) (fun k w1 v => match k with
          | 0 => v = .agg (ag key)
          | 1 => v = .slice (some ⟨b, oo, none⟩) n c
          | 2 => v = .slice (some ⟨b, oo, none⟩) 16 c
          | 3 => v = .agg (ag TK)
          | 4 => v = .agg (ag o2)
          | 5 => v = .agg (ag p1)
          | 6 => v = .agg (ag e1)
          | 7 => v = .agg (ag o2)
          | 8 => v = .agg (ag x1)
          | 9 => ∃ q, v = .pointer (some ⟨q, 0, none⟩) ∧ Room w1 q 23 16 ∧ Q0 ≤ q
          | _ => True) ?_ ?_ ?_ ?_ ?_
        · rintro a b hb ⟨c1, c2, c3⟩
          exact ⟨c1.below hb, c2.below hb, by have := hb.size; omega⟩
        · intro k v w1 w2 hC1 hb h
          match k, h with
          | 0, h => exact h
          | 1, h => exact h
          | 2, h => exact h
          | 3, h => exact h
          | 4, h => exact h
          | 5, h => exact h
          | 6, h => exact h
          | 7, h => exact h
          | 8, h => exact h
          | 9, ⟨q, e, r, hq⟩ => exact ⟨q, e, r.below hb (r.elim fun _ h => h.1.lt), hq⟩
          | k + 10, h => trivial
        · exact ⟨sQ.drew, o12.drew, by rw [HQ0.out]; exact Nat.le_refl _⟩
        · refine ⟨?_, ?_, ?_, ?_, ?_, ?_, ?_, ?_, ?_, ?_, trivial⟩
          · intro f w1 hC hd KK hK
            simp only [List.take_succ_cons, List.take_zero, setAll, List.setIfInBounds_toArray, List.set_cons_succ, List.set_cons_zero, Nat.zero_add, Nat.reduceAdd] at hK ⊢
            refine wp_load_row 23 _ rfl _ rfl _ _ (hC.1.rd) _ Tryd.underlying23 rfl 16 Tryd.info23 (by rw [ag_size]; exact hkey) ?_
            exact hK _ _ rfl (Below.refl _ _)
          · intro f w1 hC hd KK hK
            simp only [List.take_succ_cons, List.take_zero, setAll, List.setIfInBounds_toArray, List.set_cons_succ, List.set_cons_zero, Nat.zero_add, Nat.reduceAdd] at hK ⊢
            refine wp_of_quiet rfl ?_
            go_big_quiet_step (fail)
            exact wpQuiet_nil (hK _ _ rfl (Below.refl _ _))
          · intro f w1 hC hd KK hK
            have g1 : f 1 = _ := hd 1 rfl
            simp only [List.take_succ_cons, List.take_zero, setAll, List.setIfInBounds_toArray, List.set_cons_succ, List.set_cons_zero, Nat.zero_add, Nat.reduceAdd, g1] at hK ⊢
            refine wp_of_quiet rfl ?_
            go_big_quiet_step (fail)
            exact wpQuiet_nil (hK _ _ rfl (Below.refl _ _))
          · intro f w1 hC hd KK hK
            have g2 : f 2 = _ := hd 2 rfl
            simp only [List.take_succ_cons, List.take_zero, setAll, List.setIfInBounds_toArray, List.set_cons_succ, List.set_cons_zero, Nat.zero_add, Nat.reduceAdd, g2] at hK ⊢
            exact wp_call 28 #[.slice (some ⟨b, oo, none⟩) 16 c] (by simp [go_sem]) _ _ (refBlock_any _ _ TK lTK _ (hF _ hC.1.bl)) (fun w' hb => hK _ _ rfl hb)
          · intro f w1 hC hd KK hK
            simp only [List.take_succ_cons, List.take_zero, setAll, List.setIfInBounds_toArray, List.set_cons_succ, List.set_cons_zero, Nat.zero_add, Nat.reduceAdd] at hK ⊢
            refine wp_load_row 23 _ rfl _ rfl _ _ (hC.1.ro) _ Tryd.underlying23 rfl 16 Tryd.info23 (by rw [ag_size]; exact lo2) ?_
            exact hK _ _ rfl (Below.refl _ _)
          · intro f w1 hC hd KK hK
            have g3 : f 3 = _ := hd 3 rfl
            have g4 : f 4 = _ := hd 4 rfl
            simp only [List.take_succ_cons, List.take_zero, setAll, List.setIfInBounds_toArray, List.set_cons_succ, List.set_cons_zero, Nat.zero_add, Nat.reduceAdd, g3, g4] at hK ⊢
            exact wp_call 29 #[.agg (ag TK), .agg (ag o2)] (by simp [go_sem]) _ _ (hP2 _) (fun w' hb => hK _ _ rfl hb)
          · intro f w1 hC hd KK hK
            have g0 : f 0 = _ := hd 0 rfl
            have g5 : f 5 = _ := hd 5 rfl
            simp only [List.take_succ_cons, List.take_zero, setAll, List.setIfInBounds_toArray, List.set_cons_succ, List.set_cons_zero, Nat.zero_add, Nat.reduceAdd, g0, g5] at hK ⊢
            exact wp_call 37 #[.agg (ag key), .agg (ag p1)] (by simp [go_sem]) _ _ (hD1 _) (fun w' hb => hK _ _ rfl hb)
          · intro f w1 hC hd KK hK
            simp only [List.take_succ_cons, List.take_zero, setAll, List.setIfInBounds_toArray, List.set_cons_succ, List.set_cons_zero, Nat.zero_add, Nat.reduceAdd] at hK ⊢
            refine wp_load_row 23 _ rfl _ rfl _ _ (hC.1.ro) _ Tryd.underlying23 rfl 16 Tryd.info23 (by rw [ag_size]; exact lo2) ?_
            exact hK _ _ rfl (Below.refl _ _)
          · intro f w1 hC hd KK hK
            have g6 : f 6 = _ := hd 6 rfl
            have g7 : f 7 = _ := hd 7 rfl
            simp only [List.take_succ_cons, List.take_zero, setAll, List.setIfInBounds_toArray, List.set_cons_succ, List.set_cons_zero, Nat.zero_add, Nat.reduceAdd, g6, g7] at hK ⊢
            exact wp_call 29 #[.agg (ag e1), .agg (ag o2)] (by simp [go_sem]) _ _ (hP3 _) (fun w' hb => hK _ _ rfl hb)
          · intro f w1 hC hd KK hK
            simp only [List.take_succ_cons, List.take_zero, setAll, List.setIfInBounds_toArray, List.set_cons_succ, List.set_cons_zero, Nat.zero_add, Nat.reduceAdd] at hK ⊢
            exact wp_alloc_row 23 rfl _ _ Tryd.zero23 (hK _ _ ⟨_, rfl, Room.new _ _ _ _ rfl, hC.2.2⟩ ((Below.refl _ _).alloc (Nat.le_refl _) _))
        · intro f w1 hC hv
          have g0 : f 0 = _ := hv 0 (by decide)
          have g1 : f 1 = _ := hv 1 (by decide)
          have g2 : f 2 = _ := hv 2 (by decide)
          have g3 : f 3 = _ := hv 3 (by decide)
          have g4 : f 4 = _ := hv 4 (by decide)
          have g5 : f 5 = _ := hv 5 (by decide)
          have g6 : f 6 = _ := hv 6 (by decide)
          have g7 : f 7 = _ := hv 7 (by decide)
          have g8 : f 8 = _ := hv 8 (by decide)
          obtain ⟨q8, g9, k8, hq8⟩ := hv 9 (by decide)
          simp only [List.take_succ_cons, List.take_zero, List.drop_succ_cons, List.drop_zero, setAll, List.setIfInBounds_toArray, List.set_cons_succ, List.set_cons_zero, Nat.zero_add, Nat.reduceAdd, g0, g1, g2, g3, g4, g5, g6, g7, g8, g9]
          clear g0 g1 g2 g3 g4 g5 g6 g7 g8 g9 hv
          obtain ⟨c1, c2, c4⟩ := hC
          have s14 := c1.setP k8 (by omega) (by omega) (by omega) (ag x1)
          have o14 := c2.setRow k8 (by decide) (ag x1)
          have r14 := k8.setRow (ag x1)
          have hxc : ∀ j u, (x1.map B)[j]? = some u → (w1.setRow q8 (ag x1)).cell? ((⟨q8, 0, none⟩ : Addr).add j) = some u := fun j u hu => by
            rw [Addr.add_mid, Nat.zero_add, r14.cell]; simpa [ag] using hu
          have hNs14 := s14.size
          go_upto_region 15 with (first
            | (refine wpList_store_row rfl 23 (.tmp 16) (.tmp 61) rfl _ rfl _ rfl _ _ k8 Tryd.info23 (by rw [ag_size]; exact lx1) (ag_one _) ?_)
            | fail)
          go_upto_region 16 with (first
            | (refine wpList_append_bytes rfl (.tmp 62) (.tmp 63) rfl N hNs14 u14 out rfl o14 ⟨q8, 0, none⟩ 16 16 x1 rfl lx1 hxc (by omega) (fun v15 w15 ho15 ha15 => ?_))
            | fail)
          have s15 := s14.apd ha15
          have hF15 := Bts.bel hrest0 hE.bl s15.bl
          clear s14 o14 r14 hxc c1 c2 k8 ha15
          by_cases hc16 : c = 16
          · have hv : rest16 b oo n c = .slice (some ⟨b, oo, none⟩) (n - 16) 0 := by unfold rest16; rw [if_pos hc16, hc16]
            rw [hv] at hF15
            have hn16 : n = 16 := by omega
            subst hc16 hn16
            go_wp2_with fail
            exact ⟨⟨i + 1, l'.drop 16, o2, out ++ x1, by omega, by omega, by rw [List.length_append]; omega, by go_num, hF15, ho15, lo2, s15, HR2⟩, by simp [sliceLen]⟩
          · have hv : rest16 b oo n c = .slice (some ⟨b, oo + 16, none⟩) (n - 16) (c - 16) := by unfold rest16; rw [if_neg hc16]
            rw [hv] at hF15
            go_wp2_with fail
            exact ⟨⟨i + 1, l'.drop 16, o2, out ++ x1, by omega, by omega, by rw [List.length_append]; omega, by go_num, hF15, ho15, lo2, s15, HR2⟩, by simp [sliceLen]; omega⟩
    · by_cases hpos : 0 < n
      · rcases h3 with rfl | ⟨b, oo, rfl, hbN, hr⟩
        · simp at hn; omega
        have hcell : ∀ k, k < n → ∀ w3, Below N w w3 → w3.cell? ⟨b, oo + k, none⟩ = some (.int .u8 ((l'.getD k 0).toNat : Int)) := fun k hk w3 h3 => by
          rw [World.cell?_of_block (w := wr) (by show w3.heap[b]? = wr.heap[b]?; rw [h3.block b hbN, hE.bl.block b hbN])]
          exact hr k _ (by simp [show k < l'.length by omega]; rfl)
        have HCELL := Box'.mk hcell
        have hst := HR.out
        rw [Gf.turnFrom_eq, dif_neg (by omega), if_pos (by omega)] at hst
        dsimp only at hst
        have lS := Gf.star_len key
        have e0 : Gf.ell (Gf.star key) 0 = Gf.star key := rfl
        rw [e0] at hst
        have RS1 : Box' (∀ {w3 : World}, Row w3 ne 54 (elk key sb) → w3.rangeAt ne 177 ((Gf.star key).map B)) := ⟨fun h => (RC.out h).2.1⟩
        have hP1 := fun w => refPlus_any o (Gf.star key) lo lS w
        have lo2 := Gf.bxor_len o (Gf.star key)
        generalize hSK : Gf.star key = SK at *
        generalize Gf.bxor o SK = o2 at *
        have hE1 := EC.out o2 lo2
        have lPD := Gf.encrypt_len key o2
        generalize Gf.encrypt key o2 = PD at *
        rw [hn] at hcl hi1 hlen hst
        rw [hn]
        have HS := Box'.mk hst
        clear hst HR e0 hcell hSK
        go_upto_region 18 with (fail)
        have sQ := hE
        obtain ⟨wQ, hwQ⟩ : ∃ wQ, wQ = wr := ⟨_, rfl⟩
        rw [← hwQ] at sQ hOw ⊢
        clear hwQ
        obtain ⟨Q0, hQ0⟩ : ∃ Q0, Q0 = wQ.heap.size := ⟨_, rfl⟩
        have hq1 := sQ.ro.lt
        have hq2 := sQ.rd.lt
        have hNq := sQ.n1
        rw [← hQ0] at hq1 hq2
        have HQ0 := Box'.mk hQ0
        clear hQ0
        refine wp_region_grow 8 (by kernel_rfl) (by kernel_rfl) (fun a b => Below a.heap.size a b) (fun w3 => En key sb N ne po N w w3 o key ∧ Own N w3 u14 out ∧ Q0 ≤ w3.heap.size) (fun k w1 v => match k with
          | 0 => v = .pointer (some ⟨ne, 0, none⟩)
          | 1 => v = .agg CP
          | 2 => v = .agg (ag o)
          | 3 => v = .pointer (some ⟨ne, 177, none⟩)
          | 4 => v = .agg (ag SK)
          | 5 => v = .agg (ag o2)
          | 6 => v = .agg (ag PD)
          | 7 => ∃ q, v = .pointer (some ⟨q, 0, none⟩) ∧ Room w1 q 23 16 ∧ Q0 ≤ q
          | _ => True) ?_ ?_ ?_ ?_ ?_
        · rintro a b hb ⟨c1, c2, c3⟩
          exact ⟨c1.below hb, c2.below hb, by have := hb.size; omega⟩
        · intro k v w1 w2 hC1 hb h
          match k, h with
          | 0, h => exact h
          | 1, h => exact h
          | 2, h => exact h
          | 3, h => exact h
          | 4, h => exact h
          | 5, h => exact h
          | 6, h => exact h
          | 7, ⟨q, e, r, hq⟩ => exact ⟨q, e, r.below hb (r.elim fun _ h => h.1.lt), hq⟩
          | k + 8, h => trivial
        · exact ⟨sQ.drew, hOw.drew, by rw [HQ0.out]; exact Nat.le_refl _⟩
        · refine ⟨?_, ?_, ?_, ?_, ?_, ?_, ?_, ?_, trivial⟩
          · intro f w1 hC hd KK hK
            simp only [List.take_succ_cons, List.take_zero, setAll, List.setIfInBounds_toArray, List.set_cons_succ, List.set_cons_zero, Nat.zero_add, Nat.reduceAdd] at hK ⊢
            refine wp_of_quiet rfl ?_
            go_big_quiet_step (fail)
            exact wpQuiet_nil (hK _ _ rfl (Below.refl _ _))
          · intro f w1 hC hd KK hK
            have g0 : f 0 = _ := hd 0 rfl
            simp only [List.take_succ_cons, List.take_zero, setAll, List.setIfInBounds_toArray, List.set_cons_succ, List.set_cons_zero, Nat.zero_add, Nat.reduceAdd, g0] at hK ⊢
            refine _root_.Go.wp_load_mid 52 _ rfl _ _ rfl CP.toList _ (RC.out hC.1.el).1 Tryd.underlying52 rfl (by rw [Tryd.info52, Array.length_toList, lCP]) ?_
            rw [Array.toArray_toList]
            exact hK _ _ rfl (Below.refl _ _)
          · intro f w1 hC hd KK hK
            simp only [List.take_succ_cons, List.take_zero, setAll, List.setIfInBounds_toArray, List.set_cons_succ, List.set_cons_zero, Nat.zero_add, Nat.reduceAdd] at hK ⊢
            refine wp_load_row 23 _ rfl _ rfl _ _ (hC.1.ro) _ Tryd.underlying23 rfl 16 Tryd.info23 (by rw [ag_size]; exact lo) ?_
            exact hK _ _ rfl (Below.refl _ _)
          · intro f w1 hC hd KK hK
            simp only [List.take_succ_cons, List.take_zero, setAll, List.setIfInBounds_toArray, List.set_cons_succ, List.set_cons_zero, Nat.zero_add, Nat.reduceAdd] at hK ⊢
            refine wp_of_quiet rfl ?_
            go_big_quiet_step (fail)
            exact wpQuiet_nil (hK _ _ rfl (Below.refl _ _))
          · intro f w1 hC hd KK hK
            have g3 : f 3 = _ := hd 3 rfl
            simp only [List.take_succ_cons, List.take_zero, setAll, List.setIfInBounds_toArray, List.set_cons_succ, List.set_cons_zero, Nat.zero_add, Nat.reduceAdd, g3] at hK ⊢
            refine _root_.Go.wp_load_mid 23 _ rfl _ _ rfl (SK.map B) _ (RS1.out hC.1.el) Tryd.underlying23 rfl (by rw [Tryd.info23, List.length_map, lS]) ?_
            exact hK _ _ rfl (Below.refl _ _)
          · intro f w1 hC hd KK hK
            have g2 : f 2 = _ := hd 2 rfl
            have g4 : f 4 = _ := hd 4 rfl
            simp only [List.take_succ_cons, List.take_zero, setAll, List.setIfInBounds_toArray, List.set_cons_succ, List.set_cons_zero, Nat.zero_add, Nat.reduceAdd, g2, g4] at hK ⊢
            exact wp_call 29 #[.agg (ag o), .agg (ag SK)] (by simp [go_sem]) _ _ (hP1 _) (fun w' hb => hK _ _ rfl hb)
          · intro f w1 hC hd KK hK
            have g1 : f 1 = _ := hd 1 rfl
            have g5 : f 5 = _ := hd 5 rfl
            simp only [List.take_succ_cons, List.take_zero, setAll, List.setIfInBounds_toArray, List.set_cons_succ, List.set_cons_zero, Nat.zero_add, Nat.reduceAdd, g1, g5] at hK ⊢
            exact wp_call 31 #[.agg CP, .agg (ag o2)] (by simp [go_sem]) _ _ (hE1 _ hC.1.tb) (fun w' hb => hK _ _ rfl hb)
          · intro f w1 hC hd KK hK
            simp only [List.take_succ_cons, List.take_zero, setAll, List.setIfInBounds_toArray, List.set_cons_succ, List.set_cons_zero, Nat.zero_add, Nat.reduceAdd] at hK ⊢
            exact wp_alloc_row 23 rfl _ _ Tryd.zero23 (hK _ _ ⟨_, rfl, Room.new _ _ _ _ rfl, hC.2.2⟩ ((Below.refl _ _).alloc (Nat.le_refl _) _))
        · intro f w1 hC hv
          have g0 : f 0 = _ := hv 0 (by decide)
          have g1 : f 1 = _ := hv 1 (by decide)
          have g2 : f 2 = _ := hv 2 (by decide)
          have g3 : f 3 = _ := hv 3 (by decide)
          have g4 : f 4 = _ := hv 4 (by decide)
          have g5 : f 5 = _ := hv 5 (by decide)
          have g6 : f 6 = _ := hv 6 (by decide)
          obtain ⟨q8, g7, k8, hq8⟩ := hv 7 (by decide)
          simp only [List.take_succ_cons, List.take_zero, List.drop_succ_cons, List.drop_zero, setAll, List.setIfInBounds_toArray, List.set_cons_succ, List.set_cons_zero, Nat.zero_add, Nat.reduceAdd, g0, g1, g2, g3, g4, g5, g6, g7]
          clear g0 g1 g2 g3 g4 g5 g6 g7 hv
          obtain ⟨c1, c2, c4⟩ := hC
          have s18 := c1.setP k8 (by omega) (by omega) (by omega) (ag PD)
          have o18 := c2.setRow k8 (by decide) (ag PD)
          have r18 := k8.setRow (ag PD)
          go_upto_region 20 with (first
            | (refine wpList_store_row rfl 23 (.tmp 17) (.tmp 76) rfl _ rfl _ rfl _ _ k8 Tryd.info23 (by rw [ag_size]; exact lPD) (ag_one _) ?_)
            | fail)
          clear k8 c1 c2 c4
          generalize w1.setRow q8 (ag PD) = w11 at *
          obtain ⟨pq, hpq⟩ : ∃ pq, pq = q8 := ⟨_, rfl⟩
          rw [← hpq] at r18 ⊢
          clear hpq
          go_loopw [14, 18] (fun t j wr => ∃ kc : Nat, kc ≤ n ∧ j = .int .i64 (kc : Int) ∧ Own N wr t (out ++ Gf.padded l' PD kc) ∧ En key sb N ne po N w wr o key ∧ Row wr pq 23 (ag PD)) (fun _ j _ => n - (intOf j).toNat)
          case atStart => exact ⟨0, by omega, rfl, by rw [show Gf.padded l' PD 0 = [] from rfl, List.append_nil]; exact o18, s18, r18⟩
          case round =>
            clear o18 s18 r18
            obtain ⟨kc, hk, rfl, gO, gE, gP⟩ := hrel
            have lPk : (Gf.padded l' PD kc).length = kc := by simp [Gf.padded]
            by_cases hkn : kc < n
            · obtain ⟨xb, hxb⟩ : ∃ xb, l'.getD kc 0 = xb := ⟨_, rfl⟩
              obtain ⟨yb, hyb⟩ : ∃ yb, PD.getD kc 0 = yb := ⟨_, rfl⟩
              have hCX := HCELL.out kc hkn
              rw [hxb] at hCX
              have hCX := Box'.mk hCX
              have MK : Box' (out ++ Gf.padded l' PD kc ++ [Gf.bx xb yb] = out ++ Gf.padded l' PD (kc + 1)) := ⟨by rw [List.append_assoc]; congr 1; rw [← hxb, ← hyb]; simp [Gf.padded, List.range_succ]⟩
              have xx := xor_bx xb yb
              have hxl := xb.toNat_lt
              have hyl := yb.toNat_lt
              go_upto_region 22 with (fail)
              refine wp_region_grow 10 (by kernel_rfl) (by kernel_rfl) (fun a b => Below a.heap.size a b) (fun w3 => En key sb N ne po N w w3 o key ∧ Own N w3 u14 (out ++ Gf.padded l' PD kc) ∧ Row w3 pq 23 (ag PD)) (fun k w1 v => match k with
                | 0 => v = u14
                | 1 => v = .slice (some ⟨b, oo, none⟩) n c
                | 2 => v = .int .i64 (kc : Int)
                | 3 => v = .pointer (some ⟨b, oo + kc, none⟩)
                | 4 => v = .int .u8 (xb.toNat : Int)
                | 5 => v = .int .i64 (kc : Int)
                | 6 => v = .pointer (some ⟨pq, kc, none⟩)
                | 7 => v = .int .u8 (yb.toNat : Int)
                | 8 => v = .int .u8 ((Gf.bx xb yb).toNat : Int)
                | 9 => ∃ q, v = .slice (some ⟨q, 0, none⟩) 1 1 ∧ Row w1 q 5 (ag [Gf.bx xb yb])
                | _ => True) ?_ ?_ ?_ ?_ ?_
              · rintro a b hb ⟨c1, c2, c3⟩
                exact ⟨c1.below hb, c2.below hb, c3.below hb c3.lt⟩
              · intro k v w1 w2 hC1 hb h
                match k, h with
                | 0, h => exact h
                | 1, h => exact h
                | 2, h => exact h
                | 3, h => exact h
                | 4, h => exact h
                | 5, h => exact h
                | 6, h => exact h
                | 7, h => exact h
                | 8, h => exact h
                | 9, ⟨q, e, r⟩ => exact ⟨q, e, r.below hb r.lt⟩
                | k + 10, h => trivial
              · exact ⟨gE.drew, gO.drew, gP.drew⟩
              · refine ⟨?_, ?_, ?_, ?_, ?_, ?_, ?_, ?_, ?_, ?_, trivial⟩
                · intro f w1 hC hd KK hK
                  simp only [List.take_succ_cons, List.take_zero, setAll, List.setIfInBounds_toArray, List.set_cons_succ, List.set_cons_zero, Nat.zero_add, Nat.reduceAdd] at hK ⊢
                  refine wp_of_quiet rfl ?_
                  go_big_quiet_step (fail)
                  exact wpQuiet_nil (hK _ _ rfl (Below.refl _ _))
                · intro f w1 hC hd KK hK
                  simp only [List.take_succ_cons, List.take_zero, setAll, List.setIfInBounds_toArray, List.set_cons_succ, List.set_cons_zero, Nat.zero_add, Nat.reduceAdd] at hK ⊢
                  refine wp_of_quiet rfl ?_
                  go_big_quiet_step (fail)
                  exact wpQuiet_nil (hK _ _ rfl (Below.refl _ _))
                · intro f w1 hC hd KK hK
                  simp only [List.take_succ_cons, List.take_zero, setAll, List.setIfInBounds_toArray, List.set_cons_succ, List.set_cons_zero, Nat.zero_add, Nat.reduceAdd] at hK ⊢
                  refine wp_of_quiet rfl ?_
                  go_big_quiet_step (fail)
                  exact wpQuiet_nil (hK _ _ rfl (Below.refl _ _))
                · intro f w1 hC hd KK hK
                  have g1 : f 1 = _ := hd 1 rfl
                  have g2 : f 2 = _ := hd 2 rfl
                  simp only [List.take_succ_cons, List.take_zero, setAll, List.setIfInBounds_toArray, List.set_cons_succ, List.set_cons_zero, Nat.zero_add, Nat.reduceAdd, g1, g2] at hK ⊢
                  refine wp_of_quiet rfl ?_
                  go_big_quiet_step (fail)
                  exact wpQuiet_nil (hK _ _ rfl (Below.refl _ _))
                · intro f w1 hC hd KK hK
                  have hcx : w1.cell? ⟨b, oo + kc, none⟩ = some (.int .u8 (xb.toNat : Int)) := by
                    have h1 := hCX.out w1 hC.1.bl
                    exact h1
                  have g3 : f 3 = _ := hd 3 rfl
                  simp only [List.take_succ_cons, List.take_zero, setAll, List.setIfInBounds_toArray, List.set_cons_succ, List.set_cons_zero, Nat.zero_add, Nat.reduceAdd, g3] at hK ⊢
                  refine wp_of_quiet rfl ?_
                  go_big_quiet_step (fail)
                  exact wpQuiet_nil (hK _ _ rfl (Below.refl _ _))
                · intro f w1 hC hd KK hK
                  simp only [List.take_succ_cons, List.take_zero, setAll, List.setIfInBounds_toArray, List.set_cons_succ, List.set_cons_zero, Nat.zero_add, Nat.reduceAdd] at hK ⊢
                  refine wp_of_quiet rfl ?_
                  go_big_quiet_step (fail)
                  exact wpQuiet_nil (hK _ _ rfl (Below.refl _ _))
                · intro f w1 hC hd KK hK
                  have g5 : f 5 = _ := hd 5 rfl
                  simp only [List.take_succ_cons, List.take_zero, setAll, List.setIfInBounds_toArray, List.set_cons_succ, List.set_cons_zero, Nat.zero_add, Nat.reduceAdd, g5] at hK ⊢
                  refine wp_of_quiet rfl ?_
                  go_big_quiet_step (fail)
                  exact wpQuiet_nil (hK _ _ rfl (Below.refl _ _))
                · intro f w1 hC hd KK hK
                  have hcy : w1.cell? ⟨pq, kc, none⟩ = some (.int .u8 (yb.toNat : Int)) := cell_form (hC.2.2.byte (k := kc) (by omega)) hyb
                  have g6 : f 6 = _ := hd 6 rfl
                  simp only [List.take_succ_cons, List.take_zero, setAll, List.setIfInBounds_toArray, List.set_cons_succ, List.set_cons_zero, Nat.zero_add, Nat.reduceAdd, g6] at hK ⊢
                  refine wp_of_quiet rfl ?_
                  go_big_quiet_step (fail)
                  exact wpQuiet_nil (hK _ _ rfl (Below.refl _ _))
                · intro f w1 hC hd KK hK
                  have g4 : f 4 = _ := hd 4 rfl
                  have g7 : f 7 = _ := hd 7 rfl
                  simp only [List.take_succ_cons, List.take_zero, setAll, List.setIfInBounds_toArray, List.set_cons_succ, List.set_cons_zero, Nat.zero_add, Nat.reduceAdd, g4, g7] at hK ⊢
                  refine wp_of_quiet rfl ?_
                  go_big_quiet_step (fail)
                  exact wpQuiet_nil (hK _ _ rfl (Below.refl _ _))
                · intro f w1 hC hd KK hK
                  have g8 : f 8 = _ := hd 8 rfl
                  simp only [List.take_succ_cons, List.take_zero, setAll, List.setIfInBounds_toArray, List.set_cons_succ, List.set_cons_zero, Nat.zero_add, Nat.reduceAdd, g8] at hK ⊢
                  exact wp_build1 _ rfl _ rfl (hK _ _ ⟨_, rfl, Row.new _ _ _⟩ ((Below.refl _ _).alloc (Nat.le_refl _) _))
              · intro f w1 hC hv
                have g0 : f 0 = _ := hv 0 (by decide)
                have g1 : f 1 = _ := hv 1 (by decide)
                have g2 : f 2 = _ := hv 2 (by decide)
                have g3 : f 3 = _ := hv 3 (by decide)
                have g4 : f 4 = _ := hv 4 (by decide)
                have g5 : f 5 = _ := hv 5 (by decide)
                have g6 : f 6 = _ := hv 6 (by decide)
                have g7 : f 7 = _ := hv 7 (by decide)
                have g8 : f 8 = _ := hv 8 (by decide)
                obtain ⟨q9, g9, r9⟩ := hv 9 (by decide)
                simp only [List.take_succ_cons, List.take_zero, List.drop_succ_cons, List.drop_zero, setAll, List.setIfInBounds_toArray, List.set_cons_succ, List.set_cons_zero, Nat.zero_add, Nat.reduceAdd, g0, g1, g2, g3, g4, g5, g6, g7, g8, g9]
                clear g0 g1 g2 g3 g4 g5 g6 g7 g8 g9 hv
                obtain ⟨c1, c2, c3⟩ := hC
                have hnc : ∀ j u, ([Gf.bx xb yb].map B)[j]? = some u → w1.cell? ((⟨q9, 0, none⟩ : Addr).add j) = some u := fun j u hu => by
                  rw [Addr.add_mid, Nat.zero_add, r9.cell]; simpa [ag] using hu
                have hNs := c1.size
                go_wp2_with (first
                  | (refine wpList_append_bytes rfl (.tmp 83) (.tmp 92) rfl N hNs u14 (out ++ Gf.padded l' PD kc) rfl c2 ⟨q9, 0, none⟩ 1 1 [Gf.bx xb yb] rfl rfl hnc (by rw [List.length_append, lPk]; simp; omega) (fun v8 w8 ho8 ha8 => ?_))
                  | fail)
                rw [MK.out] at ho8
                exact ⟨⟨kc + 1, by omega, by go_num, ho8, c1.apd ha8, ha8.rows _ _ _ (by decide) c3⟩, by simp [intOf]; omega⟩
            · obtain rfl : n = kc := by omega
              rw [HS.out] at gO
              have hEr := gE
              have hOr := gO
              have hsz := hEr.size
              go_wp2_with (first
                | (refine wpList_load_row rfl 23 (.tmp 4) rfl _ rfl _ _ hEr.rd _ Tryd.underlying23 rfl 16 Tryd.info23 (by rw [ag_size]; exact hkey) ?_)
                | fail)
              refine (HSeal.out _ _ hEr.bl hsz hOr.bts).mono ?_
              rintro e wS ⟨vS, rfl, hOS, hbS⟩
              have hEs := hEr.bl.trans (hbS.mono hsz)
              have hOp := hOr.below hbS
              have hsm := HSame.out _ _ hOS.bts hEs
              clear hEr hOr hbS hOS
              cases hdec : decide (SLd = ls) with
              | true =>
                rw [hdec] at hsm
                go_wp2_with (first | (go_at_call 10; refine hsm.mono ?_; rintro e wT ⟨rfl, rfl⟩) | fail)
                go_ret2
                exact ⟨hEs, .inl ⟨of_decide_eq_true hdec, _, rfl, hOp⟩⟩
              | false =>
                rw [hdec] at hsm
                go_wp2_with (first | (go_at_call 10; refine hsm.mono ?_; rintro e wT ⟨rfl, rfl⟩) | fail)
                go_ret2
                exact ⟨hEs, .inr ⟨of_decide_eq_false hdec, rfl⟩⟩
      · have hst := HR.out
        rw [Gf.turnFrom_eq, dif_neg (by omega), if_neg (by omega)] at hst
        have hn0 : n = 0 := by omega
        subst hn0
        rw [hn]
        rw [List.append_nil] at hst
        rw [hst] at hOw
        clear h3 HR hst
        have hEr := hE
        have hOr := hOw
        have hsz := hEr.size
        go_wp2_with (first
          | (refine wpList_load_row rfl 23 (.tmp 4) rfl _ rfl _ _ hEr.rd _ Tryd.underlying23 rfl 16 Tryd.info23 (by rw [ag_size]; exact hkey) ?_)
          | fail)
        refine (HSeal.out _ _ hEr.bl hsz hOr.bts).mono ?_
        rintro e wS ⟨vS, rfl, hOS, hbS⟩
        have hEs := hEr.bl.trans (hbS.mono hsz)
        have hOp := hOr.below hbS
        have hsm := HSame.out _ _ hOS.bts hEs
        clear hEr hOr hbS hOS
        cases hdec : decide (SLd = ls) with
        | true =>
          rw [hdec] at hsm
          go_wp2_with (first | (go_at_call 10; refine hsm.mono ?_; rintro e wT ⟨rfl, rfl⟩) | fail)
          go_ret2
          exact ⟨hEs, .inl ⟨of_decide_eq_true hdec, _, rfl, hOp⟩⟩
        | false =>
          rw [hdec] at hsm
          go_wp2_with (first | (go_at_call 10; refine hsm.mono ?_; rintro e wT ⟨rfl, rfl⟩) | fail)
          go_ret2
          exact ⟨hEs, .inr ⟨of_decide_eq_false hdec, rfl⟩⟩
end Go.Proofs.YtmolhljgmaoflaaDoor
