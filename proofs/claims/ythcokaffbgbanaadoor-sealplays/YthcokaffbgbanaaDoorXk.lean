/- The walk of the reference's Seal. -/
import Derived.Test.YthcokaffbgbanaaDoorXj
import Derived.Test.YthcokaffbgbanaaDoorXf
import Derived.Test.YthcokaffbgbanaaDoorXg
namespace Go.Proofs.YthcokaffbgbanaaDoor
open Go.RowKit Go.BigFrame

set_option maxRecDepth 100000 in
set_option maxHeartbeats 16000000 in
theorem refSeal_ok (key : List UInt8) (hkey : key.length = 16) (vn vb vp : Value) (ln lb lp : List UInt8) (hn1 : 0 < ln.length) (hn2 : ln.length ≤ 15) (hlb : lb.length ≤ 65536) (hlp : lp.length ≤ 65536) (w : World)
    (hn : Bts (· < w.heap.size) w vn ln) (hb : Bts (· < w.heap.size) w vb lb) (hp : Bts (· < w.heap.size) w vp lp) :
    Calls Tryd.prog 36 #[.agg (ag key), vn, vb, vp] w fun e w' => ∃ v', e = .returned (.tuple #[v', .int .i64 0]) ∧ Own w.heap.size w' v' (Gf.sealed key ln lb lp) ∧ Below w.heap.size w w' := by
  obtain ⟨an, cn, rfl, hcn, hn3⟩ := hn
  obtain ⟨ab, cb, rfl, hcb, hb3⟩ := hb
  obtain ⟨ap, cp0, rfl, hcp, hp3⟩ := hp
  have hn : Bts (· < w.heap.size) w (.slice an ln.length cn) ln := ⟨an, cn, rfl, hcn, hn3⟩
  have hb : Bts (· < w.heap.size) w (.slice ab lb.length cb) lb := ⟨ab, cb, rfl, hcb, hb3⟩
  have hp : Bts (· < w.heap.size) w (.slice ap lp.length cp0) lp := ⟨ap, cp0, rfl, hcp, hp3⟩
  clear hn3 hb3 hp3
  have hbad := fun w => bad_any an ln.length cn ab lb.length cb (lp.length : Int) (by unfold maxLen; omega) (by unfold maxLen; omega) w
  have hb0 : Gf.badE ln.length lb.length (lp.length : Int) = 0 := by unfold Gf.badE; rw [if_neg (by omega), if_neg (by omega)]
  rw [hb0] at hbad
  clear hb0
  obtain ⟨S1, hS1⟩ : ∃ S1, (Gf.turnFrom (Gf.encrypt key) key (Gf.star key) 1 (Gf.begin key ln) lp).1 = S1 := ⟨_, rfl⟩
  obtain ⟨S2, hS2⟩ : ∃ S2, (Gf.turnFrom (Gf.encrypt key) key (Gf.star key) 1 (Gf.begin key ln) lp).2 = S2 := ⟨_, rfl⟩
  obtain ⟨SS, hSS⟩ : ∃ SS, Gf.sumFrom (Gf.zeros 16) lp = SS := ⟨_, rfl⟩
  have lS1 : S1.length = lp.length := by rw [← hS1]; exact (Gf.turnFrom_len _ _ _ _ _ _ (Gf.begin_len _ _)).1
  obtain ⟨SL, hSL⟩ : ∃ SL, Gf.sealed key ln lb lp = SL := ⟨_, rfl⟩
  have hsl : S1 ++ Gf.bxor (Gf.encrypt key (Gf.bxor (Gf.bxor SS S2) (Gf.ell (Gf.star key) 1))) (Gf.digFrom key (Gf.star key) 1 (Gf.zeros 16) (Gf.zeros 16) lb) = SL := by rw [← hSL]; unfold Gf.sealed Gf.tag; rw [hS1, hS2, hSS]
  rw [hSL]
  have HSL0 := Box'.mk hsl
  have HR0 : Box' ([] ++ (Gf.turnFrom (Gf.encrypt key) key (Gf.star key) 1 (Gf.begin key ln) lp).1 = S1 ∧ (Gf.turnFrom (Gf.encrypt key) key (Gf.star key) 1 (Gf.begin key ln) lp).2 = S2 ∧ Gf.sumFrom (Gf.zeros 16) lp = SS) := ⟨hS1, hS2, hSS⟩
  clear hsl hSL hS1 hS2 hSS
  have lBG := Gf.begin_len key ln
  obtain ⟨N, hN⟩ : ∃ N, w.heap.size = N := ⟨_, rfl⟩
  rw [hN] at hn hb hp ⊢
  obtain ⟨Z, zs, zz⟩ : ∃ Z : Array Value, Z.size = 209 ∧ (Tryd.prog.info? 110).map (fun i => (i.zero, i.size)) = some (some (.agg Z), 209) := ⟨_, els_size _ _ _ _ (List.length_replicate) rfl rfl, Tryd.zero110⟩
  have ZZ := Box'.mk zz
  clear zz
  have b0 : Below N w (w.alloc (.cells (ag key) 23)) := by rw [← hN]; exact (Below.refl _ _).alloc (Nat.le_refl _) _
  have r0 : Row (w.alloc (.cells (ag key) 23)) N 23 (ag key) := by rw [← hN]; exact Row.new _ _ _
  have z0 : (w.alloc (.cells (ag key) 23)).heap.size = N + 1 := by simp [hN]
  go_enter Tryd.func36, Tryd.ntmps36
  go_wp2_with (first
    | (go_at_call 51; refine (hbad _).mono ?_; rintro e w1 ⟨rfl, rfl⟩)
    | (refine wpList_load_row rfl 23 (.tmp 4) rfl _ rfl _ _ r0 _ Tryd.underlying23 rfl 16 Tryd.info23 (by rw [ag_size]; exact hkey) ?_)
    | fail)
  refine (newElls_any key hkey _).mono ?_
  rintro e w1 ⟨sb, rfl, t1, hb1⟩
  have bl1 : Below N w w1 := b0.trans (hb1.mono (by omega))
  have hz1 := bl1.size
  have rc : ∀ {w3 : World} {b : Nat}, Row w3 b 110 (elk key sb) → _ := fun {w3} {b} h => elk_range (w := w3) (b := b) h
  have lCP := cipk_size key sb
  have en : ∀ (b : List UInt8), b.length = 16 → ∀ w3, Row w3 sb 118 (ag Gf.sbox) → Calls Tryd.prog 57 #[.agg (cip (.pointer (some ⟨sb, 0, none⟩)) (Gf.keys Gf.sbox key)), .agg (ag b)] w3 fun e w' => e = .returned (.agg (ag (Gf.encrypt key b))) ∧ Below w3.heap.size w3 w' := fun b hb w3 h => elk_enc key b hb h
  generalize cip (.pointer (some ⟨sb, 0, none⟩)) (Gf.keys Gf.sbox key) = CP at *
  have RC := Box'.mk @rc
  have EC := Box'.mk en
  clear rc en hb1 b0 r0 z0
  have le := elk_size key sb
  have oe := elk_one key sb
  have q54 : Room (w1.alloc (.cells Z 110)) w1.heap.size 110 209 := Room.new _ _ _ _ zs
  have ba2 : Below w1.heap.size w1 (w1.alloc (.cells (elk key sb) 110)) := (Below.refl _ _).alloc (Nat.le_refl _) _
  have e2 : Row (w1.alloc (.cells (elk key sb) 110)) w1.heap.size 110 (elk key sb) := Row.new _ _ _
  have t2 := t1.below ba2 t1.lt
  have bl2 : Below N w (w1.alloc (.cells (elk key sb) 110)) := bl1.trans (ba2.mono (by omega))
  clear t1 ba2 bl1
  generalize hEL : elk key sb = EL at *
  have HEL := Box'.mk hEL
  clear hEL
  go_wp2_with (first
    | (refine wpList_alloc_row rfl 110 rfl _ _ ZZ.out ?_)
    | (refine wpList_store_row rfl 110 (.tmp 11) (.tmp 30) rfl _ rfl _ rfl _ _ q54 Tryd.info110 le oe ?_; rw [World.setRow_alloc_new])
    | (refine wpList_load_row rfl 110 (.tmp 11) rfl _ rfl _ _ e2 _ Tryd.underlying110 rfl 209 Tryd.info110 le ?_)
    | fail)
  obtain rfl := HEL.out
  clear HEL le oe
  refine (refBegin_any (· < N) key _ ln hn1 hn2 _ (hn.up fun b hb => bl2.block b hb) sb t2).mono ?_
  rintro e w3 ⟨rfl, hb3⟩
  generalize hBG : Gf.begin key ln = BG at *
  clear hBG q54
  generalize hne : w1.heap.size = ne at *
  clear hne
  have e3 := e2.below hb3 e2.lt
  have t3 := t2.below hb3 t2.lt
  have bl3 : Below N w w3 := bl2.trans (hb3.mono (by have := bl2.size; omega))
  have hz3 := bl3.size
  rw [hN] at hz3
  clear e2 t2 bl2 hb3
  have qz : Room (w3.alloc (.cells (ag (Gf.zeros 16)) 23)) w3.heap.size 23 16 := Room.new _ _ _ _ rfl
  have sE : En key sb N ne w3.heap.size (w3.heap.size + 1) w ((w3.alloc (.cells (ag BG) 23)).alloc (.cells (ag (Gf.zeros 16)) 23)) BG (Gf.zeros 16) := by
    have ba : Below w3.heap.size w3 ((w3.alloc (.cells (ag BG) 23)).alloc (.cells (ag (Gf.zeros 16)) 23)) := ((Below.refl _ _).alloc (Nat.le_refl _) _).alloc (by simp) _
    exact ⟨e3.below ba e3.lt, t3.below ba t3.lt, (Row.new _ _ _).alloc _, Row.made _ _ _ _ _ rfl (by simp), bl3.trans (ba.mono hz3), hz3, by omega, by omega⟩
  go_wp2_with (first
    | (refine wpList_alloc_row rfl 23 rfl _ _ Tryd.zero23 ?_)
    | (refine wpList_store_row rfl 23 (.tmp 12) (.tmp 33) rfl _ rfl _ rfl _ _ qz Tryd.info23 (by rw [ag_size]; exact lBG) (ag_one _) ?_; rw [World.setRow_alloc_new])
    | fail)
  have hBp : Bts (· < N) ((w3.alloc (.cells (ag BG) 23)).alloc (.cells (ag (Gf.zeros 16)) 23)) (.slice ap lp.length cp0) lp := hp.up fun b hb => sE.bl.block b hb
  have oN : Own N ((w3.alloc (.cells (ag BG) 23)).alloc (.cells (ag (Gf.zeros 16)) 23)) (.slice none 0 0) [] := Own.nil _ _
  generalize (w3.alloc (.cells (ag BG) 23)).alloc (.cells (ag (Gf.zeros 16)) 23) = W5 at *
  generalize w3.heap.size = po at *
  generalize hpd : po + 1 = pd at *
  have hopd : po < pd := by omega
  clear hpd qz e3 t3 bl3 hz3
  have RS : Box' (∀ {w3 : World}, Row w3 ne 110 (elk key sb) → w3.rangeAt ne 193 ((Gf.dblk (Gf.star key)).map B)) := ⟨fun h => (RC.out h).2.2⟩
  have lCS := Gf.dblk_len (Gf.star key)
  have hy : ∀ dF oF : List UInt8, dF.length = 16 → oF.length = 16 → ∃ y1 y2 y3 DG TG : List UInt8,
      (∀ w3, Calls Tryd.prog 55 #[.agg (ag dF), .agg (ag oF)] w3 fun e w' => e = .returned (.agg (ag y1)) ∧ Below w3.heap.size w3 w') ∧
      (∀ w3, Calls Tryd.prog 55 #[.agg (ag y1), .agg (ag (Gf.dblk (Gf.star key)))] w3 fun e w' => e = .returned (.agg (ag y2)) ∧ Below w3.heap.size w3 w') ∧
      (∀ w3, Row w3 sb 118 (ag Gf.sbox) → Calls Tryd.prog 57 #[.agg CP, .agg (ag y2)] w3 fun e w' => e = .returned (.agg (ag y3)) ∧ Below w3.heap.size w3 w') ∧
      (∀ w3, Below N w w3 → Row w3 sb 118 (ag Gf.sbox) → N ≤ w3.heap.size → Calls Tryd.prog 59 #[.agg (elk key sb), .slice ab lb.length cb] w3 fun e w' => e = .returned (.agg (ag DG)) ∧ Below w3.heap.size w3 w') ∧
      (∀ w3, Calls Tryd.prog 55 #[.agg (ag y3), .agg (ag DG)] w3 fun e w' => e = .returned (.agg (ag TG)) ∧ Below w3.heap.size w3 w') ∧ TG.length = 16 ∧ (dF = SS → oF = S2 → SL = S1 ++ TG) := by
    intro dF oF h1 h2
    refine ⟨Gf.bxor dF oF, Gf.bxor (Gf.bxor dF oF) (Gf.dblk (Gf.star key)), Gf.encrypt key (Gf.bxor (Gf.bxor dF oF) (Gf.dblk (Gf.star key))), Gf.digFrom key (Gf.star key) 1 (Gf.zeros 16) (Gf.zeros 16) lb, _, fun w3 => refPlus_any _ _ h1 h2 w3, fun w3 => refPlus_any _ _ (Gf.bxor_len _ _) lCS w3, fun w3 h => EC.out _ (Gf.bxor_len _ _) w3 h, fun w3 hb3 ht3 hs3 => ?_, fun w3 => refPlus_any _ _ (Gf.encrypt_len _ _) (Gf.digFrom_len _ _ _ _ _ _ rfl) w3, Gf.bxor_len _ _, fun e1 e2 => ?_⟩
    · exact refDigest_any key _ lb hlb w3 sb ht3 (hb.keep fun b hbb => ⟨by omega, hb3.block b hbb⟩)
    · have e3 : Gf.ell (Gf.star key) 1 = Gf.dblk (Gf.star key) := rfl
      rw [e1, e2, ← HSL0.out, e3]
  have HY := Box'.mk hy
  clear hy HSL0 hb hn hp hbad
  generalize Gf.dblk (Gf.star key) = CS at *
  generalize hnb : lb.length = nb at *
  generalize hmp : lp.length = mp at *
  clear hnb
  go_loopw [3, 14, 15] (fun t ou j wr => ∃ (i : Nat) (l' o d out : List UInt8), 0 < i ∧ 16 * i + l'.length ≤ 65552 ∧ out.length + l'.length = mp ∧ j = .int .i64 (i : Int) ∧ Bts (· < N) wr t l' ∧ Own N wr ou out ∧ o.length = 16 ∧ d.length = 16 ∧ En key sb N ne po pd w wr o d ∧ Box' (out ++ (Gf.turnFrom (Gf.encrypt key) key (Gf.star key) i o l').1 = S1 ∧ (Gf.turnFrom (Gf.encrypt key) key (Gf.star key) i o l').2 = S2 ∧ Gf.sumFrom d l' = SS)) (fun t _ _ _ => sliceLen t)
  case atStart => exact ⟨1, lp, _, _, [], by omega, by omega, by simp; exact hmp, rfl, hBp, oN, lBG, rfl, sE, HR0⟩
  case round =>
    clear hBp oN sE HR0 hmp
    obtain ⟨i, l', o, d, out, hi0, hi1, hlen, rfl, hB1, hOw, lo, ld, hE, HR⟩ := hrel
    obtain ⟨a, c, rfl, hcl, h3⟩ := hB1
    obtain ⟨n, hn⟩ : ∃ n, l'.length = n := ⟨_, rfl⟩
    by_cases h16 : 16 ≤ n
    · rcases h3 with rfl | ⟨b, oo, rfl, hbN, hr⟩
      · simp at hn; omega
      have hfirst : Bts (· < N) wr (.slice (some ⟨b, oo, none⟩) 16 c) (l'.take 16) := Bts.first (by omega) hcl hbN hr
      have hrest0 : Bts (· < N) wr (rest16 b oo l'.length c) (l'.drop 16) := Bts.rest (by omega) hcl hbN hr
      have lTK : (l'.take 16).length = 16 := by rw [List.length_take]; omega
      have lDR : (l'.drop 16).length = n - 16 := by rw [List.length_drop]; omega
      have hAt := fun w => refAt_any key sb i hi0 (by omega) w
      have lLL := Gf.ell_len (Gf.star key) (Gf.star_len key) (2 + Gf.ntz i)
      have hst := HR.out
      rw [Gf.turnFrom_eq, dif_pos (by omega), Gf.sumFrom_eq, dif_pos (by omega)] at hst
      generalize Gf.ell (Gf.star key) (2 + Gf.ntz i) = LL at *
      have hP1 := fun w => refPlus_any o LL lo lLL w
      have lo2 := Gf.bxor_len o LL
      generalize Gf.bxor o LL = o2 at *
      generalize l'.take 16 = TK at *
      have hPc := fun w => refPlus_any d TK ld lTK w
      have ld2 := Gf.bxor_len d TK
      generalize Gf.bxor d TK = d2 at *
      have hP2 := fun w => refPlus_any TK o2 lTK lo2 w
      have lp1 := Gf.bxor_len TK o2
      generalize Gf.bxor TK o2 = p1 at *
      have hE1 := EC.out p1 lp1
      have le1 := Gf.encrypt_len key p1
      generalize Gf.encrypt key p1 = e1 at *
      have hP3 := fun w => refPlus_any e1 o2 le1 lo2 w
      have lx1 := Gf.bxor_len e1 o2
      generalize Gf.bxor e1 o2 = x1 at *
      have HR2 : Box' (out ++ x1 ++ (Gf.turnFrom (Gf.encrypt key) key (Gf.star key) (i + 1) o2 (l'.drop 16)).1 = S1 ∧ (Gf.turnFrom (Gf.encrypt key) key (Gf.star key) (i + 1) o2 (l'.drop 16)).2 = S2 ∧ Gf.sumFrom d2 (l'.drop 16) = SS) := ⟨by rw [List.append_assoc]; exact hst.1, hst.2.1, hst.2.2⟩
      rw [hn] at hcl hrest0 hi1 hlen
      rw [hn]
      have hB16 := refBlock_any (· < N) (.slice (some ⟨b, oo, none⟩) 16 c) TK lTK wr hfirst
      clear hst hr HR
      go_wp2_with fail
      refine hB16.mono ?_
      rintro e w11 ⟨rfl, hb11⟩
      have s11 := hE.below hb11
      have o11 := hOw.below hb11
      have hz1 := s11.ro.lt
      have hz2 := s11.rd.lt
      have hzN := s11.size
      have qz : Room (w11.alloc (.cells (ag (Gf.zeros 16)) 23)) w11.heap.size 23 16 := Room.new _ _ _ _ rfl
      have hba : Below w11.heap.size w11 (w11.alloc (.cells (ag TK) 23)) := (Below.refl _ _).alloc (Nat.le_refl _) _
      have sE := s11.below hba
      have oE := o11.below hba
      have pE : Row (w11.alloc (.cells (ag TK) 23)) w11.heap.size 23 (ag TK) := Row.new _ _ _
      clear hB16 hb11 s11 o11 hba hOw
      go_upto_region 12 with (first
        | (refine wpList_alloc_row rfl 23 rfl _ _ Tryd.zero23 ?_)
        | (refine wpList_store_row rfl 23 (.tmp 16) (.tmp 41) rfl _ rfl _ rfl _ _ qz Tryd.info23 (by rw [ag_size]; exact lTK) (ag_one _) ?_; rw [World.setRow_alloc_new])
        | fail)
      clear qz
      generalize w11.alloc (.cells (ag TK) 23) = wE at *
      generalize w11.heap.size = pp at *
      refine wp_region_grow 5 (by kernel_rfl) (by kernel_rfl) (fun a b => Below a.heap.size a b) (fun w3 => En key sb N ne po pd w w3 o d ∧ Own N w3 u14 out ∧ Row w3 pp 23 (ag TK)) (fun k w1 v => match k with
        | 0 => v = .agg (ag o)
        | 1 => v = .agg (elk key sb)
        | 2 => v = .int .i64 (i : Int)
        | 3 => v = .agg (ag LL)
        | 4 => v = .agg (ag o2)
        | _ => True) ?_ ?_ ?_ ?_ ?_
      · rintro a b hb ⟨c1, c2, c3⟩
        exact ⟨c1.below hb, c2.below hb, c3.below hb c3.lt⟩
      · intro k v w1 w2 hC1 hb h
        match k, h with
        | 0, h => exact h
        | 1, h => exact h
        | 2, h => exact h
        | 3, h => exact h
        | 4, h => exact h
        | k + 5, h => trivial
      · exact ⟨sE.drew, oE.drew, pE.drew⟩
      · refine ⟨?_, ?_, ?_, ?_, ?_, trivial⟩
        · intro f w1 hC hd KK hK
          simp only [List.take_succ_cons, List.take_zero, setAll, List.setIfInBounds_toArray, List.set_cons_succ, List.set_cons_zero, Nat.zero_add, Nat.reduceAdd] at hK ⊢
          refine wp_load_row 23 _ rfl _ rfl _ _ (hC.1.ro) _ Tryd.underlying23 rfl 16 Tryd.info23 (by rw [ag_size]; exact lo) ?_
          exact hK _ _ rfl (Below.refl _ _)
        · intro f w1 hC hd KK hK
          simp only [List.take_succ_cons, List.take_zero, setAll, List.setIfInBounds_toArray, List.set_cons_succ, List.set_cons_zero, Nat.zero_add, Nat.reduceAdd] at hK ⊢
          refine wp_load_row 110 _ rfl _ rfl _ _ (hC.1.el) _ Tryd.underlying110 rfl 209 Tryd.info110 (elk_size _ _) ?_
          exact hK _ _ rfl (Below.refl _ _)
        · intro f w1 hC hd KK hK
          simp only [List.take_succ_cons, List.take_zero, setAll, List.setIfInBounds_toArray, List.set_cons_succ, List.set_cons_zero, Nat.zero_add, Nat.reduceAdd] at hK ⊢
          refine wp_of_quiet rfl ?_
          go_big_quiet_step (fail)
          exact wpQuiet_nil (hK _ _ rfl (Below.refl _ _))
        · intro f w1 hC hd KK hK
          have g1 : f 1 = _ := hd 1 rfl
          have g2 : f 2 = _ := hd 2 rfl
          simp only [List.take_succ_cons, List.take_zero, setAll, List.setIfInBounds_toArray, List.set_cons_succ, List.set_cons_zero, Nat.zero_add, Nat.reduceAdd, g1, g2] at hK ⊢
          exact wp_call 56 #[.agg (elk key sb), .int .i64 (i : Int)] (by simp [go_sem]) _ _ (hAt _) (fun w' hb => hK _ _ rfl hb)
        · intro f w1 hC hd KK hK
          have g0 : f 0 = _ := hd 0 rfl
          have g3 : f 3 = _ := hd 3 rfl
          simp only [List.take_succ_cons, List.take_zero, setAll, List.setIfInBounds_toArray, List.set_cons_succ, List.set_cons_zero, Nat.zero_add, Nat.reduceAdd, g0, g3] at hK ⊢
          exact wp_call 55 #[.agg (ag o), .agg (ag LL)] (by simp [go_sem]) _ _ (hP1 _) (fun w' hb => hK _ _ rfl hb)
      · intro f w1 hC hv
        have g0 : f 0 = _ := hv 0 (by decide)
        have g1 : f 1 = _ := hv 1 (by decide)
        have g2 : f 2 = _ := hv 2 (by decide)
        have g3 : f 3 = _ := hv 3 (by decide)
        have g4 : f 4 = _ := hv 4 (by decide)
        simp only [List.take_succ_cons, List.take_zero, List.drop_succ_cons, List.drop_zero, setAll, List.setIfInBounds_toArray, List.set_cons_succ, List.set_cons_zero, Nat.zero_add, Nat.reduceAdd, g0, g1, g2, g3, g4]
        clear g0 g1 g2 g3 g4 hv
        obtain ⟨c1, c2, c3⟩ := hC
        have s12 := c1.setO o2
        have hro := c1.ro.room (n := 16) (by rw [ag_size]; exact lo)
        have o12 := c2.setRow hro (by decide) (ag o2)
        have p12 := c3.setRowOther po (ag o2) (by omega)
        clear c1 c2 c3
        go_upto_region 13 with (first
          | (refine wpList_store_row rfl 23 (.tmp 12) (.tmp 46) rfl _ rfl _ rfl _ _ hro Tryd.info23 (by rw [ag_size]; exact lo2) (ag_one _) ?_)
          | fail)
        generalize w1.setRow po (ag o2) = w12 at *
        go_wp2_with (first
          | (refine wpList_load_row rfl 23 (.tmp 13) rfl _ rfl _ _ s12.rd _ Tryd.underlying23 rfl 16 Tryd.info23 (by rw [ag_size]; exact ld) ?_)
          | (refine wpList_load_row rfl 23 (.tmp 16) rfl _ rfl _ _ p12 _ Tryd.underlying23 rfl 16 Tryd.info23 (by rw [ag_size]; exact lTK) ?_)
          | fail)
        refine (hPc _).mono ?_
        rintro e w13 ⟨rfl, hb13⟩
        have t13 := s12.below hb13
        have hrd := t13.rd.room (n := 16) (by rw [ag_size]; exact ld)
        have s13 := t13.setD d2
        have o13 := (o12.below hb13).setRow hrd (by decide) (ag d2)
        have p13 := (p12.below hb13 p12.lt).setRowOther pd (ag d2) (by omega)
        clear t13 s12 o12 p12 hb13 hro
        go_upto_region 14 with (first
          | (refine wpList_store_row rfl 23 (.tmp 13) (.tmp 49) rfl _ rfl _ rfl _ _ hrd Tryd.info23 (by rw [ag_size]; exact ld2) (ag_one _) ?_)
          | fail)
        generalize w13.setRow pd (ag d2) = w14 at *
        obtain ⟨Q0, hQ0⟩ : ∃ Q0, Q0 = w14.heap.size := ⟨_, rfl⟩
        have hq1 := s13.ro.lt
        have hq2 := s13.rd.lt
        have hq3 := p13.lt
        rw [← hQ0] at hq1 hq2 hq3
        have HQ0 := Box'.mk hQ0
        clear hQ0
        refine wp_region_grow 9 (by kernel_rfl) (by kernel_rfl) (fun a b => Below a.heap.size a b) (fun w3 => En key sb N ne po pd w w3 o2 d2 ∧ Own N w3 u14 out ∧ Row w3 pp 23 (ag TK) ∧ Q0 ≤ w3.heap.size) (fun k w1 v => match k with
          | 0 => v = .pointer (some ⟨ne, 0, none⟩)
          | 1 => v = .agg CP
          | 2 => v = .agg (ag TK)
          | 3 => v = .agg (ag o2)
          | 4 => v = .agg (ag p1)
          | 5 => v = .agg (ag e1)
          | 6 => v = .agg (ag o2)
          | 7 => v = .agg (ag x1)
          | 8 => ∃ q, v = .pointer (some ⟨q, 0, none⟩) ∧ Room w1 q 23 16 ∧ Q0 ≤ q
          | _ => True) ?_ ?_ ?_ ?_ ?_
        · rintro a b hb ⟨c1, c2, c3, c4⟩
          exact ⟨c1.below hb, c2.below hb, c3.below hb c3.lt, by have := hb.size; omega⟩
        · intro k v w1 w2 hC1 hb h
          match k, h with
          | 0, h => exact h
          | 1, h => exact h
          | 2, h => exact h
          | 3, h => exact h
          | 4, h => exact h
          | 5, h => exact h
          | 6, h => exact h
          | 7, h => exact h
          | 8, ⟨q, e, r, hq⟩ => exact ⟨q, e, r.below hb (r.elim fun _ h => h.1.lt), hq⟩
          | k + 9, h => trivial
        · exact ⟨s13.drew, o13.drew, p13.drew, by rw [HQ0.out]; exact Nat.le_refl _⟩
        · refine ⟨?_, ?_, ?_, ?_, ?_, ?_, ?_, ?_, ?_, trivial⟩
          · intro f w1 hC hd KK hK
            simp only [List.take_succ_cons, List.take_zero, setAll, List.setIfInBounds_toArray, List.set_cons_succ, List.set_cons_zero, Nat.zero_add, Nat.reduceAdd] at hK ⊢
            refine wp_of_quiet rfl ?_
            go_big_quiet_step (fail)
            exact wpQuiet_nil (hK _ _ rfl (Below.refl _ _))
          · intro f w1 hC hd KK hK
            have g0 : f 0 = _ := hd 0 rfl
            simp only [List.take_succ_cons, List.take_zero, setAll, List.setIfInBounds_toArray, List.set_cons_succ, List.set_cons_zero, Nat.zero_add, Nat.reduceAdd, g0] at hK ⊢
            refine _root_.Go.wp_load_mid 108 _ rfl _ _ rfl CP.toList _ (RC.out hC.1.el).1 Tryd.underlying108 rfl (by rw [Tryd.info108, Array.length_toList, lCP]) ?_
            rw [Array.toArray_toList]
            exact hK _ _ rfl (Below.refl _ _)
          · intro f w1 hC hd KK hK
            simp only [List.take_succ_cons, List.take_zero, setAll, List.setIfInBounds_toArray, List.set_cons_succ, List.set_cons_zero, Nat.zero_add, Nat.reduceAdd] at hK ⊢
            refine wp_load_row 23 _ rfl _ rfl _ _ (hC.2.2.1) _ Tryd.underlying23 rfl 16 Tryd.info23 (by rw [ag_size]; exact lTK) ?_
            exact hK _ _ rfl (Below.refl _ _)
          · intro f w1 hC hd KK hK
            simp only [List.take_succ_cons, List.take_zero, setAll, List.setIfInBounds_toArray, List.set_cons_succ, List.set_cons_zero, Nat.zero_add, Nat.reduceAdd] at hK ⊢
            refine wp_load_row 23 _ rfl _ rfl _ _ (hC.1.ro) _ Tryd.underlying23 rfl 16 Tryd.info23 (by rw [ag_size]; exact lo2) ?_
            exact hK _ _ rfl (Below.refl _ _)
          · intro f w1 hC hd KK hK
            have g2 : f 2 = _ := hd 2 rfl
            have g3 : f 3 = _ := hd 3 rfl
            simp only [List.take_succ_cons, List.take_zero, setAll, List.setIfInBounds_toArray, List.set_cons_succ, List.set_cons_zero, Nat.zero_add, Nat.reduceAdd, g2, g3] at hK ⊢
            exact wp_call 55 #[.agg (ag TK), .agg (ag o2)] (by simp [go_sem]) _ _ (hP2 _) (fun w' hb => hK _ _ rfl hb)
          · intro f w1 hC hd KK hK
            have g1 : f 1 = _ := hd 1 rfl
            have g4 : f 4 = _ := hd 4 rfl
            simp only [List.take_succ_cons, List.take_zero, setAll, List.setIfInBounds_toArray, List.set_cons_succ, List.set_cons_zero, Nat.zero_add, Nat.reduceAdd, g1, g4] at hK ⊢
            exact wp_call 57 #[.agg CP, .agg (ag p1)] (by simp [go_sem]) _ _ (hE1 _ hC.1.tb) (fun w' hb => hK _ _ rfl hb)
          · intro f w1 hC hd KK hK
            simp only [List.take_succ_cons, List.take_zero, setAll, List.setIfInBounds_toArray, List.set_cons_succ, List.set_cons_zero, Nat.zero_add, Nat.reduceAdd] at hK ⊢
            refine wp_load_row 23 _ rfl _ rfl _ _ (hC.1.ro) _ Tryd.underlying23 rfl 16 Tryd.info23 (by rw [ag_size]; exact lo2) ?_
            exact hK _ _ rfl (Below.refl _ _)
          · intro f w1 hC hd KK hK
            have g5 : f 5 = _ := hd 5 rfl
            have g6 : f 6 = _ := hd 6 rfl
            simp only [List.take_succ_cons, List.take_zero, setAll, List.setIfInBounds_toArray, List.set_cons_succ, List.set_cons_zero, Nat.zero_add, Nat.reduceAdd, g5, g6] at hK ⊢
            exact wp_call 55 #[.agg (ag e1), .agg (ag o2)] (by simp [go_sem]) _ _ (hP3 _) (fun w' hb => hK _ _ rfl hb)
          · intro f w1 hC hd KK hK
            simp only [List.take_succ_cons, List.take_zero, setAll, List.setIfInBounds_toArray, List.set_cons_succ, List.set_cons_zero, Nat.zero_add, Nat.reduceAdd] at hK ⊢
            exact wp_alloc_row 23 rfl _ _ Tryd.zero23 (hK _ _ ⟨_, rfl, Room.new _ _ _ _ rfl, hC.2.2.2⟩ ((Below.refl _ _).alloc (Nat.le_refl _) _))
        · intro f w1 hC hv
          have g0 : f 0 = _ := hv 0 (by decide)
          have g1 : f 1 = _ := hv 1 (by decide)
          have g2 : f 2 = _ := hv 2 (by decide)
          have g3 : f 3 = _ := hv 3 (by decide)
          have g4 : f 4 = _ := hv 4 (by decide)
          have g5 : f 5 = _ := hv 5 (by decide)
          have g6 : f 6 = _ := hv 6 (by decide)
          have g7 : f 7 = _ := hv 7 (by decide)
          obtain ⟨q8, g8, k8, hq8⟩ := hv 8 (by decide)
          simp only [List.take_succ_cons, List.take_zero, List.drop_succ_cons, List.drop_zero, setAll, List.setIfInBounds_toArray, List.set_cons_succ, List.set_cons_zero, Nat.zero_add, Nat.reduceAdd, g0, g1, g2, g3, g4, g5, g6, g7, g8]
          clear g0 g1 g2 g3 g4 g5 g6 g7 g8 hv
          obtain ⟨c1, c2, c3, c4⟩ := hC
          have s14 := c1.setP k8 (by omega) (by omega) (by omega) (ag x1)
          have o14 := c2.setRow k8 (by decide) (ag x1)
          have r14 := k8.setRow (ag x1)
          have hxc : ∀ j u, (x1.map B)[j]? = some u → (w1.setRow q8 (ag x1)).cell? ((⟨q8, 0, none⟩ : Addr).add j) = some u := fun j u hu => by
            rw [Addr.add_mid, Nat.zero_add, r14.cell]; simpa [ag] using hu
          go_upto_region 15 with (first
            | (refine wpList_store_row rfl 23 (.tmp 17) (.tmp 57) rfl _ rfl _ rfl _ _ k8 Tryd.info23 (by rw [ag_size]; exact lx1) (ag_one _) ?_)
            | fail)
          have hNs14 := s14.size
          go_upto_region 16 with (first
            | (refine wpList_append_bytes rfl (.tmp 58) (.tmp 59) rfl N hNs14 u14 out rfl o14 ⟨q8, 0, none⟩ 16 16 x1 rfl lx1 hxc (by omega) (fun v15 w15 ho15 ha15 => ?_))
            | fail)
          have s15 := s14.apd ha15
          have hF15 := Bts.bel hrest0 hE.bl s15.bl
          clear s14 o14 r14 hxc c1 c2 c3 k8 ha15
          by_cases hc16 : c = 16
          · have hv : rest16 b oo n c = .slice (some ⟨b, oo, none⟩) (n - 16) 0 := by unfold rest16; rw [if_pos hc16, hc16]
            rw [hv] at hF15
            have hn16 : n = 16 := by omega
            subst hc16 hn16
            go_wp2_with fail
            exact ⟨⟨i + 1, l'.drop 16, o2, d2, out ++ x1, by omega, by omega, by rw [List.length_append]; omega, by go_num, hF15, ho15, lo2, ld2, s15, HR2⟩, by simp [sliceLen]⟩
          · have hv : rest16 b oo n c = .slice (some ⟨b, oo + 16, none⟩) (n - 16) (c - 16) := by unfold rest16; rw [if_neg hc16]
            rw [hv] at hF15
            go_wp2_with fail
            exact ⟨⟨i + 1, l'.drop 16, o2, d2, out ++ x1, by omega, by omega, by rw [List.length_append]; omega, by go_num, hF15, ho15, lo2, ld2, s15, HR2⟩, by simp [sliceLen]; omega⟩
    · by_cases hpos : 0 < n
      · rcases h3 with rfl | ⟨b, oo, rfl, hbN, hr⟩
        · simp at hn; omega
        have hbB : Bts (· < N) wr (.slice (some ⟨b, oo, none⟩) l'.length c) l' := ⟨_, _, rfl, hcl, .inr ⟨b, oo, rfl, hbN, hr⟩⟩
        have hPd : ∀ w3, Below N w w3 → Calls Tryd.prog 58 #[.slice (some ⟨b, oo, none⟩) n c] w3 fun e w' => e = .returned (.agg (ag (Gf.fup l'))) ∧ Below w3.heap.size w3 w' := fun w3 h3 => by
          have := refPadded_any (· < N) _ l' (by omega) (by omega) w3 (hbB.bel hE.bl h3)
          rw [hn] at this; exact this
        have hcell : ∀ k, k < n → ∀ w3, Below N w w3 → w3.cell? ⟨b, oo + k, none⟩ = some (.int .u8 ((l'.getD k 0).toNat : Int)) := fun k hk w3 h3 => by
          rw [World.cell?_of_block (w := wr) (by show w3.heap[b]? = wr.heap[b]?; rw [h3.block b hbN, hE.bl.block b hbN])]
          exact hr k _ (by simp [show k < l'.length by omega]; rfl)
        have HCELL := Box'.mk hcell
        have lFU := Gf.fup_len l' (by omega)
        have hst := HR.out
        rw [Gf.turnFrom_eq, dif_neg (by omega), if_pos (by omega), Gf.sumFrom_eq, dif_neg (by omega), if_pos (by omega)] at hst
        have lS := Gf.star_len key
        have e0 : Gf.ell (Gf.star key) 0 = Gf.star key := rfl
        rw [e0] at hst
        have RS1 : Box' (∀ {w3 : World}, Row w3 ne 110 (elk key sb) → w3.rangeAt ne 177 ((Gf.star key).map B)) := ⟨fun h => (RC.out h).2.1⟩
        generalize Gf.fup l' = FU at *
        have hP1 := fun w => refPlus_any o (Gf.star key) lo lS w
        have loF := Gf.bxor_len o (Gf.star key)
        have hPf := fun w => refPlus_any d FU ld lFU w
        have ldF := Gf.bxor_len d FU
        dsimp only at hst
        obtain ⟨hs1, hs2, hs3⟩ := hst
        rw [hs3] at hPf ldF
        rw [hs2] at hP1 loF hs1
        generalize hSK : Gf.star key = SK at *
        have hE1 := EC.out S2 loF
        have lPD := Gf.encrypt_len key S2
        generalize Gf.encrypt key S2 = PD at *
        rw [hn] at hcl hi1 hlen hs1
        rw [hn]
        have HS := Box'.mk hs1
        clear hs1 hs2 hs3 HR e0 hcell hSK
        have hst9 := RS1.out hE.el
        go_wp2_with (first
          | (refine wpList_load_row rfl 23 (.tmp 12) rfl _ rfl _ _ hE.ro _ Tryd.underlying23 rfl 16 Tryd.info23 (by rw [ag_size]; exact lo) ?_)
          | (refine wpList_load_mid rfl 23 (.tmp 67) rfl _ _ rfl (SK.map B) _ hst9 Tryd.underlying23 rfl (by rw [Tryd.info23, List.length_map, lS]) ?_)
          | fail)
        refine (hP1 _).mono ?_
        rintro e w8 ⟨rfl, hb8⟩
        have hE8 := hE.below hb8
        have hro := hE8.ro.room (n := 16) (by rw [ag_size]; exact lo)
        have hE9 := hE8.setO S2
        have hO9 := (hOw.below hb8).setRow hro (by decide) (ag S2)
        clear hb8 hE8 hst9 RS1 hE hOw
        go_upto_region 19 with (first
          | (refine wpList_store_row rfl 23 (.tmp 12) (.tmp 69) rfl _ rfl _ rfl _ _ hro Tryd.info23 (by rw [ag_size]; exact loF) (ag_one _) ?_)
          | fail)
        clear hro
        generalize w8.setRow po (ag S2) = w9 at *
        have hrc9 := (RC.out hE9.el).1
        go_wp2_with (first
          | (refine wpList_load_mid rfl 108 (.tmp 70) rfl _ _ rfl CP.toList _ hrc9 Tryd.underlying108 rfl (by rw [Tryd.info108, Array.length_toList, lCP]) ?_; rw [Array.toArray_toList])
          | (refine wpList_load_row rfl 23 (.tmp 12) rfl _ rfl _ _ hE9.ro _ Tryd.underlying23 rfl 16 Tryd.info23 (by rw [ag_size]; exact loF) ?_)
          | fail)
        refine (hE1 _ hE9.tb).mono ?_
        rintro e w10 ⟨rfl, hb10⟩
        have hba : Below w10.heap.size w10 (w10.alloc (.cells (ag PD) 23)) := (Below.refl _ _).alloc (Nat.le_refl _) _
        have qz : Room (w10.alloc (.cells (ag (Gf.zeros 16)) 23)) w10.heap.size 23 16 := Room.new _ _ _ _ rfl
        have s10 := (hE9.below hb10).below hba
        have o10 := (hO9.below hb10).below hba
        have r10 : Row (w10.alloc (.cells (ag PD) 23)) w10.heap.size 23 (ag PD) := Row.new _ _ _
        clear hb10 hba hE9 hO9 hrc9
        go_upto_region 21 with (first
          | (refine wpList_alloc_row rfl 23 rfl _ _ Tryd.zero23 ?_)
          | (refine wpList_store_row rfl 23 (.tmp 18) (.tmp 73) rfl _ rfl _ rfl _ _ qz Tryd.info23 (by rw [ag_size]; exact lPD) (ag_one _) ?_; rw [World.setRow_alloc_new])
          | fail)
        clear qz
        generalize w10.alloc (.cells (ag PD) 23) = w11 at *
        generalize w10.heap.size = pq at *
        obtain ⟨oF, hoF⟩ : ∃ oF, oF = S2 := ⟨_, rfl⟩
        rw [← hoF] at s10 loF
        have HoF := Box'.mk hoF
        clear hoF
        go_loopw [14, 19] (fun t j wr => ∃ kc : Nat, kc ≤ n ∧ j = .int .i64 (kc : Int) ∧ Own N wr t (out ++ Gf.padded l' PD kc) ∧ En key sb N ne po pd w wr oF d ∧ Row wr pq 23 (ag PD)) (fun _ j _ => n - (intOf j).toNat)
        case atStart => exact ⟨0, by omega, rfl, by rw [show Gf.padded l' PD 0 = [] from rfl, List.append_nil]; exact o10, s10, r10⟩
        case round =>
          clear o10 s10 r10
          obtain ⟨kc, hk, rfl, gO, gE, gP⟩ := hrel
          have lPk : (Gf.padded l' PD kc).length = kc := by simp [Gf.padded]
          by_cases hkn : kc < n
          · obtain ⟨xb, hxb⟩ : ∃ xb, l'.getD kc 0 = xb := ⟨_, rfl⟩
            obtain ⟨yb, hyb⟩ : ∃ yb, PD.getD kc 0 = yb := ⟨_, rfl⟩
            have hCX := HCELL.out kc hkn
            rw [hxb] at hCX
            have hCX := Box'.mk hCX
            have MK : Box' (out ++ Gf.padded l' PD kc ++ [Gf.bx xb yb] = out ++ Gf.padded l' PD (kc + 1)) := ⟨by rw [List.append_assoc]; congr 1; rw [← hxb, ← hyb]; simp [Gf.padded, List.range_succ]⟩
            have xx := xor_bx xb yb
            have hxl := xb.toNat_lt
            have hyl := yb.toNat_lt
            go_upto_region 23 with (fail)
            refine wp_region_grow 10 (by kernel_rfl) (by kernel_rfl) (fun a b => Below a.heap.size a b) (fun w3 => En key sb N ne po pd w w3 oF d ∧ Own N w3 u14 (out ++ Gf.padded l' PD kc) ∧ Row w3 pq 23 (ag PD)) (fun k w1 v => match k with
              | 0 => v = u14
              | 1 => v = .slice (some ⟨b, oo, none⟩) n c
              | 2 => v = .int .i64 (kc : Int)
              | 3 => v = .pointer (some ⟨b, oo + kc, none⟩)
              | 4 => v = .int .u8 (xb.toNat : Int)
              | 5 => v = .int .i64 (kc : Int)
              | 6 => v = .pointer (some ⟨pq, kc, none⟩)
              | 7 => v = .int .u8 (yb.toNat : Int)
              | 8 => v = .int .u8 ((Gf.bx xb yb).toNat : Int)
              | 9 => ∃ q, v = .slice (some ⟨q, 0, none⟩) 1 1 ∧ Row w1 q 5 (ag [Gf.bx xb yb])
              | _ => True) ?_ ?_ ?_ ?_ ?_
            · rintro a b hb ⟨c1, c2, c3⟩
              exact ⟨c1.below hb, c2.below hb, c3.below hb c3.lt⟩
            · intro k v w1 w2 hC1 hb h
              match k, h with
              | 0, h => exact h
              | 1, h => exact h
              | 2, h => exact h
              | 3, h => exact h
              | 4, h => exact h
              | 5, h => exact h
              | 6, h => exact h
              | 7, h => exact h
              | 8, h => exact h
              | 9, ⟨q, e, r⟩ => exact ⟨q, e, r.below hb r.lt⟩
              | k + 10, h => trivial
            · exact ⟨gE.drew, gO.drew, gP.drew⟩
            · refine ⟨?_, ?_, ?_, ?_, ?_, ?_, ?_, ?_, ?_, ?_, trivial⟩
              · intro f w1 hC hd KK hK
                simp only [List.take_succ_cons, List.take_zero, setAll, List.setIfInBounds_toArray, List.set_cons_succ, List.set_cons_zero, Nat.zero_add, Nat.reduceAdd] at hK ⊢
                refine wp_of_quiet rfl ?_
                go_big_quiet_step (fail)
                exact wpQuiet_nil (hK _ _ rfl (Below.refl _ _))
              · intro f w1 hC hd KK hK
                simp only [List.take_succ_cons, List.take_zero, setAll, List.setIfInBounds_toArray, List.set_cons_succ, List.set_cons_zero, Nat.zero_add, Nat.reduceAdd] at hK ⊢
                refine wp_of_quiet rfl ?_
                go_big_quiet_step (fail)
                exact wpQuiet_nil (hK _ _ rfl (Below.refl _ _))
              · intro f w1 hC hd KK hK
                simp only [List.take_succ_cons, List.take_zero, setAll, List.setIfInBounds_toArray, List.set_cons_succ, List.set_cons_zero, Nat.zero_add, Nat.reduceAdd] at hK ⊢
                refine wp_of_quiet rfl ?_
                go_big_quiet_step (fail)
                exact wpQuiet_nil (hK _ _ rfl (Below.refl _ _))
              · intro f w1 hC hd KK hK
                have g1 : f 1 = _ := hd 1 rfl
                have g2 : f 2 = _ := hd 2 rfl
                simp only [List.take_succ_cons, List.take_zero, setAll, List.setIfInBounds_toArray, List.set_cons_succ, List.set_cons_zero, Nat.zero_add, Nat.reduceAdd, g1, g2] at hK ⊢
                refine wp_of_quiet rfl ?_
                go_big_quiet_step (fail)
                exact wpQuiet_nil (hK _ _ rfl (Below.refl _ _))
              · intro f w1 hC hd KK hK
                have hcx : w1.cell? ⟨b, oo + kc, none⟩ = some (.int .u8 (xb.toNat : Int)) := by
                  have h1 := hCX.out w1 hC.1.bl
                  exact h1
                have g3 : f 3 = _ := hd 3 rfl
                simp only [List.take_succ_cons, List.take_zero, setAll, List.setIfInBounds_toArray, List.set_cons_succ, List.set_cons_zero, Nat.zero_add, Nat.reduceAdd, g3] at hK ⊢
                refine wp_of_quiet rfl ?_
                go_big_quiet_step (fail)
                exact wpQuiet_nil (hK _ _ rfl (Below.refl _ _))
              · intro f w1 hC hd KK hK
                simp only [List.take_succ_cons, List.take_zero, setAll, List.setIfInBounds_toArray, List.set_cons_succ, List.set_cons_zero, Nat.zero_add, Nat.reduceAdd] at hK ⊢
                refine wp_of_quiet rfl ?_
                go_big_quiet_step (fail)
                exact wpQuiet_nil (hK _ _ rfl (Below.refl _ _))
              · intro f w1 hC hd KK hK
                have g5 : f 5 = _ := hd 5 rfl
                simp only [List.take_succ_cons, List.take_zero, setAll, List.setIfInBounds_toArray, List.set_cons_succ, List.set_cons_zero, Nat.zero_add, Nat.reduceAdd, g5] at hK ⊢
                refine wp_of_quiet rfl ?_
                go_big_quiet_step (fail)
                exact wpQuiet_nil (hK _ _ rfl (Below.refl _ _))
              · intro f w1 hC hd KK hK
                have hcy : w1.cell? ⟨pq, kc, none⟩ = some (.int .u8 (yb.toNat : Int)) := cell_form (hC.2.2.byte (k := kc) (by omega)) hyb
                have g6 : f 6 = _ := hd 6 rfl
                simp only [List.take_succ_cons, List.take_zero, setAll, List.setIfInBounds_toArray, List.set_cons_succ, List.set_cons_zero, Nat.zero_add, Nat.reduceAdd, g6] at hK ⊢
                refine wp_of_quiet rfl ?_
                go_big_quiet_step (fail)
                exact wpQuiet_nil (hK _ _ rfl (Below.refl _ _))
              · intro f w1 hC hd KK hK
                have g4 : f 4 = _ := hd 4 rfl
                have g7 : f 7 = _ := hd 7 rfl
                simp only [List.take_succ_cons, List.take_zero, setAll, List.setIfInBounds_toArray, List.set_cons_succ, List.set_cons_zero, Nat.zero_add, Nat.reduceAdd, g4, g7] at hK ⊢
                refine wp_of_quiet rfl ?_
                go_big_quiet_step (fail)
                exact wpQuiet_nil (hK _ _ rfl (Below.refl _ _))
              · intro f w1 hC hd KK hK
                have g8 : f 8 = _ := hd 8 rfl
                simp only [List.take_succ_cons, List.take_zero, setAll, List.setIfInBounds_toArray, List.set_cons_succ, List.set_cons_zero, Nat.zero_add, Nat.reduceAdd, g8] at hK ⊢
                exact wp_build1 _ rfl _ rfl (hK _ _ ⟨_, rfl, Row.new _ _ _⟩ ((Below.refl _ _).alloc (Nat.le_refl _) _))
            · intro f w1 hC hv
              have g0 : f 0 = _ := hv 0 (by decide)
              have g1 : f 1 = _ := hv 1 (by decide)
              have g2 : f 2 = _ := hv 2 (by decide)
              have g3 : f 3 = _ := hv 3 (by decide)
              have g4 : f 4 = _ := hv 4 (by decide)
              have g5 : f 5 = _ := hv 5 (by decide)
              have g6 : f 6 = _ := hv 6 (by decide)
              have g7 : f 7 = _ := hv 7 (by decide)
              have g8 : f 8 = _ := hv 8 (by decide)
              obtain ⟨q9, g9, r9⟩ := hv 9 (by decide)
              simp only [List.take_succ_cons, List.take_zero, List.drop_succ_cons, List.drop_zero, setAll, List.setIfInBounds_toArray, List.set_cons_succ, List.set_cons_zero, Nat.zero_add, Nat.reduceAdd, g0, g1, g2, g3, g4, g5, g6, g7, g8, g9]
              clear g0 g1 g2 g3 g4 g5 g6 g7 g8 g9 hv
              obtain ⟨c1, c2, c3⟩ := hC
              have hnc : ∀ j u, ([Gf.bx xb yb].map B)[j]? = some u → w1.cell? ((⟨q9, 0, none⟩ : Addr).add j) = some u := fun j u hu => by
                rw [Addr.add_mid, Nat.zero_add, r9.cell]; simpa [ag] using hu
              have hNs := c1.size
              go_wp2_with (first
                | (refine wpList_append_bytes rfl (.tmp 80) (.tmp 89) rfl N hNs u14 (out ++ Gf.padded l' PD kc) rfl c2 ⟨q9, 0, none⟩ 1 1 [Gf.bx xb yb] rfl rfl hnc (by rw [List.length_append, lPk]; simp; omega) (fun v8 w8 ho8 ha8 => ?_))
                | fail)
              rw [MK.out] at ho8
              exact ⟨⟨kc + 1, by omega, by go_num, ho8, c1.apd ha8, ha8.rows _ _ _ (by decide) c3⟩, by simp [intOf]; omega⟩
          · obtain rfl : n = kc := by omega
            obtain ⟨VV, hVV⟩ : ∃ VV, VV = u14 := ⟨_, rfl⟩
            rw [HS.out] at gO
            go_upto_region 26 with (fail)
            have s20 := gE
            have o20 := gO
            rw [← hVV] at o20 ⊢
            obtain ⟨dF, hdF⟩ : ∃ dF, dF = SS := ⟨_, rfl⟩
            rw [← hdF] at hPf ldF
            have hY := HY.out dF oF ldF loF
            obtain ⟨y1, y2, y3, DG, TG, hY1, hY2, hY3, hDg, hY4, lTG, hEnd⟩ := hY
            have HSL := Box'.mk (hEnd hdF HoF.out)
            clear gE gO gP hEnd hdF hVV
            refine wp_region_grow 4 (by kernel_rfl) (by kernel_rfl) (fun a b => Below a.heap.size a b) (fun w3 => En key sb N ne po pd w w3 oF d ∧ Own N w3 VV S1) (fun k w1 v => match k with
              | 0 => v = .agg (ag d)
              | 1 => v = .slice (some ⟨b, oo, none⟩) n c
              | 2 => v = .agg (ag FU)
              | 3 => v = .agg (ag dF)
              | _ => True) ?_ ?_ ?_ ?_ ?_
            · rintro a b hb ⟨c1, c2⟩
              exact ⟨c1.below hb, c2.below hb⟩
            · intro k v w1 w2 hC1 hb h
              match k, h with
              | 0, h => exact h
              | 1, h => exact h
              | 2, h => exact h
              | 3, h => exact h
              | k + 4, h => trivial
            · exact ⟨s20.drew, o20.drew⟩
            · refine ⟨?_, ?_, ?_, ?_, trivial⟩
              · intro f w1 hC hd KK hK
                simp only [List.take_succ_cons, List.take_zero, setAll, List.setIfInBounds_toArray, List.set_cons_succ, List.set_cons_zero, Nat.zero_add, Nat.reduceAdd] at hK ⊢
                refine wp_load_row 23 _ rfl _ rfl _ _ (hC.1.rd) _ Tryd.underlying23 rfl 16 Tryd.info23 (by rw [ag_size]; exact ld) ?_
                exact hK _ _ rfl (Below.refl _ _)
              · intro f w1 hC hd KK hK
                simp only [List.take_succ_cons, List.take_zero, setAll, List.setIfInBounds_toArray, List.set_cons_succ, List.set_cons_zero, Nat.zero_add, Nat.reduceAdd] at hK ⊢
                refine wp_of_quiet rfl ?_
                go_big_quiet_step (fail)
                exact wpQuiet_nil (hK _ _ rfl (Below.refl _ _))
              · intro f w1 hC hd KK hK
                have g1 : f 1 = _ := hd 1 rfl
                simp only [List.take_succ_cons, List.take_zero, setAll, List.setIfInBounds_toArray, List.set_cons_succ, List.set_cons_zero, Nat.zero_add, Nat.reduceAdd, g1] at hK ⊢
                exact wp_call 58 #[.slice (some ⟨b, oo, none⟩) n c] (by simp [go_sem]) _ _ (hPd _ hC.1.bl) (fun w' hb => hK _ _ rfl hb)
              · intro f w1 hC hd KK hK
                have g0 : f 0 = _ := hd 0 rfl
                have g2 : f 2 = _ := hd 2 rfl
                simp only [List.take_succ_cons, List.take_zero, setAll, List.setIfInBounds_toArray, List.set_cons_succ, List.set_cons_zero, Nat.zero_add, Nat.reduceAdd, g0, g2] at hK ⊢
                exact wp_call 55 #[.agg (ag d), .agg (ag FU)] (by simp [go_sem]) _ _ (hPf _) (fun w' hb => hK _ _ rfl hb)
            · intro f w1 hC hv
              have g0 : f 0 = _ := hv 0 (by decide)
              have g1 : f 1 = _ := hv 1 (by decide)
              have g2 : f 2 = _ := hv 2 (by decide)
              have g3 : f 3 = _ := hv 3 (by decide)
              simp only [List.take_succ_cons, List.take_zero, List.drop_succ_cons, List.drop_zero, setAll, List.setIfInBounds_toArray, List.set_cons_succ, List.set_cons_zero, Nat.zero_add, Nat.reduceAdd, g0, g1, g2, g3]
              clear g0 g1 g2 g3 hv
              obtain ⟨c1, c2⟩ := hC
              have hrd := c1.rd.room (n := 16) (by rw [ag_size]; exact ld)
              have sF := c1.setD dF
              have oF2 := c2.setRow hrd (by decide) (ag dF)
              go_upto_region 25 with (first
                | (refine wpList_store_row rfl 23 (.tmp 13) (.tmp 94) rfl _ rfl _ rfl _ _ hrd Tryd.info23 (by rw [ag_size]; exact ldF) (ag_one _) ?_)
                | fail)
              clear c1 c2 hrd
              generalize w1.setRow pd (ag dF) = wF at *
              have lSS' : dF.length = 16 := ldF
              obtain ⟨Q0, hQ0⟩ : ∃ Q0, Q0 = wF.heap.size := ⟨_, rfl⟩
              have hq1 := sF.ro.lt
              have hq2 := sF.rd.lt
              have hNq := sF.n1
              rw [← hQ0] at hq1 hq2
              have HQ0 := Box'.mk hQ0
              clear hQ0 lSS'
              refine wp_region_grow 14 (by kernel_rfl) (by kernel_rfl) (fun a b => Below a.heap.size a b) (fun w3 => En key sb N ne po pd w w3 oF dF ∧ Own N w3 VV S1 ∧ Q0 ≤ w3.heap.size) (fun k w1 v => match k with
                | 0 => v = .pointer (some ⟨ne, 0, none⟩)
                | 1 => v = .agg CP
                | 2 => v = .agg (ag dF)
                | 3 => v = .agg (ag oF)
                | 4 => v = .agg (ag y1)
                | 5 => v = .pointer (some ⟨ne, 193, none⟩)
                | 6 => v = .agg (ag CS)
                | 7 => v = .agg (ag y2)
                | 8 => v = .agg (ag y3)
                | 9 => v = .agg (elk key sb)
                | 10 => v = .slice ab nb cb
                | 11 => v = .agg (ag DG)
                | 12 => v = .agg (ag TG)
                | 13 => ∃ q, v = .pointer (some ⟨q, 0, none⟩) ∧ Room w1 q 23 16 ∧ Q0 ≤ q
                | _ => True) ?_ ?_ ?_ ?_ ?_
              · rintro a b hb ⟨c1, c2, c4⟩
                exact ⟨c1.below hb, c2.below hb, by have := hb.size; omega⟩
              · intro k v w1 w2 hC1 hb h
                match k, h with
                | 0, h => exact h
                | 1, h => exact h
                | 2, h => exact h
                | 3, h => exact h
                | 4, h => exact h
                | 5, h => exact h
                | 6, h => exact h
                | 7, h => exact h
                | 8, h => exact h
                | 9, h => exact h
                | 10, h => exact h
                | 11, h => exact h
                | 12, h => exact h
                | 13, ⟨q, e, r, hq⟩ => exact ⟨q, e, r.below hb (r.elim fun _ h => h.1.lt), hq⟩
                | k + 14, h => trivial
              · exact ⟨sF.drew, oF2.drew, by rw [HQ0.out]; exact Nat.le_refl _⟩
              · refine ⟨?_, ?_, ?_, ?_, ?_, ?_, ?_, ?_, ?_, ?_, ?_, ?_, ?_, ?_, trivial⟩
                · intro f w1 hC hd KK hK
                  simp only [List.take_succ_cons, List.take_zero, setAll, List.setIfInBounds_toArray, List.set_cons_succ, List.set_cons_zero, Nat.zero_add, Nat.reduceAdd] at hK ⊢
                  refine wp_of_quiet rfl ?_
                  go_big_quiet_step (fail)
                  exact wpQuiet_nil (hK _ _ rfl (Below.refl _ _))
                · intro f w1 hC hd KK hK
                  have g0 : f 0 = _ := hd 0 rfl
                  simp only [List.take_succ_cons, List.take_zero, setAll, List.setIfInBounds_toArray, List.set_cons_succ, List.set_cons_zero, Nat.zero_add, Nat.reduceAdd, g0] at hK ⊢
                  refine _root_.Go.wp_load_mid 108 _ rfl _ _ rfl CP.toList _ (RC.out hC.1.el).1 Tryd.underlying108 rfl (by rw [Tryd.info108, Array.length_toList, lCP]) ?_
                  rw [Array.toArray_toList]
                  exact hK _ _ rfl (Below.refl _ _)
                · intro f w1 hC hd KK hK
                  simp only [List.take_succ_cons, List.take_zero, setAll, List.setIfInBounds_toArray, List.set_cons_succ, List.set_cons_zero, Nat.zero_add, Nat.reduceAdd] at hK ⊢
                  refine wp_load_row 23 _ rfl _ rfl _ _ (hC.1.rd) _ Tryd.underlying23 rfl 16 Tryd.info23 (by rw [ag_size]; exact ldF) ?_
                  exact hK _ _ rfl (Below.refl _ _)
                · intro f w1 hC hd KK hK
                  simp only [List.take_succ_cons, List.take_zero, setAll, List.setIfInBounds_toArray, List.set_cons_succ, List.set_cons_zero, Nat.zero_add, Nat.reduceAdd] at hK ⊢
                  refine wp_load_row 23 _ rfl _ rfl _ _ (hC.1.ro) _ Tryd.underlying23 rfl 16 Tryd.info23 (by rw [ag_size]; exact loF) ?_
                  exact hK _ _ rfl (Below.refl _ _)
                · intro f w1 hC hd KK hK
                  have g2 : f 2 = _ := hd 2 rfl
                  have g3 : f 3 = _ := hd 3 rfl
                  simp only [List.take_succ_cons, List.take_zero, setAll, List.setIfInBounds_toArray, List.set_cons_succ, List.set_cons_zero, Nat.zero_add, Nat.reduceAdd, g2, g3] at hK ⊢
                  exact wp_call 55 #[.agg (ag dF), .agg (ag oF)] (by simp [go_sem]) _ _ (hY1 _) (fun w' hb => hK _ _ rfl hb)
                · intro f w1 hC hd KK hK
                  simp only [List.take_succ_cons, List.take_zero, setAll, List.setIfInBounds_toArray, List.set_cons_succ, List.set_cons_zero, Nat.zero_add, Nat.reduceAdd] at hK ⊢
                  refine wp_of_quiet rfl ?_
                  go_big_quiet_step (fail)
                  exact wpQuiet_nil (hK _ _ rfl (Below.refl _ _))
                · intro f w1 hC hd KK hK
                  have g5 : f 5 = _ := hd 5 rfl
                  simp only [List.take_succ_cons, List.take_zero, setAll, List.setIfInBounds_toArray, List.set_cons_succ, List.set_cons_zero, Nat.zero_add, Nat.reduceAdd, g5] at hK ⊢
                  refine _root_.Go.wp_load_mid 23 _ rfl _ _ rfl (CS.map B) _ (RS.out hC.1.el) Tryd.underlying23 rfl (by rw [Tryd.info23, List.length_map, lCS]) ?_
                  exact hK _ _ rfl (Below.refl _ _)
                · intro f w1 hC hd KK hK
                  have g4 : f 4 = _ := hd 4 rfl
                  have g6 : f 6 = _ := hd 6 rfl
                  simp only [List.take_succ_cons, List.take_zero, setAll, List.setIfInBounds_toArray, List.set_cons_succ, List.set_cons_zero, Nat.zero_add, Nat.reduceAdd, g4, g6] at hK ⊢
                  exact wp_call 55 #[.agg (ag y1), .agg (ag CS)] (by simp [go_sem]) _ _ (hY2 _) (fun w' hb => hK _ _ rfl hb)
                · intro f w1 hC hd KK hK
                  have g1 : f 1 = _ := hd 1 rfl
                  have g7 : f 7 = _ := hd 7 rfl
                  simp only [List.take_succ_cons, List.take_zero, setAll, List.setIfInBounds_toArray, List.set_cons_succ, List.set_cons_zero, Nat.zero_add, Nat.reduceAdd, g1, g7] at hK ⊢
                  exact wp_call 57 #[.agg CP, .agg (ag y2)] (by simp [go_sem]) _ _ (hY3 _ hC.1.tb) (fun w' hb => hK _ _ rfl hb)
                · intro f w1 hC hd KK hK
                  simp only [List.take_succ_cons, List.take_zero, setAll, List.setIfInBounds_toArray, List.set_cons_succ, List.set_cons_zero, Nat.zero_add, Nat.reduceAdd] at hK ⊢
                  refine wp_load_row 110 _ rfl _ rfl _ _ (hC.1.el) _ Tryd.underlying110 rfl 209 Tryd.info110 (elk_size _ _) ?_
                  exact hK _ _ rfl (Below.refl _ _)
                · intro f w1 hC hd KK hK
                  simp only [List.take_succ_cons, List.take_zero, setAll, List.setIfInBounds_toArray, List.set_cons_succ, List.set_cons_zero, Nat.zero_add, Nat.reduceAdd] at hK ⊢
                  refine wp_of_quiet rfl ?_
                  go_big_quiet_step (fail)
                  exact wpQuiet_nil (hK _ _ rfl (Below.refl _ _))
                · intro f w1 hC hd KK hK
                  have g9 : f 9 = _ := hd 9 rfl
                  have g10 : f 10 = _ := hd 10 rfl
                  simp only [List.take_succ_cons, List.take_zero, setAll, List.setIfInBounds_toArray, List.set_cons_succ, List.set_cons_zero, Nat.zero_add, Nat.reduceAdd, g9, g10] at hK ⊢
                  exact wp_call 59 #[.agg (elk key sb), .slice ab nb cb] (by simp [go_sem]) _ _ (hDg _ hC.1.bl hC.1.tb hC.1.size) (fun w' hb => hK _ _ rfl hb)
                · intro f w1 hC hd KK hK
                  have g8 : f 8 = _ := hd 8 rfl
                  have g11 : f 11 = _ := hd 11 rfl
                  simp only [List.take_succ_cons, List.take_zero, setAll, List.setIfInBounds_toArray, List.set_cons_succ, List.set_cons_zero, Nat.zero_add, Nat.reduceAdd, g8, g11] at hK ⊢
                  exact wp_call 55 #[.agg (ag y3), .agg (ag DG)] (by simp [go_sem]) _ _ (hY4 _) (fun w' hb => hK _ _ rfl hb)
                · intro f w1 hC hd KK hK
                  simp only [List.take_succ_cons, List.take_zero, setAll, List.setIfInBounds_toArray, List.set_cons_succ, List.set_cons_zero, Nat.zero_add, Nat.reduceAdd] at hK ⊢
                  exact wp_alloc_row 23 rfl _ _ Tryd.zero23 (hK _ _ ⟨_, rfl, Room.new _ _ _ _ rfl, hC.2.2⟩ ((Below.refl _ _).alloc (Nat.le_refl _) _))
              · intro f w1 hC hv
                have g0 : f 0 = _ := hv 0 (by decide)
                have g1 : f 1 = _ := hv 1 (by decide)
                have g2 : f 2 = _ := hv 2 (by decide)
                have g3 : f 3 = _ := hv 3 (by decide)
                have g4 : f 4 = _ := hv 4 (by decide)
                have g5 : f 5 = _ := hv 5 (by decide)
                have g6 : f 6 = _ := hv 6 (by decide)
                have g7 : f 7 = _ := hv 7 (by decide)
                have g8 : f 8 = _ := hv 8 (by decide)
                have g9 : f 9 = _ := hv 9 (by decide)
                have g10 : f 10 = _ := hv 10 (by decide)
                have g11 : f 11 = _ := hv 11 (by decide)
                have g12 : f 12 = _ := hv 12 (by decide)
                obtain ⟨q8, g13, k8, hq8⟩ := hv 13 (by decide)
                simp only [List.take_succ_cons, List.take_zero, List.drop_succ_cons, List.drop_zero, setAll, List.setIfInBounds_toArray, List.set_cons_succ, List.set_cons_zero, Nat.zero_add, Nat.reduceAdd, g0, g1, g2, g3, g4, g5, g6, g7, g8, g9, g10, g11, g12, g13]
                clear g0 g1 g2 g3 g4 g5 g6 g7 g8 g9 g10 g11 g12 g13 hv
                obtain ⟨c1, c2, c4⟩ := hC
                have s14 := c1.setP k8 (by omega) (by omega) (by omega) (ag TG)
                have o14 := c2.setRow k8 (by decide) (ag TG)
                have r14 := k8.setRow (ag TG)
                have hxc : ∀ j u, (TG.map B)[j]? = some u → (w1.setRow q8 (ag TG)).cell? ((⟨q8, 0, none⟩ : Addr).add j) = some u := fun j u hu => by
                  rw [Addr.add_mid, Nat.zero_add, r14.cell]; simpa [ag] using hu
                have hNs14 := s14.size
                go_upto_region 26 with (first
                  | (refine wpList_store_row rfl 23 (.tmp 20) (.tmp 107) rfl _ rfl _ rfl _ _ k8 Tryd.info23 (by rw [ag_size]; exact lTG) (ag_one _) ?_)
                  | fail)
                go_wp2_with (first
                  | (refine wpList_append_bytes rfl (.tmp 108) (.tmp 109) rfl N hNs14 VV S1 rfl o14 ⟨q8, 0, none⟩ 16 16 TG rfl lTG hxc (by omega) (fun v15 w15 ho15 ha15 => ?_))
                  | fail)
                go_ret2
                exact ⟨_, rfl, by rw [HSL.out]; exact ho15, ha15.bel _ s14.bl⟩
      · have hst := HR.out
        rw [Gf.turnFrom_eq, dif_neg (by omega), if_neg (by omega), Gf.sumFrom_eq, dif_neg (by omega), if_neg (by omega)] at hst
        have hn0 : n = 0 := by omega
        subst hn0
        rw [hn]
        rw [List.append_nil] at hst
        obtain ⟨VV, hVV⟩ : ∃ VV, VV = u14 := ⟨_, rfl⟩
        rw [hst.1] at hOw
        clear h3 HR
        go_upto_region 25 with (fail)
        rw [← hVV] at hOw ⊢
        obtain ⟨oF, hoF⟩ : ∃ oF, oF = o := ⟨_, rfl⟩
        obtain ⟨dF, hdF⟩ : ∃ dF, dF = d := ⟨_, rfl⟩
        have loF : oF.length = 16 := by rw [hoF]; exact lo
        have ldF : dF.length = 16 := by rw [hdF]; exact ld
        have sF : En key sb N ne po pd w wr oF dF := by rw [hoF, hdF]; exact hE
        obtain ⟨y1, y2, y3, DG, TG, hY1, hY2, hY3, hDg, hY4, lTG, hEnd⟩ := HY.out dF oF ldF loF
        have HSL := Box'.mk (hEnd (by rw [hdF]; exact hst.2.2) (by rw [hoF]; exact hst.2.1))
        clear hst hEnd hVV hoF hdF hE
        obtain ⟨wF, hwF⟩ : ∃ wF, wF = wr := ⟨_, rfl⟩
        rw [← hwF] at sF hOw ⊢
        clear hwF
        have lSS' : dF.length = 16 := ldF
        obtain ⟨Q0, hQ0⟩ : ∃ Q0, Q0 = wF.heap.size := ⟨_, rfl⟩
        have hq1 := sF.ro.lt
        have hq2 := sF.rd.lt
        have hNq := sF.n1
        rw [← hQ0] at hq1 hq2
        have HQ0 := Box'.mk hQ0
        clear hQ0 lSS'
        refine wp_region_grow 14 (by kernel_rfl) (by kernel_rfl) (fun a b => Below a.heap.size a b) (fun w3 => En key sb N ne po pd w w3 oF dF ∧ Own N w3 VV S1 ∧ Q0 ≤ w3.heap.size) (fun k w1 v => match k with
          | 0 => v = .pointer (some ⟨ne, 0, none⟩)
          | 1 => v = .agg CP
          | 2 => v = .agg (ag dF)
          | 3 => v = .agg (ag oF)
          | 4 => v = .agg (ag y1)
          | 5 => v = .pointer (some ⟨ne, 193, none⟩)
          | 6 => v = .agg (ag CS)
          | 7 => v = .agg (ag y2)
          | 8 => v = .agg (ag y3)
          | 9 => v = .agg (elk key sb)
          | 10 => v = .slice ab nb cb
          | 11 => v = .agg (ag DG)
          | 12 => v = .agg (ag TG)
          | 13 => ∃ q, v = .pointer (some ⟨q, 0, none⟩) ∧ Room w1 q 23 16 ∧ Q0 ≤ q
          | _ => True) ?_ ?_ ?_ ?_ ?_
        · rintro a b hb ⟨c1, c2, c4⟩
          exact ⟨c1.below hb, c2.below hb, by have := hb.size; omega⟩
        · intro k v w1 w2 hC1 hb h
          match k, h with
          | 0, h => exact h
          | 1, h => exact h
          | 2, h => exact h
          | 3, h => exact h
          | 4, h => exact h
          | 5, h => exact h
          | 6, h => exact h
          | 7, h => exact h
          | 8, h => exact h
          | 9, h => exact h
          | 10, h => exact h
          | 11, h => exact h
          | 12, h => exact h
          | 13, ⟨q, e, r, hq⟩ => exact ⟨q, e, r.below hb (r.elim fun _ h => h.1.lt), hq⟩
          | k + 14, h => trivial
        · exact ⟨sF.drew, hOw.drew, by rw [HQ0.out]; exact Nat.le_refl _⟩
        · refine ⟨?_, ?_, ?_, ?_, ?_, ?_, ?_, ?_, ?_, ?_, ?_, ?_, ?_, ?_, trivial⟩
          · intro f w1 hC hd KK hK
            simp only [List.take_succ_cons, List.take_zero, setAll, List.setIfInBounds_toArray, List.set_cons_succ, List.set_cons_zero, Nat.zero_add, Nat.reduceAdd] at hK ⊢
            refine wp_of_quiet rfl ?_
            go_big_quiet_step (fail)
            exact wpQuiet_nil (hK _ _ rfl (Below.refl _ _))
          · intro f w1 hC hd KK hK
            have g0 : f 0 = _ := hd 0 rfl
            simp only [List.take_succ_cons, List.take_zero, setAll, List.setIfInBounds_toArray, List.set_cons_succ, List.set_cons_zero, Nat.zero_add, Nat.reduceAdd, g0] at hK ⊢
            refine _root_.Go.wp_load_mid 108 _ rfl _ _ rfl CP.toList _ (RC.out hC.1.el).1 Tryd.underlying108 rfl (by rw [Tryd.info108, Array.length_toList, lCP]) ?_
            rw [Array.toArray_toList]
            exact hK _ _ rfl (Below.refl _ _)
          · intro f w1 hC hd KK hK
            simp only [List.take_succ_cons, List.take_zero, setAll, List.setIfInBounds_toArray, List.set_cons_succ, List.set_cons_zero, Nat.zero_add, Nat.reduceAdd] at hK ⊢
            refine wp_load_row 23 _ rfl _ rfl _ _ (hC.1.rd) _ Tryd.underlying23 rfl 16 Tryd.info23 (by rw [ag_size]; exact ldF) ?_
            exact hK _ _ rfl (Below.refl _ _)
          · intro f w1 hC hd KK hK
            simp only [List.take_succ_cons, List.take_zero, setAll, List.setIfInBounds_toArray, List.set_cons_succ, List.set_cons_zero, Nat.zero_add, Nat.reduceAdd] at hK ⊢
            refine wp_load_row 23 _ rfl _ rfl _ _ (hC.1.ro) _ Tryd.underlying23 rfl 16 Tryd.info23 (by rw [ag_size]; exact loF) ?_
            exact hK _ _ rfl (Below.refl _ _)
          · intro f w1 hC hd KK hK
            have g2 : f 2 = _ := hd 2 rfl
            have g3 : f 3 = _ := hd 3 rfl
            simp only [List.take_succ_cons, List.take_zero, setAll, List.setIfInBounds_toArray, List.set_cons_succ, List.set_cons_zero, Nat.zero_add, Nat.reduceAdd, g2, g3] at hK ⊢
            exact wp_call 55 #[.agg (ag dF), .agg (ag oF)] (by simp [go_sem]) _ _ (hY1 _) (fun w' hb => hK _ _ rfl hb)
          · intro f w1 hC hd KK hK
            simp only [List.take_succ_cons, List.take_zero, setAll, List.setIfInBounds_toArray, List.set_cons_succ, List.set_cons_zero, Nat.zero_add, Nat.reduceAdd] at hK ⊢
            refine wp_of_quiet rfl ?_
            go_big_quiet_step (fail)
            exact wpQuiet_nil (hK _ _ rfl (Below.refl _ _))
          · intro f w1 hC hd KK hK
            have g5 : f 5 = _ := hd 5 rfl
            simp only [List.take_succ_cons, List.take_zero, setAll, List.setIfInBounds_toArray, List.set_cons_succ, List.set_cons_zero, Nat.zero_add, Nat.reduceAdd, g5] at hK ⊢
            refine _root_.Go.wp_load_mid 23 _ rfl _ _ rfl (CS.map B) _ (RS.out hC.1.el) Tryd.underlying23 rfl (by rw [Tryd.info23, List.length_map, lCS]) ?_
            exact hK _ _ rfl (Below.refl _ _)
          · intro f w1 hC hd KK hK
            have g4 : f 4 = _ := hd 4 rfl
            have g6 : f 6 = _ := hd 6 rfl
            simp only [List.take_succ_cons, List.take_zero, setAll, List.setIfInBounds_toArray, List.set_cons_succ, List.set_cons_zero, Nat.zero_add, Nat.reduceAdd, g4, g6] at hK ⊢
            exact wp_call 55 #[.agg (ag y1), .agg (ag CS)] (by simp [go_sem]) _ _ (hY2 _) (fun w' hb => hK _ _ rfl hb)
          · intro f w1 hC hd KK hK
            have g1 : f 1 = _ := hd 1 rfl
            have g7 : f 7 = _ := hd 7 rfl
            simp only [List.take_succ_cons, List.take_zero, setAll, List.setIfInBounds_toArray, List.set_cons_succ, List.set_cons_zero, Nat.zero_add, Nat.reduceAdd, g1, g7] at hK ⊢
            exact wp_call 57 #[.agg CP, .agg (ag y2)] (by simp [go_sem]) _ _ (hY3 _ hC.1.tb) (fun w' hb => hK _ _ rfl hb)
          · intro f w1 hC hd KK hK
            simp only [List.take_succ_cons, List.take_zero, setAll, List.setIfInBounds_toArray, List.set_cons_succ, List.set_cons_zero, Nat.zero_add, Nat.reduceAdd] at hK ⊢
            refine wp_load_row 110 _ rfl _ rfl _ _ (hC.1.el) _ Tryd.underlying110 rfl 209 Tryd.info110 (elk_size _ _) ?_
            exact hK _ _ rfl (Below.refl _ _)
          · intro f w1 hC hd KK hK
            simp only [List.take_succ_cons, List.take_zero, setAll, List.setIfInBounds_toArray, List.set_cons_succ, List.set_cons_zero, Nat.zero_add, Nat.reduceAdd] at hK ⊢
            refine wp_of_quiet rfl ?_
            go_big_quiet_step (fail)
            exact wpQuiet_nil (hK _ _ rfl (Below.refl _ _))
          · intro f w1 hC hd KK hK
            have g9 : f 9 = _ := hd 9 rfl
            have g10 : f 10 = _ := hd 10 rfl
            simp only [List.take_succ_cons, List.take_zero, setAll, List.setIfInBounds_toArray, List.set_cons_succ, List.set_cons_zero, Nat.zero_add, Nat.reduceAdd, g9, g10] at hK ⊢
            exact wp_call 59 #[.agg (elk key sb), .slice ab nb cb] (by simp [go_sem]) _ _ (hDg _ hC.1.bl hC.1.tb hC.1.size) (fun w' hb => hK _ _ rfl hb)
          · intro f w1 hC hd KK hK
            have g8 : f 8 = _ := hd 8 rfl
            have g11 : f 11 = _ := hd 11 rfl
            simp only [List.take_succ_cons, List.take_zero, setAll, List.setIfInBounds_toArray, List.set_cons_succ, List.set_cons_zero, Nat.zero_add, Nat.reduceAdd, g8, g11] at hK ⊢
            exact wp_call 55 #[.agg (ag y3), .agg (ag DG)] (by simp [go_sem]) _ _ (hY4 _) (fun w' hb => hK _ _ rfl hb)
          · intro f w1 hC hd KK hK
            simp only [List.take_succ_cons, List.take_zero, setAll, List.setIfInBounds_toArray, List.set_cons_succ, List.set_cons_zero, Nat.zero_add, Nat.reduceAdd] at hK ⊢
            exact wp_alloc_row 23 rfl _ _ Tryd.zero23 (hK _ _ ⟨_, rfl, Room.new _ _ _ _ rfl, hC.2.2⟩ ((Below.refl _ _).alloc (Nat.le_refl _) _))
        · intro f w1 hC hv
          have g0 : f 0 = _ := hv 0 (by decide)
          have g1 : f 1 = _ := hv 1 (by decide)
          have g2 : f 2 = _ := hv 2 (by decide)
          have g3 : f 3 = _ := hv 3 (by decide)
          have g4 : f 4 = _ := hv 4 (by decide)
          have g5 : f 5 = _ := hv 5 (by decide)
          have g6 : f 6 = _ := hv 6 (by decide)
          have g7 : f 7 = _ := hv 7 (by decide)
          have g8 : f 8 = _ := hv 8 (by decide)
          have g9 : f 9 = _ := hv 9 (by decide)
          have g10 : f 10 = _ := hv 10 (by decide)
          have g11 : f 11 = _ := hv 11 (by decide)
          have g12 : f 12 = _ := hv 12 (by decide)
          obtain ⟨q8, g13, k8, hq8⟩ := hv 13 (by decide)
          simp only [List.take_succ_cons, List.take_zero, List.drop_succ_cons, List.drop_zero, setAll, List.setIfInBounds_toArray, List.set_cons_succ, List.set_cons_zero, Nat.zero_add, Nat.reduceAdd, g0, g1, g2, g3, g4, g5, g6, g7, g8, g9, g10, g11, g12, g13]
          clear g0 g1 g2 g3 g4 g5 g6 g7 g8 g9 g10 g11 g12 g13 hv
          obtain ⟨c1, c2, c4⟩ := hC
          have s14 := c1.setP k8 (by omega) (by omega) (by omega) (ag TG)
          have o14 := c2.setRow k8 (by decide) (ag TG)
          have r14 := k8.setRow (ag TG)
          have hxc : ∀ j u, (TG.map B)[j]? = some u → (w1.setRow q8 (ag TG)).cell? ((⟨q8, 0, none⟩ : Addr).add j) = some u := fun j u hu => by
            rw [Addr.add_mid, Nat.zero_add, r14.cell]; simpa [ag] using hu
          have hNs14 := s14.size
          go_upto_region 26 with (first
            | (refine wpList_store_row rfl 23 (.tmp 20) (.tmp 107) rfl _ rfl _ rfl _ _ k8 Tryd.info23 (by rw [ag_size]; exact lTG) (ag_one _) ?_)
            | fail)
          go_wp2_with (first
            | (refine wpList_append_bytes rfl (.tmp 108) (.tmp 109) rfl N hNs14 VV S1 rfl o14 ⟨q8, 0, none⟩ 16 16 TG rfl lTG hxc (by omega) (fun v15 w15 ho15 ha15 => ?_))
            | fail)
          go_ret2
          exact ⟨_, rfl, by rw [HSL.out]; exact ho15, ha15.bel _ s14.bl⟩
end Go.Proofs.YthcokaffbgbanaaDoor

/- The mixing loops of the reference's Decrypt, walked by themselves. -/
namespace Go.Proofs.YthcokaffbgbanaaDoor
open Go.RowKit Go.BigFrame
theorem refTimes_fourteen (x : UInt8) (w : World) : Calls Tryd.prog 81 #[.int .u8 (x.toNat : Int), .int .u8 14] w fun e w' => e = .returned (.int .u8 ((Gf.times x 14).toNat : Int)) ∧ w' = w := refTimes_any x 14 w
theorem refTimes_eleven (x : UInt8) (w : World) : Calls Tryd.prog 81 #[.int .u8 (x.toNat : Int), .int .u8 11] w fun e w' => e = .returned (.int .u8 ((Gf.times x 11).toNat : Int)) ∧ w' = w := refTimes_any x 11 w
theorem refTimes_thirteen (x : UInt8) (w : World) : Calls Tryd.prog 81 #[.int .u8 (x.toNat : Int), .int .u8 13] w fun e w' => e = .returned (.int .u8 ((Gf.times x 13).toNat : Int)) ∧ w' = w := refTimes_any x 13 w
theorem refTimes_nine (x : UInt8) (w : World) : Calls Tryd.prog 81 #[.int .u8 (x.toNat : Int), .int .u8 9] w fun e w' => e = .returned (.int .u8 ((Gf.times x 9).toNat : Int)) ∧ w' = w := refTimes_any x 9 w
set_option maxRecDepth 1000000 in
set_option maxHeartbeats 4000000 in
theorem nest19_any (s1 : List UInt8) (lt : s1.length = 16) (p q : Nat) (hpq : p < q) (u0 u1 u2 u3 u4 u5 u6 u7 u8 u12 u13 u14 u15 u16 u17 u18 u19 u20 u21 u22 u23 u24 u25 u26 u27 u28 u29 u30 u31 u32 u33 u34 u35 u36 u37 u38 u39 u40 u41 u42 u43 u44 u45 u46 u47 u48 u49 u50 u51 u52 u53 u54 u55 u56 u57 u58 u59 u60 u61 u62 u63 u64 u65 u66 u67 u68 u69 u70 u71 u72 u73 u74 u75 u76 u77 u78 u79 u80 u81 u82 u83 u84 u85 u86 u87 u88 u89 u90 u91 u92 u93 u94 u95 u96 u97 u98 u99 u100 u101 u102 u103 u104 u105 u106 u107 u108 u109 u110 u111 u112 u113 u114 u115 u116 u117 u118 u119 : Value) (w : World) (gp : Row w p 23 (ag s1)) (gq : Row w q 23 (ag (Gf.zeros 16))) :
    Code.wp Tryd.prog ((Tryd.f62.body.bind (inBlock 4)).getD .skip) (fun e a' w' => e = .exit 4 ∧ (∃ v11 v12 v43 v44 v45 v46 v47 v48 v49 v50 v51 v52 v53 v54 v55 v56 v57 v58 v59 v60 v61 v62 v63 v64 v65 v66 v67 v68 v69 v70 v71 v72 v73 v74 v75 v76 v77 v78 v79 v80 v81 v82 v83 v84 v85 v86 v87 v88 v89 v90 v91 v92 : Value, a' = ⟨List.toArray (u0 :: u1 :: u2 :: u3 :: u4 :: u5 :: u6 :: u7 :: u8 :: .pointer (some ⟨p, 0, none⟩) :: .pointer (some ⟨q, 0, none⟩) :: v11 :: v12 :: u13 :: u14 :: u15 :: u16 :: u17 :: u18 :: u19 :: u20 :: u21 :: u22 :: u23 :: u24 :: u25 :: u26 :: u27 :: u28 :: u29 :: u30 :: u31 :: u32 :: u33 :: u34 :: u35 :: u36 :: u37 :: u38 :: u39 :: u40 :: u41 :: u42 :: v43 :: v44 :: v45 :: v46 :: v47 :: v48 :: v49 :: v50 :: v51 :: v52 :: v53 :: v54 :: v55 :: v56 :: v57 :: v58 :: v59 :: v60 :: v61 :: v62 :: v63 :: v64 :: v65 :: v66 :: v67 :: v68 :: v69 :: v70 :: v71 :: v72 :: v73 :: v74 :: v75 :: v76 :: v77 :: v78 :: v79 :: v80 :: v81 :: v82 :: v83 :: v84 :: v85 :: v86 :: v87 :: v88 :: v89 :: v90 :: v91 :: v92 :: u93 :: u94 :: u95 :: u96 :: u97 :: u98 :: u99 :: u100 :: u101 :: u102 :: u103 :: u104 :: u105 :: u106 :: u107 :: u108 :: u109 :: u110 :: u111 :: u112 :: u113 :: u114 :: u115 :: u116 :: u117 :: u118 :: u119 :: []), []⟩) ∧ Row w' q 23 (ag ((List.range 16).map (Gf.umix s1))) ∧ Below q w w') ⟨List.toArray (u0 :: u1 :: u2 :: u3 :: u4 :: u5 :: u6 :: u7 :: u8 :: .pointer (some ⟨p, 0, none⟩) :: .pointer (some ⟨q, 0, none⟩) :: .int .i64 0 :: u12 :: u13 :: u14 :: u15 :: u16 :: u17 :: u18 :: u19 :: u20 :: u21 :: u22 :: u23 :: u24 :: u25 :: u26 :: u27 :: u28 :: u29 :: u30 :: u31 :: u32 :: u33 :: u34 :: u35 :: u36 :: u37 :: u38 :: u39 :: u40 :: u41 :: u42 :: u43 :: u44 :: u45 :: u46 :: u47 :: u48 :: u49 :: u50 :: u51 :: u52 :: u53 :: u54 :: u55 :: u56 :: u57 :: u58 :: u59 :: u60 :: u61 :: u62 :: u63 :: u64 :: u65 :: u66 :: u67 :: u68 :: u69 :: u70 :: u71 :: u72 :: u73 :: u74 :: u75 :: u76 :: u77 :: u78 :: u79 :: u80 :: u81 :: u82 :: u83 :: u84 :: u85 :: u86 :: u87 :: u88 :: u89 :: u90 :: u91 :: u92 :: u93 :: u94 :: u95 :: u96 :: u97 :: u98 :: u99 :: u100 :: u101 :: u102 :: u103 :: u104 :: u105 :: u106 :: u107 :: u108 :: u109 :: u110 :: u111 :: u112 :: u113 :: u114 :: u115 :: u116 :: u117 :: u118 :: u119 :: []), []⟩ w := by
  conv => arg 2; whnf
  have HM : Hid (Gf.fill (Gf.zeros 16) (Gf.umix s1) 16 = (List.range 16).map (Gf.umix s1)) := Gf.fill_full (Gf.zeros 16) _ 16 rfl
  generalize (List.range 16).map (Gf.umix s1) = res at *
  go_loopw [11] (fun i wr' => ∃ c : Nat, c ≤ 4 ∧ i = .int .i64 c ∧ Row wr' p 23 (ag s1) ∧ Row wr' q 23 (ag (Gf.fill (Gf.zeros 16) (Gf.umix s1) (4 * c))) ∧ Below q w wr') (fun i _ => 4 - (intOf i).toNat)
  case atStart => exact ⟨0, by omega, rfl, gp, gq, Below.refl _ _⟩
  case round =>
    clear gp gq
    obtain ⟨c, hc, rfl, gp, gq, gv⟩ := hrel
    by_cases hc4 : c < 4
    · go_wp2
      go_loopw [12] (fun i wr' => ∃ r : Nat, r ≤ 4 ∧ i = .int .i64 r ∧ Row wr' p 23 (ag s1) ∧ Row wr' q 23 (ag (Gf.fill (Gf.zeros 16) (Gf.umix s1) (4 * c + r))) ∧ Below q w wr') (fun i _ => 4 - (intOf i).toNat)
      case atStart => exact ⟨0, by omega, rfl, gp, gq, gv⟩
      case round =>
        clear gp gq gv
        obtain ⟨r, hr, rfl, gp, gq, gv⟩ := hrel
        by_cases hr4 : r < 4
        · obtain ⟨c4, hc4e⟩ : ∃ c4, 4 * c = c4 := ⟨_, rfl⟩
          have n0 : (4 : Int) * (c : Int) = (c4 : Int) := by omega
          obtain ⟨r1, hr1⟩ : ∃ r1, (r + 1) % 4 = r1 := ⟨_, rfl⟩
          obtain ⟨r2, hr2⟩ : ∃ r2, (r + 2) % 4 = r2 := ⟨_, rfl⟩
          obtain ⟨r3, hr3⟩ : ∃ r3, (r + 3) % 4 = r3 := ⟨_, rfl⟩
          have n1 : ((r : Int) + 1) % 4 = (r1 : Int) := by omega
          have n2 : ((r : Int) + 2) % 4 = (r2 : Int) := by omega
          have n3 : ((r : Int) + 3) % 4 = (r3 : Int) := by omega
          have b0 : c4 ≤ 12 := by omega
          have b1 : r1 < 4 := by omega
          have b2 : r2 < 4 := by omega
          have b3 : r3 < 4 := by omega
          have d0 := gp.byte (k := c4 + r) (by rw [lt]; omega)
          have d1 := gp.byte (k := c4 + r1) (by rw [lt]; omega)
          have d2 := gp.byte (k := c4 + r2) (by rw [lt]; omega)
          have d3 := gp.byte (k := c4 + r3) (by rw [lt]; omega)
          have dq := gq.byte (k := c4 + r) (by rw [Gf.fill_len]; show _ < (List.replicate 16 (0 : UInt8)).length; rw [List.length_replicate]; omega)
          have fq := gq.frozen (c4 + r)
          have HE : Hid (Gf.fill (Gf.zeros 16) (Gf.umix s1) (4 * c + r + 1) = (Gf.fill (Gf.zeros 16) (Gf.umix s1) (4 * c + r)).set (c4 + r) (Gf.bx (Gf.bx (Gf.bx (Gf.times (s1.getD (c4 + r) 0) 14) (Gf.times (s1.getD (c4 + r1) 0) 11)) (Gf.times (s1.getD (c4 + r2) 0) 13)) (Gf.times (s1.getD (c4 + r3) 0) 9))) := by
            show _ = _
            have e1 : (4 * c + r) / 4 = c := by omega
            have e2 : (4 * c + r) % 4 = r := by omega
            rw [Gf.fill]
            unfold Gf.umix Gf.r0
            rw [e1, e2, hr1, hr2, hr3, hc4e]
          generalize s1.getD (c4 + r) 0 = x0 at *
          generalize s1.getD (c4 + r1) 0 = x1 at *
          generalize s1.getD (c4 + r2) 0 = x2 at *
          generalize s1.getD (c4 + r3) 0 = x3 at *
          generalize (Gf.fill (Gf.zeros 16) (Gf.umix s1) (4 * c + r)).getD (c4 + r) 0 = zz at *
          clear hr1 hr2 hr3 hc4e HM
          have hxx : ∀ x y : UInt8, bits .xor .u8 (x.toNat : Int) (y.toNat : Int) = ((Gf.bx x y).toNat : Int) := xor_bx
          go_wp2
          refine wp_region_tail 41 (by kernel_rfl) (by kernel_rfl) ?_
          simp only [List.take_succ_cons, List.take_zero, List.drop_succ_cons, List.drop_zero]
          repeat (go_big_quiet_step (fail))
          go_big_quiet_want
          go_big_quiet_op
          refine ⟨_, refTimes_fourteen _ _, ?_⟩
          go_big_quiet_on
          repeat (go_big_quiet_step (fail))
          go_big_quiet_want
          go_big_quiet_op
          refine ⟨_, refTimes_eleven _ _, ?_⟩
          go_big_quiet_on
          repeat (go_big_quiet_step (fail))
          go_big_quiet_want
          go_big_quiet_op
          refine ⟨_, refTimes_thirteen _ _, ?_⟩
          go_big_quiet_on
          repeat (go_big_quiet_step (fail))
          go_big_quiet_want
          go_big_quiet_op
          refine ⟨_, refTimes_nine _ _, ?_⟩
          go_big_quiet_on
          repeat (go_big_quiet_step (fail))
          refine wpQuiet_nil ?_
          go_wp2
          refine ⟨⟨r + 1, by omega, by go_num, ?_, ?_, ?_⟩, by simp [intOf]; omega⟩
          · exact (gp.setOther _ _ (by simp; omega)).drew
          · rw [← Nat.add_assoc, HE.out]; exact (gq.setByte (c4 + r) _).drew
          · exact (gv.setCell (Nat.le_refl _) _).drew
        · have hr' : r = 4 := by omega
          subst hr'
          go_wp2
          go_roundw
          case rel => exact ⟨c + 1, by omega, by go_num, gp, gq, gv⟩
          case measure => simp [intOf]; omega
    · have hc' : c = 4 := by omega
      subst hc'
      rw [show 4 * 4 = 16 from rfl, HM.out] at gq
      go_wp2
      exact ⟨trivial, ⟨_, _, _, _, _, _, _, _, _, _, _, _, _, _, _, _, _, _, _, _, _, _, _, _, _, _, _, _, _, _, _, _, _, _, _, _, _, _, _, _, _, _, _, _, _, _, _, _, _, _, _, _, rfl⟩, gq, gv⟩
end Go.Proofs.YthcokaffbgbanaaDoor
