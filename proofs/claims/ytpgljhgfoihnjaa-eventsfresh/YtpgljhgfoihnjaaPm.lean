/- The walk of EventsFresh. -/
import Derived.Test.YtpgljhgfoihnjaaPq
import Derived.Test.YtpgljhgfoihnjaaU
namespace Go.Proofs.Ytpgljhgfoihnjaa
open Go.RowKit Go.BigFrame
set_option maxRecDepth 100000
set_option linter.unusedSimpArgs false
set_option linter.unusedVariables false

theorem part_facts (cur Z : Array Value) (o : Nat) (h : o + Z.size ≤ cur.size) {c' : Array Value} (hc : (cur.toList.take o ++ Z.toList ++ cur.toList.drop (o + Z.size)).toArray = c') : cur.size = c'.size ∧ ∀ j, o + Z.size ≤ j → c'[j]? = cur[j]? := by
  subst hc
  have hl : (cur.toList.take o ++ Z.toList).length = o + Z.size := by simp; omega
  refine ⟨by simp; omega, fun j hj => ?_⟩
  simp only [List.getElem?_toArray]
  rw [List.getElem?_append_right (by omega), hl, List.getElem?_drop, Array.getElem?_toList]
  congr 1
  omega
theorem one_zero : (#[.int .u8 0, .slice none 0 0, .int .i64 0, .int .i64 0, .int .u8 0] : Array Value).all (·.oneCell') = true := by simp [Value.oneCell']
set_option maxHeartbeats 8000000 in
theorem fresh_walk (HA : AppC 8) (HS : SinC 10) (HN : AncC 18) (w : World) (v1 vd : Value) (l : List Ev) (d : List UInt8) (n : Int) (hl : l.length * 56 ≤ 140737488351232) (hbl : ∀ k, k < l.length → (l.getD k Ev.none).byt.length ≤ 140737488351232) (hd : d.length ≤ 140737488351232) (e1 : Evs w.heap.size w v1 l) (ed : InB w.heap.size w vd d) :
    Calls Try.prog 5 #[v1, .agg #[vd, .int .i64 n]] w fun e w' => e = .returned (.bool true) ∧ Below w.heap.size w w' := by
  obtain ⟨w0, hw0⟩ : ∃ w0, w0 = w.alloc (.cells #[vd, .int .i64 n] 25) := ⟨_, rfl⟩
  have r0 : Row w0 w.heap.size 25 #[vd, .int .i64 n] := by rw [hw0]; exact Row.new _ _ _
  have b0 : Below w.heap.size w w0 := by rw [hw0]; exact (Below.refl _ _).alloc (Nat.le_refl _) _
  have B0 := Box'.mk b0
  have RW : Box' (∀ w1, Below w0.heap.size w0 w1 → Row w1 w.heap.size 25 #[vd, .int .i64 n]) := ⟨fun w1 b => r0.below b r0.lt⟩
  have UPC : Box' (∀ w1, Below w0.heap.size w0 w1 → Below w.heap.size w w1) := ⟨fun w1 b => b0.trans (b.mono b0.size)⟩
  have CP : Box' (∀ w1, Below w0.heap.size w0 w1 → Calls Try.prog 19 #[v1] w1 fun e w' => ∃ u, e = .returned u ∧ Evs w'.heap.size w' u l ∧ Below w1.heap.size w1 w') := ⟨fun w1 b => (refCpy_C w1 v1 l hl hbl ((e1.below (UPC.out w1 b) (Nat.le_refl _)).up (UPC.out w1 b).size)).mono fun e w' ⟨u, ps, q1, q2, q3, q4⟩ => ⟨u, q1, q2 ▸ q3.evs, q4⟩⟩
  have CB : Box' (∀ w1, Below w0.heap.size w0 w1 → Calls Try.prog 20 #[vd] w1 fun e w' => ∃ u, e = .returned u ∧ InB w'.heap.size w' u d ∧ Below w1.heap.size w1 w') := ⟨fun w1 b => (copy_any (· < w1.heap.size) vd d w1 (((ed.below (UPC.out w1 b) (Nat.le_refl _)).up (UPC.out w1 b).size).bts) (fun _ h => h) hd).mono fun e w' ⟨u, q1, q2, q3⟩ => ⟨u, q1, q2.inB, q3⟩⟩
  have E1 := Box'.mk e1
  have ED := Box'.mk ed
  have AN : Box' (AncC 18) := ⟨HN⟩
  have LS : Box' (∀ w1 u1 u2 l, l.length ≤ 140737488355328 → Evs w1.heap.size w1 u1 l → Evs w1.heap.size w1 u2 l → Calls Try.prog 13 #[u1, u2] w1 fun e w' => e = .returned (.bool true) ∧ Below w1.heap.size w1 w') := ⟨fun w1 u1 u2 l hl h1 h2 => (lst_of refLists_C w1 u1 u2 l l hl hl h1 h2).mono fun e w' hh => ⟨by rw [hh.1, (lstB_iff l l).2 rfl], hh.2⟩⟩
  have SM : Box' (∀ w0 v1 v2 l, InB w0.heap.size w0 v1 l → InB w0.heap.size w0 v2 l → Calls Try.prog 12 #[v1, v2] w0 fun e w' => e = .returned (.bool true) ∧ w' = w0) := ⟨fun w0 v1 v2 l h1 h2 => (refSame_any _ _ v1 v2 l l w0 h1.bts h2.bts).mono fun e w' hh => ⟨by rw [hh.1]; simp, hh.2⟩⟩
  have EAW : Box' (∀ w1, Below w.heap.size w w1 → Evs w1.heap.size w1 v1 l) := ⟨fun w1 b => (e1.below b (Nat.le_refl _)).up b.size⟩
  have EDW : Box' (∀ w1, Below w.heap.size w w1 → InB w1.heap.size w1 vd d) := ⟨fun w1 b => (ed.below b (Nat.le_refl _)).up b.size⟩
  have RA : Box' (∀ w1, Below w.heap.size w w1 → Calls Try.prog 9 #[v1, vd] w1 fun e w' => ∃ (u : Value) (ps : List (Ev × Value)), e = .returned (.tuple #[u, .int .i64 (appF l d).2]) ∧ ps.map (·.1) = (appF l d).1 ∧ OwnE w1.heap.size w' u ps ∧ Below w1.heap.size w1 w') := ⟨fun w1 b => refApply_C w1 v1 vd l d (by omega) hd ((e1.below b (Nat.le_refl _)).up b.size) ((ed.below b (Nat.le_refl _)).up b.size)⟩
  have hA := Box'.mk HA
  have hS := Box'.mk HS
  obtain ⟨a1, c1, rfl, _⟩ := e1.cap
  obtain ⟨ad, cd, rfl, _⟩ := ed.slice
  clear e1 ed b0 r0 HA HS HN
  have HL := Box'.mk hl
  have HD := Box'.mk hd
  have HBL := Box'.mk hbl
  clear hl hd hbl
  generalize hn1 : l.length = n1 at *
  have hnl := Box'.mk hn1
  generalize hdn : d.length = dn at *
  go_enter Try.func5, Try.ntmps5
  go_wp2_with fail
  rw [← hw0]
  refine wp_region_grow 7 (by kernel_rfl) (by kernel_rfl) (fun wa wb => Below wa.heap.size wa wb) (fun wa => Below w0.heap.size w0 wa) (fun kc wa v => match kc with
    | 0 => v = .slice a1 n1 c1
    | 1 => Evs wa.heap.size wa v l
    | 2 => v = .pointer (some ⟨w.heap.size, 0, none⟩)
    | 3 => v = .slice ad dn cd
    | 4 => InB wa.heap.size wa v d
    | 5 => Evs wa.heap.size wa v l
    | 6 => InB wa.heap.size wa v d
    | _ => True) ?_ ?_ ?_ ?_ ?_
  · rintro wa wb hb q1
    exact q1.trans (hb.mono q1.size)
  · intro kc v wa wb hC1 hb h
    match kc, h with
    | 0, h => exact h
    | 1, h => exact (Evs.below h hb (Nat.le_refl _)).up hb.size
    | 2, h => exact h
    | 3, h => exact h
    | 4, h => exact (InB.below h hb (Nat.le_refl _)).up hb.size
    | 5, h => exact (Evs.below h hb (Nat.le_refl _)).up hb.size
    | 6, h => exact (InB.below h hb (Nat.le_refl _)).up hb.size
    | kc + 7, h => trivial
  · exact (Below.refl _ _).drew
  · refine ⟨?_, ?_, ?_, ?_, ?_, ?_, ?_, trivial⟩
    · intro f wq hC hd KK hK
      simp only [List.take_succ_cons, List.take_zero, setAll, List.setIfInBounds_toArray, List.set_cons_succ, List.set_cons_zero, Nat.zero_add, Nat.reduceAdd] at hK ⊢
      refine wp_of_quiet rfl ?_
      go_big_quiet_step (fail)
      exact wpQuiet_nil (hK _ _ rfl (Below.refl _ _))
    · intro f wq hC hd KK hK
      have g0 : f 0 = .slice a1 n1 c1 := hd 0 (by kernel_rfl)
      simp only [List.take_succ_cons, List.take_zero, setAll, List.setIfInBounds_toArray, List.set_cons_succ, List.set_cons_zero, Nat.zero_add, Nat.reduceAdd, g0] at hK ⊢
      exact wp_callE 19 #[.slice a1 n1 c1] (by simp [go_sem]) _ (CP.out wq hC) (fun v w' hR => hK _ _ hR.1 hR.2)
    · intro f wq hC hd KK hK
      simp only [List.take_succ_cons, List.take_zero, setAll, List.setIfInBounds_toArray, List.set_cons_succ, List.set_cons_zero, Nat.zero_add, Nat.reduceAdd] at hK ⊢
      refine wp_of_quiet rfl ?_
      go_big_quiet_step (fail)
      exact wpQuiet_nil (hK _ _ rfl (Below.refl _ _))
    · intro f wq hC hd KK hK
      have g2 : f 2 = .pointer (some ⟨w.heap.size, 0, none⟩) := hd 2 (by kernel_rfl)
      have cx : wq.cell? ⟨w.heap.size, 0, none⟩ = some (.slice ad dn cd) := by rw [(RW.out wq hC).cell]; rfl
      simp only [List.take_succ_cons, List.take_zero, setAll, List.setIfInBounds_toArray, List.set_cons_succ, List.set_cons_zero, Nat.zero_add, Nat.reduceAdd, g2] at hK ⊢
      refine wp_of_quiet rfl ?_
      go_big_quiet_step (fail)
      exact wpQuiet_nil (hK _ _ rfl (Below.refl _ _))
    · intro f wq hC hd KK hK
      have g3 : f 3 = .slice ad dn cd := hd 3 (by kernel_rfl)
      simp only [List.take_succ_cons, List.take_zero, setAll, List.setIfInBounds_toArray, List.set_cons_succ, List.set_cons_zero, Nat.zero_add, Nat.reduceAdd, g3] at hK ⊢
      exact wp_callE 20 #[.slice ad dn cd] (by simp [go_sem]) _ (CB.out wq hC) (fun v w' hR => hK _ _ hR.1 hR.2)
    · intro f wq hC hd KK hK
      have xx : Evs wq.heap.size wq (f 1) l := hd 1 (by kernel_rfl)
      simp only [List.take_succ_cons, List.take_zero, setAll, List.setIfInBounds_toArray, List.set_cons_succ, List.set_cons_zero, Nat.zero_add, Nat.reduceAdd] at hK ⊢
      refine wp_of_quiet rfl ?_
      go_big_quiet_step (fail)
      exact wpQuiet_nil (hK _ _ xx (Below.refl _ _))
    · intro f wq hC hd KK hK
      have xx : InB wq.heap.size wq (f 4) d := hd 4 (by kernel_rfl)
      simp only [List.take_succ_cons, List.take_zero, setAll, List.setIfInBounds_toArray, List.set_cons_succ, List.set_cons_zero, Nat.zero_add, Nat.reduceAdd] at hK ⊢
      refine wp_of_quiet rfl ?_
      go_big_quiet_step (fail)
      exact wpQuiet_nil (hK _ _ xx (Below.refl _ _))
  · intro f w1 b1 hF
    have ec : Evs w1.heap.size w1 (f 5) l := hF 5 (by decide)
    have dc : InB w1.heap.size w1 (f 6) d := hF 6 (by decide)
    clear hF
    simp only [List.take_succ_cons, List.take_zero, setAll, List.setIfInBounds_toArray, List.set_cons_succ, List.set_cons_zero, Nat.zero_add, Nat.reduceAdd, List.drop_succ_cons, List.drop_zero]
    generalize f 5 = uc at *
    generalize f 6 = ud at *
    generalize f 0 = x0 at *
    generalize f 1 = x1 at *
    generalize f 2 = x2 at *
    generalize f 3 = x3 at *
    generalize f 4 = x4 at *
    have B1 := Box'.mk b1
    have ap : ∀ w2, Below w1.heap.size w1 w2 → Calls Try.prog 8 #[uc, ud] w2 fun e w' => ∃ (u : Value) (ps : List (Ev × Value)), e = .returned (.tuple #[u, .int .i64 (appF l d).2]) ∧ ps.map (·.1) = (appF l d).1 ∧ OwnE w2.heap.size w' u ps ∧ Below w2.heap.size w2 w' := fun w2 b => hA.out w2 uc ud l d (by rw [hn1]; have := HL.out; omega) (by rw [hdn]; exact HD.out) ((ec.below b (Nat.le_refl _)).up b.size) ((dc.below b (Nat.le_refl _)).up b.size)
    have a1' := ap w1 (Below.refl _ _)
    have AP := Box'.mk ap
    have SI : Box' (∀ w2, Below w1.heap.size w1 w2 → Calls Try.prog 10 #[uc, .int .i64 0] w2 fun e w' => ∃ (u : Value) (ps : List (Ev × Value)), e = .returned (.tuple #[u, .int .i64 (sinF l 0).2]) ∧ ps.map (·.1) = (sinF l 0).1 ∧ OwnE w2.heap.size w' u ps ∧ Below w2.heap.size w2 w') := ⟨fun w2 b => hS.out w2 uc l 0 (by rw [hn1]; have := HL.out; omega) ((ec.below b (Nat.le_refl _)).up b.size)⟩
    have EC := Box'.mk ec
    have DC := Box'.mk dc
    obtain ⟨ac, cc, rfl, _⟩ := ec.cap
    obtain ⟨ae, ce, rfl, _⟩ := dc.slice
    rw [hn1] at a1' AP SI EC ⊢
    rw [hdn] at a1' AP DC ⊢
    clear b1 ap ec dc
    go_wp2_with fail
    refine a1'.mono ?_
    rintro e w2 ⟨ul, ps, rfl, hps, oe, b2⟩
    have B2 := Box'.mk b2
    have s1 := SI.out w2 b2
    have OE := Box'.mk oe
    clear a1' b2 oe
    go_wp2_with fail
    refine s1.mono ?_
    rintro e w3 ⟨us, qs, rfl, hqs, of', b3⟩
    have B3 := Box'.mk b3
    have OE3 := Box'.mk (OE.out.below b3)
    have OF := Box'.mk of'
    clear s1 b3 of'
    have S0 : Box' (Sp w1.heap.size w2.heap.size w3 w3 ul ps 0) := ⟨Sp.start OE.out B2.out.size B3.out⟩
    have LP : Box' (∀ j (hj : j < ps.length), (ps[j]).1.byt.length ≤ 140737488351232) := ⟨fun j hj => Nat.le_trans (appF_byt l d _ (by rw [← hps]; exact List.mem_map.2 ⟨_, List.getElem_mem hj, rfl⟩)) (by decide)⟩
    have LP2 : Box' (∀ j (hj : j < qs.length), (qs[j]).1.byt.length ≤ 140737488351232) := ⟨fun j hj => Nat.le_trans (sinF_byt l 0 _ (by rw [← hqs]; exact List.mem_map.2 ⟨_, List.getElem_mem hj, rfl⟩)) (by decide)⟩
    have DI := Box'.mk OE.out.dis
    have DI2 := Box'.mk OF.out.dis
    have LA := Box'.mk (appF_len l d)
    have hpl : ps.length ≤ 4096 := by have := appF_len l d; rw [← hps, List.length_map] at this; exact this
    have hql : qs.length ≤ 140737488351232 := by have := sinF_len' l 0; rw [← hqs, List.length_map, hnl.out] at this; have := HL.out; omega
    obtain ⟨ula, ulc, hul, hat⟩ : ∃ a c, ul = .slice a ps.length c ∧ ∀ k, k < ps.length → ∃ g, a = some ⟨g, 0, none⟩ := by
      rcases OE.out.row.2 with ⟨e, e0⟩ | ⟨g, cap, cur, e1, _⟩
      · exact ⟨none, 0, by rw [e, e0], fun k hk => by omega⟩
      · exact ⟨_, _, e1, fun k hk => ⟨g, rfl⟩⟩
    obtain ⟨usa, usc, hus, hat2⟩ : ∃ a c, us = .slice a qs.length c ∧ ∀ k, k < qs.length → ∃ g, a = some ⟨g, 0, none⟩ := by
      rcases OF.out.row.2 with ⟨e, e0⟩ | ⟨g, cap, cur, e1, _⟩
      · exact ⟨none, 0, by rw [e, e0], fun k hk => by omega⟩
      · exact ⟨_, _, e1, fun k hk => ⟨g, rfl⟩⟩
    subst hul hus
    have AT := Box'.mk hat
    have AT2 := Box'.mk hat2
    have OF2 := OF
    clear hat hat2 hps hqs
    go_wp2_with fail
    go_loopw [11] (fun i wr => ∃ k : Nat, i = .int .i64 (k : Int) ∧ k ≤ ps.length ∧ Box' (Sp w1.heap.size w2.heap.size w3 wr (.slice ula ps.length ulc) ps k)) (fun i _ => ps.length - (intOf i).toNat)
    case atStart => exact ⟨0, rfl, Nat.zero_le _, S0⟩
    case round =>
      obtain ⟨k, rfl, hk, SS⟩ := hrel
      by_cases hlt : k < ps.length
      · obtain ⟨g, rfl⟩ := AT.out k hlt
        obtain ⟨gM, gN, cur, hrow, hcs, hcu⟩ := SS.out.row g rfl
        have hcw : wr.cell? ⟨g, k * 5 + 1, none⟩ = some (ps[k]).2 := by rw [hrow.cell]; exact hcu k hlt (Nat.le_refl _)
        obtain ⟨ok, okM⟩ := SS.out.own k hlt (Nat.le_refl _)
        have sp : Calls Try.prog 21 #[(ps[k]).2, .int .u8 3] wr fun e w' => e = .returned (.tuple #[]) ∧ wr.grownBy w' (ps[k]).2.ownBlock := spoilL_any 3 ok (LP.out k hlt)
        have NX : Box' (∀ w6, wr.grownBy w6 (ps[k]).2.ownBlock → Row w6 g 48 cur ∧ ∀ c' : Array Value, cur.size = c'.size → (∀ j, (k + 1) * 5 ≤ j → c'[j]? = cur[j]?) → Sp w1.heap.size w2.heap.size w3 (w6.setRow g c') (.slice (some ⟨g, 0, none⟩) ps.length ulc) ps (k + 1)) := ⟨fun w6 g6 => by
          have hr6 : Row w6 g 48 cur := hrow.same (g6.block g hrow.lt fun e => by
            obtain ⟨_, cb, rb⟩ := ok.lt g e.symm
            unfold Row at rb hrow
            rw [rb] at hrow
            simp at hrow)
          exact ⟨hr6, fun c' h1 h2 => SS.out.next hlt DI.out rfl g6 hr6 h1 h2 hrow⟩⟩
        obtain ⟨ax, cx, hax⟩ := ok.slice
        rw [hax] at hcw sp NX
        have hfit : k * 5 + (#[.int .u8 0, .slice none 0 0, .int .i64 0, .int .i64 0, .int .u8 0] : Array Value).size ≤ cur.size := by simp; omega
        clear ok okM hrow hcu SS hax
        generalize (ps[k]).1.byt.length = xn at *
        go_wp2_with fail
        refine sp.mono ?_
        rintro e w6 ⟨rfl, g6⟩
        obtain ⟨hr6, nx⟩ := NX.out w6 g6
        clear sp NX g6 hcw
        obtain ⟨c', hc'⟩ : ∃ c', (cur.toList.take (k * 5) ++ (#[.int .u8 0, .slice none 0 0, .int .i64 0, .int .i64 0, .int .u8 0] : Array Value).toList ++ cur.toList.drop (k * 5 + (#[.int .u8 0, .slice none 0 0, .int .i64 0, .int .i64 0, .int .u8 0] : Array Value).size)).toArray = c' := ⟨_, rfl⟩
        have NY := Box'.mk (nx c' (part_facts _ _ _ hfit hc').1 (fun j hj => (part_facts _ _ _ hfit hc').2 j (by simp; omega)))
        clear nx
        go_wp2_with (first
          | (refine wpList_store_part rfl 48 (.tmp 48) (.tmp 47) rfl g 48 (k * 5) cur #[.int .u8 0, .slice none 0 0, .int .i64 0, .int .i64 0, .int .u8 0] _ rfl rfl hr6 Try.size48 hfit one_zero hc' ?_)
          | fail)
        exact ⟨⟨k + 1, by go_num, by omega, NY⟩, by simp [intOf]; omega⟩
      · have hke : k = ps.length := by omega
        have hnlt : decide ((k : Int) < (ps.length : Int)) = false := decide_eq_false (by omega)
        rename World => wa
        have SE := SS.out
        rw [hke] at SE
        have OFr : Box' (OwnE w2.heap.size wa (.slice usa qs.length usc) qs) := ⟨by
          refine OF.out.same (fun b hb => ?_) fun p hp => (OF.out.own p hp).same fun b hb => ?_
          · obtain ⟨q1, cb, q2⟩ := OF.out.lt b hb
            exact SE.oth b q1 q2.lt
          · obtain ⟨q1, cb, q2⟩ := (OF.out.own p hp).lt b hb
            exact SE.oth b q1 q2.lt⟩
        have T0 : Box' (Sp w2.heap.size wa.heap.size wa wa (.slice usa qs.length usc) qs 0) := ⟨Sp.start OFr.out (Nat.le_trans B3.out.size SE.bel.size) (Below.refl _ _)⟩
        have B1r : Box' (Below w1.heap.size w1 wa) := ⟨B2.out.trans ((B3.out.mono B2.out.size).trans SE.bel)⟩
        clear SE OFr OF SS AT hke DI LP OE3 OE S0
        go_wp2_with fail
        clear hnlt
        go_loopw [12] (fun i wr => ∃ k : Nat, i = .int .i64 (k : Int) ∧ k ≤ qs.length ∧ Box' (Sp w2.heap.size wa.heap.size wa wr (.slice usa qs.length usc) qs k)) (fun i _ => qs.length - (intOf i).toNat)
        case atStart => exact ⟨0, rfl, Nat.zero_le _, T0⟩
        case round =>
          obtain ⟨k, rfl, hk, SS⟩ := hrel
          by_cases hlt : k < qs.length
          · obtain ⟨g, rfl⟩ := AT2.out k hlt
            obtain ⟨gM, gN, cur, hrow, hcs, hcu⟩ := SS.out.row g rfl
            have hcw : wr.cell? ⟨g, k * 5 + 1, none⟩ = some (qs[k]).2 := by rw [hrow.cell]; exact hcu k hlt (Nat.le_refl _)
            obtain ⟨ok, okM⟩ := SS.out.own k hlt (Nat.le_refl _)
            have sp : Calls Try.prog 21 #[(qs[k]).2, .int .u8 4] wr fun e w' => e = .returned (.tuple #[]) ∧ wr.grownBy w' (qs[k]).2.ownBlock := spoilL_any 4 ok (LP2.out k hlt)
            have NX : Box' (∀ w6, wr.grownBy w6 (qs[k]).2.ownBlock → Row w6 g 48 cur ∧ ∀ c' : Array Value, cur.size = c'.size → (∀ j, (k + 1) * 5 ≤ j → c'[j]? = cur[j]?) → Sp w2.heap.size wa.heap.size wa (w6.setRow g c') (.slice (some ⟨g, 0, none⟩) qs.length usc) qs (k + 1)) := ⟨fun w6 g6 => by
              have hr6 : Row w6 g 48 cur := hrow.same (g6.block g hrow.lt fun e => by
                obtain ⟨_, cb, rb⟩ := ok.lt g e.symm
                unfold Row at rb hrow
                rw [rb] at hrow
                simp at hrow)
              exact ⟨hr6, fun c' h1 h2 => SS.out.next hlt DI2.out rfl g6 hr6 h1 h2 hrow⟩⟩
            obtain ⟨ax, cx, hax⟩ := ok.slice
            rw [hax] at hcw sp NX
            have hfit : k * 5 + (#[.int .u8 0, .slice none 0 0, .int .i64 0, .int .i64 0, .int .u8 0] : Array Value).size ≤ cur.size := by simp; omega
            clear ok okM hrow hcu SS hax
            generalize (qs[k]).1.byt.length = xn at *
            go_wp2_with fail
            refine sp.mono ?_
            rintro e w6 ⟨rfl, g6⟩
            obtain ⟨hr6, nx⟩ := NX.out w6 g6
            clear sp NX g6 hcw
            obtain ⟨c', hc'⟩ : ∃ c', (cur.toList.take (k * 5) ++ (#[.int .u8 0, .slice none 0 0, .int .i64 0, .int .i64 0, .int .u8 0] : Array Value).toList ++ cur.toList.drop (k * 5 + (#[.int .u8 0, .slice none 0 0, .int .i64 0, .int .i64 0, .int .u8 0] : Array Value).size)).toArray = c' := ⟨_, rfl⟩
            have NY := Box'.mk (nx c' (part_facts _ _ _ hfit hc').1 (fun j hj => (part_facts _ _ _ hfit hc').2 j (by simp; omega)))
            clear nx
            go_wp2_with (first
              | (refine wpList_store_part rfl 48 (.tmp 64) (.tmp 63) rfl g 48 (k * 5) cur #[.int .u8 0, .slice none 0 0, .int .i64 0, .int .i64 0, .int .u8 0] _ rfl rfl hr6 Try.size48 hfit one_zero hc' ?_)
              | fail)
            exact ⟨⟨k + 1, by go_num, by omega, NY⟩, by simp [intOf]; omega⟩
          · have hke : k = qs.length := by omega
            have hnlt : decide ((k : Int) < (qs.length : Int)) = false := decide_eq_false (by omega)
            have C0 : Box' (Below w1.heap.size w1 wr) := ⟨B1r.out.trans (SS.out.bel.mono B2.out.size)⟩
            have F0 : Box' (Below w0.heap.size w0 wr) := ⟨B1.out.trans (C0.out.mono B1.out.size)⟩
            have ap := AP.out wr C0.out
            clear SS AT2 hke DI2 LP2 OF2 T0 AP SI hS hA
            go_wp2_with fail
            clear hnlt
            refine ap.mono ?_
            rintro e w4 ⟨u4, p4, rfl, hp4, o4, b4⟩
            have C4 : Box' (Below w1.heap.size w1 w4) := ⟨C0.out.trans (b4.mono C0.out.size)⟩
            have F4 : Box' (Below w0.heap.size w0 w4) := ⟨F0.out.trans (b4.mono F0.out.size)⟩
            have I4 : Box' (Evs w4.heap.size w4 u4 (appF l d).1) := ⟨hp4 ▸ o4.evs⟩
            have r4 := RW.out w4 F4.out
            have k4 : w4.cell? ⟨w.heap.size, 0, none⟩ = some (.slice ad dn cd) := by rw [r4.cell]; rfl
            have ra := RA.out w4 (UPC.out w4 F4.out)
            clear ap b4 o4 hp4 r4
            go_wp2_with fail
            refine ra.mono ?_
            rintro e w5 ⟨u5, p5, rfl, hp5, o5, b5⟩
            have C5 : Box' (Below w1.heap.size w1 w5) := ⟨C4.out.trans (b5.mono C4.out.size)⟩
            have F5 : Box' (Below w0.heap.size w0 w5) := ⟨F4.out.trans (b5.mono F4.out.size)⟩
            have I45 : Box' (Evs w5.heap.size w5 u4 (appF l d).1) := ⟨(I4.out.below b5 (Nat.le_refl _)).up b5.size⟩
            have I5 : Box' (Evs w5.heap.size w5 u5 (appF l d).1) := ⟨hp5 ▸ o5.evs⟩
            have an := AN.out w5
            clear ra b5 o5 hp5 k4 I4
            go_wp2_with fail
            refine an.mono ?_
            rintro e w6 ⟨rfl, b6⟩
            have C6 : Box' (Below w1.heap.size w1 w6) := ⟨C5.out.trans (b6.mono C5.out.size)⟩
            have F6 : Box' (Below w0.heap.size w0 w6) := ⟨F5.out.trans (b6.mono F5.out.size)⟩
            have ls := LS.out w6 _ _ l (by rw [hnl.out]; have := HL.out; omega) (EAW.out w6 (UPC.out w6 F6.out)) ((EC.out.below C6.out (Nat.le_refl _)).up C6.out.size)
            have I46 : Box' (Evs w6.heap.size w6 u4 (appF l d).1) := ⟨(I45.out.below b6 (Nat.le_refl _)).up b6.size⟩
            have I6 : Box' (Evs w6.heap.size w6 u5 (appF l d).1) := ⟨(I5.out.below b6 (Nat.le_refl _)).up b6.size⟩
            clear an b6 I45 I5
            go_wp2_with fail
            refine ls.mono ?_
            rintro e w7 ⟨rfl, b7⟩
            have C7 : Box' (Below w1.heap.size w1 w7) := ⟨C6.out.trans (b7.mono C6.out.size)⟩
            have F7 : Box' (Below w0.heap.size w0 w7) := ⟨F6.out.trans (b7.mono F6.out.size)⟩
            have r7 := RW.out w7 F7.out
            have k7 : w7.cell? ⟨w.heap.size, 0, none⟩ = some (.slice ad dn cd) := by rw [r7.cell]; rfl
            have sm := SM.out w7 _ _ d ((DC.out.below C7.out (Nat.le_refl _)).up C7.out.size) (EDW.out w7 (UPC.out w7 F7.out))
            have ls2 := LS.out w7 _ _ _ (Nat.le_trans LA.out (by decide)) ((I46.out.below b7 (Nat.le_refl _)).up b7.size) ((I6.out.below b7 (Nat.le_refl _)).up b7.size)
            have hx : ((appF l d).2 == (appF l d).2) = true := by simp
            clear ls b7 r7 I46 I6
            generalize (appF l d).2 = xa at *
            go_wp2_with fail
            refine sm.mono ?_
            rintro e w8 ⟨rfl, rfl⟩
            clear sm
            go_wp2_with fail
            refine ls2.mono ?_
            rintro e w9 ⟨rfl, b9⟩
            have F9 : Box' (Below w0.heap.size w0 w9) := ⟨F7.out.trans (b9.mono F7.out.size)⟩
            clear ls2 b9
            go_wp2_with fail
            go_ret
            exact ⟨rfl, UPC.out _ F9.out⟩
end Go.Proofs.Ytpgljhgfoihnjaa
