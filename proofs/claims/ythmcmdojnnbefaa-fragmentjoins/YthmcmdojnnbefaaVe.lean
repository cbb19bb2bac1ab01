/- The walk of FragmentJoins. -/
import Derived.Test.YthmcmdojnnbefaaVc
import Derived.Test.YthmcmdojnnbefaaVd
namespace Go.Proofs.Ythmcmdojnnbefaa
open Go.RowKit Go.BigFrame
set_option linter.unusedVariables false
set_option linter.unusedSimpArgs false

theorem JIn.tkR {s : Jn} {p : Prt} (h : JIn s) (hm : p.may = true) : JIn (tkR s p).1 := by
  have hmm : 0 ≤ p.n ∧ p.n < 256 ∧ p.d.length ≤ 1024 := by
    unfold Prt.may mayN at hm
    rw [decide_eq_true_eq] at hm
    exact ⟨hm.1, hm.2.1, hm.2.2.1⟩
  unfold Go.Proofs.Ythmcmdojnnbefaa.tkR
  cases he : s.ended with
  | true => exact h
  | false =>
    simp only [Bool.false_eq_true, if_false]
    cases hg : get s.L p.n.toNat with
    | some y => exact h
    | none =>
      simp only
      cases hw : whF (s.L ++ [⟨p.n.toNat, p.last, p.d⟩]) with
      | none => exact ⟨h.ok.put _ _ _ (by omega) hmm.2.2 hg _, (fun h => by cases h), fun _ => hw⟩
      | some k => exact ⟨JOk.new _ h.ok.id true, fun _ => rfl, (fun h => by cases h)⟩
theorem JIn.tkF {s : Jn} {p : Prt} (h : JIn s) (hp : p.id < 18446744073709551616) : JIn (tkF s p).1 := by
  unfold Go.Proofs.Ythmcmdojnnbefaa.tkF
  cases hm : p.may with
  | false => exact h
  | true =>
    simp only [Bool.true_eq_false, if_false]
    split
    · exact h
    · split
      · exact (JIn.new p.id hp).tkR hm
      · exact h.tkR hm
theorem JR.bt2 {N tb jb g : Nat} {w w' : World} {any : Bool} {s : Jn} {vL : Value} {qs : List (Prt × Value)} {c : Array Value} (h : JR N w tb any s vL qs) (hj : Row w jb 69 c) {es : Array MapEntry} {cl : Nat} (hg : w.heap[g]? = some (.map es cl)) (hb : Bt2 jb g w w') : JR N w' tb any s vL qs :=
  ⟨h.row.same (hb.block tb h.row.lt (row_ne h.row hj (by decide)) (fun e => by have r := h.row; unfold Row at r; rw [e, hg] at r; cases r)), h.own.bt2 hj hg hb, h.ls, h.nl⟩
theorem OwnB.bq {N M tb : Nat} {w w' : World} {v vL : Value} {d : List UInt8} {c : Array Value} {qs : List (Prt × Value)} (h : OwnB N w v d) (ht : Row w tb 48 c) (hq : OwnQ M w vL qs) (hb : Bq tb vL.ownBlock w w') : OwnB N w' v d := h.same fun k hk => by
  obtain ⟨_, cur, r⟩ := h.lt k hk
  exact hb.block k r.lt (row_ne r ht (by decide)) (fun e => by obtain ⟨_, cur2, r2⟩ := hq.lt k e; exact row_ne r r2 (by decide) rfl)
theorem JS.bq {M tb jb g : Nat} {w w' : World} {vL : Value} {s : Jn} {ps : List (Pc × Value)} {c : Array Value} {qs : List (Prt × Value)} (h : JS w jb g s ps) (ht : Row w tb 48 c) (hq : OwnQ M w vL qs) (hb : Bq tb vL.ownBlock w w') : JS w' jb g s ps := by
  obtain ⟨es, cl, hm, _⟩ := h.map
  refine ⟨h.row.same (hb.block jb h.jl (row_ne h.row ht (by decide)) (fun e => by obtain ⟨_, cur2, r2⟩ := hq.lt jb e; exact row_ne h.row r2 (by decide) rfl)), h.map.same (hb.block g h.gl (fun e => by have r := ht; unfold Row at r; rw [← e, hm] at r; cases r) (fun e => by obtain ⟨_, cur2, r2⟩ := hq.lt g e; unfold Row at r2; rw [hm] at r2; cases r2)), h.ls, fun p hp => (h.byt p hp).bq ht hq hb⟩
theorem Try.zero48 : (Try.prog.info? 48).map (fun i => (i.zero, i.size)) = some (some (.agg #[.int .u64 0, .slice none 0 0, .bool false, .bool false]), 4) := by kernel_rfl
set_option maxRecDepth 100000 in
set_option maxHeartbeats 8000000 in
theorem joins_any (w : World) (v : Value) (l : List Prt) (h : Pts w.heap.size w v l) (hn : l.length ≤ 140737488351232) :
    Calls Try.prog 4 #[v] w fun e w' => e = .returned (.bool true) ∧ Below w.heap.size w w' := by
  have AN := Box'.mk anchored_any
  obtain ⟨a, c, rfl, hc, hat⟩ := h
  have HAT := Box'.mk hat
  obtain ⟨ll, hll⟩ : ∃ ll, l.length = ll := ⟨_, rfl⟩
  have HLL := Box'.mk hll
  rw [hll] at hn hc ⊢
  clear hat hll
  go_enter Try.func4, Try.ntmps4
  go_wp2_with fail
  refine (new_any w).mono ?_
  rintro e1 w1 ⟨jb, g, rfl, hj, hg, js, b1⟩
  obtain ⟨w2, hw2⟩ : ∃ w2, w2 = w1.alloc (.cells #[.int .u64 0, .slice none 0 0, .bool false, .bool false] 48) := ⟨_, rfl⟩
  have b2 : Below w1.heap.size w1 w2 := by rw [hw2]; exact (Below.refl _ _).alloc (Nat.le_refl _) _
  have r2 : Row w2 w1.heap.size 48 #[.int .u64 0, .slice none 0 0, .bool false, .bool false] := by rw [hw2]; exact Row.new _ _ _
  have HJ2 := Box'.mk (js.below b2)
  have HR2 : Box' (JR w.heap.size w2 w1.heap.size false ⟨0, false, []⟩ (.slice none 0 0) []) := ⟨⟨r2, OwnQ.nil _ _, rfl, b1.size⟩⟩
  have HB2 : Box' (Below w.heap.size w w2) := ⟨b1.trans (b2.mono b1.size)⟩
  have HJG : Box' (w.heap.size ≤ jb ∧ w.heap.size ≤ g ∧ w.heap.size ≤ w1.heap.size) := ⟨hj, hg, b1.size⟩
  clear js b1 b2 r2 hj hg
  go_wp2_with fail
  rw [← hw2]
  clear hw2
  generalize w1.heap.size = tb at *
  go_loopw [5] (fun iv wr => ∃ (k : Nat) (s : Jn) (ps : List (Pc × Value)) (any : Bool) (vL : Value) (qs : List (Prt × Value)), iv = .int .i64 (k : Int) ∧ k ≤ ll ∧ Box' (JS wr jb g s ps) ∧ Box' (JR w.heap.size wr tb any s vL qs) ∧ Box' (JIn s) ∧ Box' (any = false → s = ⟨0, false, []⟩) ∧ Box' (Below w.heap.size w wr)) (fun iv _ => ll - (intOf iv).toNat)
  case atStart => exact ⟨0, _, _, false, _, _, rfl, by omega, HJ2, HR2, ⟨JIn.new 0 (by omega)⟩, ⟨fun _ => rfl⟩, HB2⟩
  case round =>
    clear HJ2 HR2 HB2
    obtain ⟨k, s, ps, any, vL, qs, rfl, hk, HJ, HR, HI, HA, HB⟩ := hrel
    by_cases hlt : k < ll
    · have hkl : k < l.length := by rw [HLL.out]; exact hlt
      obtain ⟨b, o, ea, hbN, vb, hrg, hin, hpi⟩ := HAT.out k hkl
      subst ea
      generalize l[k] = p at *
      have HRG : Box' (∀ w1, Below w.heap.size w w1 → w1.rangeAt b (o + k * 4) (prC p vb)) := ⟨fun w1 hb => range_below hrg hb hbN⟩
      have HBT : Box' (∀ w1, Below w.heap.size w w1 → Bts (· < w.heap.size) w1 vb p.d) := ⟨fun w1 hb => hin.bts.below hb (fun b hb => hb)⟩
      have TK := take_any wr jb g s ps HJ.out HI.out.ok p hpi (· < w.heap.size) vb (HBT.out wr HB.out) (fun b hb => by have h1 := HB.out.size; have h2 := HJG.out; exact ⟨by omega, by omega, by omega⟩)
      have HIR : Box' (JIn (tkF s p).1) := ⟨HI.out.tkF hpi⟩
      have RT := Box'.mk (fun (w1 : World) (h1 : JR w.heap.size w1 tb any s vL qs) (h2 : Below w.heap.size w w1) => refTake_any w.heap.size w1 tb any s vL qs h1 HI.out HA.out h2.size p hpi vb (HBT.out w1 h2))
      generalize tkF s p = R at *
      obtain ⟨s', bs, done, er⟩ := R
      have HR1 : Box' (wr.rangeAt b (o + k * 4) (prC p vb)) := ⟨HRG.out wr HB.out⟩
      unfold pv at TK RT
      clear hrg hin hbN
      have HTK := Box'.mk TK
      clear TK
      go_wp2_with (refine wpList_load_mid rfl 25 _ rfl _ _ rfl _ _ HR1.out Try.underlying25 rfl Try.info25 ?_)
      refine HTK.out.mono ?_
      rintro e3 w3 ⟨u3, rfl, o3, ⟨ps3, j3⟩, b3⟩
      clear HTK HR1
      obtain ⟨es, cl, hmp, _⟩ := HJ.out.map
      have HJ3 := Box'.mk j3
      have HR3 := Box'.mk (HR.out.bt2 HJ.out.row hmp b3)
      have HB3 : Box' (Below w.heap.size w w3) := ⟨HB.out.trans (b3.below HB.out.size HJG.out.1 HJG.out.2.1)⟩
      have HO3 := Box'.mk o3
      obtain ⟨a3, c3, hu3⟩ := o3.slice
      subst hu3
      have HG3 := Box'.mk (HRG.out w3 HB3.out)
      simp only at HJ3 HO3 HIR ⊢
      generalize hl3 : bs.length = l3 at *
      clear hl3 o3 j3 b3 hmp HJ HR HB HI HA
      go_wp2_with (refine wpList_load_mid rfl 25 _ rfl _ _ rfl _ _ HG3.out Try.underlying25 rfl Try.info25 ?_)
      refine (RT.out w3 HR3.out HB3.out).mono ?_
      rintro e4 w4 ⟨u4, any', vL', qs', rfl, o4, r4, hany, b4⟩
      clear RT
      have HJ4 := Box'.mk (HJ3.out.bq HR3.out.row HR3.out.own b4)
      have HO34 := Box'.mk (HO3.out.bq HR3.out.row HR3.out.own b4)
      have HR4 := Box'.mk r4
      have HO4 := Box'.mk o4
      have HAN := Box'.mk hany
      have HB4 : Box' (Below w.heap.size w w4) := ⟨HB3.out.trans (b4.below HB3.out.size HJG.out.2.2 (fun j hj => (HR3.out.own.lt j hj).1))⟩
      obtain ⟨a4, c4, hu4⟩ := o4.slice
      subst hu4
      simp only at HR4 HO4 HAN ⊢
      generalize hl4 : bs.length = l4 at *
      clear hl4 o4 r4 hany b4 HJ3 HR3 HB3 HO3 HG3
      have HH := holds_any w4 jb g s' ps3 HJ4.out HIR.out.ok
      go_wp2_with fail
      refine HH.mono ?_
      rintro e5 w5 ⟨rfl, b5⟩
      clear HH
      have HJ5 := Box'.mk (HJ4.out.below b5)
      have HR5 := Box'.mk (HR4.out.below b5)
      have HO35 := Box'.mk (HO34.out.below b5)
      have HO5 := Box'.mk (HO4.out.below b5)
      have HB5 : Box' (Below w.heap.size w w5) := ⟨HB4.out.trans (b5.mono HB4.out.size)⟩
      have RH := refHolds_any w.heap.size w5 tb any' s' vL' qs' HR5.out HIR.out.ok
      clear b5 HJ4 HR4 HO34 HO4 HB4
      go_wp2_with fail
      refine RH.mono ?_
      rintro e6 w6 ⟨rfl, b6⟩
      clear RH
      have HJ6 := Box'.mk (HJ5.out.below b6)
      have HR6 := Box'.mk (HR5.out.below b6)
      have HB6 : Box' (Below w.heap.size w w6) := ⟨HB5.out.trans (b6.mono HB5.out.size)⟩
      have SM := refSame_any _ _ _ _ _ _ w6 (HO35.out.below b6).bts (HO5.out.below b6).bts
      simp only [decide_true] at SM
      clear b6 HJ5 HR5 HO35 HO5 HB5
      go_wp2_with fail
      refine SM.mono ?_
      rintro e7 w7 ⟨rfl, hww⟩
      rw [hww]
      clear SM hww w7
      go_wp2_with fail
      exact ⟨⟨k + 1, s', ps3, any', vL', qs', by go_num, by omega, HJ6, HR6, HIR, HAN, HB6⟩, by simp [intOf]; omega⟩
    · obtain rfl : k = ll := by omega
      go_wp2_with fail
      refine (AN.out wr).mono ?_
      rintro e4 w5 ⟨rfl, b4⟩
      have HB5 : Box' (Below w.heap.size w w5) := ⟨HB.out.trans (b4.mono HB.out.size)⟩
      clear b4 AN
      go_wp2_with fail
      go_ret
      exact ⟨rfl, HB5.out⟩
end Go.Proofs.Ythmcmdojnnbefaa
