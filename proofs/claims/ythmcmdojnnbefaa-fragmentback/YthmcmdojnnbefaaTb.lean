/- The walk of FragmentBack. -/
import Derived.Test.YthmcmdojnnbefaaTa
import Derived.Test.YthmcmdojnnbefaaOb
namespace Go.Proofs.Ythmcmdojnnbefaa
open Go.RowKit Go.BigFrame
set_option linter.unusedVariables false
set_option linter.unusedSimpArgs false

/-- Which parts have come, as they lie in memory. -/
def sn (T : Nat → Bool) : Array Value := ((List.range 256).map fun k => Value.bool (T k)).toArray
theorem sn_get (T : Nat → Bool) {n : Nat} (h : n < 256) : (sn T)[n]? = some (.bool (T n)) := by
  unfold sn
  simp [h]
theorem sn_set (T : Nat → Bool) {n : Nat} (h : n < 256) : (sn T).setIfInBounds n (.bool true) = sn (updT T n) := by
  unfold sn
  simp only [List.setIfInBounds_toArray]
  congr 1
  apply List.ext_getElem?
  intro i
  rw [List.getElem?_set]
  by_cases e : n = i
  · subst e
    simp [h, updT]
  · rw [if_neg e]
    by_cases hi : i < 256
    · simp [hi, updT, Ne.symm e]
    · simp [hi]
theorem sn_zero : sn (fun _ => false) = (List.replicate 256 (Value.bool false)).toArray := by
  unfold sn
  rw [List.map_const', List.length_range]
theorem Try.zero58 : (Try.prog.info? 58).map (fun i => (i.zero, i.size)) = some (some (.agg (List.replicate 256 (Value.bool false)).toArray), 256) := by kernel_rfl
theorem wpList_alloc_sn {ops : Array Oper} {rest : List Oper} {op : Oper} {a : Act} {w : World} {Q : Exit → Act → World → Prop} (hgd : op.guard = none) (ho : op.op = .alloc 58)
    (h : ∀ W, W = w.alloc (.cells (sn fun _ => false) 58) → wpList Try.prog ops Q rest (a.put op.dst (.pointer (some ⟨w.heap.size, 0, none⟩))) W) : wpList Try.prog ops Q (op :: rest) a w :=
  wpList_plain hgd fun _ hK => wp_alloc_row 58 ho _ 256 Try.zero58 (hK _ _ (h _ (by rw [sn_zero])))
set_option maxRecDepth 100000 in
set_option maxHeartbeats 16000000 in
theorem back_any (w : World) (v : Value) (b : List UInt8) (hb : InB w.heap.size w v b) (hbn : b.length ≤ 140737488351232) (sz : Nat) (hsz : sz < 65536) (vo : Value) (od : List UInt8) (hod : InB w.heap.size w vo od) (hon : od.length ≤ 140737488351232) :
    Calls Try.prog 6 #[v, .int .u16 (sz : Int), vo] w fun e w' => e = .returned (.bool true) ∧ Below w.heap.size w w' := by
  have AN := Box'.mk anchored_any
  obtain ⟨z, hz⟩ : ∃ z, z = sz % 1024 + 1 := ⟨_, rfl⟩
  have hz1 : 1 ≤ z := by omega
  have hz2 : z ≤ 1024 := by omega
  have hzi : (sz : Int) % 1024 + 1 = (z : Int) := by omega
  have SP := split_any w.heap.size w v b 9 (z : Int) (Nat.le_refl _) hb hbn (by omega)
  have HSR := Box'.mk (spR.eq_1 9 (z : Int) b)
  generalize spR 9 (z : Int) b = SR at *
  obtain ⟨ab, cb, hvb, _⟩ := hb.slice
  obtain ⟨ao, co, hvo, _⟩ := hod.slice
  subst hvb hvo
  have HBD := Box'.mk hb
  have HOD := Box'.mk hod
  generalize hbl : b.length = bl at *
  generalize hol : od.length = ol at *
  have HBL := Box'.mk hbl
  have HOL := Box'.mk hol
  rw [← hzi] at SP
  have HZI := Box'.mk hzi
  have HSP := Box'.mk SP
  clear hb hod hbl hol hz hzi SP
  go_enter Try.func6, Try.ntmps6
  go_wp2_with fail
  refine HSP.out.mono ?_
  rintro e1 w1 ⟨u1, qs, rfl, q1, hqs, b1⟩
  clear HSP
  have HQ1 := Box'.mk q1
  have HB1 := Box'.mk b1
  have HQS := Box'.mk hqs
  clear q1 b1 hqs
  obtain ⟨au, cu, hu1⟩ := HQ1.out.slice
  subst hu1
  generalize hqc : qs.length = c at *
  have HQC := Box'.mk hqc
  clear hqc
  have e2 := HSR.out
  rw [if_neg (by omega)] at e2
  by_cases hl : 256 * (z : Int) < bl
  · rw [if_pos hl] at e2
    subst e2
    clear HSR
    go_wp2_with fail
    refine (new_any w1).mono ?_
    rintro e3 w3 ⟨jb, g, rfl, hj, hg, js, b3⟩
    have HB3 : Box' (Below w.heap.size w w3) := ⟨HB1.out.trans (b3.mono HB1.out.size)⟩
    clear js b3 HB1 hj hg
    go_wp2_with fail
    refine (AN.out w3).mono ?_
    rintro e4 w4 ⟨rfl, b4⟩
    have HB4 : Box' (Below w.heap.size w w4) := ⟨HB3.out.trans (b4.mono HB3.out.size)⟩
    clear b4 AN HB3
    go_wp2_with fail
    go_ret
    exact ⟨rfl, HB4.out⟩
  · rw [if_neg hl] at e2
    have e3 : SR = (spL 9 z b, 0) := e2
    subst e3
    clear HSR e2
    have hlb : b.length ≤ 256 * z := by rw [HBL.out]; omega
    have HLB := Box'.mk hlb
    have hcc : c = spN bl z := by
      have := congrArg List.length HQS.out
      rw [List.length_map, HQC.out] at this
      rw [this, spL, List.length_map, List.length_range, HBL.out]
    have HCC := Box'.mk hcc
    have hc1 : 1 ≤ c := by rw [hcc]; exact spN_pos _ _
    have hc2 : c ≤ 256 := by rw [hcc, ← HBL.out]; exact spN_le hz1 hlb
    have HAT : Box' (∀ n (hn : n < qs.length), qs[n].1 = spP 9 z b n) := ⟨fun n hn => by
      have := congrArg (fun l => l[n]?) HQS.out
      simp only [spL, List.getElem?_map, List.getElem?_eq_getElem hn, Option.map_some] at this
      rw [List.getElem?_range (by have := HQC.out; have := HCC.out; rw [HBL.out]; omega)] at this
      simpa using this⟩
    clear hcc hlb hl
    go_wp2_with fail
    refine (new_any w1).mono ?_
    rintro e3 w3 ⟨jb, g, rfl, hj, hg, js, b3⟩
    have HQ3 := Box'.mk (HQ1.out.below b3)
    have HB3 : Box' (Below w.heap.size w w3) := ⟨HB1.out.trans (b3.mono HB1.out.size)⟩
    have HJ3 := Box'.mk js
    have hj0 : w.heap.size ≤ jb := Nat.le_trans HB1.out.size hj
    have hg0 : w.heap.size ≤ g := Nat.le_trans HB1.out.size hg
    have HJG : Box' (w.heap.size ≤ jb ∧ w.heap.size ≤ g) := ⟨hj0, hg0⟩
    have hc0 : ((c : Int) == 0) = false := by simp; omega
    have hc256 : ¬ (256 < (c : Int)) := by omega
    clear js b3 HB1 hj hg HQ1 hj0 hg0
    go_wp2_with (refine wpList_alloc_sn rfl rfl ?_; intro w4 hw4; have b4 : Below w3.heap.size w3 w4 := (by rw [hw4]; exact (Below.refl _ _).alloc (Nat.le_refl _) _); have r4 : Row w4 w3.heap.size 58 (sn fun _ => false) := (by rw [hw4]; exact Row.new _ _ _); have HR4 := Box'.mk r4; have HQ4 := Box'.mk (HQ3.out.below b4); have HJ4 := Box'.mk (HJ3.out.below b4); have HB4 : Box' (Below w.heap.size w w4) := ⟨HB3.out.trans (b4.mono HB3.out.size)⟩; clear hw4 b4 r4 HQ3 HJ3)
    have HSB : Box' (w.heap.size ≤ w3.heap.size) := ⟨HB3.out.size⟩
    generalize w3.heap.size = sb at *
    clear HB3 hc0 hc256
    have HCZ : Box' (nmis (fun _ => false) c = c) := ⟨by
      have : ∀ k, nmis (fun _ => false) k = k := fun k => by
        induction k with
        | zero => rfl
        | succ k ih => rw [nmis, ih]; rfl
      exact this c⟩
    go_loopw [11, 12, 13] (fun lv cv iv wr => ∃ (i came lf : Nat) (T : Nat → Bool) (s : Jn) (ps : List (Pc × Value)), lv = .int .i64 (lf : Int) ∧ cv = .int .i64 (came : Int) ∧ iv = .int .i64 (i : Int) ∧ i ≤ ol + c ∧ lf ≤ 256 ∧ came ≤ 1 ∧ Box' (lf = nmis T c) ∧ Box' (∀ k, k < c → ol + k < i → T k = true) ∧ Box' (BI z b s T came) ∧ Box' (JS wr jb g s ps) ∧ Box' (Row wr sb 58 (sn T)) ∧ Box' (OwnQ w.heap.size wr (.slice au c cu) qs) ∧ Box' (Below w.heap.size w wr)) (fun _ _ iv _ => ol + c - (intOf iv).toNat)
    case atStart => exact ⟨0, 0, c, _, _, _, rfl, rfl, rfl, by omega, hc2, by omega, ⟨HCZ.out.symm⟩, ⟨fun k hk h => absurd h (by omega)⟩, ⟨BI.start z b (by have := HCC.out; rw [HBL.out]; omega)⟩, HJ4, HR4, HQ4, HB4⟩
    case round =>
      obtain ⟨i, came, lf, T, s, ps, rfl, rfl, rfl, hi, hlf, hcm, HLF, HTI, HBI, HJ, HR, HQ, HB⟩ := hrel
      clear HJ4 HR4 HQ4 HB4 HCZ
      by_cases hend : i < ol + c
      · by_cases hio : i < ol
        · obtain ⟨y, hy⟩ : ∃ y : UInt8, y = od.getD i 0 := ⟨_, rfl⟩
          obtain ⟨go, oo, co', hvo, hgo, hcell⟩ := HOD.out.cell (k := i) (by rw [HOL.out]; exact hio)
          rw [HOL.out] at hvo
          injection hvo with hv1 hv2 hv3
          subst hv1 hv3
          have cw : wr.cell? ⟨go, oo + i, none⟩ = some (.int .u8 (y.toNat : Int)) := by
            rw [HB.out.cell (p := ⟨go, oo + i, none⟩) hgo, hcell i (by rw [HOL.out]; exact hio), hy]
          obtain ⟨n, hnq⟩ : ∃ n, n = y.toNat % c := ⟨_, rfl⟩
          have hn : n < c := by rw [hnq]; exact Nat.mod_lt _ (by omega)
          have hnv : Int.tmod (y.toNat : Int) (c : Int) = (n : Int) := by rw [hnq, Int.tmod_eq_emod_of_nonneg (by omega)]; omega
          have hwy : wrap64 (y.toNat : Int) = (y.toNat : Int) := by have := y.toNat_lt; unfold wrap64; omega
          have hc0 : ¬ ((c : Int) = 0) := by omega
          have HTN : Box' (∀ k, k < c → ol + k < i + 1 → updT T n k = true) := ⟨fun k hk h => by omega⟩
          clear hcell hgo hy hnq
          go_upto_region 15 with fail
          clear cw hnv hc0 hio hwy
          obtain ⟨s', bs, done, htk, hid, hdone, hbs, hbi⟩ := HBI.out.step hz1 hz2 HLB.out (n := n) (by rw [HBL.out]; have := HCC.out; omega)
          have hnq : n < qs.length := by have := HQC.out; omega
          obtain ⟨gq, cq, hvq, _, hrg⟩ := HQ.out.at hnq
          rw [HQC.out] at hvq
          injection hvq with hv1 hv2 hv3
          subst hv1 hv3
          have hmem : (qs[n].1, qs[n].2) ∈ qs := List.getElem_mem hnq
          rw [HAT.out n hnq] at hrg hmem
          generalize qs[n].2 = vq at *
          obtain ⟨es, cl, hmp, _⟩ := HJ.out.map
          have TK := take_any wr jb g s ps HJ.out HBI.out.ok (spP 9 z b n) (by show 9 < 18446744073709551616; omega) _ vq ((HQ.out.own _ hmem).apart HJ.out.row hmp) (fun b hb => hb)
          rw [htk] at TK
          unfold pv at TK
          have HRG := Box'.mk hrg
          have HTK := Box'.mk TK
          have HBT : Box' (∀ w', Bt2 jb g wr w' → OwnQ w.heap.size w' (.slice (some ⟨gq, 0, none⟩) c cu) qs ∧ Row w' sb 58 (sn T) ∧ Below w.heap.size w w') := ⟨fun w' h => ⟨HQ.out.bt2 HJ.out.row hmp h, HR.out.same (h.block sb HR.out.lt (row_ne HR.out HJ.out.row (by decide)) (fun e => by have r := HR.out; unfold Row at r; rw [e, hmp] at r; cases r)), HB.out.trans (h.below HB.out.size HJG.out.1 HJG.out.2)⟩⟩
          have HDN := Box'.mk hdone
          have HBS := Box'.mk hbs
          have HBI2 := Box'.mk hbi
          have hsi := hid
          clear hrg TK htk hdone hbs hbi hmem hnq hmp HJ HR HQ HBI hid
          go_wp2_with (refine wpList_load_mid rfl 25 _ rfl _ _ rfl _ _ HRG.out Try.underlying25 rfl Try.info25 ?_)
          refine HTK.out.mono ?_
          rintro e5 w5 ⟨u5, rfl, o5, ⟨ps5, j5⟩, b5⟩
          clear HTK HRG
          obtain ⟨q5, r5, B5⟩ := HBT.out w5 b5
          obtain ⟨a5, c5, hu5⟩ := o5.slice
          subst hu5
          have HO5 := Box'.mk o5
          have HJ5 := Box'.mk j5
          have HQ5 := Box'.mk q5
          have HR5 := Box'.mk r5
          have HB5 := Box'.mk B5
          have OK5 := Box'.mk HBI2.out.ok
          have hfew := OK5.out.few
          have hsd : sumD s'.L ≤ 262144 := by have := sumD_le OK5.out.len; omega
          have csn : w5.cell? ⟨sb, n, none⟩ = some (.bool (T n)) := by rw [r5.cell]; exact sn_get T (by omega)
          have hn256 : n < 256 := by omega
          simp only at HO5 HJ5 ⊢
          generalize hbsl : bs.length = bsl at *
          have HBSL := Box'.mk hbsl
          clear o5 j5 q5 r5 B5 b5 HBT hbsl
          cases hTn : T n with
          | true =>
            rw [hTn] at csn
            have hu := updT_same hTn
            rw [hu] at HDN HBI2 HTN
            have HR6 := HR5
            have HO6 := HO5
            have HJ6 := HJ5
            have HQ6 := HQ5
            have HB6 := HB5
            have HLF6 := HLF
            have HL := holds_any w5 jb g _ _ HJ6.out OK5.out
            rw [hsi] at HL
            clear hu HR5 HO5 HJ5 HQ5 HB5 hTn
            go_wp2_with fail
            clear csn
            refine HL.mono ?_
            rintro e7 w7 ⟨rfl, b7⟩
            clear HL
            have HR7 := Box'.mk (HR6.out.below b7 HR6.out.lt)
            have HJ7 := Box'.mk (HJ6.out.below b7)
            have HQ7 := Box'.mk (HQ6.out.below b7)
            have HB7 : Box' (Below w.heap.size w w7) := ⟨HB6.out.trans (b7.mono HB6.out.size)⟩
            have HO7 := Box'.mk (HO6.out.below b7)
            clear b7 HR6 HJ6 HQ6 HB6 HO6 OK5
            generalize hsl : s'.L.length = sl at *
            generalize hsu : sumD s'.L = su at *
            clear hsl hsu
            have hf1 : ¬ (256 < (sl : Int)) := by omega
            have hf2 : ¬ (262144 < (su : Int)) := by omega
            by_cases hA : lf = 0 ∧ came = 0
            · have hd : done = true := by rw [HDN.out, decide_eq_true_eq]; exact ⟨by rw [HBL.out, ← HCC.out]; exact HLF6.out ▸ hA.1, hA.2⟩
              have hbb := HBS.out hd
              obtain ⟨hA1, rfl⟩ := hA
              subst hd hbb
              have hbq : bsl = bl := by rw [← HBSL.out, HBL.out]
              subst hbq
              have SM := refSame_any _ _ _ _ _ _ w7 HO7.out.bts ((HBD.out.below HB7.out (Nat.le_refl _)).bts)
              simp only [decide_true] at SM
              simp only [if_true] at HBI2
              have hA2 := hA1
              subst hA2
              go_wp2_with fail
              refine SM.mono ?_
              rintro e8 w8 ⟨rfl, hww⟩
              rw [hww]
              clear SM hww w8
              go_wp2_with fail
              exact ⟨⟨i + 1, 1, 0, _, _, _, rfl, by go_num, by go_num, by omega, by omega, by omega, HLF6, HTN, HBI2, HJ7, HR7, HQ7, HB7⟩, by simp [intOf]; omega⟩
            · have hd : done = false := by rw [HDN.out, decide_eq_false_iff_not]; rintro ⟨h1, h2⟩; exact hA ⟨by rw [HLF6.out, HCC.out, ← HBL.out]; exact h1, h2⟩
              subst hd
              simp only [Bool.false_eq_true, if_false] at HBI2
              by_cases hB : lf = 0
              · obtain rfl : came = 1 := by have : came ≠ 0 := fun h => hA ⟨hB, h⟩; omega
                have hB3 := hB
                subst hB3
                clear hA
                go_wp2_with fail
                exact ⟨⟨i + 1, 1, 0, _, _, _, rfl, rfl, by go_num, by omega, by omega, by omega, HLF6, HTN, HBI2, HJ7, HR7, HQ7, HB7⟩, by simp [intOf]; omega⟩
              · have hB2 : ¬ ((lf : Int) = 0) := by omega
                clear hA
                go_wp2_with fail
                exact ⟨⟨i + 1, came, lf, _, _, _, rfl, rfl, by go_num, by omega, by omega, by omega, HLF6, HTN, HBI2, HJ7, HR7, HQ7, HB7⟩, by simp [intOf]; omega⟩
          | false =>
            rw [hTn] at csn
            obtain ⟨w6, hw6⟩ : ∃ w6, w6 = w5.setCell ⟨sb, n, none⟩ (.bool true) := ⟨_, rfl⟩
            have r6 : Row w6 sb 58 (sn (updT T n)) := by rw [hw6, ← sn_set T hn256]; exact HR5.out.setCell (k := n) _
            have f5 := HR5.out.frozen
            have hsbj : jb ≠ sb := row_ne HJ5.out.row HR5.out (by decide)
            obtain ⟨es5, cl5, hm5, _⟩ := HJ5.out.map
            have hsbg : g ≠ sb := fun e => by have r := HR5.out; unfold Row at r; rw [← e, hm5] at r; cases r
            have hoth : ∀ k, k ≠ sb → w6.heap[k]? = w5.heap[k]? := fun k hk => by rw [hw6]; exact Below.heap_setCell _ _ _ _ hk
            have j6 : JS w6 jb g s' ps5 := ⟨HJ5.out.row.same (hoth jb hsbj), HJ5.out.map.same (hoth g hsbg), HJ5.out.ls, fun p hp => (HJ5.out.byt p hp).same fun k hk => hoth k (own_ne (HJ5.out.byt p hp) HR5.out (by decide) k hk)⟩
            have q6 : OwnQ w.heap.size w6 (.slice (some ⟨gq, 0, none⟩) c cu) qs := HQ5.out.same (fun k hk => hoth k (by obtain ⟨_, cur, r⟩ := HQ5.out.lt k hk; exact row_ne r HR5.out (by decide))) fun p hp => (HQ5.out.own p hp).same fun k hk => hoth k (own_ne (HQ5.out.own p hp) HR5.out (by decide) k hk)
            have o6 : OwnB wr.heap.size w6 (.slice a5 bsl c5) bs := HO5.out.same fun k hk => hoth k (own_ne HO5.out HR5.out (by decide) k hk)
            have B6 : Below w.heap.size w w6 := by rw [hw6]; exact HB5.out.setCell (p := ⟨sb, n, none⟩) HSB.out _
            have HR6 := Box'.mk r6
            have HO6 := Box'.mk o6
            have HJ6 := Box'.mk j6
            have HQ6 := Box'.mk q6
            have HB6 := Box'.mk B6
            obtain ⟨lf', hlf'⟩ : ∃ lf', lf = lf' + 1 := ⟨lf - 1, by have h1 := nmis_upd hn hTn; have h2 := HLF.out; omega⟩
            have HLF6 : Box' (lf' = nmis (updT T n) c) := ⟨by have h1 := nmis_upd hn hTn; have h2 := HLF.out; omega⟩
            have hlfi : ((lf' + 1 : Nat) : Int) - 1 = (lf' : Int) := by omega
            subst hlf'
            have HL := holds_any w6 jb g _ _ HJ6.out OK5.out
            rw [hsi] at HL
            clear r6 j6 q6 o6 B6 hsbj hsbg hoth HR5 HO5 HJ5 HQ5 HB5 hm5 hTn
            go_wp2_with fail
            rw [← hw6]
            clear csn hw6 f5 hlfi
            refine HL.mono ?_
            rintro e7 w7 ⟨rfl, b7⟩
            clear HL
            have HR7 := Box'.mk (HR6.out.below b7 HR6.out.lt)
            have HJ7 := Box'.mk (HJ6.out.below b7)
            have HQ7 := Box'.mk (HQ6.out.below b7)
            have HB7 : Box' (Below w.heap.size w w7) := ⟨HB6.out.trans (b7.mono HB6.out.size)⟩
            have HO7 := Box'.mk (HO6.out.below b7)
            clear b7 HR6 HJ6 HQ6 HB6 HO6 OK5
            generalize hsl : s'.L.length = sl at *
            generalize hsu : sumD s'.L = su at *
            clear hsl hsu
            have hf1 : ¬ (256 < (sl : Int)) := by omega
            have hf2 : ¬ (262144 < (su : Int)) := by omega
            by_cases hA : lf' = 0 ∧ came = 0
            · have hd : done = true := by rw [HDN.out, decide_eq_true_eq]; exact ⟨by rw [HBL.out, ← HCC.out]; exact HLF6.out ▸ hA.1, hA.2⟩
              have hbb := HBS.out hd
              obtain ⟨hA1, rfl⟩ := hA
              subst hd hbb
              have hbq : bsl = bl := by rw [← HBSL.out, HBL.out]
              subst hbq
              have SM := refSame_any _ _ _ _ _ _ w7 HO7.out.bts ((HBD.out.below HB7.out (Nat.le_refl _)).bts)
              simp only [decide_true] at SM
              simp only [if_true] at HBI2
              have hA2 := hA1
              subst hA2
              go_wp2_with fail
              refine SM.mono ?_
              rintro e8 w8 ⟨rfl, hww⟩
              rw [hww]
              clear SM hww w8
              go_wp2_with fail
              exact ⟨⟨i + 1, 1, 0, _, _, _, rfl, by go_num, by go_num, by omega, by omega, by omega, HLF6, HTN, HBI2, HJ7, HR7, HQ7, HB7⟩, by simp [intOf]; omega⟩
            · have hd : done = false := by rw [HDN.out, decide_eq_false_iff_not]; rintro ⟨h1, h2⟩; exact hA ⟨by rw [HLF6.out, HCC.out, ← HBL.out]; exact h1, h2⟩
              subst hd
              simp only [Bool.false_eq_true, if_false] at HBI2
              by_cases hB : lf' = 0
              · obtain rfl : came = 1 := by have : came ≠ 0 := fun h => hA ⟨hB, h⟩; omega
                have hB3 := hB
                subst hB3
                clear hA
                go_wp2_with fail
                exact ⟨⟨i + 1, 1, 0, _, _, _, rfl, rfl, by go_num, by omega, by omega, by omega, HLF6, HTN, HBI2, HJ7, HR7, HQ7, HB7⟩, by simp [intOf]; omega⟩
              · have hB2 : ¬ ((lf' : Int) = 0) := by omega
                clear hA
                go_wp2_with fail
                exact ⟨⟨i + 1, came, lf', _, _, _, rfl, rfl, by go_num, by omega, by omega, by omega, HLF6, HTN, HBI2, HJ7, HR7, HQ7, HB7⟩, by simp [intOf]; omega⟩
        · obtain ⟨n, hnq⟩ : ∃ n, i = ol + n := ⟨i - ol, by omega⟩
          subst hnq
          have hn : n < c := by omega
          have HTN : Box' (∀ k, k < c → ol + k < ol + n + 1 → updT T n k = true) := ⟨fun k hk h => by
            unfold updT
            split
            · rfl
            · exact HTI.out k hk (by omega)⟩
          have hnv : ((ol + n : Nat) : Int) - (ol : Int) = (n : Int) := by omega
          have hnv2 : (ol : Int) + (n : Int) - (ol : Int) = (n : Int) := by omega
          go_upto_region 15 with fail
          clear hnv hnv2 hio
          obtain ⟨s', bs, done, htk, hid, hdone, hbs, hbi⟩ := HBI.out.step hz1 hz2 HLB.out (n := n) (by rw [HBL.out]; have := HCC.out; omega)
          have hnq : n < qs.length := by have := HQC.out; omega
          obtain ⟨gq, cq, hvq, _, hrg⟩ := HQ.out.at hnq
          rw [HQC.out] at hvq
          injection hvq with hv1 hv2 hv3
          subst hv1 hv3
          have hmem : (qs[n].1, qs[n].2) ∈ qs := List.getElem_mem hnq
          rw [HAT.out n hnq] at hrg hmem
          generalize qs[n].2 = vq at *
          obtain ⟨es, cl, hmp, _⟩ := HJ.out.map
          have TK := take_any wr jb g s ps HJ.out HBI.out.ok (spP 9 z b n) (by show 9 < 18446744073709551616; omega) _ vq ((HQ.out.own _ hmem).apart HJ.out.row hmp) (fun b hb => hb)
          rw [htk] at TK
          unfold pv at TK
          have HRG := Box'.mk hrg
          have HTK := Box'.mk TK
          have HBT : Box' (∀ w', Bt2 jb g wr w' → OwnQ w.heap.size w' (.slice (some ⟨gq, 0, none⟩) c cu) qs ∧ Row w' sb 58 (sn T) ∧ Below w.heap.size w w') := ⟨fun w' h => ⟨HQ.out.bt2 HJ.out.row hmp h, HR.out.same (h.block sb HR.out.lt (row_ne HR.out HJ.out.row (by decide)) (fun e => by have r := HR.out; unfold Row at r; rw [e, hmp] at r; cases r)), HB.out.trans (h.below HB.out.size HJG.out.1 HJG.out.2)⟩⟩
          have HDN := Box'.mk hdone
          have HBS := Box'.mk hbs
          have HBI2 := Box'.mk hbi
          have hsi := hid
          clear hrg TK htk hdone hbs hbi hmem hnq hmp HJ HR HQ HBI hid
          go_wp2_with (refine wpList_load_mid rfl 25 _ rfl _ _ rfl _ _ HRG.out Try.underlying25 rfl Try.info25 ?_)
          refine HTK.out.mono ?_
          rintro e5 w5 ⟨u5, rfl, o5, ⟨ps5, j5⟩, b5⟩
          clear HTK HRG
          obtain ⟨q5, r5, B5⟩ := HBT.out w5 b5
          obtain ⟨a5, c5, hu5⟩ := o5.slice
          subst hu5
          have HO5 := Box'.mk o5
          have HJ5 := Box'.mk j5
          have HQ5 := Box'.mk q5
          have HR5 := Box'.mk r5
          have HB5 := Box'.mk B5
          have OK5 := Box'.mk HBI2.out.ok
          have hfew := OK5.out.few
          have hsd : sumD s'.L ≤ 262144 := by have := sumD_le OK5.out.len; omega
          have csn : w5.cell? ⟨sb, n, none⟩ = some (.bool (T n)) := by rw [r5.cell]; exact sn_get T (by omega)
          have hn256 : n < 256 := by omega
          simp only at HO5 HJ5 ⊢
          generalize hbsl : bs.length = bsl at *
          have HBSL := Box'.mk hbsl
          clear o5 j5 q5 r5 B5 b5 HBT hbsl
          cases hTn : T n with
          | true =>
            rw [hTn] at csn
            have hu := updT_same hTn
            rw [hu] at HDN HBI2 HTN
            have HR6 := HR5
            have HO6 := HO5
            have HJ6 := HJ5
            have HQ6 := HQ5
            have HB6 := HB5
            have HLF6 := HLF
            have HL := holds_any w5 jb g _ _ HJ6.out OK5.out
            rw [hsi] at HL
            clear hu HR5 HO5 HJ5 HQ5 HB5 hTn
            go_wp2_with fail
            clear csn
            refine HL.mono ?_
            rintro e7 w7 ⟨rfl, b7⟩
            clear HL
            have HR7 := Box'.mk (HR6.out.below b7 HR6.out.lt)
            have HJ7 := Box'.mk (HJ6.out.below b7)
            have HQ7 := Box'.mk (HQ6.out.below b7)
            have HB7 : Box' (Below w.heap.size w w7) := ⟨HB6.out.trans (b7.mono HB6.out.size)⟩
            have HO7 := Box'.mk (HO6.out.below b7)
            clear b7 HR6 HJ6 HQ6 HB6 HO6 OK5
            generalize hsl : s'.L.length = sl at *
            generalize hsu : sumD s'.L = su at *
            clear hsl hsu
            have hf1 : ¬ (256 < (sl : Int)) := by omega
            have hf2 : ¬ (262144 < (su : Int)) := by omega
            by_cases hA : lf = 0 ∧ came = 0
            · have hd : done = true := by rw [HDN.out, decide_eq_true_eq]; exact ⟨by rw [HBL.out, ← HCC.out]; exact HLF6.out ▸ hA.1, hA.2⟩
              have hbb := HBS.out hd
              obtain ⟨hA1, rfl⟩ := hA
              subst hd hbb
              have hbq : bsl = bl := by rw [← HBSL.out, HBL.out]
              subst hbq
              have SM := refSame_any _ _ _ _ _ _ w7 HO7.out.bts ((HBD.out.below HB7.out (Nat.le_refl _)).bts)
              simp only [decide_true] at SM
              simp only [if_true] at HBI2
              have hA2 := hA1
              subst hA2
              go_wp2_with fail
              refine SM.mono ?_
              rintro e8 w8 ⟨rfl, hww⟩
              rw [hww]
              clear SM hww w8
              go_wp2_with fail
              exact ⟨⟨(ol + n) + 1, 1, 0, _, _, _, rfl, by go_num, by go_num, by omega, by omega, by omega, HLF6, HTN, HBI2, HJ7, HR7, HQ7, HB7⟩, by simp [intOf]; omega⟩
            · have hd : done = false := by rw [HDN.out, decide_eq_false_iff_not]; rintro ⟨h1, h2⟩; exact hA ⟨by rw [HLF6.out, HCC.out, ← HBL.out]; exact h1, h2⟩
              subst hd
              simp only [Bool.false_eq_true, if_false] at HBI2
              by_cases hB : lf = 0
              · obtain rfl : came = 1 := by have : came ≠ 0 := fun h => hA ⟨hB, h⟩; omega
                have hB3 := hB
                subst hB3
                clear hA
                go_wp2_with fail
                exact ⟨⟨(ol + n) + 1, 1, 0, _, _, _, rfl, rfl, by go_num, by omega, by omega, by omega, HLF6, HTN, HBI2, HJ7, HR7, HQ7, HB7⟩, by simp [intOf]; omega⟩
              · have hB2 : ¬ ((lf : Int) = 0) := by omega
                clear hA
                go_wp2_with fail
                exact ⟨⟨(ol + n) + 1, came, lf, _, _, _, rfl, rfl, by go_num, by omega, by omega, by omega, HLF6, HTN, HBI2, HJ7, HR7, HQ7, HB7⟩, by simp [intOf]; omega⟩
          | false =>
            rw [hTn] at csn
            obtain ⟨w6, hw6⟩ : ∃ w6, w6 = w5.setCell ⟨sb, n, none⟩ (.bool true) := ⟨_, rfl⟩
            have r6 : Row w6 sb 58 (sn (updT T n)) := by rw [hw6, ← sn_set T hn256]; exact HR5.out.setCell (k := n) _
            have f5 := HR5.out.frozen
            have hsbj : jb ≠ sb := row_ne HJ5.out.row HR5.out (by decide)
            obtain ⟨es5, cl5, hm5, _⟩ := HJ5.out.map
            have hsbg : g ≠ sb := fun e => by have r := HR5.out; unfold Row at r; rw [← e, hm5] at r; cases r
            have hoth : ∀ k, k ≠ sb → w6.heap[k]? = w5.heap[k]? := fun k hk => by rw [hw6]; exact Below.heap_setCell _ _ _ _ hk
            have j6 : JS w6 jb g s' ps5 := ⟨HJ5.out.row.same (hoth jb hsbj), HJ5.out.map.same (hoth g hsbg), HJ5.out.ls, fun p hp => (HJ5.out.byt p hp).same fun k hk => hoth k (own_ne (HJ5.out.byt p hp) HR5.out (by decide) k hk)⟩
            have q6 : OwnQ w.heap.size w6 (.slice (some ⟨gq, 0, none⟩) c cu) qs := HQ5.out.same (fun k hk => hoth k (by obtain ⟨_, cur, r⟩ := HQ5.out.lt k hk; exact row_ne r HR5.out (by decide))) fun p hp => (HQ5.out.own p hp).same fun k hk => hoth k (own_ne (HQ5.out.own p hp) HR5.out (by decide) k hk)
            have o6 : OwnB wr.heap.size w6 (.slice a5 bsl c5) bs := HO5.out.same fun k hk => hoth k (own_ne HO5.out HR5.out (by decide) k hk)
            have B6 : Below w.heap.size w w6 := by rw [hw6]; exact HB5.out.setCell (p := ⟨sb, n, none⟩) HSB.out _
            have HR6 := Box'.mk r6
            have HO6 := Box'.mk o6
            have HJ6 := Box'.mk j6
            have HQ6 := Box'.mk q6
            have HB6 := Box'.mk B6
            obtain ⟨lf', hlf'⟩ : ∃ lf', lf = lf' + 1 := ⟨lf - 1, by have h1 := nmis_upd hn hTn; have h2 := HLF.out; omega⟩
            have HLF6 : Box' (lf' = nmis (updT T n) c) := ⟨by have h1 := nmis_upd hn hTn; have h2 := HLF.out; omega⟩
            have hlfi : ((lf' + 1 : Nat) : Int) - 1 = (lf' : Int) := by omega
            subst hlf'
            have HL := holds_any w6 jb g _ _ HJ6.out OK5.out
            rw [hsi] at HL
            clear r6 j6 q6 o6 B6 hsbj hsbg hoth HR5 HO5 HJ5 HQ5 HB5 hm5 hTn
            go_wp2_with fail
            rw [← hw6]
            clear csn hw6 f5 hlfi
            refine HL.mono ?_
            rintro e7 w7 ⟨rfl, b7⟩
            clear HL
            have HR7 := Box'.mk (HR6.out.below b7 HR6.out.lt)
            have HJ7 := Box'.mk (HJ6.out.below b7)
            have HQ7 := Box'.mk (HQ6.out.below b7)
            have HB7 : Box' (Below w.heap.size w w7) := ⟨HB6.out.trans (b7.mono HB6.out.size)⟩
            have HO7 := Box'.mk (HO6.out.below b7)
            clear b7 HR6 HJ6 HQ6 HB6 HO6 OK5
            generalize hsl : s'.L.length = sl at *
            generalize hsu : sumD s'.L = su at *
            clear hsl hsu
            have hf1 : ¬ (256 < (sl : Int)) := by omega
            have hf2 : ¬ (262144 < (su : Int)) := by omega
            by_cases hA : lf' = 0 ∧ came = 0
            · have hd : done = true := by rw [HDN.out, decide_eq_true_eq]; exact ⟨by rw [HBL.out, ← HCC.out]; exact HLF6.out ▸ hA.1, hA.2⟩
              have hbb := HBS.out hd
              obtain ⟨hA1, rfl⟩ := hA
              subst hd hbb
              have hbq : bsl = bl := by rw [← HBSL.out, HBL.out]
              subst hbq
              have SM := refSame_any _ _ _ _ _ _ w7 HO7.out.bts ((HBD.out.below HB7.out (Nat.le_refl _)).bts)
              simp only [decide_true] at SM
              simp only [if_true] at HBI2
              have hA2 := hA1
              subst hA2
              go_wp2_with fail
              refine SM.mono ?_
              rintro e8 w8 ⟨rfl, hww⟩
              rw [hww]
              clear SM hww w8
              go_wp2_with fail
              exact ⟨⟨(ol + n) + 1, 1, 0, _, _, _, rfl, by go_num, by go_num, by omega, by omega, by omega, HLF6, HTN, HBI2, HJ7, HR7, HQ7, HB7⟩, by simp [intOf]; omega⟩
            · have hd : done = false := by rw [HDN.out, decide_eq_false_iff_not]; rintro ⟨h1, h2⟩; exact hA ⟨by rw [HLF6.out, HCC.out, ← HBL.out]; exact h1, h2⟩
              subst hd
              simp only [Bool.false_eq_true, if_false] at HBI2
              by_cases hB : lf' = 0
              · obtain rfl : came = 1 := by have : came ≠ 0 := fun h => hA ⟨hB, h⟩; omega
                have hB3 := hB
                subst hB3
                clear hA
                go_wp2_with fail
                exact ⟨⟨(ol + n) + 1, 1, 0, _, _, _, rfl, rfl, by go_num, by omega, by omega, by omega, HLF6, HTN, HBI2, HJ7, HR7, HQ7, HB7⟩, by simp [intOf]; omega⟩
              · have hB2 : ¬ ((lf' : Int) = 0) := by omega
                clear hA
                go_wp2_with fail
                exact ⟨⟨(ol + n) + 1, came, lf', _, _, _, rfl, rfl, by go_num, by omega, by omega, by omega, HLF6, HTN, HBI2, HJ7, HR7, HQ7, HB7⟩, by simp [intOf]; omega⟩
      · obtain rfl : i = ol + c := by omega
        have hcame := HBI.out.end fun k hk => HTI.out k (by have := HCC.out; rw [HBL.out] at hk; omega) (by have := HCC.out; rw [HBL.out] at hk; omega)
        subst hcame
        have hx : ¬ (((ol + c : Nat) : Int) < (ol : Int) + (c : Int)) := by omega
        go_wp2_with fail
        refine (AN.out wr).mono ?_
        rintro e4 w5 ⟨rfl, b4⟩
        have HB5 : Box' (Below w.heap.size w w5) := ⟨HB.out.trans (b4.mono HB.out.size)⟩
        clear b4 AN
        go_wp2_with fail
        go_ret
        exact ⟨rfl, HB5.out⟩
end Go.Proofs.Ythmcmdojnnbefaa
