/- The walk of Take. -/
import Derived.Test.YthmcmdojnnbefaaQc
import Derived.BigQuiet
namespace Go.Proofs.Ythmcmdojnnbefaa
open Go.RowKit Go.BigFrame
set_option linter.unusedVariables false

/-- What Take does behind the switch. -/
def tkR (s : Jn) (p : Prt) : Jn × List UInt8 × Bool × Int :=
  if s.ended then (s, [], false, 0)
  else match get s.L p.n.toNat with
    | some _ => (s, [], false, 0)
    | none => match whF (s.L ++ [⟨p.n.toNat, p.last, p.d⟩]) with
      | none => (⟨s.id, s.ended, s.L ++ [⟨p.n.toNat, p.last, p.d⟩]⟩, [], false, 0)
      | some k => (⟨s.id, true, []⟩, tog (s.L ++ [⟨p.n.toNat, p.last, p.d⟩]) k, true, 0)
/-- What Take does and answers. -/
def tkF (s : Jn) (p : Prt) : Jn × List UInt8 × Bool × Int :=
  if p.may = false then (s, [], false, 2)
  else if p.id < s.id then (s, [], false, 0)
  else if s.id < p.id then tkR ⟨p.id, false, []⟩ p
  else tkR s p
def TEnd (jb g : Nat) (w : World) (R : Jn × List UInt8 × Bool × Int) (e : Ending) (w' : World) : Prop :=
  ∃ v, e = .returned (.tuple #[v, .bool R.2.2.1, .int .i64 R.2.2.2]) ∧ OwnB w.heap.size w' v R.2.1 ∧ (∃ ps', JS w' jb g R.1 ps') ∧ Bt2 jb g w w'
theorem JOk.put {s : Jn} (h : JOk s) (n : Nat) (l : Bool) (d : List UInt8) (hn : n < 256) (hd : d.length ≤ 1024) (hg : get s.L n = none) (e : Bool) : JOk ⟨s.id, e, s.L ++ [⟨n, l, d⟩]⟩ :=
  ⟨h.id, fun x hx => by
    rcases List.mem_append.1 hx with hx | hx
    · exact h.n x hx
    · rw [List.mem_singleton] at hx; subst hx; exact hn, fun x hx => by
    rcases List.mem_append.1 hx with hx | hx
    · exact h.len x hx
    · rw [List.mem_singleton] at hx; subst hx; exact hd, by
    rw [List.map_append, List.nodup_append]
    refine ⟨h.nod, by simp, fun a ha b hb => ?_⟩
    obtain ⟨x, hx, rfl⟩ := List.mem_map.1 ha
    simp at hb
    rw [hb]
    exact get_none.1 hg x hx⟩
theorem JOk.new (i : Nat) (hi : i < 18446744073709551616) (e : Bool) : JOk ⟨i, e, []⟩ := ⟨hi, fun x hx => (by cases hx), fun x hx => (by cases hx), List.nodup_nil⟩
theorem Try.info25 : (Try.prog.info? 25).map (·.size) = some 4 := by kernel_rfl

set_option maxRecDepth 100000 in
set_option maxHeartbeats 8000000 in
theorem take_any (w : World) (jb g : Nat) (s : Jn) (ps : List (Pc × Value)) (h : JS w jb g s ps) (ho : JOk s) (p : Prt) (hpi : p.id < 18446744073709551616) (S : Nat → Prop) (vb : Value) (hb : Bts S w vb p.d) (hS : ∀ b, S b → b < w.heap.size ∧ b ≠ jb ∧ b ≠ g) :
    Calls Try.prog 19 #[.pointer (some ⟨jb, 0, none⟩), pv p vb] w (TEnd jb g w (tkF s p)) := by
  obtain ⟨pi, pn, pl, pd⟩ := p
  obtain ⟨va, vc, rfl, hvc, _⟩ := id hb
  have HBT := Box'.mk hb
  have HSS := Box'.mk hS
  unfold pv
  simp only at hpi HBT ⊢
  generalize hln : pd.length = ln at *
  have HLN := Box'.mk hln
  clear hln hb hS
  obtain ⟨w0, hw0⟩ : ∃ w0, w0 = w.alloc (.cells #[.int .u64 (pi : Int), .int .i64 pn, .bool pl, .slice va ln vc] 25) := ⟨_, rfl⟩
  have b0 : Below w.heap.size w w0 := by rw [hw0]; exact (Below.refl _ _).alloc (Nat.le_refl _) _
  have r0 : Row w0 w.heap.size 25 #[.int .u64 (pi : Int), .int .i64 pn, .bool pl, .slice va ln vc] := by rw [hw0]; exact Row.new _ _ _
  have js0 := h.below b0
  have HJ0 := Box'.mk js0
  have HB0 := Box'.mk b0
  have HR0 := Box'.mk r0
  have HO := Box'.mk ho
  have hjl := h.jl
  have hgl := h.gl
  have HNE := Box'.mk h.ne
  have h1 := isThere_any w0 jb g s ps js0
  have HM := Box'.mk (fun w1 => may_any pi pn pl va ln vc w1)
  have HT : Box' (tkF s ⟨pi, pn, pl, pd⟩ = if mayN pn pl ln = false then (s, [], false, 2) else if pi < s.id then (s, [], false, 0) else if s.id < pi then tkR ⟨pi, false, []⟩ ⟨pi, pn, pl, pd⟩ else tkR s ⟨pi, pn, pl, pd⟩) := ⟨by rw [← HLN.out]; rfl⟩
  generalize tkF s ⟨pi, pn, pl, pd⟩ = R at *
  clear h ho js0 b0 r0
  go_enter Try.func19, Try.ntmps19
  go_wp2_with fail
  rw [← hw0]
  clear hw0
  refine h1.mono ?_
  rintro e1 w1 ⟨rfl, rfl⟩
  clear h1
  go_wp2_with (refine wpList_load_row rfl 25 (.tmp 3) rfl _ rfl 25 _ HR0.out _ Try.underlying25 rfl 4 Try.info25 rfl ?_)
  refine (HM.out _).mono ?_
  rintro e2 w2 ⟨rfl, b2⟩
  clear HM
  have HJ2 := Box'.mk (HJ0.out.below b2)
  have HB2 := Box'.mk (HB0.out.trans (b2.mono HB0.out.size))
  have HR2 := Box'.mk (HR0.out.below b2 HR0.out.lt)
  clear HJ0 HB0 HR0 b2
  cases hmy : mayN pn pl ln with
  | false =>
    have e := HT.out
    rw [hmy, if_pos rfl] at e
    subst e
    clear HT hmy
    go_wp2_with fail
    go_ret3
    exact ⟨_, rfl, OwnB.nil _ _, ⟨_, HJ2.out⟩, Bt2.of HB2.out⟩
  | true =>
    have HT2 : Box' (R = if pi < s.id then (s, [], false, 0) else if s.id < pi then tkR ⟨pi, false, []⟩ ⟨pi, pn, pl, pd⟩ else tkR s ⟨pi, pn, pl, pd⟩) := ⟨by rw [HT.out, hmy]; rfl⟩
    have hmn : 0 ≤ pn ∧ pn < 256 ∧ ln ≤ 1024 := by unfold mayN at hmy; rw [decide_eq_true_eq] at hmy; exact ⟨hmy.1, hmy.2.1, hmy.2.2.1⟩
    obtain ⟨n, rfl⟩ : ∃ n : Nat, pn = (n : Int) := ⟨pn.toNat, by omega⟩
    have hn : n < 256 := by omega
    have hl : ln ≤ 1024 := hmn.2.2
    clear HT hmy hmn
    have c00 := HJ2.out.c0
    have cp0 : w2.cell? ⟨w.heap.size, 0, none⟩ = some (.int .u64 (pi : Int)) := by rw [HR2.out.cell]; rfl
    go_wp2_with fail
    by_cases hlt : pi < s.id
    · have e := HT2.out
      rw [if_pos hlt] at e
      subst e
      clear HT2
      go_quiet (fail)
      go_wp2_with fail
      go_ret3
      exact ⟨_, rfl, OwnB.nil _ _, ⟨_, HJ2.out.below (Below.drewN (Below.refl _ _) _)⟩, Bt2.of (Below.drewN HB2.out _)⟩
    · have HT3 : Box' (R = if s.id < pi then tkR ⟨pi, false, []⟩ ⟨pi, n, pl, pd⟩ else tkR s ⟨pi, n, pl, pd⟩) := ⟨by rw [HT2.out, if_neg hlt]⟩
      clear HT2
      go_quiet (fail)
      go_wp2_with fail
      by_cases hgt : s.id < pi
      · have HE : Box' (R = tkR ⟨pi, false, []⟩ ⟨pi, n, pl, pd⟩) := ⟨by rw [HT3.out, if_pos hgt]⟩
        clear HT3
        go_quiet (fail)
        go_wp2_with fail
        generalize hq : w2.drewN _ = wq
        have bq : Below w2.heap.size w2 wq := by rw [← hq]; exact Below.drewN (Below.refl _ _) _
        have HJq := Box'.mk (HJ2.out.below bq)
        have HBq := Box'.mk (HB2.out.trans (bq.mono HB2.out.size))
        have HRq := Box'.mk (HR2.out.below bq HR2.out.lt)
        clear hq bq HJ2 HB2 HR2 c00 cp0
        refine (turnTo_any _ jb g s ps HJq.out pi).mono ?_
        rintro e3 w3 ⟨rfl, j3, b3⟩
        have HB3 : Box' (Bt2 jb g w w3) := ⟨(Bt2.of HBq.out).trans b3⟩
        have HR3 : Box' (Row w3 w.heap.size 25 #[.int .u64 (pi : Int), .int .i64 (n : Int), .bool pl, .slice va ln vc]) := ⟨HRq.out.same (b3.block _ HRq.out.lt (by omega) (by omega))⟩
        have HJ3 := Box'.mk j3
        have HO3 := Box'.mk (JOk.new pi hpi false)
        obtain ⟨s', hs'⟩ : ∃ s', s' = Jn.mk pi false [] := ⟨_, rfl⟩
        have hsi : pi = s'.id := by rw [hs']
        rw [← hs'] at HE HJ3 HO3
        obtain ⟨ps', hps'⟩ : ∃ ps', ps' = ([] : List (Pc × Value)) := ⟨_, rfl⟩
        rw [← hps'] at HJ3
        have HSI := Box'.mk hsi
        clear j3 b3 HJq HBq HRq HO hs' hps' hlt hgt hsi
        have HRE := Box'.mk (tkR.eq_1 s' ⟨pi, n, pl, pd⟩)
        simp only [Int.toNat_natCast] at HRE
        have HE2 : Box' (R = _) := ⟨HE.out.trans HRE.out⟩
        clear HE HRE
        have c31 := HJ3.out.c1
        have HZ : Box' (w.heap.size ≤ w3.heap.size) := ⟨HB3.out.size⟩
        cases hen : s'.ended with
        | true =>
          have e := HE2.out
          rw [hen, if_pos rfl] at e
          subst e
          rw [hen] at c31
          clear HE2
          go_wp2_with fail
          go_ret3
          exact ⟨_, rfl, OwnB.nil _ _, ⟨_, HJ3.out⟩, HB3.out⟩
        | false =>
          have e := HE2.out
          rw [hen] at e
          simp only [Bool.false_eq_true, if_false] at e
          have HE3 := Box'.mk e
          rw [hen] at c31
          have cp0 : w3.cell? ⟨w.heap.size, 0, none⟩ = some (.int .u64 (pi : Int)) := by rw [HR3.out.cell]; rfl
          have cp1 : w3.cell? ⟨w.heap.size, 1, none⟩ = some (.int .i64 (n : Int)) := by rw [HR3.out.cell]; rfl
          obtain ⟨w4, hw4⟩ : ∃ w4, w4 = (w3.alloc (.cells #[.int .u64 0, .int .i64 0] 72)).setRow w3.heap.size #[.int .u64 (pi : Int), .int .i64 (n : Int)] := ⟨_, rfl⟩
          have b4 : Below w3.heap.size w3 w4 := by rw [hw4]; exact below_setRow ((Below.refl _ _).alloc (Nat.le_refl _) _) (Nat.le_refl _) _
          have r4 : Row w4 w3.heap.size 72 #[.int .u64 (pi : Int), .int .i64 (n : Int)] := by rw [hw4]; exact (Row.new w3 72 #[.int .u64 0, .int .i64 0]).setRow _
          have HK4 := Box'.mk r4
          have HR4 := Box'.mk (HR3.out.below b4 HR3.out.lt)
          have HJ4 := Box'.mk (HJ3.out.below b4)
          have HB4 : Box' (Bt2 jb g w w4) := ⟨HB3.out.trans (Bt2.of b4)⟩
          have HZ4 : Box' (w3.heap.size < w4.heap.size) := ⟨r4.lt⟩
          clear e HE2 b4 r4 HR3 HJ3 HB3
          go_upto_region 12 with (refine wpList_store_row rfl 72 _ _ rfl _ rfl _ rfl 72 2 (Room.new _ _ _ _ rfl) Try.info72 rfl (by simp [Value.oneCell']) ?_)
          rw [← hw4]
          clear hw4 cp0 cp1 c31
          have hC2 : ∀ w1, Below w4.heap.size w4 w1 → w1.cell? ⟨jb, 2, none⟩ = some (.map (some g)) := fun w1 hb => (HJ4.out.below hb).c2
          have hKk : ∀ w1, Below w4.heap.size w4 w1 → Row w1 w3.heap.size 72 #[.int .u64 (s'.id : Int), .int .i64 (n : Int)] := fun w1 hb => by rw [← HSI.out]; exact HK4.out.below hb HZ4.out
          rcases HJ4.out.look HO3.out n (by omega) with ⟨hg, hL⟩ | ⟨x, v, hm, hg, hx, hob, hL, _⟩
          · have e := HE3.out
            rw [hg] at e
            simp only at e
            have HE4 := Box'.mk e
            refine wp_mono (tkReg jb g w3.heap.size s'.id n false false (.slice none 0 0) ⟨_, _, _, rfl⟩ _ _ _ _ _ _ _ _ _ _ _ _ _ _ _ _ _ _ _ _ _ _ _ _ _ _ _ _ _ _ _ _ _ _ _ _ _ _ _ _ _ _ _ _ _ _ _ _ _ _ _ _ _ _ _ _ _ _ _ _ _ _ _ _ _ _ _ _ _ _ _ _ _ _ _ _ _ _ _ _ _ _ _ _ _ _ _ hC2 hKk hL) ?_
            rintro r a' w5 ⟨rfl, v8, v9, v49, v50, v51, v52, v53, v54, v55, v56, v57, rfl, rfl, b5⟩
            have HJ5 := Box'.mk (HJ4.out.below b5)
            have HR5 := Box'.mk (HR4.out.below b5 HR4.out.lt)
            have HK5 := Box'.mk (HK4.out.below b5 HZ4.out)
            have HB5 : Box' (Bt2 jb g w w5) := ⟨HB4.out.trans (Bt2.of b5)⟩
            have hz5 : w3.heap.size ≤ w5.heap.size := Nat.le_trans (Nat.le_of_lt HZ4.out) b5.size
            have HZ5 := Box'.mk hz5
            have HG := Box'.mk hg
            clear e HE3 hC2 hKk hL b5 HJ4 HR4 HK4 HB4 hg hz5
            go_upto_region 15 with fail
            have hC2 : ∀ w1, Below w5.heap.size w5 w1 → w1.cell? ⟨jb, 2, none⟩ = some (.map (some g)) := fun w1 hb => (HJ5.out.below hb).c2
            have hKk : ∀ w1, Below w5.heap.size w5 w1 → Row w1 w3.heap.size 72 #[.int .u64 (s'.id : Int), .int .i64 (n : Int)] := fun w1 hb => by rw [← HSI.out]; exact HK5.out.below hb HK5.out.lt
            have hP2 : ∀ w1, Below w5.heap.size w5 w1 → w1.cell? ⟨w.heap.size, 2, none⟩ = some (.bool pl) := fun w1 hb => by rw [(HR5.out.below hb HR5.out.lt).cell]; rfl
            have hP3 : ∀ w1, Below w5.heap.size w5 w1 → w1.cell? ⟨w.heap.size, 3, none⟩ = some (.slice va ln vc) := fun w1 hb => by rw [(HR5.out.below hb HR5.out.lt).cell]; rfl
            have hCl : ∀ w1, Below w5.heap.size w5 w1 → Calls Try.prog 28 #[.slice va ln vc] w1 fun e w' => ∃ v', e = .returned v' ∧ OwnB w1.heap.size w' v' pd ∧ Below w1.heap.size w1 w' := fun w1 hb => clone_any (fun b => b < w1.heap.size) _ pd w1 (HBT.out.keep fun b hs => by
              have q := HSS.out b hs
              have z1 := HB5.out.size
              have z2 := hb.size
              exact ⟨by omega, (hb.block b (by omega)).trans (HB5.out.block b q.1 q.2.1 q.2.2)⟩) (fun b hb => hb) (by rw [HLN.out]; omega)
            have hkk : ∀ p ∈ ps', p.1.n < 256 := fun p hp => HO3.out.n _ (by rw [← HJ5.out.ls]; exact List.mem_map.2 ⟨p, hp, rfl⟩)
            have hU : ∀ w1, Below w5.heap.size w5 w1 → ∀ u, ∃ w', (Instr.mapUpdate 67 (.map (some g)) (ky s'.id n) (.agg #[.bool pl, u])).run Try.prog w1 = .ok () w' ∧ JM w' g s'.id (ps' ++ [(⟨n, pl, pd⟩, u)]) ∧ w1.grownBy w' (some g) := fun w1 hb u =>
              (HJ5.out.below hb).map.update HO3.out.id hkk ⟨n, pl, pd⟩ hn (by rw [HJ5.out.ls]; exact HG.out) u
            refine wp_mono (upReg jb g w3.heap.size w.heap.size s'.id n pl va ln vc pd ps' ⟨n, pl, pd⟩ _ _ _ _ _ _ _ _ _ _ _ _ _ _ _ _ _ _ _ _ _ _ _ _ _ _ _ _ _ _ _ _ _ _ _ _ _ _ _ _ _ _ _ _ _ _ _ _ _ _ _ _ _ _ _ _ _ _ _ _ _ _ _ _ _ _ _ _ _ _ _ _ _ _ _ _ _ _ _ _ _ _ _ _ _ _ hC2 hKk hP2 hP3 hCl hU) ?_
            rintro r a' w7 ⟨rfl, v59, v60, v61, v62, v63, v64, v65, v66, v67, v68, v69, rfl, u, w6, b6, o6, m7, g7⟩
            have hj6 := HJ5.out.below b6
            have hne6 := hj6.ne
            have r7 : Row w7 jb 69 #[.int .u64 (s'.id : Int), .bool s'.ended, .map (some g)] := hj6.row.same (g7.block jb hj6.jl (by simp [hne6]))
            obtain ⟨es6, cl6, hm6, _⟩ := hj6.map
            have j7 : JS w7 jb g ⟨s'.id, s'.ended, s'.L ++ [⟨n, pl, pd⟩]⟩ (ps' ++ [(⟨n, pl, pd⟩, u)]) := ⟨r7, m7, by rw [List.map_append, hj6.ls]; rfl, fun p hp => by
              rcases List.mem_append.1 hp with hp | hp
              · exact (hj6.byt p hp).bt2 hj6.row (by decide) hm6 (Bt2.grown g7)
              · rw [List.mem_singleton] at hp
                subst hp
                exact (o6.less (Nat.zero_le _)).bt2 hj6.row (by decide) hm6 (Bt2.grown g7)⟩
            have ok7 : JOk ⟨s'.id, s'.ended, s'.L ++ [⟨n, pl, pd⟩]⟩ := HO3.out.put n pl pd hn (by rw [HLN.out]; exact hl) HG.out _
            have HB7 : Box' (Bt2 jb g w w7) := ⟨(HB5.out.trans (Bt2.of b6)).trans (Bt2.grown g7)⟩
            have HW := whole_any w7 jb g _ _ j7 ok7
            have HJ7 := Box'.mk j7
            have HO7 := Box'.mk ok7
            clear hC2 hKk hP2 hP3 hCl hkk hU hj6 hne6 r7 hm6 j7 ok7 b6 o6 m7 g7 HJ5 HR5 HK5 HB5 HZ5 HO3 HG HBT HSS
            generalize hL2 : s'.L ++ [⟨n, pl, pd⟩] = L2 at *
            cases hwh : whF L2 with
            | none =>
              have e := HE4.out
              rw [hwh] at e
              simp only at e
              subst e
              rw [hwh] at HW
              simp only [Option.getD_none, Option.isSome_none] at HW
              clear HE4 hwh hL2
              go_wp2_with fail
              refine HW.mono ?_
              rintro e8 w8 ⟨rfl, b8⟩
              clear HW
              have HJ8 := Box'.mk (HJ7.out.below b8)
              have HB8 : Box' (Bt2 jb g w w8) := ⟨HB7.out.trans (Bt2.of b8)⟩
              clear b8 HJ7 HB7
              go_wp2_with fail
              go_ret3
              exact ⟨_, rfl, OwnB.nil _ _, ⟨_, by rw [← hen]; exact HJ8.out⟩, HB8.out⟩
            | some k =>
              have e := HE4.out
              rw [hwh] at e
              simp only at e
              subst e
              rw [hwh] at HW
              simp only [Option.getD_some, Option.isSome_some] at HW
              have hk := whG_some hwh
              have hk256 : k ≤ 256 := by omega
              have HK := Box'.mk hk
              clear HE4 hwh hL2 hk
              go_wp2_with fail
              refine HW.mono ?_
              rintro e8 w8 ⟨rfl, b8⟩
              clear HW
              have HJ8 := Box'.mk (HJ7.out.below b8)
              have HB8 : Box' (Bt2 jb g w w8) := ⟨HB7.out.trans (Bt2.of b8)⟩
              have HTG := together_any w8 jb g _ _ (HJ7.out.below b8) HO7.out k hk256 (fun i hi => HK.out.2.2 i (Nat.zero_le _) hi)
              clear b8 HJ7 HB7 HK
              go_wp2_with fail
              refine HTG.mono ?_
              rintro e9 w9 ⟨v9', rfl, o9, b9⟩
              clear HTG
              have j9 := HJ8.out.below b9
              have hne9 := j9.ne
              have B9 : Bt2 jb g w w9 := HB8.out.trans (Bt2.of b9)
              obtain ⟨w10, hw10⟩ : ∃ w10, w10 = w9.setCell ⟨jb, 1, none⟩ (.bool true) := ⟨_, rfl⟩
              have r10 : Row w10 jb 69 #[.int .u64 (s'.id : Int), .bool true, .map (some g)] := by rw [hw10]; exact j9.row.setCell (k := 1) (.bool true)
              have b10 : Bt2 jb g w9 w10 := by rw [hw10]; exact Bt2.setCell w9 1 _
              obtain ⟨es9, cl9, hm9, _⟩ := j9.map
              have o10 : OwnB w8.heap.size w10 v9' (tog L2 k) := o9.bt2 j9.row (by decide) hm9 b10
              have m10 : JM w10 g s'.id _ := j9.map.same (by rw [hw10]; exact Below.heap_setCell _ _ _ _ (Ne.symm hne9))
              have c2 : w10.cell? ⟨jb, 2, none⟩ = some (.map (some g)) := by rw [r10.cell]; rfl
              have f9 := j9.row.frozen
              have c91 := j9.c1
              obtain ⟨w11, hrun, hm11, hg11⟩ := m10.clear 0
              have r11 : Row w11 jb 69 #[.int .u64 (s'.id : Int), .bool true, .map (some g)] := r10.same (hg11.block jb r10.lt (by simp [hne9]))
              obtain ⟨es10, cl10, hm10, _⟩ := m10
              have o11 : OwnB w8.heap.size w11 v9' (tog L2 k) := o10.bt2 r10 (by decide) hm10 (Bt2.grown hg11)
              have HO11 := Box'.mk (o11.less HB8.out.size)
              have HB11 : Box' (Bt2 jb g w w11) := ⟨(B9.trans b10).trans (Bt2.grown hg11)⟩
              have HJ11 : Box' (JS w11 jb g ⟨s'.id, true, []⟩ []) := ⟨⟨r11, hm11 _, rfl, fun p hp => by cases hp⟩⟩
              have HRN := Box'.mk hrun
              clear j9 hne9 B9 r10 b10 hm9 o10 o9 b9 HJ8 HB8 r11 hm11 hg11 hm10 o11 hrun HO7
              obtain ⟨a9, c9, hv9⟩ := HO11.out.slice
              subst hv9
              generalize htl : (tog L2 k).length = tl at *
              clear htl
              rw [hw10] at c2 HRN
              clear hw10
              go_wp2_with (refine wpList_clear rfl _ rfl w11 HRN.out ?_)
              go_ret3
              exact ⟨_, rfl, HO11.out, ⟨_, HJ11.out⟩, HB11.out⟩
          · have e := HE3.out
            rw [hg] at e
            simp only at e
            subst e
            obtain ⟨av, cv, rfl⟩ := (hob w4 (Below.refl _ _)).slice
            refine wp_mono (tkReg jb g w3.heap.size s'.id n x.last true _ ⟨_, _, _, rfl⟩ _ _ _ _ _ _ _ _ _ _ _ _ _ _ _ _ _ _ _ _ _ _ _ _ _ _ _ _ _ _ _ _ _ _ _ _ _ _ _ _ _ _ _ _ _ _ _ _ _ _ _ _ _ _ _ _ _ _ _ _ _ _ _ _ _ _ _ _ _ _ _ _ _ _ _ _ _ _ _ _ _ _ _ _ _ _ _ hC2 hKk hL) ?_
            rintro r a' w5 ⟨rfl, v8, v9, v49, v50, v51, v52, v53, v54, v55, v56, v57, rfl, rfl, b5⟩
            have HJ5 := Box'.mk (HJ4.out.below b5)
            have HB5 : Box' (Bt2 jb g w w5) := ⟨HB4.out.trans (Bt2.of b5)⟩
            clear HE3 hC2 hKk hL b5 HJ4 HR4 HK4 HB4 hg hob hm hx
            go_wp2_with fail
            go_ret3
            exact ⟨_, rfl, OwnB.nil _ _, ⟨_, HJ5.out⟩, HB5.out⟩
      · have HE : Box' (R = tkR s ⟨pi, n, pl, pd⟩) := ⟨by rw [HT3.out, if_neg hgt]⟩
        clear HT3
        have hsi : pi = s.id := by omega
        go_quiet (fail)
        generalize hq : w2.drewN _ = wq0
        generalize hq2 : wq0.drewN _ = wq
        have bq : Below w2.heap.size w2 wq := by rw [← hq2, ← hq]; exact Below.drewN (Below.drewN (Below.refl _ _) _) _
        clear hq2
        have HJq := Box'.mk (HJ2.out.below bq)
        have HBq := Box'.mk (HB2.out.trans (bq.mono HB2.out.size))
        have HRq := Box'.mk (HR2.out.below bq HR2.out.lt)
        clear hq bq HJ2 HB2 HR2 c00 cp0
        have HB3 : Box' (Bt2 jb g w wq) := ⟨Bt2.of HBq.out⟩
        have HR3 := HRq
        have HJ3 := HJq
        have HO3 := HO
        have HSI := Box'.mk hsi
        clear HJq HBq HRq HO hlt hgt hsi
        have HRE := Box'.mk (tkR.eq_1 s ⟨pi, n, pl, pd⟩)
        simp only [Int.toNat_natCast] at HRE
        have HE2 : Box' (R = _) := ⟨HE.out.trans HRE.out⟩
        clear HE HRE
        have c31 := HJ3.out.c1
        have HZ : Box' (w.heap.size ≤ wq.heap.size) := ⟨HB3.out.size⟩
        cases hen : s.ended with
        | true =>
          have e := HE2.out
          rw [hen, if_pos rfl] at e
          subst e
          rw [hen] at c31
          clear HE2
          go_wp2_with fail
          go_ret3
          exact ⟨_, rfl, OwnB.nil _ _, ⟨_, HJ3.out⟩, HB3.out⟩
        | false =>
          have e := HE2.out
          rw [hen] at e
          simp only [Bool.false_eq_true, if_false] at e
          have HE3 := Box'.mk e
          rw [hen] at c31
          have cp0 : wq.cell? ⟨w.heap.size, 0, none⟩ = some (.int .u64 (pi : Int)) := by rw [HR3.out.cell]; rfl
          have cp1 : wq.cell? ⟨w.heap.size, 1, none⟩ = some (.int .i64 (n : Int)) := by rw [HR3.out.cell]; rfl
          obtain ⟨w4, hw4⟩ : ∃ w4, w4 = (wq.alloc (.cells #[.int .u64 0, .int .i64 0] 72)).setRow wq.heap.size #[.int .u64 (pi : Int), .int .i64 (n : Int)] := ⟨_, rfl⟩
          have b4 : Below wq.heap.size wq w4 := by rw [hw4]; exact below_setRow ((Below.refl _ _).alloc (Nat.le_refl _) _) (Nat.le_refl _) _
          have r4 : Row w4 wq.heap.size 72 #[.int .u64 (pi : Int), .int .i64 (n : Int)] := by rw [hw4]; exact (Row.new wq 72 #[.int .u64 0, .int .i64 0]).setRow _
          have HK4 := Box'.mk r4
          have HR4 := Box'.mk (HR3.out.below b4 HR3.out.lt)
          have HJ4 := Box'.mk (HJ3.out.below b4)
          have HB4 : Box' (Bt2 jb g w w4) := ⟨HB3.out.trans (Bt2.of b4)⟩
          have HZ4 : Box' (wq.heap.size < w4.heap.size) := ⟨r4.lt⟩
          clear e HE2 b4 r4 HR3 HJ3 HB3
          go_upto_region 12 with (refine wpList_store_row rfl 72 _ _ rfl _ rfl _ rfl 72 2 (Room.new _ _ _ _ rfl) Try.info72 rfl (by simp [Value.oneCell']) ?_)
          rw [← hw4]
          clear hw4 cp0 cp1 c31
          have hC2 : ∀ w1, Below w4.heap.size w4 w1 → w1.cell? ⟨jb, 2, none⟩ = some (.map (some g)) := fun w1 hb => (HJ4.out.below hb).c2
          have hKk : ∀ w1, Below w4.heap.size w4 w1 → Row w1 wq.heap.size 72 #[.int .u64 (s.id : Int), .int .i64 (n : Int)] := fun w1 hb => by rw [← HSI.out]; exact HK4.out.below hb HZ4.out
          rcases HJ4.out.look HO3.out n (by omega) with ⟨hg, hL⟩ | ⟨x, v, hm, hg, hx, hob, hL, _⟩
          · have e := HE3.out
            rw [hg] at e
            simp only at e
            have HE4 := Box'.mk e
            refine wp_mono (tkReg jb g wq.heap.size s.id n false false (.slice none 0 0) ⟨_, _, _, rfl⟩ _ _ _ _ _ _ _ _ _ _ _ _ _ _ _ _ _ _ _ _ _ _ _ _ _ _ _ _ _ _ _ _ _ _ _ _ _ _ _ _ _ _ _ _ _ _ _ _ _ _ _ _ _ _ _ _ _ _ _ _ _ _ _ _ _ _ _ _ _ _ _ _ _ _ _ _ _ _ _ _ _ _ _ _ _ _ _ hC2 hKk hL) ?_
            rintro r a' w5 ⟨rfl, v8, v9, v49, v50, v51, v52, v53, v54, v55, v56, v57, rfl, rfl, b5⟩
            have HJ5 := Box'.mk (HJ4.out.below b5)
            have HR5 := Box'.mk (HR4.out.below b5 HR4.out.lt)
            have HK5 := Box'.mk (HK4.out.below b5 HZ4.out)
            have HB5 : Box' (Bt2 jb g w w5) := ⟨HB4.out.trans (Bt2.of b5)⟩
            have hz5 : wq.heap.size ≤ w5.heap.size := Nat.le_trans (Nat.le_of_lt HZ4.out) b5.size
            have HZ5 := Box'.mk hz5
            have HG := Box'.mk hg
            clear e HE3 hC2 hKk hL b5 HJ4 HR4 HK4 HB4 hg hz5
            go_upto_region 15 with fail
            have hC2 : ∀ w1, Below w5.heap.size w5 w1 → w1.cell? ⟨jb, 2, none⟩ = some (.map (some g)) := fun w1 hb => (HJ5.out.below hb).c2
            have hKk : ∀ w1, Below w5.heap.size w5 w1 → Row w1 wq.heap.size 72 #[.int .u64 (s.id : Int), .int .i64 (n : Int)] := fun w1 hb => by rw [← HSI.out]; exact HK5.out.below hb HK5.out.lt
            have hP2 : ∀ w1, Below w5.heap.size w5 w1 → w1.cell? ⟨w.heap.size, 2, none⟩ = some (.bool pl) := fun w1 hb => by rw [(HR5.out.below hb HR5.out.lt).cell]; rfl
            have hP3 : ∀ w1, Below w5.heap.size w5 w1 → w1.cell? ⟨w.heap.size, 3, none⟩ = some (.slice va ln vc) := fun w1 hb => by rw [(HR5.out.below hb HR5.out.lt).cell]; rfl
            have hCl : ∀ w1, Below w5.heap.size w5 w1 → Calls Try.prog 28 #[.slice va ln vc] w1 fun e w' => ∃ v', e = .returned v' ∧ OwnB w1.heap.size w' v' pd ∧ Below w1.heap.size w1 w' := fun w1 hb => clone_any (fun b => b < w1.heap.size) _ pd w1 (HBT.out.keep fun b hs => by
              have q := HSS.out b hs
              have z1 := HB5.out.size
              have z2 := hb.size
              exact ⟨by omega, (hb.block b (by omega)).trans (HB5.out.block b q.1 q.2.1 q.2.2)⟩) (fun b hb => hb) (by rw [HLN.out]; omega)
            have hkk : ∀ p ∈ ps, p.1.n < 256 := fun p hp => HO3.out.n _ (by rw [← HJ5.out.ls]; exact List.mem_map.2 ⟨p, hp, rfl⟩)
            have hU : ∀ w1, Below w5.heap.size w5 w1 → ∀ u, ∃ w', (Instr.mapUpdate 67 (.map (some g)) (ky s.id n) (.agg #[.bool pl, u])).run Try.prog w1 = .ok () w' ∧ JM w' g s.id (ps ++ [(⟨n, pl, pd⟩, u)]) ∧ w1.grownBy w' (some g) := fun w1 hb u =>
              (HJ5.out.below hb).map.update HO3.out.id hkk ⟨n, pl, pd⟩ hn (by rw [HJ5.out.ls]; exact HG.out) u
            refine wp_mono (upReg jb g wq.heap.size w.heap.size s.id n pl va ln vc pd ps ⟨n, pl, pd⟩ _ _ _ _ _ _ _ _ _ _ _ _ _ _ _ _ _ _ _ _ _ _ _ _ _ _ _ _ _ _ _ _ _ _ _ _ _ _ _ _ _ _ _ _ _ _ _ _ _ _ _ _ _ _ _ _ _ _ _ _ _ _ _ _ _ _ _ _ _ _ _ _ _ _ _ _ _ _ _ _ _ _ _ _ _ _ hC2 hKk hP2 hP3 hCl hU) ?_
            rintro r a' w7 ⟨rfl, v59, v60, v61, v62, v63, v64, v65, v66, v67, v68, v69, rfl, u, w6, b6, o6, m7, g7⟩
            have hj6 := HJ5.out.below b6
            have hne6 := hj6.ne
            have r7 : Row w7 jb 69 #[.int .u64 (s.id : Int), .bool s.ended, .map (some g)] := hj6.row.same (g7.block jb hj6.jl (by simp [hne6]))
            obtain ⟨es6, cl6, hm6, _⟩ := hj6.map
            have j7 : JS w7 jb g ⟨s.id, s.ended, s.L ++ [⟨n, pl, pd⟩]⟩ (ps ++ [(⟨n, pl, pd⟩, u)]) := ⟨r7, m7, by rw [List.map_append, hj6.ls]; rfl, fun p hp => by
              rcases List.mem_append.1 hp with hp | hp
              · exact (hj6.byt p hp).bt2 hj6.row (by decide) hm6 (Bt2.grown g7)
              · rw [List.mem_singleton] at hp
                subst hp
                exact (o6.less (Nat.zero_le _)).bt2 hj6.row (by decide) hm6 (Bt2.grown g7)⟩
            have ok7 : JOk ⟨s.id, s.ended, s.L ++ [⟨n, pl, pd⟩]⟩ := HO3.out.put n pl pd hn (by rw [HLN.out]; exact hl) HG.out _
            have HB7 : Box' (Bt2 jb g w w7) := ⟨(HB5.out.trans (Bt2.of b6)).trans (Bt2.grown g7)⟩
            have HW := whole_any w7 jb g _ _ j7 ok7
            have HJ7 := Box'.mk j7
            have HO7 := Box'.mk ok7
            clear hC2 hKk hP2 hP3 hCl hkk hU hj6 hne6 r7 hm6 j7 ok7 b6 o6 m7 g7 HJ5 HR5 HK5 HB5 HZ5 HO3 HG HBT HSS
            generalize hL2 : s.L ++ [⟨n, pl, pd⟩] = L2 at *
            cases hwh : whF L2 with
            | none =>
              have e := HE4.out
              rw [hwh] at e
              simp only at e
              subst e
              rw [hwh] at HW
              simp only [Option.getD_none, Option.isSome_none] at HW
              clear HE4 hwh hL2
              go_wp2_with fail
              refine HW.mono ?_
              rintro e8 w8 ⟨rfl, b8⟩
              clear HW
              have HJ8 := Box'.mk (HJ7.out.below b8)
              have HB8 : Box' (Bt2 jb g w w8) := ⟨HB7.out.trans (Bt2.of b8)⟩
              clear b8 HJ7 HB7
              go_wp2_with fail
              go_ret3
              exact ⟨_, rfl, OwnB.nil _ _, ⟨_, by rw [← hen]; exact HJ8.out⟩, HB8.out⟩
            | some k =>
              have e := HE4.out
              rw [hwh] at e
              simp only at e
              subst e
              rw [hwh] at HW
              simp only [Option.getD_some, Option.isSome_some] at HW
              have hk := whG_some hwh
              have hk256 : k ≤ 256 := by omega
              have HK := Box'.mk hk
              clear HE4 hwh hL2 hk
              go_wp2_with fail
              refine HW.mono ?_
              rintro e8 w8 ⟨rfl, b8⟩
              clear HW
              have HJ8 := Box'.mk (HJ7.out.below b8)
              have HB8 : Box' (Bt2 jb g w w8) := ⟨HB7.out.trans (Bt2.of b8)⟩
              have HTG := together_any w8 jb g _ _ (HJ7.out.below b8) HO7.out k hk256 (fun i hi => HK.out.2.2 i (Nat.zero_le _) hi)
              clear b8 HJ7 HB7 HK
              go_wp2_with fail
              refine HTG.mono ?_
              rintro e9 w9 ⟨v9', rfl, o9, b9⟩
              clear HTG
              have j9 := HJ8.out.below b9
              have hne9 := j9.ne
              have B9 : Bt2 jb g w w9 := HB8.out.trans (Bt2.of b9)
              obtain ⟨w10, hw10⟩ : ∃ w10, w10 = w9.setCell ⟨jb, 1, none⟩ (.bool true) := ⟨_, rfl⟩
              have r10 : Row w10 jb 69 #[.int .u64 (s.id : Int), .bool true, .map (some g)] := by rw [hw10]; exact j9.row.setCell (k := 1) (.bool true)
              have b10 : Bt2 jb g w9 w10 := by rw [hw10]; exact Bt2.setCell w9 1 _
              obtain ⟨es9, cl9, hm9, _⟩ := j9.map
              have o10 : OwnB w8.heap.size w10 v9' (tog L2 k) := o9.bt2 j9.row (by decide) hm9 b10
              have m10 : JM w10 g s.id _ := j9.map.same (by rw [hw10]; exact Below.heap_setCell _ _ _ _ (Ne.symm hne9))
              have c2 : w10.cell? ⟨jb, 2, none⟩ = some (.map (some g)) := by rw [r10.cell]; rfl
              have f9 := j9.row.frozen
              have c91 := j9.c1
              obtain ⟨w11, hrun, hm11, hg11⟩ := m10.clear 0
              have r11 : Row w11 jb 69 #[.int .u64 (s.id : Int), .bool true, .map (some g)] := r10.same (hg11.block jb r10.lt (by simp [hne9]))
              obtain ⟨es10, cl10, hm10, _⟩ := m10
              have o11 : OwnB w8.heap.size w11 v9' (tog L2 k) := o10.bt2 r10 (by decide) hm10 (Bt2.grown hg11)
              have HO11 := Box'.mk (o11.less HB8.out.size)
              have HB11 : Box' (Bt2 jb g w w11) := ⟨(B9.trans b10).trans (Bt2.grown hg11)⟩
              have HJ11 : Box' (JS w11 jb g ⟨s.id, true, []⟩ []) := ⟨⟨r11, hm11 _, rfl, fun p hp => by cases hp⟩⟩
              have HRN := Box'.mk hrun
              clear j9 hne9 B9 r10 b10 hm9 o10 o9 b9 HJ8 HB8 r11 hm11 hg11 hm10 o11 hrun HO7
              obtain ⟨a9, c9, hv9⟩ := HO11.out.slice
              subst hv9
              generalize htl : (tog L2 k).length = tl at *
              clear htl
              rw [hw10] at c2 HRN
              clear hw10
              go_wp2_with (refine wpList_clear rfl _ rfl w11 HRN.out ?_)
              go_ret3
              exact ⟨_, rfl, HO11.out, ⟨_, HJ11.out⟩, HB11.out⟩
          · have e := HE3.out
            rw [hg] at e
            simp only at e
            subst e
            obtain ⟨av, cv, rfl⟩ := (hob w4 (Below.refl _ _)).slice
            refine wp_mono (tkReg jb g wq.heap.size s.id n x.last true _ ⟨_, _, _, rfl⟩ _ _ _ _ _ _ _ _ _ _ _ _ _ _ _ _ _ _ _ _ _ _ _ _ _ _ _ _ _ _ _ _ _ _ _ _ _ _ _ _ _ _ _ _ _ _ _ _ _ _ _ _ _ _ _ _ _ _ _ _ _ _ _ _ _ _ _ _ _ _ _ _ _ _ _ _ _ _ _ _ _ _ _ _ _ _ _ hC2 hKk hL) ?_
            rintro r a' w5 ⟨rfl, v8, v9, v49, v50, v51, v52, v53, v54, v55, v56, v57, rfl, rfl, b5⟩
            have HJ5 := Box'.mk (HJ4.out.below b5)
            have HB5 : Box' (Bt2 jb g w w5) := ⟨HB4.out.trans (Bt2.of b5)⟩
            clear HE3 hC2 hKk hL b5 HJ4 HR4 HK4 HB4 hg hob hm hx
            go_wp2_with fail
            go_ret3
            exact ⟨_, rfl, OwnB.nil _ _, ⟨_, HJ5.out⟩, HB5.out⟩
end Go.Proofs.Ythmcmdojnnbefaa
