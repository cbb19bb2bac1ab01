/- The walk of the reference's Datagram. -/
import Derived.Test.YthcokaffbgbanaaDoorYc
import Derived.Test.YthcokaffbgbanaaDoorYd
import Derived.Test.YthcokaffbgbanaaDoorYe
import Derived.Test.YthcokaffbgbanaaDoorYf
namespace Go.Proofs.YthcokaffbgbanaaDoor
open Go.RowKit Go.BigFrame
set_option linter.unusedVariables false

set_option maxRecDepth 100000 in
set_option maxHeartbeats 4000000 in
theorem refDgram_late (key : List UInt8) (hkey : key.length = 16) (f : Nat) (l : List UInt8) (hl : l.length ≤ maxLen) (b o c : Nat) (w : World) (hbw : b < w.heap.size) (hr : w.rangeAt b o (l.map B)) (hc : l.length ≤ c)
    (h1 : f = 1 ∨ f = 2) (h2 : 28 ≤ l.length) :
    Calls Tryd.prog 14 #[.agg (ag key), .int .u8 (f : Int), .slice (some ⟨b, o, none⟩) l.length c] w fun r w' => ∃ u, r = .returned (.tuple #[.agg (dgv (Gf.dgQ key f l) (Gf.dgS key f l) (Gf.dgO key f l) u), .int .i64 (Gf.dgE key f l)]) ∧ In5 w' u (Gf.dgL key f l) ∧ Below w.heap.size w w' := by
  have hS := fun w => refSide_any f w
  rw [decide_eq_true h1] at hS
  have hB : Box' (Below w.heap.size w ((w.alloc (.cells (ag key) 23)).alloc (.cells #[.int .u64 0, .int .u16 0, .int .u16 0, .slice none 0 0] 28))) := ⟨((Below.refl _ _).alloc (Nat.le_refl _) _).alloc (by simp) _⟩
  have R1 : Box' (Row ((w.alloc (.cells (ag key) 23)).alloc (.cells #[.int .u64 0, .int .u16 0, .int .u16 0, .slice none 0 0] 28)) (w.heap.size + 1) 28 #[.int .u64 0, .int .u16 0, .int .u16 0, .slice none 0 0]) := ⟨Row.made _ _ _ _ _ rfl (by simp)⟩
  have R0 : Box' (Row ((w.alloc (.cells (ag key) 23)).alloc (.cells #[.int .u64 0, .int .u16 0, .int .u16 0, .slice none 0 0] 28)) w.heap.size 23 (ag key)) := ⟨(Row.new _ _ _).alloc _⟩
  have hrz : (w.alloc (.cells (ag key) 23)).rangeAt b o (l.map B) := range_below hr ((Below.refl w.heap.size w).alloc (Nat.le_refl _) _) hbw
  have HR : Box' (((w.alloc (.cells (ag key) 23)).alloc (.cells #[.int .u64 0, .int .u16 0, .int .u16 0, .slice none 0 0] 28)).rangeAt b o (l.map B)) := ⟨range_below hrz ((Below.refl (w.heap.size + 1) _).alloc (by simp) _) (by omega)⟩
  have d2 : decide ((l.length : Int) < 28) = false := decide_eq_false (by omega)
  have hz0 : ((w.alloc (.cells (ag key) 23)).alloc (.cells #[.int .u64 0, .int .u16 0, .int .u16 0, .slice none 0 0] 28)).heap.size = w.heap.size + 1 + 1 := by simp
  have HC : Box' (∀ k, k < 8 → ((w.alloc (.cells (ag key) 23)).alloc (.cells #[.int .u64 0, .int .u16 0, .int .u16 0, .slice none 0 0] 28)).cell? ⟨b, o + k, none⟩ = some (.int .u8 ((l.getD k 0).toNat : Int))) := ⟨fun k hk => HR.out k _ (by
    have : k < l.length := by omega
    simp [this]; rfl)⟩
  have HN : Box' (∀ k, k < 8 → bits .or .u64 ((Gf.numTo l 0 k : Int) * 256) ((l.getD k 0).toNat : Int) = ((Gf.numTo l 0 (k + 1) : Nat) : Int)) := ⟨fun k hk => by
    rw [or_byte _ _ (Gf.numTo_lt7 l 0 k hk), Gf.numTo, Nat.zero_add]⟩
  have HL7 : Box' (∀ k, k < 8 → Gf.numTo l 0 k < 72057594037927936) := ⟨fun k hk => Gf.numTo_lt7 l 0 k hk⟩
  have HX : Box' (28 ≤ l.length ∧ l.length ≤ c ∧ l.length ≤ maxLen ∧ (f = 1 ∨ f = 2)) := ⟨h2, hc, hl, h1⟩
  clear hr hrz h1 hl
  obtain ⟨x1, x2, x3, x4⟩ := HX.out
  have ES : Box' (Gf.dgE key f l = if Gf.sdN (Gf.numTo l 0 8) = f then (if 4611686018427387904 ≤ Gf.sqN (Gf.numTo l 0 8) ∨ 65028 < l.length then 8 else Gf.opE key (Gf.nnc (Gf.numTo l 0 8)) [] (l.drop 8)) else 82) := ⟨by unfold Gf.dgE; rw [if_pos x4, if_neg (by omega)]⟩
  have HPP : Box' (Gf.dgE key f l = 0 → Gf.dgQ key f l = Gf.sqN (Gf.numTo l 0 8) ∧ Gf.dgS key f l = Gf.tmA (Gf.dgP key l) 0 ∧ Gf.dgO key f l = Gf.tmA (Gf.dgP key l) 2 ∧ Gf.dgL key f l = (Gf.dgP key l).drop 4 ∧ (Gf.dgP key l).length = l.length - 24) := ⟨fun h => ⟨if_pos h, if_pos h, if_pos h, if_pos h, Gf.dgP_len h⟩⟩
  have HXX : Box' (Gf.dgE key f l ≠ 0 → Gf.dgQ key f l = 0 ∧ Gf.dgS key f l = 0 ∧ Gf.dgO key f l = 0 ∧ Gf.dgL key f l = []) := ⟨fun h => ⟨if_neg h, if_neg h, if_neg h, if_neg h⟩⟩
  have HLP : Box' (Gf.dgP key l = Gf.opL key (Gf.nnc (Gf.numTo l 0 8)) [] (l.drop 8)) := ⟨rfl⟩
  clear x1 x2 x3 x4
  generalize Gf.dgQ key f l = DQ at *
  generalize Gf.dgS key f l = DS at *
  generalize Gf.dgO key f l = DO at *
  generalize Gf.dgL key f l = DL at *
  generalize Gf.dgE key f l = DE at *
  generalize Gf.dgP key l = DP at *
  obtain ⟨n, hn⟩ : ∃ n, l.length = n := ⟨_, rfl⟩
  have HLN := Box'.mk hn
  rw [hn] at d2 hc h2 ⊢
  clear hn
  unfold dgv
  go_enter Tryd.func14, Tryd.ntmps14
  go_wp2_with (first | (go_at_call 34; refine (hS _).mono ?_; rintro e1 w1 ⟨rfl, rfl⟩) | fail)
  obtain ⟨W0, hW0⟩ : ∃ W0, ((w.alloc (.cells (ag key) 23)).alloc (.cells #[.int .u64 0, .int .u16 0, .int .u16 0, .slice none 0 0] 28)) = W0 := ⟨_, rfl⟩
  rw [hW0] at hB R0 R1 hz0 HR HC ⊢
  clear hW0 hS d2
  go_loopw [8, 9] (fun u i wr => ∃ k : Nat, k ≤ 8 ∧ i = .int .i64 (k : Int) ∧ u = .int .u64 (Gf.numTo l 0 k : Nat) ∧ wr = W0) (fun _ i _ => 8 - (intOf i).toNat)
  case atStart => exact ⟨0, by omega, rfl, rfl, rfl⟩
  case round =>
    obtain ⟨k, hk, rfl, rfl, rfl⟩ := hrel
    by_cases hlt : k < 8
    · have c0 := HC.out k hlt
      have eo := HN.out k hlt
      have hl7 := HL7.out k hlt
      have hkn : k < n := by omega
      generalize hx : l.getD k 0 = x at *
      have hx8 := x.toNat_lt
      generalize hm : Gf.numTo l 0 (k + 1) = m1 at *
      generalize Gf.numTo l 0 k = m0 at *
      go_wp2_with fail
      refine ⟨⟨k + 1, by omega, by go_num, ?_, trivial⟩, by simp [intOf]; omega⟩
      rw [hm]
    · obtain rfl : k = 8 := by omega
      clear HC HN HL7 hlt
      have hH64 := Gf.numTo_lt8 l 0
      obtain ⟨x1, x2, x3, x4⟩ := HX.out
      have HBE : Box' (Gf.be8 (Gf.numTo l 0 8) = l.take 8) := ⟨Gf.be_num l (by omega)⟩
      have hsd : (decide ((9223372036854775808 : Int) ≤ ((Gf.numTo l 0 8 : Nat) : Int)) != ((f : Int) == 2)) = !(decide (Gf.sdN (Gf.numTo l 0 8) = f)) := by
        unfold Gf.sdN
        rcases x4 with rfl | rfl
        · by_cases q : Gf.numTo l 0 8 < 9223372036854775808
          · rw [if_pos q, decide_eq_false (by omega)]; rfl
          · rw [if_neg q, decide_eq_true (by omega)]; rfl
        · by_cases q : Gf.numTo l 0 8 < 9223372036854775808
          · rw [if_pos q, decide_eq_false (by omega)]; rfl
          · rw [if_neg q, decide_eq_true (by omega)]; rfl
      have hsq : ((Gf.numTo l 0 8 : Nat) : Int) % 9223372036854775808 = ((Gf.sqN (Gf.numTo l 0 8) : Nat) : Int) := by unfold Gf.sqN; omega
      have HSD := Box'.mk hsd
      clear hsd
      generalize Gf.sqN (Gf.numTo l 0 8) = sq at *
      generalize Gf.sdN (Gf.numTo l 0 8) = sd at *
      generalize Gf.numTo l 0 8 = H at *
      obtain ⟨bH, hbH⟩ : ∃ bH, decide ((9223372036854775808 : Int) ≤ (H : Int)) = bH := ⟨_, rfl⟩
      obtain ⟨bF, hbF⟩ : ∃ bF, ((f : Int) == 2) = bF := ⟨_, rfl⟩
      rw [hbH, hbF] at HSD
      go_upto_region 11 with (fail)
      have hrm : Room wr (w.heap.size + 1) 28 4 := ⟨_, R1.out, rfl⟩
      have h1c : (#[.int .u64 0, .int .u16 0, .int .u16 0, .slice none 0 0] : Array Value).all (·.oneCell') = true := by simp [Value.oneCell']
      have bz : Below w.heap.size w (wr.setRow (w.heap.size + 1) #[.int .u64 0, .int .u16 0, .int .u16 0, .slice none 0 0]) := below_setRow hB.out (by omega) _
      by_cases hsf : sd = f
      · have dsd : (bH != bF) = false := by rw [HSD.out, decide_eq_true hsf]; rfl
        have hbb : bH = bF := by cases bH <;> cases bF <;> first | rfl | cases dsd
        clear dsd HSD
        subst hbb
        have dsd : True := trivial
        have HSD : True := trivial
        rw [if_pos hsf] at ES
        by_cases hbig : 4611686018427387904 ≤ sq ∨ 65028 < l.length
        · rw [if_pos hbig] at ES
          obtain ⟨e1, e2, e3, e4⟩ := HXX.out (by rw [ES.out]; decide)
          rw [HLN.out] at hbig
          have e0 := ES.out
          clear HPP HXX ES HSD HLP HBE HX x1 x2 x3
          subst e1 e2 e3 e4 e0
          by_cases hs4 : 4611686018427387904 ≤ sq
          · have d4 : decide ((4611686018427387904 : Int) ≤ (sq : Int)) = true := decide_eq_true (by omega)
            clear hbig hs4
            go_wp2_with (first | (refine wpList_store_row rfl 28 (.tmp 6) (.tmp 48) rfl _ rfl _ rfl _ _ hrm Tryd.size28 rfl h1c ?_) | fail)
            refine bodyPost_ret (results_row_slot Tryd.results14 _ (w.heap.size + 1) rfl _ rfl _ _ (hrm.setRow _) _ Tryd.underlying28 rfl 4 Tryd.size28 rfl) rfl ?_
            exact ⟨_, rfl, .inl ⟨rfl, rfl⟩, bz⟩
          · have d4 : decide ((4611686018427387904 : Int) ≤ (sq : Int)) = false := decide_eq_false (by omega)
            have d5 : decide ((65028 : Int) < (n : Int)) = true := decide_eq_true (by omega)
            clear hbig hs4
            go_wp2_with (first | (refine wpList_store_row rfl 28 (.tmp 6) (.tmp 48) rfl _ rfl _ rfl _ _ hrm Tryd.size28 rfl h1c ?_) | fail)
            refine bodyPost_ret (results_row_slot Tryd.results14 _ (w.heap.size + 1) rfl _ rfl _ _ (hrm.setRow _) _ Tryd.underlying28 rfl 4 Tryd.size28 rfl) rfl ?_
            exact ⟨_, rfl, .inl ⟨rfl, rfl⟩, bz⟩
        · rw [if_neg hbig] at ES
          rw [HLN.out] at hbig
          have d4 : decide ((4611686018427387904 : Int) ≤ (sq : Int)) = false := decide_eq_false (by omega)
          have d5 : decide ((65028 : Int) < (n : Int)) = false := decide_eq_false (by omega)
          have lS : (l.drop 8).length = n - 8 := by rw [List.length_drop, HLN.out]
          have hrS : wr.rangeAt b (o + 8) ((l.drop 8).map B) := range_drop HR.out 8
          have hr8 : wr.rangeAt b o ((Gf.be8 H).map B) := by rw [HBE.out]; exact range_take HR.out 8
          go_upto_region 15 with (fail)
          refine wp_mono (ropenReg key (l.drop 8) DP hkey DE H w.heap.size wr.heap.size b o n c wr (by omega) (by omega) lS (by omega) hc (by omega) ES.out.symm HLP.out.symm _ _ _ _ _ _ _ _ _ _ _ _ _ _ _ _ _ _ _ _ _ _ _ _ _ _ _ _ _ _ _ _ _ _ _ _ _ _ _ _ _ _ _ _ _ _ _ _ _ _ _ _ _ _ _ _ _ _ _ _ _ _ _ _ _ _ _ _ _ _ _ _ _ _ _ _ _ _ _ _ _ _ _ _ _ _ _ (Nat.le_refl _) (Below.refl _ _) R0.out hr8 hrS (by omega)) ?_
          rintro r a' w6 ⟨rfl, v11, v12, v49, v50, v51, v52, v53, v54, v55, v56, v57, v58, v59, rfl, o6, rfl, b6⟩
          have r6 := R1.out.below b6 (by omega)
          have HO6 := Box'.mk o6
          clear o6 hrS hr8 hrm bz dsd d4 d5
          have hrm : Room w6 (w.heap.size + 1) 28 4 := ⟨_, r6, rfl⟩
          by_cases hE0 : DE = 0
          · obtain ⟨e1, e2, e3, e4, e5⟩ := HPP.out hE0
            subst hE0
            rw [HLN.out] at e5
            have hne : DP ≠ [] := fun h => by rw [h] at e5; simp at e5; omega
            obtain ⟨g, cap, rfl, hgN, hcapm, hcl⟩ := HO6.out.at hne
            rw [e5] at hcl hcapm HO6 ⊢
            have HCL : Box' (∀ k, k < 4 → w6.cell? ⟨g, k, none⟩ = some (.int .u8 ((DP.getD k 0).toNat : Int))) := ⟨fun k hk => hcl k (by omega)⟩
            have HEQ : Box' (DQ = sq ∧ DS = Gf.tmA DP 0 ∧ DO = Gf.tmA DP 2 ∧ DL = DP.drop 4) := ⟨e1, e2, e3, e4⟩
            have HE5 := Box'.mk e5
            clear e1 e2 e3 e4 e5 hcl hne HPP HXX ES HLP
            by_cases hcap4 : cap = 4
            · subst hcap4
              have hm4 : n - 24 = 4 := by omega
              rw [hm4] at HO6 ⊢
              go_upto_region 18 with (fail)
              rw [hsq]
              refine wp_mono (rputReg4 DP sq (w.heap.size + 1) (w.heap.size + 1) g wr _ _ _ _ _ _ _ _ _ _ _ _ _ _ _ _ _ _ _ _ _ _ _ _ _ _ _ _ _ _ _ _ _ _ _ _ _ _ _ _ _ _ _ _ _ _ _ _ _ _ _ _ _ _ _ _ _ _ _ _ _ _ _ _ _ _ _ _ _ _ _ _ _ _ _ _ _ _ _ _ _ _ _ _ _ _ (by omega) (Nat.le_refl _) (b6.mono (by omega)) (HO6.out.less (by omega)) r6 HCL.out) ?_
              rintro r a' w7 ⟨rfl, v7, v64, v65, v66, v67, v68, v69, v70, v71, v72, v73, v74, v75, v76, v77, v78, v79, v80, v81, v82, v83, v84, v85, v86, v87, rfl, rfl, r7, o7, b7⟩
              clear HCL r6 b6 hrm HO6
              go_wp2_with fail
              refine bodyPost_ret (results_row_slot Tryd.results14 _ (w.heap.size + 1) rfl _ rfl _ _ r7 _ Tryd.underlying28 rfl 4 Tryd.size28 rfl) rfl ?_
              obtain ⟨rfl, rfl, rfl, rfl⟩ := HEQ.out
              have hd4 : DP.drop 4 = [] := List.drop_of_length_le (by rw [HE5.out]; omega)
              rw [hd4]
              refine ⟨_, rfl, ?_, hB.out.trans (b7.mono (by omega))⟩
              right
              rcases o7.2 with ⟨e, _⟩ | ⟨g2, cap2, cur, q1, q2, q3, q4, q5, q6, q7⟩
              · cases e
              · simp only [Value.slice.injEq, Option.some.injEq, Addr.mk.injEq, and_true] at q1
                obtain ⟨rfl, _, rfl⟩ := q1
                exact ⟨g, 0, 0, cur, rfl, Nat.le_refl _, q3, fun j u hu => by simp at hu⟩
            · have h4c : 4 < cap := by omega
              go_upto_region 18 with (fail)
              rw [hsq]
              refine wp_mono (rputReg DP sq (w.heap.size + 1) (w.heap.size + 1) g (n - 24) cap wr (by omega) hcapm h4c _ _ _ _ _ _ _ _ _ _ _ _ _ _ _ _ _ _ _ _ _ _ _ _ _ _ _ _ _ _ _ _ _ _ _ _ _ _ _ _ _ _ _ _ _ _ _ _ _ _ _ _ _ _ _ _ _ _ _ _ _ _ _ _ _ _ _ _ _ _ _ _ _ _ _ _ _ _ _ _ _ _ _ _ _ _ (by omega) (Nat.le_refl _) (b6.mono (by omega)) (HO6.out.less (by omega)) r6 HCL.out) ?_
              rintro r a' w7 ⟨rfl, v7, v64, v65, v66, v67, v68, v69, v70, v71, v72, v73, v74, v75, v76, v77, v78, v79, v80, v81, v82, v83, v84, v85, v86, v87, rfl, rfl, r7, o7, b7⟩
              clear HCL r6 b6 hrm HO6
              go_wp2_with fail
              refine bodyPost_ret (results_row_slot Tryd.results14 _ (w.heap.size + 1) rfl _ rfl _ _ r7 _ Tryd.underlying28 rfl 4 Tryd.size28 rfl) rfl ?_
              obtain ⟨rfl, rfl, rfl, rfl⟩ := HEQ.out
              refine ⟨_, rfl, ?_, hB.out.trans (b7.mono (by omega))⟩
              right
              rcases o7.2 with ⟨e, _⟩ | ⟨g2, cap2, cur, q1, q2, q3, q4, q5, q6, q7⟩
              · cases e
              · simp only [Value.slice.injEq, Option.some.injEq, Addr.mk.injEq, and_true] at q1
                obtain ⟨rfl, hm, rfl⟩ := q1
                refine ⟨g, 4, cap - 4, cur, by rw [List.length_drop, ← hm], by rw [List.length_drop, ← hm]; omega, q3, fun j u hu => ?_⟩
                have hj := (List.getElem?_eq_some_iff.1 hu).1
                rw [List.length_map, List.length_drop] at hj
                rw [List.map_drop, List.getElem?_drop, ← q7, List.getElem?_take_of_lt (by omega)] at hu
                simpa using hu
          · obtain ⟨e1, e2, e3, e4⟩ := HXX.out hE0
            have hd : (DE != 0) = true := by rw [bne_iff_ne]; exact hE0
            clear HPP HXX ES HLP hE0
            subst e1 e2 e3 e4
            have b7 : Below w.heap.size wr (w6.setRow (w.heap.size + 1) #[.int .u64 0, .int .u16 0, .int .u16 0, .slice none 0 0]) := below_setRow (b6.mono (by omega)) (by omega) _
            go_wp2_with (first | (refine wpList_store_row rfl 28 (.tmp 6) (.tmp 62) rfl _ rfl _ rfl _ _ hrm Tryd.size28 rfl h1c ?_) | fail)
            refine bodyPost_ret (results_row_slot Tryd.results14 _ (w.heap.size + 1) rfl _ rfl _ _ (hrm.setRow _) _ Tryd.underlying28 rfl 4 Tryd.size28 rfl) rfl ?_
            exact ⟨_, rfl, .inl ⟨rfl, rfl⟩, hB.out.trans b7⟩
      · have dsd : (bH != bF) = true := by rw [HSD.out, decide_eq_false hsf]; rfl
        have hbb : bF = !bH := by cases bH <;> cases bF <;> first | rfl | cases dsd
        clear dsd HSD
        subst hbb
        have HSD : True := trivial
        rw [if_neg hsf] at ES
        obtain ⟨e1, e2, e3, e4⟩ := HXX.out (by rw [ES.out]; decide)
        have e0 := ES.out
        clear HPP HXX ES HSD HLP HBE HX x1 x2 x3 hsf
        subst e1 e2 e3 e4 e0
        go_wp2_with (first | (refine wpList_store_row rfl 28 (.tmp 6) (.tmp 40) rfl _ rfl _ rfl _ _ hrm Tryd.size28 rfl h1c ?_) | fail)
        refine bodyPost_ret (results_row_slot Tryd.results14 _ (w.heap.size + 1) rfl _ rfl _ _ (hrm.setRow _) _ Tryd.underlying28 rfl 4 Tryd.size28 rfl) rfl ?_
        exact ⟨_, rfl, .inl ⟨rfl, rfl⟩, bz⟩
theorem refDgram_any (key : List UInt8) (hkey : key.length = 16) (f : Nat) (vb : Value) (l : List UInt8) (hl : l.length ≤ maxLen) (w : World) (hb : Bts (· < w.heap.size) w vb l) :
    Calls Tryd.prog 14 #[.agg (ag key), .int .u8 (f : Int), vb] w fun r w' => ∃ u, r = .returned (.tuple #[.agg (dgv (Gf.dgQ key f l) (Gf.dgS key f l) (Gf.dgO key f l) u), .int .i64 (Gf.dgE key f l)]) ∧ In5 w' u (Gf.dgL key f l) ∧ Below w.heap.size w w' := by
  by_cases h : (f = 1 ∨ f = 2) ∧ 28 ≤ l.length
  · obtain ⟨a, c, rfl, hc, hr⟩ := hb
    rcases hr with rfl | ⟨b, o, rfl, hbw, hr⟩
    · simp at h
    · exact refDgram_late key hkey f l hl b o c w hbw hr hc h.1 h.2
  · refine (refDgram_early key f vb l hl w hb h).mono ?_
    rintro r w' ⟨rfl, hB⟩
    have hE : Gf.dgE key f l ≠ 0 := fun h0 => by
      obtain ⟨q1, q2, _⟩ := Gf.dgE_ok h0
      exact h ⟨q1, q2⟩
    have e1 : Gf.dgQ key f l = 0 := if_neg hE
    have e2 : Gf.dgS key f l = 0 := if_neg hE
    have e3 : Gf.dgO key f l = 0 := if_neg hE
    have e4 : Gf.dgL key f l = [] := if_neg hE
    rw [e1, e2, e3, e4]
    exact ⟨_, rfl, .inl ⟨rfl, rfl⟩, hB⟩
end Go.Proofs.YthcokaffbgbanaaDoor
