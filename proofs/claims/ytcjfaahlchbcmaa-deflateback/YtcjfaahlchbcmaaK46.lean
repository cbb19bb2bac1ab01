/- The walk of Deflate. -/
import Derived.Test.YtcjfaahlchbcmaaK45
import Derived.Test.YtcjfaahlchbcmaaK43
import Derived.Test.YtcjfaahlchbcmaaK16
import Derived.Test.YtcjfaahlchbcmaaK05
import Derived.Laws.OwnMore
import Derived.ProofKit
import Derived.OpenShut
import Derived.HandedShaped
import Derived.ChangeSlices
import Derived.ChangeArms
import Derived.ChangeOld
import Derived.Deep.SlicePairs
import Derived.Carry
import Derived.Test.YtcjfaahlchbcmaaK44
namespace Go.Proofs.Ytcjfaahlchbcmaa
open Go.RowKit Go.BigFrame
set_option linter.unusedVariables false
set_option linter.unusedSimpArgs false
theorem ownB_down {N M : Nat} {w : World} {v : Value} {d : List UInt8} (h : OwnB N w v d) (hm : M ≤ N) : OwnB M w v d := by
  rcases h with ⟨h1, h2 | ⟨g, cap, cur, e1, e2, e3⟩⟩
  · exact ⟨h1, .inl h2⟩
  · exact ⟨h1, .inr ⟨g, cap, cur, e1, Nat.le_trans hm e2, e3⟩⟩
def Way3 (u : Value) : Prop := ∃ (a0 a1 a2 : Option Addr) (n0 m0 n1 m1 n2 m2 : Nat), u = .agg #[.slice a0 n0 m0, .slice a1 n1 m1, .slice a2 n2 m2]
structure WayK (w : World) (T : List Tok) (s : Int) (D : List (Nat × Int)) (P : World → Value → Prop) : Prop where
  three : ∀ w1 u, P w1 u → Way3 u
  keep : ∀ w1 w2 u, P w1 u → Below w1.heap.size w1 w2 → P w2 u
  size : ∀ w1 u v, P w1 u → OwnT w.heap.size w1 v T → Calls Try.prog 32 #[u, v] w1 fun e w' => e = .returned (.int .i64 s) ∧ Below w1.heap.size w1 w'
  write : ∀ w1 u v, P w1 u → OwnT w.heap.size w1 v T → Calls Try.prog 23 #[u, v] w1 fun e w' => ∃ x, e = .returned (.tuple #[x, .int .i64 (Gf.cntE D)]) ∧ Wrote w1 w' D x ∧ Below w1.heap.size w1 w'
def DefR (N : Nat) (w' : World) (S : List UInt8) (s : Int) (D : List (Nat × Int)) (u : Value) (E : Int) : Prop :=
  (min (S.length : Int) 65536 < s ∧ E = 0 ∧ OwnB N w' u S) ∨ (s ≤ min (S.length : Int) 65536 ∧ E = Gf.cntE D ∧ ∃ w1, N ≤ w1.heap.size ∧ Wrote w1 w' D u)
set_option maxRecDepth 100000 in
set_option maxHeartbeats 8000000 in
theorem deflate_walk (w : World) (vb : Value) (T : List Tok) (S : List UInt8) (sF sO : Int) (DF DO : List (Nat × Int)) (PF PO : World → Value → Prop) (hSl : S.length ≤ 100000)
    (hM : Calls Try.prog 14 #[vb] w fun e w' => ∃ v, e = .returned (.tuple #[v, .int .i64 0]) ∧ OwnT w.heap.size w' v T ∧ Below w.heap.size w w')
    (hS : ∀ w1, Below w.heap.size w w1 → Calls Try.prog 9 #[vb] w1 fun e w' => ∃ u, e = .returned (.tuple #[u, .int .i64 0]) ∧ OwnB w1.heap.size w' u S ∧ Below w1.heap.size w1 w')
    (hF : ∀ w1, Calls Try.prog 21 #[] w1 fun e w' => ∃ u, e = .returned u ∧ PF w' u ∧ Below w1.heap.size w1 w')
    (hO : ∀ w1 v, OwnT w.heap.size w1 v T → Calls Try.prog 22 #[v] w1 fun e w' => ∃ u, e = .returned u ∧ PO w' u ∧ Below w1.heap.size w1 w')
    (kF : WayK w T sF DF PF) (kO : WayK w T sO DO PO) :
    Calls Try.prog 13 #[vb] w fun e w' => ∃ u E, e = .returned (.tuple #[u, .int .i64 E]) ∧ DefR w.heap.size w' S (if sO < sF then sO else sF) (if sO < sF then DO else DF) u E ∧ Below w.heap.size w w' := by
  obtain ⟨s, hs⟩ : ∃ s, (if sO < sF then sO else sF) = s := ⟨_, rfl⟩
  obtain ⟨D, hD⟩ : ∃ D, (if sO < sF then DO else DF) = D := ⟨_, rfl⟩
  rw [hs, hD]
  have HSS := Box'.mk hs
  have HDD := Box'.mk hD
  clear hs hD
  have HM := Box'.mk hM
  have HS := Box'.mk hS
  have HF := Box'.mk hF
  have HO := Box'.mk hO
  have HSL := Box'.mk hSl
  clear hM hS hF hO hSl
  go_enter Try.func13, Try.ntmps13
  go_wp2_with fail
  refine HM.out.mono ?_
  rintro e w1 ⟨v, rfl, o1, b1⟩
  obtain ⟨ta, tc, rfl⟩ := o1.slice
  have O1 := Box'.mk o1
  have B1 := Box'.mk b1
  clear o1 b1 HM
  generalize T.length = tl at *
  go_wp2_with fail
  refine (HS.out w1 B1.out).mono ?_
  rintro e w2 ⟨u2, rfl, o2, b2⟩
  obtain ⟨sa, sc, rfl⟩ := o2.slice
  have B2 : Box' (Below w.heap.size w w2) := ⟨B1.out.trans (b2.mono B1.out.size)⟩
  have S2 : Box' (OwnB w.heap.size w2 (.slice sa S.length sc) S) := ⟨ownB_down o2 B1.out.size⟩
  have T2 := Box'.mk (O1.out.below b2)
  clear HS O1 B1 o2 b2
  have hSl := HSL.out
  generalize hsl : S.length = sl at *
  have HE := Box'.mk hsl
  clear hsl
  go_wp2_with fail
  refine (HF.out w2).mono ?_
  rintro e w3 ⟨uF, rfl, p3, b3⟩
  have B3 : Box' (Below w.heap.size w w3) := ⟨B2.out.trans (b3.mono B2.out.size)⟩
  have S3 := Box'.mk (S2.out.below b3)
  have T3 := Box'.mk (T2.out.below b3)
  obtain ⟨a0, a1, a2, n0, m0, n1, m1, n2, m2, rfl⟩ := kF.three w3 uF p3
  have P3 := Box'.mk p3
  clear HF B2 S2 T2 b3 p3
  go_wp2_with fail
  refine (HO.out w3 _ T3.out).mono ?_
  rintro e w4 ⟨uO, rfl, p4, b4⟩
  have B4 : Box' (Below w.heap.size w w4) := ⟨B3.out.trans (b4.mono B3.out.size)⟩
  have S4 := Box'.mk (S3.out.below b4)
  have T4 := Box'.mk (T3.out.below b4)
  have F4 := Box'.mk (kF.keep _ _ _ P3.out b4)
  obtain ⟨b0, b1, b2, k0, l0, k1, l1, k2, l2, rfl⟩ := kO.three w4 uO p4
  have P4 := Box'.mk p4
  clear HO B3 S3 T3 b4 p4 P3
  go_wp2_with fail
  obtain ⟨w5, hw5⟩ : ∃ w5, w4.alloc (.cells #[.slice b0 k0 l0, .slice b1 k1 l1, .slice b2 k2 l2] 50) = w5 := ⟨_, rfl⟩
  rw [hw5]
  have b5 : Below w4.heap.size w4 w5 := by rw [← hw5]; exact (Below.refl _ _).alloc (Nat.le_refl _) _
  have r5 : Row w5 w4.heap.size 50 #[.slice b0 k0 l0, .slice b1 k1 l1, .slice b2 k2 l2] := by rw [← hw5]; exact Row.new _ _ _
  have B5 : Box' (Below w.heap.size w w5) := ⟨B4.out.trans (b5.mono B4.out.size)⟩
  have S5 := Box'.mk (S4.out.below b5)
  have T5 := Box'.mk (T4.out.below b5)
  have F5 := Box'.mk (kF.keep _ _ _ F4.out b5)
  have O5 := Box'.mk (kO.keep _ _ _ P4.out b5)
  have SH := Box'.mk (shortest_is w5 (.slice ta tl tc) a0 a1 a2 b0 b1 b2 n0 m0 n1 m1 n2 m2 k0 l0 k1 l1 k2 l2 w4.heap.size sF sO (fun w' hb' => kF.size _ _ _ (kF.keep _ _ _ F5.out hb') (T5.out.below hb')) (fun w' hb' => kO.size _ _ _ (kO.keep _ _ _ O5.out hb') (T5.out.below hb')) (r5.cell 0) (r5.cell 1) (r5.cell 2) r5.lt)
  clear b5 r5 hw5 B4 S4 T4 F4 P4
  refine SH.out.mono ?_
  rintro e w6 ⟨rfl, b6⟩
  clear SH
  have B6 : Box' (Below w.heap.size w w6) := ⟨B5.out.trans (b6.mono B5.out.size)⟩
  have S6 := Box'.mk (S5.out.below b6)
  have T6 := Box'.mk (T5.out.below b6)
  have key : ∃ (xa ya za : Option Addr) (xn xm yn ym zn zm : Nat) (PB : World → Value → Prop), (if sO < sF then Value.agg #[.slice b0 k0 l0, .slice b1 k1 l1, .slice b2 k2 l2] else .agg #[.slice a0 n0 m0, .slice a1 n1 m1, .slice a2 n2 m2]) = .agg #[.slice xa xn xm, .slice ya yn ym, .slice za zn zm] ∧ PB w6 (.agg #[.slice xa xn xm, .slice ya yn ym, .slice za zn zm]) ∧ WayK w T (if sO < sF then sO else sF) (if sO < sF then DO else DF) PB := by
    by_cases hlt : sO < sF
    · simp only [if_pos hlt]
      exact ⟨b0, b1, b2, k0, l0, k1, l1, k2, l2, PO, rfl, kO.keep _ _ _ O5.out b6, kO⟩
    · simp only [if_neg hlt]
      exact ⟨a0, a1, a2, n0, m0, n1, m1, n2, m2, PF, rfl, kF.keep _ _ _ F5.out b6, kF⟩
  obtain ⟨xa, ya, za, xn, xm, yn, ym, zn, zm, PB, e0, pB, kB⟩ := key
  rw [HSS.out, HDD.out] at kB
  rw [e0, HSS.out]
  clear HSS HDD
  have PB6 := Box'.mk pB
  have KB := Box'.mk kB
  clear B5 S5 T5 F5 O5 b6 e0 pB kB kF kO
  obtain ⟨w7, hw7⟩ : ∃ w7, w6.alloc (.cells #[.slice xa xn xm, .slice ya yn ym, .slice za zn zm] 50) = w7 := ⟨_, rfl⟩
  have b7 : Below w6.heap.size w6 w7 := by rw [← hw7]; exact (Below.refl _ _).alloc (Nat.le_refl _) _
  have B7 : Box' (Below w.heap.size w w7) := ⟨B6.out.trans (b7.mono B6.out.size)⟩
  have S7 := Box'.mk (S6.out.below b7)
  have T7 := Box'.mk (T6.out.below b7)
  have P7 := Box'.mk (KB.out.keep _ _ _ PB6.out b7)
  have HW7 := Box'.mk hw7
  clear B6 S6 T6 PB6 b7 hw7
  by_cases hm : (sl : Int) ≤ 65536
  · by_cases hlt : (sl : Int) < s
    · have RES : Box' (DefR w.heap.size w7 S s D (.slice sa sl sc) 0) := ⟨.inl ⟨by rw [HE.out]; omega, rfl, S7.out⟩⟩
      clear S7 T7 P7 KB HE
      go_wp2_with fail
      rw [HW7.out]
      go_ret2
      exact ⟨_, _, rfl, RES.out, B7.out⟩
    · have WR := Box'.mk (KB.out.write w7 _ _ P7.out T7.out)
      have HLT : Box' (s ≤ min (S.length : Int) 65536) := ⟨by rw [HE.out]; omega⟩
      clear S7 T7 P7 KB HE
      go_wp2_with fail
      rw [HW7.out]
      refine WR.out.mono ?_
      rintro e w8 ⟨x, rfl, o8, b8⟩
      have RES : Box' (DefR w.heap.size w8 S s D x (Gf.cntE D)) := ⟨.inr ⟨HLT.out, rfl, w7, B7.out.size, o8⟩⟩
      have B8 : Box' (Below w.heap.size w w8) := ⟨B7.out.trans (b8.mono B7.out.size)⟩
      clear WR o8 b8 B7 HLT HW7
      generalize Gf.cntE D = ce at *
      go_wp2_with fail
      go_ret2
      exact ⟨_, _, rfl, RES.out, B8.out⟩
  · by_cases hlt : (65536 : Int) < s
    · have RES : Box' (DefR w.heap.size w7 S s D (.slice sa sl sc) 0) := ⟨.inl ⟨by rw [HE.out]; omega, rfl, S7.out⟩⟩
      clear S7 T7 P7 KB HE
      go_wp2_with fail
      rw [HW7.out]
      go_ret2
      exact ⟨_, _, rfl, RES.out, B7.out⟩
    · have WR := Box'.mk (KB.out.write w7 _ _ P7.out T7.out)
      have HLT : Box' (s ≤ min (S.length : Int) 65536) := ⟨by rw [HE.out]; omega⟩
      clear S7 T7 P7 KB HE
      go_wp2_with fail
      rw [HW7.out]
      refine WR.out.mono ?_
      rintro e w8 ⟨x, rfl, o8, b8⟩
      have RES : Box' (DefR w.heap.size w8 S s D x (Gf.cntE D)) := ⟨.inr ⟨HLT.out, rfl, w7, B7.out.size, o8⟩⟩
      have B8 : Box' (Below w.heap.size w w8) := ⟨B7.out.trans (b8.mono B7.out.size)⟩
      clear WR o8 b8 B7 HLT HW7
      generalize Gf.cntE D = ce at *
      go_wp2_with fail
      go_ret2
      exact ⟨_, _, rfl, RES.out, B8.out⟩
open Go.ChangeShapes Go.WideShapes Go.ChangeAt Go.RowKit Go.BigFrame
theorem own : ownKnob Try.prog.godebug = none := by kernel_rfl
theorem Try.cells5 : Try.prog.cellsOf 5 = 1 := by kernel_rfl
theorem Try.bytes5 : Try.prog.bytesOf 5 = 1 := by kernel_rfl
set_option maxRecDepth 100000 in
theorem open_bytes {H : Type} {enc : TypeId × Value → H} {W : World} {base : Nat} {v : Value} {fuel : Nat} {x : DataW H × List MemPlace} (hok : Cell.okWide Try.prog W .any base 23 v) (h : DataW.trod enc Try.prog W 0 (fun _ => true) true fuel 23 [v] = some x) :
    ∃ l, InB W.heap.size W v l ∧ l.length ≤ maxLen := by
  rcases open_ints Try.underlying23 Try.underlying5 Try.cells5 h with ⟨e, _⟩ | ⟨a, len, cap, zs, e, _, hlc, hcm, hzl, _, hcell, hwf⟩
  · simp only [List.cons.injEq, and_true] at e
    subst e
    exact ⟨[], .inl ⟨rfl, rfl⟩, Nat.zero_le _⟩
  · simp only [List.cons.injEq, and_true] at e
    subst e
    simp only [if_true] at hzl
    have hsp : a.spot = none := by
      unfold Cell.okWide at hok
      rw [Try.underlying23] at hok
      simp only [Cell.ok, Try.underlying23] at hok
      exact hok.2.2.2.1
    obtain ⟨b, o, sp⟩ := a
    simp only at hsp
    subst hsp
    have hlen : ((zs.take len).map fun z => UInt8.ofNat z.toNat).length = len := by rw [List.length_map, List.length_take]; omega
    have hr : W.rangeAt b o (((zs.take len).map fun z => UInt8.ofNat z.toNat).map B) := by
      intro j u hu
      have hj : j < len := by
        have := (List.getElem?_eq_some_iff.1 hu).1
        rw [List.length_map, hlen] at this
        exact this
      have hc := hcell j (by omega)
      rw [Addr.add_mid] at hc
      rw [hc]
      have hzj : j < zs.length := by omega
      have hz : zs.getD j 0 = zs[j] := by simp [hzj]
      have hw := hwf zs[j] (List.getElem_mem hzj)
      have hb : 0 ≤ zs[j] ∧ zs[j] ≤ 255 := by
        simp only [Lit.wf] at hw
        simpa [IntKind.min, IntKind.max, IntKind.bits, IntKind.signed] using hw
      simp only [List.getElem?_map, List.getElem?_take_of_lt hj, List.getElem?_eq_getElem hzj, Option.map_some, Option.some.injEq] at hu
      rw [← hu, hz]
      unfold B
      rw [UInt8.toNat_ofNat_of_lt' (by show zs[j].toNat < 256; omega)]
      congr 2
      omega
    refine ⟨(zs.take len).map fun z => UInt8.ofNat z.toNat, .inr ⟨b, o, cap, by rw [hlen], by rw [hlen]; exact hlc, ?_, hr⟩, by rw [hlen]; omega⟩
    by_cases h0 : len = 0
    · left
      apply List.eq_nil_of_length_eq_zero
      rw [hlen]; exact h0
    · right
      exact range_lt hr (by rw [hlen]; omega)
theorem weight_bytes {H : Type} {enc : TypeId × Value → H} {W : World} {fuel : Nat} {a : Option Addr} {n c R : Nat} {x : DataW H × List MemPlace} (h : DataW.trod enc Try.prog W 0 (fun _ => true) true fuel 23 [.slice a n c] = some x)
    (hw : ∀ y ∈ DataW.weights Try.prog 23 x.1, y ≤ R) : n ≤ R := by
  rcases open_ints Try.underlying23 Try.underlying5 Try.cells5 h with ⟨e, _⟩ | ⟨a', len, cap, zs, e, _, hlc, hcm, hzl, hx, _⟩
  · simp only [List.cons.injEq, and_true, Value.slice.injEq] at e
    omega
  · simp only [List.cons.injEq, and_true, Value.slice.injEq] at e
    simp only [if_true] at hzl
    subst hx
    have := hw _ (by simp only [DataW.weights, Try.underlying23]; exact List.mem_cons_self)
    rw [Try.bytes5] at this
    simp [lits] at this
    omega
theorem InB.bts {N : Nat} {w : World} {v : Value} {l : List UInt8} (h : InB N w v l) : Bts (· < N) w v l := by
  rcases h with ⟨rfl, rfl⟩ | ⟨b, o, c, rfl, hc, hb, hr⟩
  · exact ⟨_, _, rfl, Nat.le_refl _, .inl rfl⟩
  · refine ⟨_, _, rfl, hc, ?_⟩
    rcases hb with hb | hb
    · exact .inl hb
    · exact .inr ⟨b, o, rfl, hb, hr⟩
theorem OwnB.inB {N : Nat} {w : World} {v : Value} {l : List UInt8} (h : OwnB N w v l) : InB w.heap.size w v l := by
  have hb := h.bts
  rcases h.2 with ⟨e1, e2⟩ | ⟨g, cap, cur, e1, e2⟩
  · exact .inl ⟨e1, List.eq_nil_of_length_eq_zero e2⟩
  · obtain ⟨a, c, h1, h2, h3⟩ := hb
    rw [e1] at h1
    injection h1 with x1 x2 x3
    subst x3
    rcases h3 with rfl | ⟨b, o, y1, y2, y3⟩
    · exact .inr ⟨g, 0, cap, e1, h2, .inl rfl, fun j u hu => by simp at hu⟩
    · subst x1
      injection y1 with y1
      injection y1 with y1 y4
      subst y1 y4
      exact .inr ⟨g, 0, cap, e1, h2, .inr y2, y3⟩
theorem sto_len (l : List UInt8) : (stoF l).length ≤ 100000 := by
  unfold stoF
  split
  · simp
  · split
    · simp [hdr]; omega
    · simp [hdr]; omega
theorem WayOk.up {N M : Nat} {w : World} {v : Value} {hd : List Bt} {l1 l2 : List Int} (h : WayOk N w v hd l1 l2) (hm : N ≤ M) : WayOk M w v hd l1 l2 := by
  obtain ⟨vh, g1, g2, e, ⟨a, c, e1, e2, e3⟩, h1, h2, r1, r2⟩ := h
  refine ⟨vh, g1, g2, e, ⟨a, c, e1, e2, fun k hk => ?_⟩, by omega, by omega, r1, r2⟩
  obtain ⟨b, o, x1, x2, x3⟩ := e3 k hk
  exact ⟨b, o, x1, by omega, x3⟩
theorem may_bd {x : Bt} (h : Gf.may x = true) : 0 ≤ x.2 ∧ x.2 ≤ 100 := by
  unfold Gf.may at h
  rw [decide_eq_true_eq] at h
  omega
theorem wayK (w : World) (hd : List Bt) (l1 l2 : List Int) (T : List Tok) (hl1 : 257 ≤ l1.length ∧ l1.length ≤ 288) (hl2 : l2.length ≤ 30) (hin : ∀ t ∈ T, t.2.1 ≠ 0 → (lenS t.2.1.toNat).1 < l1.length ∧ (nthF 2 (t.2.2.toNat - 1)).1 < l2.length) (hhd : hd.length ≤ 100000) (hT : T.length ≤ 65536) (hok : ∀ t ∈ T, TokOk t) (hO : ∀ x ∈ telF hd l1 l2 T, Gf.may x = true) :
    WayK w T ((bsz (telF hd l1 l2 T) + 7) / 8) (telF hd l1 l2 T) (fun w' u => WayOk w'.heap.size w' u hd l1 l2) where
  three w1 u h := by
    obtain ⟨vh, g1, g2, rfl, ⟨a, c, rfl, _⟩, _⟩ := h
    exact ⟨_, _, _, _, _, _, _, _, _, rfl⟩
  keep w1 w2 u h hb := (h.keep (Nat.le_refl _) hb).up hb.size
  size w1 u v h o := size_is w1.heap.size w1 u v hd l1 l2 T hl1 hl2 hin hhd hT hok (Nat.le_refl _) h o.toks fun x hx => may_bd (hO x hx)
  write w1 u v h o := write_is w1.heap.size w1 u v hd l1 l2 T hl1 hl2 hin hhd hT hok (Nat.le_refl _) h o.toks hO
theorem tell_len (K : List Wd) : ∀ W : List Wd, ((W.map (tellW K)).flatten).length = 2 * W.length
  | [] => rfl
  | t :: r => by
    rw [List.map_cons, List.flatten_cons, List.length_append, tell_len K r]
    simp [tellW]; omega
theorem hdO_len {T : List Tok} (hT : T.length ≤ 65536) : (hdO T).length ≤ 100000 := by
  have OL := ownLens hT
  have hr := rowO_bd OL
  have hw := wdG_bd (rowO T) hr (rowO T).length 0
  have hln := rowO_len OL
  have h1 : (wdF (rowO T)).length ≤ 40000 := by have := hw.1; have := OL.sn; have := OL.dn; show (wdG (rowO T) (rowO T).length 0).length ≤ _; omega
  have ht := tn_bd (wdF (rowO T))
  unfold hdO splF
  simp only [List.length_append, List.length_cons, List.length_nil, List.length_map, List.length_take]
  rw [tell_len]
  omega
theorem mat_ok (l : List UInt8) : ∀ t ∈ matF l, TokOk t := fun t ht => matG_ok l _ _ t ht
theorem mat_len (l : List UInt8) : (matF l).length ≤ l.length := matG_len l _ _
def dF (l : List UInt8) : List Bt := telF [(3, 3)] fixS fixD (matF l)
def dO (l : List UInt8) : List Bt := telF (hdO (matF l)) (oS (matF l)) (oD (matF l)) (matF l)
def zF (l : List UInt8) : Int := (bsz (dF l) + 7) / 8
def zO (l : List UInt8) : Int := (bsz (dO l) + 7) / 8
theorem deflate_is (w : World) (vb : Value) (l : List UInt8) (hl : l.length ≤ 65536) (hb : InB w.heap.size w vb l) :
    Calls Try.prog 13 #[vb] w fun e w' => ∃ u E, e = .returned (.tuple #[u, .int .i64 E]) ∧ DefR w.heap.size w' (stoF l) (if zO l < zF l then zO l else zF l) (if zO l < zF l then dO l else dF l) u E ∧ Below w.heap.size w w' := by
  have hT : (matF l).length ≤ 65536 := Nat.le_trans (mat_len l) hl
  have OL := ownLens hT
  have hs : stoE l = 0 := if_neg (by omega)
  refine deflate_walk w vb (matF l) (stoF l) (zF l) (zO l) (dF l) (dO l) (fun w' u => WayOk w'.heap.size w' u [(3, 3)] fixS fixD) (fun w' u => WayOk w'.heap.size w' u (hdO (matF l)) (oS (matF l)) (oD (matF l))) (sto_len l) (match_any w vb l hl hb.bts) ?_ (fun w1 => fixedWay_is w1) (fun w1 v o => ownWay_is w1 v (matF l) hT (mat_ok l) o.toks) ?_ ?_
  · intro w1 b1
    have := stored_any vb l (by omega) w1 ((hb.below b1 (Nat.le_refl _)).up b1.size)
    rwa [hs] at this
  · exact wayK w _ _ _ _ (by rw [fxS_len]; decide) (by rw [fxD_len]; decide) (fix_in (mat_ok l)) (by simp) hT (mat_ok l) (fix_may (mat_ok l))
  · exact wayK w _ _ _ _ (by have := OL.sol; have := OL.sn; omega) (by have := OL.dol; have := OL.dn; omega) (own_in hT (mat_ok l)) (hdO_len hT) hT (mat_ok l) (own_may hT (mat_ok l))
set_option maxRecDepth 100000 in
set_option maxHeartbeats 8000000 in
theorem deflate_long (w : World) (vb : Value) (l : List UInt8) (hl : 65536 < l.length) (hm : l.length ≤ 140737488355328) (hb : InB w.heap.size w vb l) :
    Calls Try.prog 13 #[vb] w fun e w' => e = .returned (.tuple #[.slice none 0 0, .int .i64 4]) ∧ w' = w := by
  obtain ⟨a, c, rfl, hc⟩ := hb.slice
  have HM := Box'.mk (match_long w a l.length c hl hm)
  clear hb hl hm hc
  generalize l.length = n at *
  go_enter Try.func13, Try.ntmps13
  go_wp2_with fail
  refine HM.out.mono ?_
  rintro e w1 ⟨rfl, rfl⟩
  clear HM
  go_wp2_with fail
  go_ret2
  exact ⟨rfl, rfl⟩
theorem row_own {N : Nat} {w : World} {g n : Nat} {d : List UInt8} (h : Row w g 5 (ag d)) (hN : N ≤ g) (hn : d.length = n) (hm : n ≤ 100000) : OwnB N w (.slice (some ⟨g, 0, none⟩) n n) d := by
  subst hn
  refine ⟨by simp, .inr ⟨g, d.length, ag d, rfl, hN, h, Nat.le_refl _, Nat.le_trans hm (by decide), by simp [ag], ?_⟩⟩
  rw [Nat.mul_one, ag]
  simp only [List.toList_toArray]
  rw [List.take_of_length_le (by simp)]
theorem wid_le {D : List (Nat × Int)} (h : Gf.cntE D = 0) : Gf.wid D ≤ 65536 := by
  unfold Gf.cntE at h
  unfold Gf.wid
  split at h
  · split at h
    · omega
    · simp at h
  · simp at h
theorem DefR.own {N : Nat} {w' : World} {S : List UInt8} {s : Int} {D : List (Nat × Int)} {u : Value} {E : Int} (h : DefR N w' S s D u E) (hS : S.length ≤ 100000) : ∃ d, OwnB N w' u d ∧ d.length ≤ 100000 := by
  rcases h with ⟨_, _, h⟩ | ⟨_, _, w1, h1, ⟨h2, g, rfl, hg, hr⟩ | ⟨_, rfl⟩⟩
  · exact ⟨S, h, hS⟩
  · have hw := wid_le h2
    exact ⟨_, row_own hr (Nat.le_trans h1 hg) (Gf.byt_len _ _) (by omega), by rw [Gf.byt_len]; omega⟩
  · exact ⟨[], OwnB.nil _ _, by simp⟩
end Go.Proofs.Ytcjfaahlchbcmaa
