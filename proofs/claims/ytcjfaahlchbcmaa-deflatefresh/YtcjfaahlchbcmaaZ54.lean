/- The walk of DeflateTells; what came in. -/
import Derived.Test.YtcjfaahlchbcmaaZ05
import Derived.ProofKit
import Derived.OpenShut
import Derived.HandedShaped
import Derived.ChangeSlices
import Derived.ChangeArms
import Derived.ChangeOld
import Derived.Deep.SlicePairs
import Derived.Carry
import Derived.Test.YtcjfaahlchbcmaaZ53
namespace Go.Proofs.Ytcjfaahlchbcmaa
open Go.ChangeShapes Go.WideShapes Go.ChangeAt Go.RowKit Go.BigFrame

set_option maxRecDepth 100000 in
set_option maxHeartbeats 2000000 in
theorem tells_any (vl vb : Value) (l : List Tok) (b : List UInt8) (hl : l.length ≤ 140737488355328) (hb : b.length ≤ 140737488355328) (w : World) (ht : Toks w.heap.size w vl l) (hi : InB w.heap.size w vb b) :
    Calls Try.prog 3 #[vl, vb] w fun e w' => e = .returned (.bool true) ∧ Below w.heap.size w w' := by
  have e1 := expand_any vl l hl w ht
  have H2 : Box' (∀ w1, Below w.heap.size w w1 → Calls Try.prog 8 #[vl] w1 fun e w' => ∃ u, e = .returned (.tuple #[u, .int .i64 (expF l []).2]) ∧ OwnB w1.heap.size w' u (expF l []).1 ∧ Below w1.heap.size w1 w') := ⟨fun w1 hb => refExpand_any vl l hl w1 (by
    obtain ⟨a, c, h1, h2, h4⟩ := ht.below hb (Nat.le_refl _)
    refine ⟨a, c, h1, h2, ?_⟩
    rcases h4 with h4 | ⟨b, o, h5, h6, h7⟩
    · exact .inl h4
    · exact .inr ⟨b, o, h5, Nat.lt_of_lt_of_le h6 hb.size, h7⟩)⟩
  have H3 : Box' (∀ w1, Below w.heap.size w w1 → Calls Try.prog 9 #[vb] w1 fun e w' => ∃ u, e = .returned (.tuple #[u, .int .i64 (stoE b)]) ∧ OwnB w1.heap.size w' u (stoF b) ∧ Below w1.heap.size w1 w') := ⟨fun w1 hbl => stored_any vb b hb w1 ((hi.below hbl (Nat.le_refl _)).up hbl.size)⟩
  have H4 : Box' (∀ w1, Below w.heap.size w w1 → Calls Try.prog 10 #[vb] w1 fun e w' => ∃ u, e = .returned (.tuple #[u, .int .i64 (stoE b)]) ∧ OwnB w1.heap.size w' u (stoF b) ∧ Below w1.heap.size w1 w') := ⟨fun w1 hbl => refStored_any vb b hb w1 ((hi.below hbl (Nat.le_refl _)).up hbl.size)⟩
  clear ht hi hl hb
  generalize expF l [] = R at *
  obtain ⟨X, E⟩ := R
  simp only at e1 H2
  generalize stoE b = SE at *
  generalize stoF b = SB at *
  go_enter Try.func3, Try.ntmps3
  go_wp2_with fail
  refine e1.mono ?_
  rintro e w1 ⟨u1, rfl, o1, b1⟩
  have O1 := Box'.mk o1
  have B1 := Box'.mk b1
  have e2 := H2.out w1 b1
  clear e1 o1 b1 H2
  go_wp2_with fail
  refine e2.mono ?_
  rintro e w2 ⟨u2, rfl, o2, b2⟩
  have B2 := Box'.mk (B1.out.trans (b2.mono B1.out.size))
  have O12 := Box'.mk (O1.out.below b2)
  have O2 := Box'.mk o2
  have e3 := H3.out w2 B2.out
  clear e2 o2 b2 B1 O1 H3
  go_wp2_with fail
  refine e3.mono ?_
  rintro e w3 ⟨u3, rfl, o3, b3⟩
  have B3 := Box'.mk (B2.out.trans (b3.mono B2.out.size))
  have O13 := Box'.mk (O12.out.below b3)
  have O23 := Box'.mk (O2.out.below b3)
  have O3 := Box'.mk o3
  have e4 := H4.out w3 B3.out
  clear e3 o3 b3 B2 O12 O2 H4
  go_wp2_with fail
  refine e4.mono ?_
  rintro e w4 ⟨u4, rfl, o4, b4⟩
  have B4 := Box'.mk (B3.out.trans (b4.mono B3.out.size))
  have s1 := refSame_any _ _ _ _ _ _ _ (O13.out.below b4).bts (O23.out.below b4).bts
  have s2 := refSame_any _ _ _ _ _ _ _ (O3.out.below b4).bts o4.bts
  rw [decide_eq_true rfl] at s1 s2
  have S2 := Box'.mk s2
  clear e4 o4 b4 B3 O13 O23 O3 s2
  go_wp2_with fail
  refine s1.mono ?_
  rintro e w5 ⟨rfl, rfl⟩
  have s2 := S2.out
  clear s1 S2
  go_wp2_with fail
  refine s2.mono ?_
  rintro e w6 ⟨rfl, rfl⟩
  have ha := anchored_any w6
  clear s2
  go_wp2_with fail
  refine ha.mono ?_
  rintro e w7 ⟨rfl, b7⟩
  have B7 := Box'.mk (B4.out.trans (b7.mono B4.out.size))
  clear ha b7 B4
  go_wp2_with fail
  go_ret
  exact ⟨rfl, B7.out⟩

theorem own : ownKnob Try.prog.godebug = none := by kernel_rfl
theorem laidOut : laidOutB Try.prog = true := by kernel_rfl
theorem Try.cells5 : Try.prog.cellsOf 5 = 1 := by kernel_rfl
theorem Try.cells3 : Try.prog.cellsOf 3 = 1 := by kernel_rfl
theorem Try.cells44 : Try.prog.cellsOf 44 = 3 := by kernel_rfl
theorem Try.bytes5 : Try.prog.bytesOf 5 = 1 := by kernel_rfl
theorem Try.bytes44 : Try.prog.bytesOf 44 = 24 := by kernel_rfl
set_option maxRecDepth 100000 in
/-- A slice of bytes that came in. -/
theorem open_bytes {H : Type} {enc : TypeId × Value → H} {W : World} {base : Nat} {v : Value} {fuel : Nat} {x : DataW H × List MemPlace} (hok : Cell.okWide Try.prog W .any base 23 v) (h : DataW.trod enc Try.prog W 0 (fun _ => true) true fuel 23 [v] = some x) :
    ∃ l, InB W.heap.size W v l ∧ l.length ≤ maxLen := by
  rcases open_ints Try.underlying23 Try.underlying5 Try.cells5 h with ⟨e, _⟩ | ⟨a, len, cap, zs, e, _, hlc, hcm, hzl, _, hcell, hwf⟩
  · simp only [List.cons.injEq, and_true] at e
    subst e
    exact ⟨[], .inl ⟨rfl, rfl⟩, Nat.zero_le _⟩
  · simp only [List.cons.injEq, and_true] at e
    subst e
    simp only [if_true] at hzl
    have hsp : a.spot = none := by
      unfold Cell.okWide at hok
      rw [Try.underlying23] at hok
      simp only [Cell.ok, Try.underlying23] at hok
      exact hok.2.2.2.1
    obtain ⟨b, o, sp⟩ := a
    simp only at hsp
    subst hsp
    have hlen : ((zs.take len).map fun z => UInt8.ofNat z.toNat).length = len := by rw [List.length_map, List.length_take]; omega
    have hr : W.rangeAt b o (((zs.take len).map fun z => UInt8.ofNat z.toNat).map B) := by
      intro j u hu
      have hj : j < len := by
        have := (List.getElem?_eq_some_iff.1 hu).1
        rw [List.length_map, hlen] at this
        exact this
      have hc := hcell j (by omega)
      rw [Addr.add_mid] at hc
      rw [hc]
      have hzj : j < zs.length := by omega
      have hz : zs.getD j 0 = zs[j] := by simp [hzj]
      have hw := hwf zs[j] (List.getElem_mem hzj)
      have hb : 0 ≤ zs[j] ∧ zs[j] ≤ 255 := by
        simp only [Lit.wf] at hw
        simpa [IntKind.min, IntKind.max, IntKind.bits, IntKind.signed] using hw
      simp only [List.getElem?_map, List.getElem?_take_of_lt hj, List.getElem?_eq_getElem hzj, Option.map_some, Option.some.injEq] at hu
      rw [← hu, hz]
      unfold B
      rw [UInt8.toNat_ofNat_of_lt' (by show zs[j].toNat < 256; omega)]
      congr 2
      omega
    refine ⟨(zs.take len).map fun z => UInt8.ofNat z.toNat, .inr ⟨b, o, cap, by rw [hlen], by rw [hlen]; exact hlc, ?_, hr⟩, by rw [hlen]; omega⟩
    by_cases h0 : len = 0
    · left
      apply List.eq_nil_of_length_eq_zero
      rw [hlen]; exact h0
    · right
      exact range_lt hr (by rw [hlen]; omega)

theorem weight_bytes {H : Type} {enc : TypeId × Value → H} {W : World} {fuel : Nat} {a : Option Addr} {n c R : Nat} {x : DataW H × List MemPlace} (h : DataW.trod enc Try.prog W 0 (fun _ => true) true fuel 23 [.slice a n c] = some x)
    (hw : ∀ y ∈ DataW.weights Try.prog 23 x.1, y ≤ R) : n ≤ R := by
  rcases open_ints Try.underlying23 Try.underlying5 Try.cells5 h with ⟨e, _⟩ | ⟨a', len, cap, zs, e, _, hlc, hcm, hzl, hx, _⟩
  · simp only [List.cons.injEq, and_true, Value.slice.injEq] at e
    omega
  · simp only [List.cons.injEq, and_true, Value.slice.injEq] at e
    simp only [if_true] at hzl
    subst hx
    have := hw _ (by simp only [DataW.weights, Try.underlying23]; exact List.mem_cons_self)
    rw [Try.bytes5] at this
    simp [lits] at this
    omega

theorem wf_u8 {n : Int} (h : (Lit.int .u8 n).wf = true) : ∃ x : UInt8, n = (x.toNat : Int) := by
  simp only [Lit.wf, Bool.and_eq_true, decide_eq_true_eq] at h
  have h0 : 0 ≤ n := h.1
  have h1 : n ≤ 255 := h.2
  exact ⟨UInt8.ofNat n.toNat, by rw [UInt8.toNat_ofNat_of_lt' (by show n.toNat < 256; omega)]; omega⟩

set_option maxRecDepth 100000 in
/-- Tokens in a row that came in. -/
theorem open_toks {H : Type} {enc : TypeId × Value → H} {W : World} {base R : Nat} {v : Value} {fuel : Nat} {x : DataW H × List MemPlace} (hok : Cell.okWide Try.prog W .any base 22 v) (h : DataW.trod enc Try.prog W 0 (fun _ => true) true fuel 22 [v] = some x)
    (hw : ∀ y ∈ DataW.weights Try.prog 22 x.1, y ≤ R) : ∃ l, Toks W.heap.size W v l ∧ l.length ≤ R := by
  rcases Deep.open_slice Try.underlying22 h with ⟨e, _⟩ | ⟨a, len, cap, m, n, D, Pl, e, hb, hl, hm, hmm, hx, hc⟩
  · simp only [List.cons.injEq, and_true] at e
    subst e
    exact ⟨[], ⟨none, 0, rfl, Nat.le_refl _, .inl rfl⟩, Nat.zero_le _⟩
  · simp only [List.cons.injEq, and_true] at e
    subst e
    simp only [if_true] at hmm
    subst hmm
    have hsp : a.spot = none := by
      unfold Cell.okWide at hok
      rw [Try.underlying22] at hok
      simp only [Cell.ok, Try.underlying22] at hok
      exact hok.2.2.2.1
    obtain ⟨b, o, sp⟩ := a
    simp only at hsp
    subst hsp
    have each : ∀ i, i < len → ∃ q : Tok, W.cell? ⟨b, o + i * 3, none⟩ = some (.int .u8 (q.1.toNat : Int)) ∧ W.cell? ⟨b, o + i * 3 + 1, none⟩ = some (.int .i64 q.2.1) ∧ W.cell? ⟨b, o + i * 3 + 2, none⟩ = some (.int .i64 q.2.2) := by
      intro i hi
      obtain ⟨cs', h1, h2⟩ := hc i (by omega)
      rw [Try.cells44] at h1
      obtain ⟨_, hlen, hcell⟩ := World.cells?_some h1
      obtain ⟨xs, k, hk, hxy, _, hxl, hf⟩ := DataW.trod_struct Try.underlying44 h2
      match cs', hlen with
      | [v0, v1, v2], _ =>
        have hl3 : xs.length = 3 := hxl
        have g0 : DataW.trod enc Try.prog W 0 (fun _ => true) true k 5 (([v0, v1, v2].drop 0).take (Try.prog.cellsOf 5)) = xs[0]? := hf 0 _ rfl
        have g1 : DataW.trod enc Try.prog W 0 (fun _ => true) true k 3 (([v0, v1, v2].drop 1).take (Try.prog.cellsOf 3)) = xs[1]? := hf 1 _ rfl
        have g2 : DataW.trod enc Try.prog W 0 (fun _ => true) true k 3 (([v0, v1, v2].drop 2).take (Try.prog.cellsOf 3)) = xs[2]? := hf 2 _ rfl
        rw [Try.cells5, List.getElem?_eq_getElem (by omega)] at g0
        rw [Try.cells3, List.getElem?_eq_getElem (by omega)] at g1 g2
        obtain ⟨n0, e0, _, w0⟩ := DataW.trod_int Try.underlying5 g0
        obtain ⟨n1, e1, _, _⟩ := DataW.trod_int Try.underlying3 g1
        obtain ⟨n2, e2, _, _⟩ := DataW.trod_int Try.underlying3 g2
        simp only [List.drop_zero, List.take_succ_cons, List.take_zero, List.cons.injEq, and_true] at e0
        simp only [List.drop_succ_cons, List.drop_zero, List.take_succ_cons, List.take_zero, List.cons.injEq, and_true] at e1 e2
        obtain ⟨y, rfl⟩ := wf_u8 w0
        have f0 := hcell 0 (by omega)
        have f1 := hcell 1 (by omega)
        have f2 := hcell 2 (by omega)
        rw [Deep.add_add, Addr.add_mid] at f0 f1 f2
        exact ⟨(y, n1, n2), by simpa [e0] using f0, by simpa [e1, Nat.add_assoc] using f1, by simpa [e2, Nat.add_assoc] using f2⟩
    obtain ⟨q, hq⟩ := Deep.choose_lt each
    have hlen : ((List.range len).map q).length = len := by simp
    refine ⟨(List.range len).map q, ⟨_, _, by rw [hlen], by rw [hlen]; exact hl, ?_⟩, ?_⟩
    · by_cases h0 : len = 0
      · left; subst h0; rfl
      · right
        refine ⟨b, o, rfl, World.block_lt_of_cell? W _ (hq 0 (by omega)).1, fun k hk => ?_⟩
        rw [hlen] at hk
        have e : ((List.range len).map q).getD k (0, 0, 0) = q k := by simp [hk]
        rw [e]
        exact hq k hk
    · subst hx
      rw [hlen]
      have := hw _ (by simp only [DataW.weights, Try.underlying22]; exact List.mem_cons_self)
      rw [Try.bytes44] at this
      simp at this
      omega
end Go.Proofs.Ytcjfaahlchbcmaa

/- The walk of DeflateFresh. -/
namespace Go.Proofs.Ytcjfaahlchbcmaa
open Go.RowKit Go.BigFrame
set_option linter.unusedVariables false
set_option linter.unusedSimpArgs false

theorem InB.bts {N : Nat} {w : World} {v : Value} {l : List UInt8} (h : InB N w v l) : Bts (· < N) w v l := by
  rcases h with ⟨rfl, rfl⟩ | ⟨b, o, c, rfl, hc, hb, hr⟩
  · exact ⟨_, _, rfl, Nat.le_refl _, .inl rfl⟩
  · refine ⟨_, _, rfl, hc, ?_⟩
    rcases hb with hb | hb
    · exact .inl hb
    · exact .inr ⟨b, o, rfl, hb, hr⟩
theorem OwnB.inB {N : Nat} {w : World} {v : Value} {l : List UInt8} (h : OwnB N w v l) : InB w.heap.size w v l := by
  have hb := h.bts
  rcases h.2 with ⟨e1, e2⟩ | ⟨g, cap, cur, e1, e2⟩
  · exact .inl ⟨e1, List.eq_nil_of_length_eq_zero e2⟩
  · obtain ⟨a, c, h1, h2, h3⟩ := hb
    rw [e1] at h1
    injection h1 with x1 x2 x3
    subst x3
    rcases h3 with rfl | ⟨b, o, y1, y2, y3⟩
    · exact .inr ⟨g, 0, cap, e1, h2, .inl rfl, fun j u hu => by simp at hu⟩
    · subst x1
      injection y1 with y1
      injection y1 with y1 y4
      subst y1 y4
      exact .inr ⟨g, 0, cap, e1, h2, .inr y2, y3⟩
theorem sto_len (l : List UInt8) : (stoF l).length ≤ 100000 := by
  unfold stoF
  split
  · simp
  · split
    · simp [hdr]; omega
    · simp [hdr]; omega
set_option maxRecDepth 100000 in
set_option maxHeartbeats 8000000 in
theorem fresh_walk (w : World) (vb : Value) (l : List UInt8) (hl : l.length ≤ 140737488351232) (hb : InB w.heap.size w vb l)
    (hD : ∀ w1 v, InB w1.heap.size w1 v l → Calls Try.prog 13 #[v] w1 fun e w' => ∃ u E d, e = .returned (.tuple #[u, .int .i64 E]) ∧ OwnB w1.heap.size w' u d ∧ d.length ≤ 100000 ∧ Below w1.heap.size w1 w') :
    Calls Try.prog 6 #[vb] w fun e w' => e = .returned (.bool true) ∧ Below w.heap.size w w' := by
  have HI := Box'.mk hb
  have HC := Box'.mk (copy_any (· < w.heap.size) vb l w hb.bts (fun _ h => h) hl)
  have HD := Box'.mk hD
  have HL := Box'.mk hl
  clear hb hD hl
  go_enter Try.func6, Try.ntmps6
  go_wp2_with fail
  refine HC.out.mono ?_
  rintro e w1 ⟨g, cap, rfl, c1, hg, b1⟩
  have C1 : Box' (OwnB 0 w1 (.slice (some ⟨g, 0, none⟩) l.length cap) l) := ⟨c1⟩
  have B1 := Box'.mk b1
  clear c1 hg b1 HC
  have e2 := HD.out w1 _ C1.out.inB
  generalize hln : l.length = ln at *
  have HLN := Box'.mk hln
  clear hln HD
  go_wp2_with fail
  refine e2.mono ?_
  rintro e w2 ⟨u2, E2, d2, rfl, o2, hd2, b2⟩
  have e3 := spoilB_any 5 o2 hd2
  have K3 : Box' (∀ w3, w2.grownBy w3 u2.ownBlock → Below w1.heap.size w1 w3) := ⟨fun w3 g3 => b2.trans (grown_below o2 g3 b2.size)⟩
  obtain ⟨a2, c2, rfl⟩ := o2.slice
  clear e2 o2 hd2 b2
  generalize d2.length = dl2 at *
  go_wp2_with fail
  refine e3.mono ?_
  rintro e w3 ⟨rfl, g3⟩
  have B3 := Box'.mk (K3.out w3 g3)
  have C3 := Box'.mk (C1.out.below B3.out)
  have e4 := stored_any _ l (by have := HL.out; have := HLN.out; omega) w3 C3.out.inB
  clear e3 g3 K3
  generalize hSE : stoE l = SE at *
  go_wp2_with fail
  refine e4.mono ?_
  rintro e w4 ⟨u4, rfl, o4, b4⟩
  have e5 := spoilB_any 6 o4 (sto_len l)
  have K5 : Box' (∀ w5, w4.grownBy w5 u4.ownBlock → Below w1.heap.size w1 w5) := ⟨fun w5 g5 => B3.out.trans ((b4.trans (grown_below o4 g5 b4.size)).mono B3.out.size)⟩
  obtain ⟨a4, c4, rfl⟩ := o4.slice
  have HSE := Box'.mk hSE
  clear e4 o4 b4 B3 C3 hSE
  generalize (stoF l).length = dl4 at *
  go_wp2_with fail
  refine e5.mono ?_
  rintro e w5 ⟨rfl, g5⟩
  have B5 := Box'.mk (K5.out w5 g5)
  have C5 := Box'.mk (C1.out.below B5.out)
  have e6 := stored_any _ l (by have := HL.out; have := HLN.out; omega) w5 C5.out.inB
  rw [HSE.out] at e6
  clear e5 g5 K5
  go_wp2_with fail
  refine e6.mono ?_
  rintro e w6 ⟨u6, rfl, o6, b6⟩
  have B6 : Box' (Below w1.heap.size w1 w6) := ⟨B5.out.trans (b6.mono B5.out.size)⟩
  have O6 := Box'.mk o6
  have Bw : Box' (Below w.heap.size w w6) := ⟨B1.out.trans (B6.out.mono B1.out.size)⟩
  have e7 := refStored_any vb l (by have := HL.out; have := HLN.out; omega) w6 ((HI.out.below Bw.out (Nat.le_refl _)).up Bw.out.size)
  rw [HSE.out] at e7
  clear e6 o6 b6 B5 C5
  go_wp2_with fail
  refine e7.mono ?_
  rintro e w7 ⟨u7, rfl, o7, b7⟩
  have B7 : Box' (Below w1.heap.size w1 w7) := ⟨B6.out.trans (b7.mono B6.out.size)⟩
  have Bw7 : Box' (Below w.heap.size w w7) := ⟨B1.out.trans (B7.out.mono B1.out.size)⟩
  have S : Box' (∀ w8, Below w7.heap.size w7 w8 → Calls Try.prog 11 #[vb, .slice (some ⟨g, 0, none⟩) ln cap] w8 (fun e w' => e = .returned (.bool true) ∧ w' = w8) ∧ Calls Try.prog 11 #[u6, u7] w8 (fun e w' => e = .returned (.bool true) ∧ w' = w8)) := ⟨fun w8 b8 => by
    have s1 := refSame_any _ _ _ _ _ _ _ (HI.out.below (Bw7.out.trans (b8.mono Bw7.out.size)) (Nat.le_refl _)).bts (C1.out.below (B7.out.trans (b8.mono B7.out.size))).bts
    have s2 := refSame_any _ _ _ _ _ _ _ ((O6.out.below b7).below b8).bts (o7.below b8).bts
    rw [decide_eq_true rfl] at s1 s2
    exact ⟨s1, s2⟩⟩
  have ha := anchored_any w7
  clear e7 o7 b7 B6 O6 Bw HI C1 B1 B7 HL HLN HSE
  go_wp2_with fail
  refine ha.mono ?_
  rintro e w8 ⟨rfl, b8⟩
  have B8 := Box'.mk (Bw7.out.trans (b8.mono Bw7.out.size))
  obtain ⟨s1, s2⟩ := S.out w8 b8
  have S2 := Box'.mk s2
  clear S ha b8 Bw7 s2
  go_wp2_with fail
  refine s1.mono ?_
  rintro e w9 ⟨rfl, rfl⟩
  clear s1
  go_wp2_with fail
  refine S2.out.mono ?_
  rintro e w10 ⟨rfl, rfl⟩
  clear S2
  go_wp2_with fail
  go_ret
  exact ⟨rfl, B8.out⟩
end Go.Proofs.Ytcjfaahlchbcmaa
