/- The walk of DeflateTells; what came in. -/
import Derived.Test.YtfbgackmjkancaaI
import Derived.ProofKit
import Derived.OpenShut
import Derived.HandedShaped
import Derived.ChangeSlices
import Derived.ChangeArms
import Derived.ChangeOld
import Derived.Deep.SlicePairs
import Derived.Carry
namespace Go.Proofs.Ytfbgackmjkancaa
open Go.ChangeShapes Go.WideShapes Go.ChangeAt Go.RowKit Go.BigFrame

set_option maxRecDepth 100000 in
set_option maxHeartbeats 2000000 in
theorem tells_any (vl vb : Value) (l : List Tok) (b : List UInt8) (hl : l.length ≤ 140737488355328) (hb : b.length ≤ 140737488355328) (w : World) (ht : Toks w.heap.size w vl l) (hi : InB w.heap.size w vb b) :
    Calls Try.prog 3 #[vl, vb] w fun e w' => e = .returned (.bool true) ∧ Below w.heap.size w w' := by
  have e1 := expand_any vl l hl w ht
  have H2 : Box' (∀ w1, Below w.heap.size w w1 → Calls Try.prog 8 #[vl] w1 fun e w' => ∃ u, e = .returned (.tuple #[u, .int .i64 (expF l []).2]) ∧ OwnB w1.heap.size w' u (expF l []).1 ∧ Below w1.heap.size w1 w') := ⟨fun w1 hb => refExpand_any vl l hl w1 (by
    obtain ⟨a, c, h1, h2, h4⟩ := ht.below hb (Nat.le_refl _)
    refine ⟨a, c, h1, h2, ?_⟩
    rcases h4 with h4 | ⟨b, o, h5, h6, h7⟩
    · exact .inl h4
    · exact .inr ⟨b, o, h5, Nat.lt_of_lt_of_le h6 hb.size, h7⟩)⟩
  have H3 : Box' (∀ w1, Below w.heap.size w w1 → Calls Try.prog 9 #[vb] w1 fun e w' => ∃ u, e = .returned (.tuple #[u, .int .i64 (stoE b)]) ∧ OwnB w1.heap.size w' u (stoF b) ∧ Below w1.heap.size w1 w') := ⟨fun w1 hbl => stored_any vb b hb w1 ((hi.below hbl (Nat.le_refl _)).up hbl.size)⟩
  have H4 : Box' (∀ w1, Below w.heap.size w w1 → Calls Try.prog 10 #[vb] w1 fun e w' => ∃ u, e = .returned (.tuple #[u, .int .i64 (stoE b)]) ∧ OwnB w1.heap.size w' u (stoF b) ∧ Below w1.heap.size w1 w') := ⟨fun w1 hbl => refStored_any vb b hb w1 ((hi.below hbl (Nat.le_refl _)).up hbl.size)⟩
  clear ht hi hl hb
  generalize expF l [] = R at *
  obtain ⟨X, E⟩ := R
  simp only at e1 H2
  generalize stoE b = SE at *
  generalize stoF b = SB at *
  go_enter Try.func3, Try.ntmps3
  go_wp2_with fail
  refine e1.mono ?_
  rintro e w1 ⟨u1, rfl, o1, b1⟩
  have O1 := Box'.mk o1
  have B1 := Box'.mk b1
  have e2 := H2.out w1 b1
  clear e1 o1 b1 H2
  go_wp2_with fail
  refine e2.mono ?_
  rintro e w2 ⟨u2, rfl, o2, b2⟩
  have B2 := Box'.mk (B1.out.trans (b2.mono B1.out.size))
  have O12 := Box'.mk (O1.out.below b2)
  have O2 := Box'.mk o2
  have e3 := H3.out w2 B2.out
  clear e2 o2 b2 B1 O1 H3
  go_wp2_with fail
  refine e3.mono ?_
  rintro e w3 ⟨u3, rfl, o3, b3⟩
  have B3 := Box'.mk (B2.out.trans (b3.mono B2.out.size))
  have O13 := Box'.mk (O12.out.below b3)
  have O23 := Box'.mk (O2.out.below b3)
  have O3 := Box'.mk o3
  have e4 := H4.out w3 B3.out
  clear e3 o3 b3 B2 O12 O2 H4
  go_wp2_with fail
  refine e4.mono ?_
  rintro e w4 ⟨u4, rfl, o4, b4⟩
  have B4 := Box'.mk (B3.out.trans (b4.mono B3.out.size))
  have s1 := refSame_any _ _ _ _ _ _ _ (O13.out.below b4).bts (O23.out.below b4).bts
  have s2 := refSame_any _ _ _ _ _ _ _ (O3.out.below b4).bts o4.bts
  rw [decide_eq_true rfl] at s1 s2
  have S2 := Box'.mk s2
  clear e4 o4 b4 B3 O13 O23 O3 s2
  go_wp2_with fail
  refine s1.mono ?_
  rintro e w5 ⟨rfl, rfl⟩
  have s2 := S2.out
  clear s1 S2
  go_wp2_with fail
  refine s2.mono ?_
  rintro e w6 ⟨rfl, rfl⟩
  have ha := anchored_any w6
  clear s2
  go_wp2_with fail
  refine ha.mono ?_
  rintro e w7 ⟨rfl, b7⟩
  have B7 := Box'.mk (B4.out.trans (b7.mono B4.out.size))
  clear ha b7 B4
  go_wp2_with fail
  go_ret
  exact ⟨rfl, B7.out⟩

theorem own : ownKnob Try.prog.godebug = none := by kernel_rfl
theorem laidOut : laidOutB Try.prog = true := by kernel_rfl
theorem Try.cells5 : Try.prog.cellsOf 5 = 1 := by kernel_rfl
theorem Try.cells3 : Try.prog.cellsOf 3 = 1 := by kernel_rfl
theorem Try.cells44 : Try.prog.cellsOf 44 = 3 := by kernel_rfl
theorem Try.bytes5 : Try.prog.bytesOf 5 = 1 := by kernel_rfl
theorem Try.bytes44 : Try.prog.bytesOf 44 = 24 := by kernel_rfl
set_option maxRecDepth 100000 in
/-- A slice of bytes that came in. -/
theorem open_bytes {H : Type} {enc : TypeId × Value → H} {W : World} {base : Nat} {v : Value} {fuel : Nat} {x : DataW H × List MemPlace} (hok : Cell.okWide Try.prog W .any base 23 v) (h : DataW.trod enc Try.prog W 0 (fun _ => true) true fuel 23 [v] = some x) :
    ∃ l, InB W.heap.size W v l ∧ l.length ≤ maxLen := by
  rcases open_ints Try.underlying23 Try.underlying5 Try.cells5 h with ⟨e, _⟩ | ⟨a, len, cap, zs, e, _, hlc, hcm, hzl, _, hcell, hwf⟩
  · simp only [List.cons.injEq, and_true] at e
    subst e
    exact ⟨[], .inl ⟨rfl, rfl⟩, Nat.zero_le _⟩
  · simp only [List.cons.injEq, and_true] at e
    subst e
    simp only [if_true] at hzl
    have hsp : a.spot = none := by
      unfold Cell.okWide at hok
      rw [Try.underlying23] at hok
      simp only [Cell.ok, Try.underlying23] at hok
      exact hok.2.2.2.1
    obtain ⟨b, o, sp⟩ := a
    simp only at hsp
    subst hsp
    have hlen : ((zs.take len).map fun z => UInt8.ofNat z.toNat).length = len := by rw [List.length_map, List.length_take]; omega
    have hr : W.rangeAt b o (((zs.take len).map fun z => UInt8.ofNat z.toNat).map B) := by
      intro j u hu
      have hj : j < len := by
        have := (List.getElem?_eq_some_iff.1 hu).1
        rw [List.length_map, hlen] at this
        exact this
      have hc := hcell j (by omega)
      rw [Addr.add_mid] at hc
      rw [hc]
      have hzj : j < zs.length := by omega
      have hz : zs.getD j 0 = zs[j] := by simp [hzj]
      have hw := hwf zs[j] (List.getElem_mem hzj)
      have hb : 0 ≤ zs[j] ∧ zs[j] ≤ 255 := by
        simp only [Lit.wf] at hw
        simpa [IntKind.min, IntKind.max, IntKind.bits, IntKind.signed] using hw
      simp only [List.getElem?_map, List.getElem?_take_of_lt hj, List.getElem?_eq_getElem hzj, Option.map_some, Option.some.injEq] at hu
      rw [← hu, hz]
      unfold B
      rw [UInt8.toNat_ofNat_of_lt' (by show zs[j].toNat < 256; omega)]
      congr 2
      omega
    refine ⟨(zs.take len).map fun z => UInt8.ofNat z.toNat, .inr ⟨b, o, cap, by rw [hlen], by rw [hlen]; exact hlc, ?_, hr⟩, by rw [hlen]; omega⟩
    by_cases h0 : len = 0
    · left
      apply List.eq_nil_of_length_eq_zero
      rw [hlen]; exact h0
    · right
      exact range_lt hr (by rw [hlen]; omega)

theorem weight_bytes {H : Type} {enc : TypeId × Value → H} {W : World} {fuel : Nat} {a : Option Addr} {n c R : Nat} {x : DataW H × List MemPlace} (h : DataW.trod enc Try.prog W 0 (fun _ => true) true fuel 23 [.slice a n c] = some x)
    (hw : ∀ y ∈ DataW.weights Try.prog 23 x.1, y ≤ R) : n ≤ R := by
  rcases open_ints Try.underlying23 Try.underlying5 Try.cells5 h with ⟨e, _⟩ | ⟨a', len, cap, zs, e, _, hlc, hcm, hzl, hx, _⟩
  · simp only [List.cons.injEq, and_true, Value.slice.injEq] at e
    omega
  · simp only [List.cons.injEq, and_true, Value.slice.injEq] at e
    simp only [if_true] at hzl
    subst hx
    have := hw _ (by simp only [DataW.weights, Try.underlying23]; exact List.mem_cons_self)
    rw [Try.bytes5] at this
    simp [lits] at this
    omega

theorem wf_u8 {n : Int} (h : (Lit.int .u8 n).wf = true) : ∃ x : UInt8, n = (x.toNat : Int) := by
  simp only [Lit.wf, Bool.and_eq_true, decide_eq_true_eq] at h
  have h0 : 0 ≤ n := h.1
  have h1 : n ≤ 255 := h.2
  exact ⟨UInt8.ofNat n.toNat, by rw [UInt8.toNat_ofNat_of_lt' (by show n.toNat < 256; omega)]; omega⟩

set_option maxRecDepth 100000 in
/-- Tokens in a row that came in. -/
theorem open_toks {H : Type} {enc : TypeId × Value → H} {W : World} {base R : Nat} {v : Value} {fuel : Nat} {x : DataW H × List MemPlace} (hok : Cell.okWide Try.prog W .any base 22 v) (h : DataW.trod enc Try.prog W 0 (fun _ => true) true fuel 22 [v] = some x)
    (hw : ∀ y ∈ DataW.weights Try.prog 22 x.1, y ≤ R) : ∃ l, Toks W.heap.size W v l ∧ l.length ≤ R := by
  rcases Deep.open_slice Try.underlying22 h with ⟨e, _⟩ | ⟨a, len, cap, m, n, D, Pl, e, hb, hl, hm, hmm, hx, hc⟩
  · simp only [List.cons.injEq, and_true] at e
    subst e
    exact ⟨[], ⟨none, 0, rfl, Nat.le_refl _, .inl rfl⟩, Nat.zero_le _⟩
  · simp only [List.cons.injEq, and_true] at e
    subst e
    simp only [if_true] at hmm
    subst hmm
    have hsp : a.spot = none := by
      unfold Cell.okWide at hok
      rw [Try.underlying22] at hok
      simp only [Cell.ok, Try.underlying22] at hok
      exact hok.2.2.2.1
    obtain ⟨b, o, sp⟩ := a
    simp only at hsp
    subst hsp
    have each : ∀ i, i < len → ∃ q : Tok, W.cell? ⟨b, o + i * 3, none⟩ = some (.int .u8 (q.1.toNat : Int)) ∧ W.cell? ⟨b, o + i * 3 + 1, none⟩ = some (.int .i64 q.2.1) ∧ W.cell? ⟨b, o + i * 3 + 2, none⟩ = some (.int .i64 q.2.2) := by
      intro i hi
      obtain ⟨cs', h1, h2⟩ := hc i (by omega)
      rw [Try.cells44] at h1
      obtain ⟨_, hlen, hcell⟩ := World.cells?_some h1
      obtain ⟨xs, k, hk, hxy, _, hxl, hf⟩ := DataW.trod_struct Try.underlying44 h2
      match cs', hlen with
      | [v0, v1, v2], _ =>
        have hl3 : xs.length = 3 := hxl
        have g0 : DataW.trod enc Try.prog W 0 (fun _ => true) true k 5 (([v0, v1, v2].drop 0).take (Try.prog.cellsOf 5)) = xs[0]? := hf 0 _ rfl
        have g1 : DataW.trod enc Try.prog W 0 (fun _ => true) true k 3 (([v0, v1, v2].drop 1).take (Try.prog.cellsOf 3)) = xs[1]? := hf 1 _ rfl
        have g2 : DataW.trod enc Try.prog W 0 (fun _ => true) true k 3 (([v0, v1, v2].drop 2).take (Try.prog.cellsOf 3)) = xs[2]? := hf 2 _ rfl
        rw [Try.cells5, List.getElem?_eq_getElem (by omega)] at g0
        rw [Try.cells3, List.getElem?_eq_getElem (by omega)] at g1 g2
        obtain ⟨n0, e0, _, w0⟩ := DataW.trod_int Try.underlying5 g0
        obtain ⟨n1, e1, _, _⟩ := DataW.trod_int Try.underlying3 g1
        obtain ⟨n2, e2, _, _⟩ := DataW.trod_int Try.underlying3 g2
        simp only [List.drop_zero, List.take_succ_cons, List.take_zero, List.cons.injEq, and_true] at e0
        simp only [List.drop_succ_cons, List.drop_zero, List.take_succ_cons, List.take_zero, List.cons.injEq, and_true] at e1 e2
        obtain ⟨y, rfl⟩ := wf_u8 w0
        have f0 := hcell 0 (by omega)
        have f1 := hcell 1 (by omega)
        have f2 := hcell 2 (by omega)
        rw [Deep.add_add, Addr.add_mid] at f0 f1 f2
        exact ⟨(y, n1, n2), by simpa [e0] using f0, by simpa [e1, Nat.add_assoc] using f1, by simpa [e2, Nat.add_assoc] using f2⟩
    obtain ⟨q, hq⟩ := Deep.choose_lt each
    have hlen : ((List.range len).map q).length = len := by simp
    refine ⟨(List.range len).map q, ⟨_, _, by rw [hlen], by rw [hlen]; exact hl, ?_⟩, ?_⟩
    · by_cases h0 : len = 0
      · left; subst h0; rfl
      · right
        refine ⟨b, o, rfl, World.block_lt_of_cell? W _ (hq 0 (by omega)).1, fun k hk => ?_⟩
        rw [hlen] at hk
        have e : ((List.range len).map q).getD k (0, 0, 0) = q k := by simp [hk]
        rw [e]
        exact hq k hk
    · subst hx
      rw [hlen]
      have := hw _ (by simp only [DataW.weights, Try.underlying22]; exact List.mem_cons_self)
      rw [Try.bytes44] at this
      simp at this
      omega
end Go.Proofs.Ytfbgackmjkancaa
