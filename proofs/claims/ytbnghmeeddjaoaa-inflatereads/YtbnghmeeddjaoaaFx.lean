/- What a block tells; the walk of block. The walk of block. -/
import Derived.Test.YtbnghmeeddjaoaaFv
namespace Go.Proofs.Ytbnghmeeddjaoaa
open Go.RowKit Go.BigFrame Gt

/-- What a block tells behind the bit that says whether it is the last one. -/
def blockF (b : List UInt8) (most p : Nat) (out : List UInt8) : Except Int (Nat × List UInt8) :=
  if p + 2 ≤ 8 * b.length then
    if nbr b p 2 = 0 then storedF b most (p + 2) out
    else if nbr b p 2 = 1 then toldF fixS fixD b most (8 * b.length + 1) (p + 2) out
    else if nbr b p 2 = 2 then
      match dynF b (p + 2) with
      | .error x => .error x
      | .ok (q, l1, l2) => toldF l1 l2 b most (8 * b.length + 1) q out
    else .error 8
  else .error 7
/-- What the stream keeps of the fixed codes: nothing yet, or two closures that read by them. -/
def FxOk (K : Nat → Prop) (w : World) (sb : Nat) (fx : Value) : Prop :=
  fx = .pointer none ∨ ∃ cb f1 x1 f2 x2, fx = .pointer (some ⟨cb, 0, none⟩) ∧ K cb ∧ Row w cb 72 #[.func (.func 48) #[] #[.pointer (some ⟨f1, 0, none⟩), .pointer (some ⟨x1, 0, none⟩)], .func (.func 48) #[] #[.pointer (some ⟨f2, 0, none⟩), .pointer (some ⟨x2, 0, none⟩)]] ∧ RdK K w sb fixS f1 x1 ∧ RdK K w sb fixD f2 x2
theorem FxOk.keep {K : Nat → Prop} {w w' : World} {sb : Nat} {fx : Value} (h : FxOk K w sb fx) (kp : Kp K w w') : FxOk K w' sb fx := by
  rcases h with h | ⟨cb, f1, x1, f2, x2, h1, h2, h3, h4, h5⟩
  · exact .inl h
  · exact .inr ⟨cb, f1, x1, f2, x2, h1, h2, h3.same (kp.block cb h2), h4.keep kp, h5.keep kp⟩
theorem FxOk.more {K K' : Nat → Prop} {w : World} {sb : Nat} {fx : Value} (h : FxOk K w sb fx) (hK : ∀ k, K k → K' k) : FxOk K' w sb fx := by
  rcases h with h | ⟨cb, f1, x1, f2, x2, h1, h2, h3, h4, h5⟩
  · exact .inl h
  · exact .inr ⟨cb, f1, x1, f2, x2, h1, hK _ h2, h3, h4.more hK, h5.more hK⟩
/-- How a block ends. -/
def BEnds (K : Nat → Prop) (N : Nat) (w : World) (sb : Nat) (vb : Value) (b : List UInt8) (most : Nat) (r : Except Int (Nat × List UInt8)) (e : Ending) (w' : World) : Prop :=
  Kp K w w' ∧ match r with
    | .ok (p, out) => e = .returned (.tuple #[]) ∧ ∃ (K' : Nat → Prop) (fx : Value), (∀ k, K k → K' k) ∧ FxOk K' w' sb fx ∧ St K' N w' sb vb b p out most fx
    | .error x => e = flt x
theorem BEnds.bad {K : Nat → Prop} {N : Nat} {w w' : World} {sb : Nat} {vb : Value} {b : List UInt8} {most : Nat} {r : Except Int (Nat × List UInt8)} {x : Int} (h : r = .error x) (kp : Kp K w w') : BEnds K N w sb vb b most r (flt x) w' := by subst h; exact ⟨kp, rfl⟩
/-- A part's end is the block's. -/
theorem Ends.block {K K' : Nat → Prop} {N : Nat} {w w1 w' : World} {sb : Nat} {vb : Value} {b : List UInt8} {most : Nat} {fx : Value} {r : Except Int (Nat × List UInt8)} {e : Ending} (h : Ends K' N w1 sb vb b most fx r e w') (hK : ∀ k, K k → K' k) (kp : Kp K w w1) (hf : FxOk K' w1 sb fx) : BEnds K N w sb vb b most r e w' := by
  obtain ⟨kp', h⟩ := h
  refine ⟨kp.trans (kp'.less hK), ?_⟩
  cases r with
  | error x => exact h
  | ok q => exact ⟨h.1, K', fx, hK, hf.keep kp', h.2⟩
theorem St.fix {K : Nat → Prop} {N : Nat} {w : World} {sb : Nat} {vb : Value} {b : List UInt8} {p : Nat} {out : List UInt8} {most : Nat} {fx : Value} (h : St K N w sb vb b p out most fx) (v : Value) : St K N (w.setCell ⟨sb, 4, none⟩ v) sb vb b p out most v := by
  obtain ⟨vo, hr, ho⟩ := h.row
  have hk : ∀ k, K k → (w.setCell ⟨sb, 4, none⟩ v).heap[k]? = w.heap[k]? := fun k hk => Below.heap_setCell _ _ _ _ (fun e => h.sbK (by have e : k = sb := e; rw [← e]; exact hk))
  exact ⟨⟨vo, by simpa using hr.setCell 4 v, ho.same fun g hg => Below.heap_setCell _ _ _ _ (St.ne ho hr g hg)⟩, kt_keep h.kt hk, h.bts.keep fun g hg => ⟨hg, hk g hg⟩, h.sbK, fun k hk => by simpa [World.setCell] using h.kl k hk, h.bl, h.pl, h.ol, h.ml, by simpa [World.setCell] using h.nl⟩
theorem chk_fixS : Gf.chkE fixS = 0 := by decide +kernel
theorem chk_fixD : Gf.chkE fixD = 0 := by decide +kernel
theorem results29 (T : Array Value) (w : World) : (results Try.f29 T).run Try.prog w = .ok (.tuple #[]) w := by
  unfold results
  simp [go_sem]
end Go.Proofs.Ytbnghmeeddjaoaa
namespace Go.Proofs.Ytbnghmeeddjaoaa
open Go.RowKit Go.BigFrame Gt

theorem DynEnds.cases {K : Nat → Prop} {N : Nat} {w w' : World} {sb : Nat} {vb : Value} {b out : List UInt8} {most : Nat} {fx : Value} {r : Except Int (Nat × List Int × List Int)} {e : Ending} (h : DynEnds K N w sb vb b out most fx r e w') :
    Kp K w w' ∧ ((∃ q l1 l2 K' f1 x1 f2 x2, r = .ok (q, l1, l2) ∧ Gf.chkE l1 = 0 ∧ Gf.chkE l2 = 0 ∧ (∀ k, K k → K' k) ∧ e = .returned (.agg #[.func (.func 48) #[] #[.pointer (some ⟨f1, 0, none⟩), .pointer (some ⟨x1, 0, none⟩)], .func (.func 48) #[] #[.pointer (some ⟨f2, 0, none⟩), .pointer (some ⟨x2, 0, none⟩)]]) ∧ RdK K' w' sb l1 f1 x1 ∧ RdK K' w' sb l2 f2 x2 ∧ St K' N w' sb vb b q out most fx) ∨ (∃ x, r = .error x ∧ e = flt x)) := by
  obtain ⟨kp, h⟩ := h
  refine ⟨kp, ?_⟩
  cases r with
  | error x => exact .inr ⟨x, rfl, h⟩
  | ok sq => obtain ⟨h1, h2, K', f1, x1, f2, x2, h3, h4, h5, h6, h7⟩ := h; exact .inl ⟨sq.1, sq.2.1, sq.2.2, K', f1, x1, f2, x2, rfl, h1, h2, h3, h4, h5, h6, h7⟩

set_option maxRecDepth 100000 in
set_option maxHeartbeats 4000000 in
theorem block_any (K : Nat → Prop) (N : Nat) (w : World) (sb : Nat) (vb : Value) (b : List UInt8) (p : Nat) (out : List UInt8) (most : Nat) (fx : Value) (hf : FxOk K w sb fx) (h : St K N w sb vb b p out most fx) :
    Calls Try.prog 29 #[.pointer (some ⟨sb, 0, none⟩)] w (BEnds K N w sb vb b most (blockF b most p out)) := by
  have DF := Box'.mk (blockF.eq_1 b most p out)
  generalize blockF b most p out = R0 at *
  have nm := number_any K N w sb vb b p out most fx 2 (by decide) h
  have hlt : nbr b p 2 < 4 := nbr_lt b p 2
  have HF := Box'.mk hf
  clear h hf
  generalize nbr b p 2 = v at *
  go_enter Try.func29, Try.ntmps29
  go_wp2_with fail
  refine nm.mono ?_
  clear nm
  rintro e w1 ⟨kp1, ⟨h1, rfl, st1⟩ | ⟨h1, rfl⟩⟩
  case inr => exact ⟨rfl, BEnds.bad (by rw [DF.out, if_neg h1]) kp1⟩
  have DF1 := DF.out
  rw [if_pos h1] at DF1
  have DFB := Box'.mk DF1
  have KP1 := Box'.mk kp1
  have ST1 := Box'.mk st1
  have HF1 := Box'.mk (HF.out.keep kp1)
  obtain ⟨vo, hr1, _⟩ := st1.row
  have c4 : w1.cell? ⟨sb, 4, none⟩ = some fx := by rw [hr1.cell]; rfl
  have fz4 := hr1.frozen 4
  clear DF DF1 kp1 st1 h1 hr1 HF
  have hv4 : v = 0 ∨ v = 1 ∨ v = 2 ∨ v = 3 := by omega
  rcases hv4 with rfl | rfl | rfl | rfl
  · have e0 : R0 = storedF b most (p + 2) out := DFB.out
    have hs := stored_any K N w1 sb vb b (p + 2) out most fx ST1.out
    rw [← e0] at hs
    clear e0 DFB c4 fz4
    go_wp2_with fail
    refine hs.mono ?_
    clear hs
    intro e w2 hh
    obtain ⟨kp2, ⟨q, o, hr, rfl, st2⟩ | ⟨x, hr, rfl⟩⟩ := hh.cases
    · have RES := Box'.mk (hh.block (fun _ hk => hk) KP1.out HF1.out)
      clear hh kp2 st2 hr
      go_wp2_with fail
      exact ⟨rfl, _, results29 _ _, RES.out⟩
    · exact ⟨rfl, hh.block (fun _ hk => hk) KP1.out HF1.out⟩
  · have e0 : R0 = toldF fixS fixD b most (8 * b.length + 1) (p + 2) out := DFB.out
    have E0 := Box'.mk e0
    clear e0 DFB
    rcases HF1.out with rfl | ⟨cb, f1, x1, f2, x2, rfl, hcb, rcb, rk1, rk2⟩
    · have hfi := fixed_any w1
      go_wp2_with fail
      refine hfi.mono ?_
      clear hfi
      rintro e w2 ⟨g, c, g', rfl, hc, hg, sg, hg', sg', b2⟩
      have KP2 := Box'.mk (KP1.out.trans (Kp.below b2 ST1.out.kl))
      have ST2 := Box'.mk (ST1.out.below b2)
      have i1 : Ints w2.heap.size w2 (.slice (some ⟨g, 0, none⟩) 288 c) fixS := by
        have := sg.ints (c := c) (by show 288 ≤ c; exact hc)
        exact this
      have rd1 := reader_any sb (.slice (some ⟨g, 0, none⟩) 288 c) fixS (by decide) w2 i1
      have SG' := Box'.mk sg'
      have HSB2 : Box' (sb < w2.heap.size) := ⟨by obtain ⟨_, hr, _⟩ := ST2.out.row; exact hr.lt⟩
      clear sg sg' b2 i1 KP1 ST1 HF1 hg hg' c4 fz4
      go_wp2_with fail
      refine rd1.mono ?_
      clear rd1
      rintro e w3 ⟨b3, ⟨_, u1, rfl, rv1⟩ | ⟨hck, rfl⟩⟩
      case inr => exact absurd chk_fixS hck
      have KP3 := Box'.mk (KP2.out.trans (Kp.below b3 ST2.out.kl))
      have ST3 := Box'.mk (ST2.out.below b3)
      have i2 : Ints w3.heap.size w3 (.slice (some ⟨g', 0, none⟩) 30 30) fixD := (SG'.out.below b3).ints (c := 30) (by decide)
      have rd2 := reader_any sb (.slice (some ⟨g', 0, none⟩) 30 30) fixD (by decide) w3 i2
      have RV1 := Box'.mk rv1
      have HSZ3 : Box' (w2.heap.size ≤ w3.heap.size) := ⟨b3.size⟩
      obtain ⟨fa, xa, _, rfl, _⟩ := rv1
      clear i2 b3 KP2 ST2 SG'
      go_wp2_with fail
      refine rd2.mono ?_
      clear rd2
      rintro e w4 ⟨b4, ⟨_, u2, rfl, rv2⟩ | ⟨hck, rfl⟩⟩
      case inr => exact absurd chk_fixD hck
      have KP4 := Box'.mk (KP3.out.trans (Kp.below b4 ST3.out.kl))
      have ST4 := Box'.mk (ST3.out.below b4)
      have RV2 := Box'.mk rv2
      have W23 : Box' (w2.heap.size ≤ w3.heap.size) := ⟨HSZ3.out⟩
      have RV1' := Box'.mk (RV1.out.below b4)
      obtain ⟨fc, xc, _, rfl, _⟩ := rv2
      obtain ⟨vo4, hr4, _⟩ := ST4.out.row
      have c4 : w4.cell? ⟨sb, 4, none⟩ = some (.pointer none) := by rw [hr4.cell]; rfl
      have fz4 := hr4.frozen 4
      have hsb4 : sb < w4.heap.size := hr4.lt
      have hsz5 : (w4.setCell ⟨sb, 4, none⟩ (.pointer (some ⟨w4.heap.size, 0, none⟩))).heap.size = w4.heap.size := by simp [World.setCell]
      obtain ⟨w5, hw5⟩ : ∃ w5, w5 = (w4.setCell ⟨sb, 4, none⟩ (.pointer (some ⟨w4.heap.size, 0, none⟩))).alloc (.cells #[.func (.func 48) #[] #[.pointer (some ⟨fa, 0, none⟩), .pointer (some ⟨xa, 0, none⟩)], .func (.func 48) #[] #[.pointer (some ⟨fc, 0, none⟩), .pointer (some ⟨xc, 0, none⟩)]] 72) := ⟨_, rfl⟩
      have rc5 : Row w5 w4.heap.size 72 #[.func (.func 48) #[] #[.pointer (some ⟨fa, 0, none⟩), .pointer (some ⟨xa, 0, none⟩)], .func (.func 48) #[] #[.pointer (some ⟨fc, 0, none⟩), .pointer (some ⟨xc, 0, none⟩)]] := by rw [hw5]; exact Row.made _ _ _ _ _ rfl hsz5.symm
      have st5 : St (fun k => K k ∨ k = w4.heap.size) N w5 sb vb b (p + 2) out most (.pointer (some ⟨w4.heap.size, 0, none⟩)) := St.more (by rw [hw5]; exact (ST4.out.fix _).alloc _) w4.heap.size rc5 (by decide) (by omega)
      have kp5 : Kp K w w5 := by
        rw [hw5]
        refine (KP4.out.trans ((Kp.refl K w4).setCell sb 4 ST4.out.sbK _)).trans (Kp.below ((Below.refl _ _).alloc (Nat.le_refl _) _) fun k hk => ?_)
        rw [hsz5]; exact ST4.out.kl k hk
      have hblk : ∀ k, w2.heap.size ≤ k → k < w4.heap.size → w5.heap[k]? = w4.heap[k]? := fun k hk hl => by
        rw [hw5, Below.heap_alloc _ _ _ (by rw [hsz5]; exact hl)]
        exact Below.heap_setCell _ _ _ _ (fun e => by have e : k = sb := e; have := HSB2.out; omega)
      obtain ⟨K2, fa', xa', hK2, _, ea, rka, st5a⟩ := (RV1'.out.keep hblk).toK chk_fixS st5
      obtain ⟨K3, fc', xc', hK3, _, ec, rkc, st5b⟩ := ((RV2.out.mono (W23.out)).keep hblk).toK chk_fixD st5a
      cases ea
      cases ec
      have hKK : ∀ k, K k → K3 k := fun k hk => hK3 k (hK2 k (.inl hk))
      have hf5 : FxOk K3 w5 sb (.pointer (some ⟨w4.heap.size, 0, none⟩)) := .inr ⟨w4.heap.size, fa, xa, fc, xc, rfl, hK3 _ (hK2 _ (.inr rfl)), rc5, rka.more hK3, rkc⟩
      have hto := told_any K3 N w5 sb vb b (p + 2) out most _ fixS fixD fa xa fc xc chk_fixS chk_fixD (rka.more hK3) rkc st5b
      rw [← E0.out] at hto
      have HKK := Box'.mk hKK
      have HF5 := Box'.mk hf5
      have KP5 := Box'.mk kp5
      clear rc5 st5 kp5 hblk rka st5a rkc st5b hKK hf5 hK2 hK3 KP4 ST4 RV1' RV2 hsz5
      go_wp2_with fail
      rw [← hw5]
      refine hto.mono ?_
      clear hto
      intro e w6 hh
      obtain ⟨kp6, ⟨q, o, hr, rfl, st6⟩ | ⟨x, hr, rfl⟩⟩ := hh.cases
      · have RES := Box'.mk (hh.block HKK.out KP5.out HF5.out)
        clear hh kp6 st6 hr
        go_wp2_with fail
        exact ⟨rfl, _, results29 _ _, RES.out⟩
      · exact ⟨rfl, hh.block HKK.out KP5.out HF5.out⟩
    · have hto := told_any K N w1 sb vb b (p + 2) out most _ fixS fixD f1 x1 f2 x2 chk_fixS chk_fixD rk1 rk2 ST1.out
      rw [← E0.out] at hto
      have d0 : w1.cell? ⟨cb, 0, none⟩ = some (.func (.func 48) #[] #[.pointer (some ⟨f1, 0, none⟩), .pointer (some ⟨x1, 0, none⟩)]) := by rw [rcb.cell]; rfl
      have d1 : w1.cell? ⟨cb, 1, none⟩ = some (.func (.func 48) #[] #[.pointer (some ⟨f2, 0, none⟩), .pointer (some ⟨x2, 0, none⟩)]) := by rw [rcb.cell]; rfl
      clear rcb rk1 rk2 hcb fz4
      go_wp2_with fail
      refine hto.mono ?_
      clear hto
      intro e w6 hh
      obtain ⟨kp6, ⟨q, o, hr, rfl, st6⟩ | ⟨x, hr, rfl⟩⟩ := hh.cases
      · have RES := Box'.mk (hh.block (fun _ hk => hk) KP1.out HF1.out)
        clear hh kp6 st6 hr
        go_wp2_with fail
        exact ⟨rfl, _, results29 _ _, RES.out⟩
      · exact ⟨rfl, hh.block (fun _ hk => hk) KP1.out HF1.out⟩
  · have e0 : R0 = match dynF b (p + 2) with
      | .error x => .error x
      | .ok (q, l1, l2) => toldF l1 l2 b most (8 * b.length + 1) q out := DFB.out
    have E0 := Box'.mk e0
    have hdy := dynamic_any K N w1 sb vb b (p + 2) out most fx ST1.out
    clear e0 DFB c4 fz4
    go_wp2_with fail
    refine hdy.mono ?_
    clear hdy
    intro e w2 hh
    obtain ⟨kp2, ⟨q, l1, l2, K2, f1, x1, f2, x2, hr, hc1, hc2, hK2, rfl, rk1, rk2, st2⟩ | ⟨x, hr, rfl⟩⟩ := hh.cases
    case inr => exact ⟨rfl, BEnds.bad (by rw [E0.out, hr]) (KP1.out.trans kp2)⟩
    case inl =>
      have e1 := E0.out
      rw [hr] at e1
      have e2 : R0 = toldF l1 l2 b most (8 * b.length + 1) q out := e1
      have hto := told_any K2 N w2 sb vb b q out most _ l1 l2 f1 x1 f2 x2 hc1 hc2 rk1 rk2 st2
      rw [← e2] at hto
      have HKK := Box'.mk hK2
      have HF5 := Box'.mk ((HF1.out.keep kp2).more hK2)
      have KP5 := Box'.mk (KP1.out.trans kp2)
      clear e1 e2 hr hh rk1 rk2 st2 kp2 hK2 hc1 hc2 E0
      go_wp2_with fail
      refine hto.mono ?_
      clear hto
      intro e w6 hh
      obtain ⟨kp6, ⟨q, o, hr, rfl, st6⟩ | ⟨x, hr, rfl⟩⟩ := hh.cases
      · have RES := Box'.mk (hh.block HKK.out KP5.out HF5.out)
        clear hh kp6 st6 hr
        go_wp2_with fail
        exact ⟨rfl, _, results29 _ _, RES.out⟩
      · exact ⟨rfl, hh.block HKK.out KP5.out HF5.out⟩
  · have e0 : R0 = .error 8 := DFB.out
    have hf := fail_any 8 w1
    have E0 := Box'.mk e0
    clear DFB e0
    go_wp2_with fail
    refine hf.mono ?_
    rintro e w' ⟨rfl, rfl⟩
    exact ⟨rfl, BEnds.bad E0.out KP1.out⟩
end Go.Proofs.Ytbnghmeeddjaoaa
