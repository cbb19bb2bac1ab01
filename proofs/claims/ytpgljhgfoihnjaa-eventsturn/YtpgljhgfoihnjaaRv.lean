/- The walk of the reference's ReadEvents. -/
import Derived.Test.YtpgljhgfoihnjaaRk1
import Derived.Test.YtpgljhgfoihnjaaRk2
import Derived.Test.YtpgljhgfoihnjaaRk3
import Derived.Test.YtpgljhgfoihnjaaRk4
import Derived.Test.YtpgljhgfoihnjaaRko
import Derived.Test.YtpgljhgfoihnjaaU
import Derived.Test.YtpgljhgfoihnjaaO
import Derived.Test.YtpgljhgfoihnjaaE
import Derived.Test.YtpgljhgfoihnjaaFa
import Derived.Test.YtpgljhgfoihnjaaH
import Derived.Test.YtpgljhgfoihnjaaN
import Derived.Test.YtpgljhgfoihnjaaOz
import Derived.Test.YtpgljhgfoihnjaaR
import Derived.Test.YtpgljhgfoihnjaaS
import Derived.Test.YtpgljhgfoihnjaaT
import Derived.Test.YtpgljhgfoihnjaaY
import Derived.Test.YtpgljhgfoihnjaaEd
import Derived.Test.YtpgljhgfoihnjaaEa
import Derived.Test.YtpgljhgfoihnjaaEb
import Derived.Test.YtpgljhgfoihnjaaEc
import Derived.Test.YtpgljhgfoihnjaaRf
namespace Go.Proofs.Ytpgljhgfoihnjaa
open Go.RowKit Go.BigFrame
set_option maxRecDepth 100000
set_option linter.unusedSimpArgs false

theorem refEvent_any (N : Nat) (w : World) (rb : Nat) (l : List UInt8) (h : RSt N w rb (.ok l)) : Calls Try.prog 44 #[.pointer (some ⟨rb, 0, none⟩)] w (VEnd N rb w (evR l)) := by
  cases l with
  | nil => exact refEvent_n N w rb h
  | cons k t =>
    by_cases h1 : k.toNat = 1
    · exact refEvent_1 N w rb k t h1 h
    by_cases h2 : k.toNat = 2
    · exact refEvent_2 N w rb k t h2 h
    by_cases h3 : k.toNat = 3
    · exact refEvent_3 N w rb k t h3 h
    by_cases h4 : k.toNat = 4
    · exact refEvent_4 N w rb k t h4 h
    · exact refEvent_o N w rb k t ⟨h1, h2, h3, h4⟩ h
/-- What the reference's ReadEvents comes to. -/
def rvE (r : Except Int (List Ev × List UInt8)) : List Ev × Int := match r with
  | .error x => ([], x)
  | .ok (xs, []) => (xs, 0)
  | .ok (_, _ :: _) => ([], 8)
theorem rdW_rv (l : List UInt8) : rdW l = rvE (evsR l) := by
  unfold rdW rvE
  cases evsR l with
  | error x => rfl
  | ok p =>
    obtain ⟨xs, r⟩ := p
    cases r <;> rfl
theorem rv_end (xs : List Ev) (l : List UInt8) : rvE (.ok (xs, l)) = if endE (.ok l) = 0 then (xs, 0) else ([], endE (.ok l)) := by
  cases l <;> simp [rvE, endE]
theorem RSt.row {N : Nat} {w : World} {rb : Nat} {st : Except Int (List UInt8)} (h : RSt N w rb st) : ∃ c, Row w rb 70 c := by
  obtain ⟨_, _, h3⟩ := h
  cases st with
  | ok l => obtain ⟨v, r, _⟩ := h3; exact ⟨_, r⟩
  | error x => obtain ⟨_, v, r⟩ := h3; exact ⟨_, r⟩
theorem OwnE.gbr {M rb : Nat} {w w' : World} {v : Value} {l : List (Ev × Value)} {c : Array Value} (h : OwnE M w v l) (r : Row w rb 70 c) (g : Gb rb w w') : OwnE M w' v l := by
  refine h.same (fun k hk => ?_) fun p hp => (h.own p hp).same fun k hk => ?_
  · obtain ⟨_, cur, r2⟩ := h.lt k hk
    refine g.block k r2.lt fun e => ?_
    injection e with e
    subst e
    unfold Row at r r2
    rw [r] at r2
    simp at r2
  · obtain ⟨_, cur, r2⟩ := (h.own p hp).lt k hk
    refine g.block k r2.lt fun e => ?_
    injection e with e
    subst e
    unfold Row at r r2
    rw [r] at r2
    simp at r2
theorem RSt.same {N : Nat} {w w' : World} {rb : Nat} {st : Except Int (List UInt8)} (h : RSt N w rb st) (hb : Below N w w') (hr : w'.heap[rb]? = w.heap[rb]?) (hz : w.heap.size ≤ w'.heap.size) : RSt N w' rb st := by
  obtain ⟨h1, h2, h3⟩ := h
  refine ⟨h1, by omega, ?_⟩
  cases st with
  | ok l => obtain ⟨v, r, i, q⟩ := h3; exact ⟨v, r.same hr, i.below hb (Nat.le_refl _), q⟩
  | error x => obtain ⟨q, v, r⟩ := h3; exact ⟨q, v, r.same hr⟩
set_option maxRecDepth 100000 in
set_option maxHeartbeats 8000000 in
theorem refReadEvents_any (w : World) (v : Value) (l : List UInt8) (hl : l.length ≤ 140737488351232) (h : InB w.heap.size w v l) :
    Calls Try.prog 27 #[v] w (EEnd w (rdE l)) := by
  rw [rdE_eq]
  by_cases hq : 65536 < l.length
  · rw [if_pos hq]
    obtain ⟨a, c, rfl, _⟩ := h.slice
    clear h
    generalize l.length = n at *
    go_enter Try.func27, Try.ntmps27
    go_wp2_with fail
    go_ret2
    exact ⟨_, [], rfl, rfl, OwnE.nil _ _, Below.refl _ _⟩
  · rw [if_neg hq, rdW_rv]
    have HB := Box'.mk (evsR.eq_1 l)
    obtain ⟨w0, hw0⟩ : ∃ w0, w0 = w.alloc (.cells #[v, .int .i64 0] 70) := ⟨_, rfl⟩
    have b0 : Below w.heap.size w w0 := by rw [hw0]; exact (Below.refl _ _).alloc (Nat.le_refl _) _
    have s0 : RSt w.heap.size w0 w.heap.size (.ok l) := ⟨Nat.le_refl _, by rw [hw0]; simp, v, by rw [hw0]; exact Row.new _ _ _, h.below b0 (Nat.le_refl _), hl⟩
    have nm := refNum_any _ _ _ _ s0
    have NV : Box' (∀ x, numF l = .error x → numV (.ok l) = 0 ∧ numS (.ok l) = .error x) := ⟨fun x e => by simp [numV, numS, e]⟩
    have NW : Box' (∀ n t, numF l = .ok (n, t) → numV (.ok l) = n ∧ numS (.ok l) = .ok t) := ⟨fun n t e => by simp [numV, numS, e]⟩
    generalize evsR l = R at *
    generalize numV (.ok l) = n at *
    generalize numS (.ok l) = S1 at *
    have B0 := Box'.mk b0
    have HZ0 : Box' (w.heap.size < w0.heap.size) := ⟨s0.2.1⟩
    obtain ⟨a, c, rfl, _⟩ := h.slice
    rw [hw0] at nm
    have CS : Box' ((∃ x, n = 0 ∧ S1 = .error x ∧ R = .error x) ∨ ∃ t, S1 = .ok t ∧ R = if 4096 < n then .error 8 else evlR n t) := ⟨by
      cases hn : numF l with
      | error x => obtain ⟨q1, q2⟩ := NV.out x hn; exact .inl ⟨x, q1, q2, by rw [HB.out, hn]⟩
      | ok p => obtain ⟨q1, q2⟩ := NW.out p.1 p.2 hn; exact .inr ⟨p.2, q2, by rw [HB.out, hn, q1]⟩⟩
    clear h b0 s0 NV NW HB
    generalize l.length = ln at *
    go_enter Try.func27, Try.ntmps27
    go_wp2_with fail
    refine nm.mono ?_
    rw [← hw0]
    rintro e w1 ⟨rfl, s1, g1⟩
    clear nm hw0
    have G1 := Box'.mk g1
    clear g1
    rcases CS.out with ⟨x, hn0, rfl, hR⟩ | ⟨t, rfl, hR⟩
    · -- an error at once
      subst hn0
      have HR := Box'.mk hR
      have S1 := Box'.mk s1
      obtain ⟨h1, h2, hx, v1, r1⟩ := s1
      have k1 : w1.cell? ⟨w.heap.size, 1, none⟩ = some (.int .i64 x) := by rw [r1.cell]; rfl
      have hx0 : (x == 0) = false := by simpa using hx
      have hx1 : (x != 0) = true := by simpa using hx
      have ee := refEnd_any _ _ _ _ S1.out
      have ee' : Calls Try.prog 45 #[.pointer (some ⟨w.heap.size, 0, none⟩)] w1 fun e w' => e = .returned (.int .i64 x) ∧ Gb w.heap.size w1 w' := ee
      clear CS r1 h1 h2 hR hx ee
      go_wp2_with fail
      go_loopw [6, 7] (fun u i wr => u = .slice none 0 0 ∧ i = .int .u64 0 ∧ wr = w1) (fun _ _ _ => 0)
      case atStart => exact ⟨rfl, rfl, rfl⟩
      case round =>
        obtain ⟨rfl, rfl, rfl⟩ := hrel
        go_wp2_with fail
        refine ee'.mono ?_
        rintro e w2 ⟨rfl, g2⟩
        have BF : Below w.heap.size w w2 := B0.out.trans ((G1.out.trans g2).on (Nat.le_refl _) B0.out.size)
        clear ee' g2 k1
        go_wp2_with fail
        go_ret2
        exact ⟨_, [], by rw [HR.out]; rfl, by rw [HR.out]; rfl, OwnE.nil _ _, BF⟩
    · by_cases hgt : 4096 < n
      · have e8 : R = .error 8 := by rw [hR, if_pos hgt]
        have HR := Box'.mk e8
        obtain ⟨h1, h2, v1, r1, i1, hl1⟩ := s1
        have k1 : w1.cell? ⟨w.heap.size, 1, none⟩ = some (.int .i64 0) := by rw [r1.cell]; rfl
        have f1 := r1.frozen 1
        have s8 : RSt w.heap.size (w1.setCell ⟨w.heap.size, 1, none⟩ (.int .i64 8)) w.heap.size (.error 8) := RSt.err (Nat.le_refl _) r1 8 (by decide)
        have ee := refEnd_any _ _ _ _ s8
        have G8 := Box'.mk (G1.out.setCell 1 (.int .i64 8))
        have k8 : (w1.setCell ⟨w.heap.size, 1, none⟩ (.int .i64 8)).cell? ⟨w.heap.size, 1, none⟩ = some (.int .i64 8) := by obtain ⟨_, _, _, v8, r8⟩ := s8; rw [r8.cell]; rfl
        have ee' : Calls Try.prog 45 #[.pointer (some ⟨w.heap.size, 0, none⟩)] (w1.setCell ⟨w.heap.size, 1, none⟩ (.int .i64 8)) fun e w' => e = .returned (.int .i64 8) ∧ Gb w.heap.size (w1.setCell ⟨w.heap.size, 1, none⟩ (.int .i64 8)) w' := ee
        clear CS r1 h1 h2 i1 hl1 hR e8 ee s8
        go_wp2_with fail
        generalize w1.setCell ⟨w.heap.size, 1, none⟩ (.int .i64 8) = w8 at *
        go_loopw [6, 7] (fun u i wr => u = .slice none 0 0 ∧ i = .int .u64 0 ∧ wr = w8) (fun _ _ _ => 0)
        case atStart => exact ⟨rfl, rfl, rfl⟩
        case round =>
          obtain ⟨rfl, rfl, rfl⟩ := hrel
          go_wp2_with fail
          refine ee'.mono ?_
          rintro e w2 ⟨rfl, g2⟩
          have BF : Below w.heap.size w w2 := B0.out.trans ((G8.out.trans g2).on (Nat.le_refl _) B0.out.size)
          clear ee' g2 k8
          go_wp2_with fail
          go_ret2
          exact ⟨_, [], by rw [HR.out]; rfl, by rw [HR.out]; rfl, OwnE.nil _ _, BF⟩
      · have hR2 : R = apd [] (evlR n t) := by rw [hR, if_neg hgt, apd_nil]
        have HR := Box'.mk hR2
        have hn : n ≤ 4096 := by omega
        have S1 := Box'.mk s1
        have k1 : w1.cell? ⟨w.heap.size, 1, none⟩ = some (.int .i64 0) := by obtain ⟨_, _, v1, r1, _⟩ := s1; rw [r1.cell]; rfl
        clear CS hR hR2 s1
        go_wp2_with fail
        go_loopw [6, 7] (fun u i wr => ∃ (k : Nat) (ps : List (Ev × Value)) (st : Except Int (List UInt8)), i = .int .u64 (k : Int) ∧ k ≤ n ∧ Box' (ps.length = k) ∧ Box' (match st with | .error x => R = .error x | .ok lk => R = apd (ps.map (·.1)) (evlR (n - k) lk)) ∧ Box' (OwnE w0.heap.size wr u ps) ∧ Box' (RSt w.heap.size wr w.heap.size st) ∧ Box' (Gb w.heap.size w0 wr)) (fun _ i _ => n - (intOf i).toNat)
        case atStart => exact ⟨0, [], .ok t, rfl, by omega, ⟨rfl⟩, HR, ⟨OwnE.nil _ _⟩, S1, G1⟩
        case round =>
          clear HR S1 G1 k1
          obtain ⟨k, ps, st, rfl, hk, HLN, HR, OE, ST, GB⟩ := hrel
          obtain ⟨ao, co, rfl⟩ := OE.out.slice
          have hzz : w.heap.size ≤ w0.heap.size := B0.out.size
          have ENDC : Box' (∀ e2, e2 = endE st → ∀ w2, Gb w.heap.size wr w2 → Below w.heap.size w w2 ∧ OwnE w.heap.size w2 (.slice ao ps.length co) ps) := ⟨fun e2 _ w2 g2 => by
            refine ⟨B0.out.trans ((GB.out.trans g2).on (Nat.le_refl _) B0.out.size), ?_⟩
            obtain ⟨c, rc⟩ := ST.out.row
            have o2 := OE.out.gbr rc g2
            refine ⟨⟨o2.row.1, ?_⟩, fun p hp => (o2.own p hp).less hzz, o2.dis⟩
            rcases o2.row.2 with q | ⟨g, cap, cur, q1, q2, q3⟩
            · exact .inl q
            · exact .inr ⟨g, cap, cur, q1, Nat.le_trans hzz q2, q3⟩⟩
          have ee := refEnd_any _ _ _ _ ST.out
          cases st with
          | error x =>
            have hRx : R = .error x := HR.out
            obtain ⟨h1, h2, hx, v1, r1⟩ := ST.out
            have kk1 : wr.cell? ⟨w.heap.size, 1, none⟩ = some (.int .i64 x) := by rw [r1.cell]; rfl
            have hx0 : (x == 0) = false := by simpa using hx
            have hx1 : (x != 0) = true := by simpa using hx
            have HRX := Box'.mk hRx
            have ee' : Calls Try.prog 45 #[.pointer (some ⟨w.heap.size, 0, none⟩)] wr fun e w' => e = .returned (.int .i64 x) ∧ Gb w.heap.size wr w' := ee
            clear ee hRx r1 h1 h2 hx HR OE ST
            generalize hpl : ps.length = pl at ENDC HLN ⊢
            clear hpl HLN
            by_cases hlt : k < n
            · go_wp2_with fail
              refine ee'.mono ?_
              rintro e w2 ⟨rfl, g2⟩
              have BF := (ENDC.out _ rfl w2 g2).1
              clear ee' g2 kk1 ENDC
              go_wp2_with fail
              go_ret2
              exact ⟨_, [], by rw [HRX.out]; rfl, by rw [HRX.out]; rfl, OwnE.nil _ _, BF⟩
            · go_wp2_with fail
              refine ee'.mono ?_
              rintro e w2 ⟨rfl, g2⟩
              have BF := (ENDC.out _ rfl w2 g2).1
              clear ee' g2 kk1 ENDC
              go_wp2_with fail
              go_ret2
              exact ⟨_, [], by rw [HRX.out]; rfl, by rw [HRX.out]; rfl, OwnE.nil _ _, BF⟩
          | ok lk =>
            have hRx : R = apd (ps.map (·.1)) (evlR (n - k) lk) := HR.out
            have HRX := Box'.mk hRx
            have kk1 : wr.cell? ⟨w.heap.size, 1, none⟩ = some (.int .i64 0) := by obtain ⟨_, _, v1, r1, _⟩ := ST.out; rw [r1.cell]; rfl
            clear hRx HR
            by_cases hlt : k < n
            · obtain ⟨m, hm⟩ : ∃ m, n - k = m + 1 := ⟨n - k - 1, by omega⟩
              have HM := Box'.mk hm
              have ev := refEvent_any _ wr _ lk ST.out
              clear hm ee ENDC
              generalize hpl : ps.length = pl at OE ⊢
              have HPL := Box'.mk hpl
              clear hpl
              go_wp2_with fail
              refine ev.mono ?_
              rintro e w2 ⟨x, vb, rfl, ob, s2, hxe, g2⟩
              have HR2 : Box' (match stOf (evR lk) with | .error y => R = .error y | .ok l2 => R = apd ((ps ++ [(x, vb)]).map (·.1)) (evlR (n - (k + 1)) l2)) := ⟨by
                cases hr : evR lk with
                | error y => show R = .error y; rw [HRX.out, HM.out, apd_bad hr]
                | ok p =>
                  obtain ⟨y, l2⟩ := p
                  have hy := hxe y l2 hr
                  subst hy
                  show R = _
                  have : n - (k + 1) = m := by have := HM.out; omega
                  rw [HRX.out, HM.out, apd_step hr, List.map_append, this]
                  rfl⟩
              generalize stOf (evR lk) = ST2 at *
              obtain ⟨cr, rc⟩ := ST.out.row
              have oe2 := OE.out.gbr rc g2
              obtain ⟨w3, hw3⟩ : ∃ w3, w3 = w2.alloc (.cells (evC x vb).toArray 48) := ⟨_, rfl⟩
              have b3 : Below w2.heap.size w2 w3 := by rw [hw3]; exact (Below.refl _ _).alloc (Nat.le_refl _) _
              have r3 : Row w3 w2.heap.size 48 (evC x vb).toArray := by rw [hw3]; exact Row.new _ _ _
              have oe3 := oe2.below b3
              have ob3 : OwnB w0.heap.size w3 vb x.byt := (ob.less GB.out.size).below b3
              have hdis : ∀ p ∈ ps, ∀ g, p.2.ownBlock = some g → vb.ownBlock ≠ some g := fun p hp g hg hv => by
                obtain ⟨_, cur, rp⟩ := (OE.out.own p hp).lt g hg
                have := rp.lt
                have := (ob.lt g hv).1
                omega
              have hz3 : w0.heap.size ≤ w3.heap.size := Nat.le_trans GB.out.size (Nat.le_trans g2.size b3.size)
              have hmx : ps.length + 1 ≤ 100000 := by have := HLN.out; omega
              have NX : Box' (∀ v' w', OwnE w0.heap.size w' v' (ps ++ [(x, vb)]) → w3.grownBy w' (Value.slice ao pl co).ownBlock → RSt w.heap.size w' w.heap.size ST2 ∧ Gb w.heap.size w0 w') := ⟨fun v' w' _ g => by
                have s3 := s2.below b3
                have hz0 : w.heap.size < w0.heap.size := by
                  have := ST.out.2.1
                  have hq := GB.out.size
                  rcases Nat.lt_or_ge w.heap.size w0.heap.size with q | q
                  · exact q
                  · exfalso; have := HZ0.out; omega
                have hlow : Below w.heap.size w3 w' := ⟨g.os, g.tape, g.output, g.size, fun k hk => g.block k (by omega) fun e => by
                  have h1 := (oe3.lt k e.symm).1
                  omega⟩
                refine ⟨s3.same hlow (g.block _ s3.2.1 fun e => by have h1 := (oe3.lt _ e.symm).1; omega) g.size, ?_⟩
                have gg := (GB.out.trans g2).trans (Gb.below b3)
                exact ⟨g.os.trans gg.os, g.tape.trans gg.tape, g.output.trans gg.output, Nat.le_trans gg.size g.size, fun k hk hn => (g.block k (Nat.lt_of_lt_of_le hk gg.size) fun e => by
                  have h1 := (oe3.lt k e.symm).1
                  omega).trans (gg.block k hk hn)⟩⟩
              have OE3 := Box'.mk oe3
              have R3 := Box'.mk r3
              have OB3 := Box'.mk ob3
              have HDI := Box'.mk hdis
              have LNX : Box' ((ps ++ [(x, vb)]).length = k + 1) := ⟨by rw [List.length_append]; have := HLN.out; simp; omega⟩
              clear ev oe2 oe3 r3 ob3 hdis g2 s2 ob b3 HRX OE ST hxe rc kk1
              rw [hw3] at OE3 R3 OB3 hz3 NX
              clear hw3
              unfold Ev.val
              obtain ⟨xk, xl, xc, xr, xa⟩ := x
              simp only [evC] at OE3 R3 OB3 hz3 NX ⊢
              go_wp2_with (refine wpList_appEv rfl (.tmp 41) (.tmp 44) rfl w0.heap.size hz3 _ ps rfl OE3.out ⟨xk, xl, xc, xr, xa⟩ vb OB3.out HDI.out _ _ rfl R3.out hmx ?_; intro v4 w4 o4 g4; obtain ⟨rd4, gb4⟩ := NX.out v4 w4 o4 g4; have O4 := Box'.mk o4; have RD4 := Box'.mk rd4; have GB4 := Box'.mk gb4; clear OE3 R3 OB3 NX HDI o4 rd4 gb4 g4)
              exact ⟨⟨k + 1, ps ++ [(⟨xk, xl, xc, xr, xa⟩, vb)], ST2, by go_num, by omega, LNX, HR2, O4, RD4, GB4⟩, by simp [intOf]; omega⟩
            · obtain rfl : k = n := by omega
              have RE : Box' (rvE R = if endE (.ok lk) = 0 then (ps.map (·.1), 0) else ([], endE (.ok lk))) := ⟨by rw [HRX.out, Nat.sub_self, evlR, apd, List.append_nil, rv_end]⟩
              generalize endE (.ok lk) = er at *
              generalize hpl : ps.length = pl at ENDC ⊢
              clear HLN hpl OE ST HRX
              go_wp2_with fail
              refine ee.mono ?_
              rintro e w2 ⟨rfl, g2⟩
              obtain ⟨BF, OF⟩ := ENDC.out _ rfl w2 g2
              clear ee g2 kk1 ENDC
              by_cases he : er = 0
              · have RE2 : Box' (rvE R = (ps.map (·.1), 0)) := ⟨by rw [RE.out, if_pos he]⟩
                subst he
                clear RE
                go_wp2_with fail
                go_ret2
                exact ⟨_, ps, by rw [RE2.out]; rfl, by rw [RE2.out], OF, BF⟩
              · have RE2 : Box' (rvE R = ([], er)) := ⟨by rw [RE.out, if_neg he]⟩
                have he' : (er != 0) = true := by simpa using he
                clear RE
                go_wp2_with fail
                go_ret2
                exact ⟨_, [], by rw [RE2.out]; rfl, by rw [RE2.out]; rfl, OwnE.nil _ _, BF⟩
end Go.Proofs.Ytpgljhgfoihnjaa
