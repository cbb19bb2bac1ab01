/- The walk of the reference's event, a kind by itself. -/
import Derived.Test.YtpgljhgfoihnjaaRf
import Derived.Deep.Cut
import Derived.Test.YtpgljhgfoihnjaaU
import Derived.Test.YtpgljhgfoihnjaaO
import Derived.Test.YtpgljhgfoihnjaaE
import Derived.Test.YtpgljhgfoihnjaaFa
import Derived.Test.YtpgljhgfoihnjaaH
import Derived.Test.YtpgljhgfoihnjaaN
import Derived.Test.YtpgljhgfoihnjaaOz
import Derived.Test.YtpgljhgfoihnjaaR
import Derived.Test.YtpgljhgfoihnjaaS
import Derived.Test.YtpgljhgfoihnjaaT
import Derived.Test.YtpgljhgfoihnjaaY
import Derived.Test.YtpgljhgfoihnjaaEd
import Derived.Test.YtpgljhgfoihnjaaEa
import Derived.Test.YtpgljhgfoihnjaaEb
import Derived.Test.YtpgljhgfoihnjaaEc
namespace Go.Proofs.Ytpgljhgfoihnjaa
open Go.RowKit Go.BigFrame
set_option maxRecDepth 100000
set_option linter.unusedSimpArgs false
set_option linter.unusedVariables false

set_option maxRecDepth 100000 in
set_option maxHeartbeats 4000000 in
theorem refEvent_4 (N : Nat) (w : World) (rb : Nat) (k : UInt8) (t : List UInt8) (hk : k.toNat = 4) (h : RSt N w rb (.ok (k :: t))) :
    Calls Try.prog 44 #[.pointer (some ⟨rb, 0, none⟩)] w (VEnd N rb w (evR (k :: t))) := by
  have HH := Box'.mk h
  obtain ⟨w0, hw0⟩ : ∃ w0, w0 = (w.alloc (.cells #[.int .u8 0, .slice none 0 0, .int .i64 0, .int .i64 0, .int .u8 0] 48)).alloc (.cells #[.int .u8 0, .slice none 0 0, .int .i64 0, .int .i64 0, .int .u8 0] 48) := ⟨_, rfl⟩
  have b0 : Below w.heap.size w w0 := by rw [hw0]; exact ((Below.refl _ _).alloc (Nat.le_refl _) _).alloc (by simp) _
  have ri : Row w0 w.heap.size 48 #[.int .u8 0, .slice none 0 0, .int .i64 0, .int .i64 0, .int .u8 0] := by rw [hw0]; exact (Row.new _ _ _).alloc _
  have rx : Row w0 (w.heap.size + 1) 48 #[.int .u8 0, .slice none 0 0, .int .i64 0, .int .i64 0, .int .u8 0] := by rw [hw0]; exact Row.made _ 48 _ _ _ rfl (by simp)
  obtain ⟨h1, h2, v, r, hi, hl⟩ := h
  have r0 := r.below b0 r.lt
  have c0 : w0.cell? ⟨rb, 0, none⟩ = some v := by rw [r0.cell]; rfl
  have c1 : w0.cell? ⟨rb, 1, none⟩ = some (.int .i64 0) := by rw [r0.cell]; rfl
  have fr0 := r0.frozen 0
  have fr1 := r0.frozen 1
  have hi0 := hi.below b0 (by omega)
  have RI := Box'.mk ri
  have RX := Box'.mk rx
  have RR := Box'.mk r0
  have B0 := Box'.mk b0
  have NE : Box' (w.heap.size ≠ rb ∧ w.heap.size + 1 ≠ rb ∧ N ≤ w.heap.size ∧ N ≤ w.heap.size + 1 ∧ w.heap.size ≠ w.heap.size + 1) := ⟨by omega, by omega, by omega, by omega, by omega⟩
  have HN := Box'.mk h1
  · rcases inB_cut hi0 (show 1 ≤ (k :: t).length by simp) with ⟨-, e⟩ | ⟨b, o, c, rfl, hlc, q2, q3, -⟩
    · cases e
    have cb : w0.cell? ⟨b, o, none⟩ = some (.int .u8 (k.toNat : Int)) := by
      obtain ⟨b', o', c', e, _, hcell⟩ := hi0.cell (k := 0) (by simp)
      injection e with e1
      injection e1 with e1
      injection e1 with e1 e2
      subst e1 e2
      have := hcell 0 (by simp)
      simpa using this
    have hbN : b < N := by
      obtain ⟨b', o', c', e, hb', _⟩ := hi0.cell (k := 0) (by simp)
      injection e with e1
      injection e1 with e1
      injection e1 with e1 e2
      omega
    have hlt : t.length ≤ 140737488351232 := by simp at hl; omega
    have hlc' : t.length + 1 ≤ c := by simpa using hlc
    rw [List.drop_one, List.tail_cons] at q2 q3
    simp only [List.length_cons, Nat.add_sub_cancel] at q2 q3 c0
    have BX : Box' (b ≠ w.heap.size ∧ b ≠ w.heap.size + 1 ∧ b ≠ rb) := ⟨by omega, by omega, by omega⟩
    obtain ⟨wk, hwk⟩ : ∃ wk, wk = (w.alloc (.cells #[.int .u8 0, .slice none 0 0, .int .i64 0, .int .i64 0, .int .u8 0] 48)).alloc (.cells #[.int .u8 (k.toNat : Int), .slice none 0 0, .int .i64 0, .int .i64 0, .int .u8 0] 48) := ⟨_, rfl⟩
    have bk : Below w.heap.size w wk := by rw [hwk]; exact ((Below.refl _ _).alloc (Nat.le_refl _) _).alloc (by simp) _
    have rik : Row wk w.heap.size 48 #[.int .u8 0, .slice none 0 0, .int .i64 0, .int .i64 0, .int .u8 0] := by rw [hwk]; exact (Row.new _ _ _).alloc _
    have rxk : Row wk (w.heap.size + 1) 48 #[.int .u8 (k.toNat : Int), .slice none 0 0, .int .i64 0, .int .i64 0, .int .u8 0] := by rw [hwk]; exact Row.made _ 48 _ _ _ rfl (by simp)
    have rrk := r.below bk r.lt
    have ck0 : wk.cell? ⟨rb, 0, none⟩ = some (.slice (some ⟨b, o, none⟩) (t.length + 1) c) := by rw [rrk.cell]; rfl
    have ck1 : wk.cell? ⟨rb, 1, none⟩ = some (.int .i64 0) := by rw [rrk.cell]; rfl
    have fk0 := rrk.frozen 0
    have fk1 := rrk.frozen 1
    have xk0 : wk.cell? ⟨w.heap.size + 1, 0, none⟩ = some (.int .u8 (k.toNat : Int)) := by rw [rxk.cell]; rfl
    have FST : Box' (∀ v', InB N w0 v' t → Row (wk.setCell ⟨rb, 0, none⟩ v') (w.heap.size + 1) 48 #[.int .u8 (k.toNat : Int), .slice none 0 0, .int .i64 0, .int .i64 0, .int .u8 0] ∧ Row (wk.setCell ⟨rb, 0, none⟩ v') w.heap.size 48 #[.int .u8 0, .slice none 0 0, .int .i64 0, .int .i64 0, .int .u8 0] ∧ Row (wk.setCell ⟨rb, 0, none⟩ v') rb 70 #[v', .int .i64 0] ∧ RSt N (wk.setCell ⟨rb, 0, none⟩ v') rb (.ok t) ∧ Gb rb w (wk.setCell ⟨rb, 0, none⟩ v') ∧ InB N (wk.setCell ⟨rb, 0, none⟩ v') v' t) := ⟨fun v' hv' => by
      have iv : InB N wk v' t := by
        rcases hv' with hv' | ⟨bb, oo, cc, e1, e2, e3, e4⟩
        · exact .inl hv'
        · refine .inr ⟨bb, oo, cc, e1, e2, e3, fun j u hu => ?_⟩
          have := e4 j u hu
          rcases e3 with rfl | e3
          · simp at hu
          · rw [b0.cell (p := ⟨bb, oo + j, none⟩) (by show bb < w.heap.size; omega)] at this
            rw [bk.cell (p := ⟨bb, oo + j, none⟩) (by show bb < w.heap.size; omega)]
            exact this
      exact ⟨rxk.setOther _ _ NE.out.2.1, rik.setOther _ _ NE.out.1, rrk.setCell 0 _, RSt.turn h1 rrk v' t iv hlt, (Gb.below (g := rb) bk).setCell 0 v', iv.below (M := N) ((Below.refl _ _).setCell (p := ⟨rb, 0, none⟩) h1 v') (Nat.le_refl _)⟩⟩
    have x0 : w0.cell? ⟨w.heap.size + 1, 0, none⟩ = some (.int .u8 0) := by rw [rx.cell]; rfl
    have fx0 := rx.frozen 0
    have HTL := Box'.mk hlt
    clear hi hi0 r r0 ri rx b0 hl h2 RI RX RR B0 HH bk rik rxk rrk
    rw [hw0] at c0 c1 fr0 fr1 cb x0 fx0
    rw [hwk] at ck0 ck1 fk0 fk1 xk0
    clear hw0
    by_cases hc1 : c = 1
    · subst hc1
      have IV := Box'.mk (q3 rfl)
      clear q2 q3
      obtain ⟨rx3, ri3, rr3, st3, g3, i3⟩ := FST.out _ IV.out
      obtain ⟨w3, hw3⟩ : ∃ w3, w3 = wk.setCell ⟨rb, 0, none⟩ (.slice (some ⟨b, o, none⟩) 0 0) := ⟨_, rfl⟩
      rw [← hw3] at rx3 ri3 rr3 st3 g3 i3
      have G3 := Box'.mk g3
      have RX3 := Box'.mk rx3
      have RI3 := Box'.mk ri3
      have RR3 := Box'.mk rr3
      have ST3 := Box'.mk st3
      have I3 := Box'.mk i3
      have y0 : w3.cell? ⟨w.heap.size + 1, 0, none⟩ = some (.int .u8 (k.toNat : Int)) := by rw [rx3.cell]; rfl
      rw [hw3, hwk] at y0
      clear FST IV rx3 ri3 rr3 st3 g3 i3
      · have hq1 : ((k.toNat : Int) == 1) = false := by rw [beq_eq_false_iff_ne]; omega
        have hq2 : ((k.toNat : Int) == 2) = false := by rw [beq_eq_false_iff_ne]; omega
        have hq3 : ((k.toNat : Int) == 3) = false := by rw [beq_eq_false_iff_ne]; omega
        have hkq : ((k.toNat : Int) == 4) = true := by rw [beq_iff_eq]; omega
        have HK := Box'.mk hk
        clear hk
        go_enter Try.func44, Try.ntmps44
        go_upto_region 21 with (fail)
        rw [← hwk, ← hw3]
        clear c0 c1 fr0 fr1 cb x0 fx0 ck0 ck1 fk0 fk1 xk0 y0 hwk hw3
        have k0 : w3.cell? ⟨rb, 0, none⟩ = some (.slice (some ⟨b, o, none⟩) 0 0) := by rw [RR3.out.cell]; rfl
        have k1 : w3.cell? ⟨rb, 1, none⟩ = some (.int .i64 0) := by rw [RR3.out.cell]; rfl
        have g0 := RR3.out.frozen 0
        have g1 := RR3.out.frozen 1
        cases t with
        | nil =>
          have EV := Box'.mk (ev_4n HK.out)
          generalize evR [k] = R at *
          have se : stOf R = .error 7 := by rw [EV.out]; rfl
          have hR : ∀ y l, R = .ok (y, l) → y = ⟨k, [], 0, 0, 0⟩ := fun y l e => by rw [EV.out] at e; cases e
          have s8 : RSt N (w3.setCell ⟨rb, 1, none⟩ (.int .i64 7)) rb (.error 7) := RSt.err HN.out RR3.out 7 (by decide)
          have g8 := G3.out.setCell 1 (.int .i64 7)
          have rx8 := RX3.out.setOther ⟨rb, 1, none⟩ (.int .i64 7) NE.out.2.1
          have ri8 := RI3.out.setOther ⟨rb, 1, none⟩ (.int .i64 7) NE.out.1
          rw [← se] at s8
          clear RX3 RI3 RR3 ST3 I3 G3 EV
          try simp only [List.length_nil] at k0
          go_upto_region 23 with (fail)
          clear k0 k1 g0 g1
          generalize w3.setCell ⟨rb, 1, none⟩ (.int .i64 7) = w8 at *
          have m0 : w8.cell? ⟨w.heap.size + 1, 0, none⟩ = some (.int .u8 (k.toNat : Int)) := by rw [rx8.cell]; rfl
          have m1 : w8.cell? ⟨w.heap.size + 1, 1, none⟩ = some (.slice none 0 0) := by rw [rx8.cell]; rfl
          have m2 : w8.cell? ⟨w.heap.size + 1, 2, none⟩ = some (.int .i64 0) := by rw [rx8.cell]; rfl
          have m3 : w8.cell? ⟨w.heap.size + 1, 3, none⟩ = some (.int .i64 0) := by rw [rx8.cell]; rfl
          have m4 : w8.cell? ⟨w.heap.size + 1, 4, none⟩ = some (.int .u8 0) := by rw [rx8.cell]; rfl
          have z0 : w8.cell? ⟨w.heap.size, 0, none⟩ = some (.int .u8 0) := by rw [ri8.cell]; rfl
          have f0 := ri8.frozen 0
          have z1 : w8.cell? ⟨w.heap.size, 1, none⟩ = some (.slice none 0 0) := by rw [ri8.cell]; rfl
          have f1 := ri8.frozen 1
          have z2 : w8.cell? ⟨w.heap.size, 2, none⟩ = some (.int .i64 0) := by rw [ri8.cell]; rfl
          have f2 := ri8.frozen 2
          have z3 : w8.cell? ⟨w.heap.size, 3, none⟩ = some (.int .i64 0) := by rw [ri8.cell]; rfl
          have f3 := ri8.frozen 3
          have z4 : w8.cell? ⟨w.heap.size, 4, none⟩ = some (.int .u8 0) := by rw [ri8.cell]; rfl
          have f4 := ri8.frozen 4
          have LI : LocR rb w w8 N _ w.heap.size (.slice none 0 0) _ := ⟨g8, s8, ⟨_, ri8⟩, (OwnB.nil _ _ : OwnB w.heap.size w8 (.slice none 0 0) []), NE.out.1, NE.out.2.2.1, Nat.le_refl _⟩
          have LF := Box'.mk (((((LI.set 0 (.int .u8 (k.toNat : Int))).set 1 (.slice none 0 0)).set 2 (.int .i64 0)).set 3 (.int .i64 0)).set 4 (.int .u8 0))
          have PF := Box'.mk (put5 (by decide) ri8 (.int .u8 (k.toNat : Int)) (.slice none 0 0) (.int .i64 0) (.int .i64 0) (.int .u8 0)).1
          have HRR := Box'.mk (hR)
          clear LI rx8 ri8 s8 g8 se hR
          go_wp2_with fail
          exact bodyPost_ret (results_row rfl _ w.heap.size rfl _ _ PF.out _ Try.underlying48 rfl 5 Try.size48 rfl) rfl ⟨⟨k, [], 0, 0, 0⟩, _, rfl, LF.out.own, LF.out.rst, HRR.out, LF.out.gb⟩
        | cons a u => exact absurd hlc' (by simp)
    · have IV := Box'.mk (q2 hc1)
      clear q2 q3
      obtain ⟨rx3, ri3, rr3, st3, g3, i3⟩ := FST.out _ IV.out
      obtain ⟨w3, hw3⟩ : ∃ w3, w3 = wk.setCell ⟨rb, 0, none⟩ (.slice (some ⟨b, o + 1, none⟩) t.length (c - 1)) := ⟨_, rfl⟩
      rw [← hw3] at rx3 ri3 rr3 st3 g3 i3
      have G3 := Box'.mk g3
      have RX3 := Box'.mk rx3
      have RI3 := Box'.mk ri3
      have RR3 := Box'.mk rr3
      have ST3 := Box'.mk st3
      have I3 := Box'.mk i3
      have y0 : w3.cell? ⟨w.heap.size + 1, 0, none⟩ = some (.int .u8 (k.toNat : Int)) := by rw [rx3.cell]; rfl
      rw [hw3, hwk] at y0
      clear FST IV rx3 ri3 rr3 st3 g3 i3
      · have hq1 : ((k.toNat : Int) == 1) = false := by rw [beq_eq_false_iff_ne]; omega
        have hq2 : ((k.toNat : Int) == 2) = false := by rw [beq_eq_false_iff_ne]; omega
        have hq3 : ((k.toNat : Int) == 3) = false := by rw [beq_eq_false_iff_ne]; omega
        have hkq : ((k.toNat : Int) == 4) = true := by rw [beq_iff_eq]; omega
        have HK := Box'.mk hk
        clear hk
        go_enter Try.func44, Try.ntmps44
        go_upto_region 21 with (fail)
        rw [← hwk, ← hw3]
        clear c0 c1 fr0 fr1 cb x0 fx0 ck0 ck1 fk0 fk1 xk0 y0 hwk hw3
        have k0 : w3.cell? ⟨rb, 0, none⟩ = some (.slice (some ⟨b, o + 1, none⟩) t.length (c - 1)) := by rw [RR3.out.cell]; rfl
        have k1 : w3.cell? ⟨rb, 1, none⟩ = some (.int .i64 0) := by rw [RR3.out.cell]; rfl
        have g0 := RR3.out.frozen 0
        have g1 := RR3.out.frozen 1
        cases t with
        | nil =>
          have EV := Box'.mk (ev_4n HK.out)
          generalize evR [k] = R at *
          have se : stOf R = .error 7 := by rw [EV.out]; rfl
          have hR : ∀ y l, R = .ok (y, l) → y = ⟨k, [], 0, 0, 0⟩ := fun y l e => by rw [EV.out] at e; cases e
          have s8 : RSt N (w3.setCell ⟨rb, 1, none⟩ (.int .i64 7)) rb (.error 7) := RSt.err HN.out RR3.out 7 (by decide)
          have g8 := G3.out.setCell 1 (.int .i64 7)
          have rx8 := RX3.out.setOther ⟨rb, 1, none⟩ (.int .i64 7) NE.out.2.1
          have ri8 := RI3.out.setOther ⟨rb, 1, none⟩ (.int .i64 7) NE.out.1
          rw [← se] at s8
          clear RX3 RI3 RR3 ST3 I3 G3 EV
          try simp only [List.length_nil] at k0
          go_upto_region 23 with (fail)
          clear k0 k1 g0 g1
          generalize w3.setCell ⟨rb, 1, none⟩ (.int .i64 7) = w8 at *
          have m0 : w8.cell? ⟨w.heap.size + 1, 0, none⟩ = some (.int .u8 (k.toNat : Int)) := by rw [rx8.cell]; rfl
          have m1 : w8.cell? ⟨w.heap.size + 1, 1, none⟩ = some (.slice none 0 0) := by rw [rx8.cell]; rfl
          have m2 : w8.cell? ⟨w.heap.size + 1, 2, none⟩ = some (.int .i64 0) := by rw [rx8.cell]; rfl
          have m3 : w8.cell? ⟨w.heap.size + 1, 3, none⟩ = some (.int .i64 0) := by rw [rx8.cell]; rfl
          have m4 : w8.cell? ⟨w.heap.size + 1, 4, none⟩ = some (.int .u8 0) := by rw [rx8.cell]; rfl
          have z0 : w8.cell? ⟨w.heap.size, 0, none⟩ = some (.int .u8 0) := by rw [ri8.cell]; rfl
          have f0 := ri8.frozen 0
          have z1 : w8.cell? ⟨w.heap.size, 1, none⟩ = some (.slice none 0 0) := by rw [ri8.cell]; rfl
          have f1 := ri8.frozen 1
          have z2 : w8.cell? ⟨w.heap.size, 2, none⟩ = some (.int .i64 0) := by rw [ri8.cell]; rfl
          have f2 := ri8.frozen 2
          have z3 : w8.cell? ⟨w.heap.size, 3, none⟩ = some (.int .i64 0) := by rw [ri8.cell]; rfl
          have f3 := ri8.frozen 3
          have z4 : w8.cell? ⟨w.heap.size, 4, none⟩ = some (.int .u8 0) := by rw [ri8.cell]; rfl
          have f4 := ri8.frozen 4
          have LI : LocR rb w w8 N _ w.heap.size (.slice none 0 0) _ := ⟨g8, s8, ⟨_, ri8⟩, (OwnB.nil _ _ : OwnB w.heap.size w8 (.slice none 0 0) []), NE.out.1, NE.out.2.2.1, Nat.le_refl _⟩
          have LF := Box'.mk (((((LI.set 0 (.int .u8 (k.toNat : Int))).set 1 (.slice none 0 0)).set 2 (.int .i64 0)).set 3 (.int .i64 0)).set 4 (.int .u8 0))
          have PF := Box'.mk (put5 (by decide) ri8 (.int .u8 (k.toNat : Int)) (.slice none 0 0) (.int .i64 0) (.int .i64 0) (.int .u8 0)).1
          have HRR := Box'.mk (hR)
          clear LI rx8 ri8 s8 g8 se hR
          go_wp2_with fail
          exact bodyPost_ret (results_row rfl _ w.heap.size rfl _ _ PF.out _ Try.underlying48 rfl 5 Try.size48 rfl) rfl ⟨⟨k, [], 0, 0, 0⟩, _, rfl, LF.out.own, LF.out.rst, HRR.out, LF.out.gb⟩
        | cons a u =>
          have EV := Box'.mk (ev_4 (a := a) (t := u) HK.out)
          generalize evR (k :: a :: u) = R at *
          rcases inB_cut I3.out (show 1 ≤ (a :: u).length by simp) with ⟨-, e⟩ | ⟨b2, o2, c2, hv2, hlc2, p2, p3, -⟩
          · cases e
          rw [hv2] at k0 RR3
          have cb2 : w3.cell? ⟨b2, o2, none⟩ = some (.int .u8 (a.toNat : Int)) := by
            obtain ⟨b', o', c', e, _, hcell⟩ := I3.out.cell (k := 0) (by simp)
            rw [hv2] at e
            injection e with e1
            injection e1 with e1
            injection e1 with e1 e2
            subst e1 e2
            have := hcell 0 (by simp)
            simpa using this
          have hul : u.length ≤ 140737488351232 := by have := HTL.out; simp at this; omega
          have hlc3 : u.length + 1 ≤ c2 := by simpa using hlc2
          rw [List.drop_one, List.tail_cons] at p2 p3
          simp only [List.length_cons, Nat.add_sub_cancel] at p2 p3 k0 RR3
          have x4 : w3.cell? ⟨w.heap.size + 1, 4, none⟩ = some (.int .u8 0) := by rw [RX3.out.cell]; rfl
          have fx4 := RX3.out.frozen 4
          have RX4 : Box' (Row (w3.setCell ⟨w.heap.size + 1, 4, none⟩ (.int .u8 (a.toNat : Int))) (w.heap.size + 1) 48 #[.int .u8 (k.toNat : Int), .slice none 0 0, .int .i64 0, .int .i64 0, .int .u8 (a.toNat : Int)]) := ⟨RX3.out.setCell 4 _⟩
          have RI4 := Box'.mk (RI3.out.setOther ⟨w.heap.size + 1, 4, none⟩ (.int .u8 (a.toNat : Int)) NE.out.2.2.2.2)
          have RR4 := Box'.mk (RR3.out.setOther ⟨w.heap.size + 1, 4, none⟩ (.int .u8 (a.toNat : Int)) (Ne.symm NE.out.2.1))
          have G4 := Box'.mk (G3.out.setNew (w.heap.size + 1) 4 (.int .u8 (a.toNat : Int)) (Nat.le_succ _))
          have hbl : Below N w3 (w3.setCell ⟨w.heap.size + 1, 4, none⟩ (.int .u8 (a.toNat : Int))) := (Below.refl _ _).setCell (p := ⟨w.heap.size + 1, 4, none⟩) NE.out.2.2.2.1 _
          have P2 : Box' (c2 ≠ 1 → InB N (w3.setCell ⟨w.heap.size + 1, 4, none⟩ (.int .u8 (a.toNat : Int))) (.slice (some ⟨b2, o2 + 1, none⟩) u.length (c2 - 1)) u) := ⟨fun q => (p2 q).below hbl (Nat.le_refl _)⟩
          have P3 : Box' (c2 = 1 → InB N (w3.setCell ⟨w.heap.size + 1, 4, none⟩ (.int .u8 (a.toNat : Int))) (.slice (some ⟨b2, o2, none⟩) 0 0) u) := ⟨fun q => (p3 q).below hbl (Nat.le_refl _)⟩
          have HUS := Box'.mk hul
          clear RX3 RI3 RR3 ST3 I3 G3 p2 p3 hbl hv2 hlc2
          generalize hun : u.length = un at *
          have HUN := Box'.mk hun
          clear hun
          go_upto_region 25 with (fail)
          clear k0 k1 g0 g1 x4 fx4 cb2
          generalize w3.setCell ⟨w.heap.size + 1, 4, none⟩ (.int .u8 (a.toNat : Int)) = w4 at *
          have k0 : w4.cell? ⟨rb, 0, none⟩ = some (.slice (some ⟨b2, o2, none⟩) (un + 1) c2) := by rw [RR4.out.cell]; rfl
          have g0 := RR4.out.frozen 0
          by_cases hc2 : c2 = 1
          · have IV2 := P3.out hc2
            subst hc2
            have S5 : Box' (RSt N (w4.setCell ⟨rb, 0, none⟩ (.slice (some ⟨b2, o2, none⟩) 0 0)) rb (.ok u)) := ⟨RSt.turn HN.out RR4.out _ u IV2 (by rw [HUN.out]; exact HUS.out)⟩
            have RR5 : Box' (Row (w4.setCell ⟨rb, 0, none⟩ (.slice (some ⟨b2, o2, none⟩) 0 0)) rb 70 #[.slice (some ⟨b2, o2, none⟩) 0 0, .int .i64 0]) := ⟨RR4.out.setCell 0 _⟩
            have RX5 := Box'.mk (RX4.out.setOther ⟨rb, 0, none⟩ (.slice (some ⟨b2, o2, none⟩) 0 0) NE.out.2.1)
            have RI5 := Box'.mk (RI4.out.setOther ⟨rb, 0, none⟩ (.slice (some ⟨b2, o2, none⟩) 0 0) NE.out.1)
            have G5 := Box'.mk (G4.out.setCell 0 (.slice (some ⟨b2, o2, none⟩) 0 0))
            clear RX4 RI4 RR4 G4 P2 P3 IV2
            go_upto_region 26 with (fail)
            clear k0 g0
            generalize w4.setCell ⟨rb, 0, none⟩ (.slice (some ⟨b2, o2, none⟩) 0 0) = w5 at *
            have n0 : w5.cell? ⟨w.heap.size + 1, 0, none⟩ = some (.int .u8 (k.toNat : Int)) := by rw [RX5.out.cell]; rfl
            have n1 : w5.cell? ⟨w.heap.size + 1, 1, none⟩ = some (.slice none 0 0) := by rw [RX5.out.cell]; rfl
            have n2 : w5.cell? ⟨w.heap.size + 1, 2, none⟩ = some (.int .i64 0) := by rw [RX5.out.cell]; rfl
            have n3 : w5.cell? ⟨w.heap.size + 1, 3, none⟩ = some (.int .i64 0) := by rw [RX5.out.cell]; rfl
            have n4 : w5.cell? ⟨w.heap.size + 1, 4, none⟩ = some (.int .u8 (a.toNat : Int)) := by rw [RX5.out.cell]; rfl
            have my : Calls Try.prog 32 #[.agg #[.int .u8 (k.toNat : Int), .slice none 0 0, .int .i64 0, .int .i64 0, .int .u8 (a.toNat : Int)]] w5 fun e w' => e = .returned (.bool (Ev.may ⟨k, [], 0, 0, a⟩)) ∧ Below w5.heap.size w5 w' := refMay_nat k.toNat 0 a.toNat 0 0 none 0 w5
            generalize Ev.may ⟨k, [], 0, 0, a⟩ = MM at *
            go_wp2_with fail
            refine my.mono ?_
            rintro e w6 ⟨rfl, b6⟩
            have rx6 := RX5.out.below b6 RX5.out.lt
            have ri6 := RI5.out.below b6 RI5.out.lt
            have rr6 := RR5.out.below b6 RR5.out.lt
            have s6 := S5.out.below b6
            have g6 := G5.out.trans (Gb.below b6)
            clear my b6 n0 n1 n2 n3 n4 RX5 RI5 RR5 S5 G5
            cases MM with
            | true =>
              have eo : R = .ok (⟨k, [], 0, 0, a⟩, u) := by rw [EV.out]; exact if_pos rfl
              have se : stOf R = .ok u := by rw [eo]; rfl
              have hR : ∀ y l, R = .ok (y, l) → y = ⟨k, [], 0, 0, a⟩ := fun y l e => by rw [eo] at e; injection e with e; injection e with e _; exact e.symm
              rw [← se] at s6
              have m0 : w6.cell? ⟨w.heap.size + 1, 0, none⟩ = some (.int .u8 (k.toNat : Int)) := by rw [rx6.cell]; rfl
              have m1 : w6.cell? ⟨w.heap.size + 1, 1, none⟩ = some (.slice none 0 0) := by rw [rx6.cell]; rfl
              have m2 : w6.cell? ⟨w.heap.size + 1, 2, none⟩ = some (.int .i64 0) := by rw [rx6.cell]; rfl
              have m3 : w6.cell? ⟨w.heap.size + 1, 3, none⟩ = some (.int .i64 0) := by rw [rx6.cell]; rfl
              have m4 : w6.cell? ⟨w.heap.size + 1, 4, none⟩ = some (.int .u8 (a.toNat : Int)) := by rw [rx6.cell]; rfl
              have z0 : w6.cell? ⟨w.heap.size, 0, none⟩ = some (.int .u8 0) := by rw [ri6.cell]; rfl
              have f0 := ri6.frozen 0
              have z1 : w6.cell? ⟨w.heap.size, 1, none⟩ = some (.slice none 0 0) := by rw [ri6.cell]; rfl
              have f1 := ri6.frozen 1
              have z2 : w6.cell? ⟨w.heap.size, 2, none⟩ = some (.int .i64 0) := by rw [ri6.cell]; rfl
              have f2 := ri6.frozen 2
              have z3 : w6.cell? ⟨w.heap.size, 3, none⟩ = some (.int .i64 0) := by rw [ri6.cell]; rfl
              have f3 := ri6.frozen 3
              have z4 : w6.cell? ⟨w.heap.size, 4, none⟩ = some (.int .u8 0) := by rw [ri6.cell]; rfl
              have f4 := ri6.frozen 4
              have LI : LocR rb w w6 N _ w.heap.size (.slice none 0 0) _ := ⟨g6, s6, ⟨_, ri6⟩, (OwnB.nil _ _ : OwnB w.heap.size w6 (.slice none 0 0) []), NE.out.1, NE.out.2.2.1, Nat.le_refl _⟩
              have LF := Box'.mk (((((LI.set 0 (.int .u8 (k.toNat : Int))).set 1 (.slice none 0 0)).set 2 (.int .i64 0)).set 3 (.int .i64 0)).set 4 (.int .u8 (a.toNat : Int)))
              have PF := Box'.mk (put5 (by decide) ri6 (.int .u8 (k.toNat : Int)) (.slice none 0 0) (.int .i64 0) (.int .i64 0) (.int .u8 (a.toNat : Int))).1
              have HRR := Box'.mk (hR)
              clear LI rx6 ri6 rr6 s6 g6 se hR eo EV
              go_wp2_with fail
              exact bodyPost_ret (results_row rfl _ w.heap.size rfl _ _ PF.out _ Try.underlying48 rfl 5 Try.size48 rfl) rfl ⟨⟨k, [], 0, 0, a⟩, _, rfl, LF.out.own, LF.out.rst, HRR.out, LF.out.gb⟩
            | false =>
              have eo : R = .error 8 := by rw [EV.out]; exact if_neg (by decide)
              have se : stOf R = .error 8 := by rw [eo]; rfl
              have hR : ∀ y l, R = .ok (y, l) → y = ⟨k, [], 0, 0, a⟩ := fun y l e => by rw [eo] at e; cases e
              have s8 : RSt N (w6.setCell ⟨rb, 1, none⟩ (.int .i64 8)) rb (.error 8) := RSt.err HN.out rr6 8 (by decide)
              have g8 := g6.setCell 1 (.int .i64 8)
              have rx8 := rx6.setOther ⟨rb, 1, none⟩ (.int .i64 8) NE.out.2.1
              have ri8 := ri6.setOther ⟨rb, 1, none⟩ (.int .i64 8) NE.out.1
              have l1 : w6.cell? ⟨rb, 1, none⟩ = some (.int .i64 0) := by rw [rr6.cell]; rfl
              have lf1 := rr6.frozen 1
              rw [← se] at s8
              clear rx6 ri6 rr6 s6 g6 eo EV
              go_upto_region 28 with (fail)
              clear l1 lf1
              generalize w6.setCell ⟨rb, 1, none⟩ (.int .i64 8) = w8 at *
              have m0 : w8.cell? ⟨w.heap.size + 1, 0, none⟩ = some (.int .u8 (k.toNat : Int)) := by rw [rx8.cell]; rfl
              have m1 : w8.cell? ⟨w.heap.size + 1, 1, none⟩ = some (.slice none 0 0) := by rw [rx8.cell]; rfl
              have m2 : w8.cell? ⟨w.heap.size + 1, 2, none⟩ = some (.int .i64 0) := by rw [rx8.cell]; rfl
              have m3 : w8.cell? ⟨w.heap.size + 1, 3, none⟩ = some (.int .i64 0) := by rw [rx8.cell]; rfl
              have m4 : w8.cell? ⟨w.heap.size + 1, 4, none⟩ = some (.int .u8 (a.toNat : Int)) := by rw [rx8.cell]; rfl
              have z0 : w8.cell? ⟨w.heap.size, 0, none⟩ = some (.int .u8 0) := by rw [ri8.cell]; rfl
              have f0 := ri8.frozen 0
              have z1 : w8.cell? ⟨w.heap.size, 1, none⟩ = some (.slice none 0 0) := by rw [ri8.cell]; rfl
              have f1 := ri8.frozen 1
              have z2 : w8.cell? ⟨w.heap.size, 2, none⟩ = some (.int .i64 0) := by rw [ri8.cell]; rfl
              have f2 := ri8.frozen 2
              have z3 : w8.cell? ⟨w.heap.size, 3, none⟩ = some (.int .i64 0) := by rw [ri8.cell]; rfl
              have f3 := ri8.frozen 3
              have z4 : w8.cell? ⟨w.heap.size, 4, none⟩ = some (.int .u8 0) := by rw [ri8.cell]; rfl
              have f4 := ri8.frozen 4
              have LI : LocR rb w w8 N _ w.heap.size (.slice none 0 0) _ := ⟨g8, s8, ⟨_, ri8⟩, (OwnB.nil _ _ : OwnB w.heap.size w8 (.slice none 0 0) []), NE.out.1, NE.out.2.2.1, Nat.le_refl _⟩
              have LF := Box'.mk (((((LI.set 0 (.int .u8 (k.toNat : Int))).set 1 (.slice none 0 0)).set 2 (.int .i64 0)).set 3 (.int .i64 0)).set 4 (.int .u8 (a.toNat : Int)))
              have PF := Box'.mk (put5 (by decide) ri8 (.int .u8 (k.toNat : Int)) (.slice none 0 0) (.int .i64 0) (.int .i64 0) (.int .u8 (a.toNat : Int))).1
              have HRR := Box'.mk (hR)
              clear LI rx8 ri8 s8 g8 se hR
              go_wp2_with fail
              exact bodyPost_ret (results_row rfl _ w.heap.size rfl _ _ PF.out _ Try.underlying48 rfl 5 Try.size48 rfl) rfl ⟨⟨k, [], 0, 0, a⟩, _, rfl, LF.out.own, LF.out.rst, HRR.out, LF.out.gb⟩
          · have IV2 := P2.out hc2
            have S5 : Box' (RSt N (w4.setCell ⟨rb, 0, none⟩ (.slice (some ⟨b2, o2 + 1, none⟩) un (c2 - 1))) rb (.ok u)) := ⟨RSt.turn HN.out RR4.out _ u IV2 (by rw [HUN.out]; exact HUS.out)⟩
            have RR5 : Box' (Row (w4.setCell ⟨rb, 0, none⟩ (.slice (some ⟨b2, o2 + 1, none⟩) un (c2 - 1))) rb 70 #[.slice (some ⟨b2, o2 + 1, none⟩) un (c2 - 1), .int .i64 0]) := ⟨RR4.out.setCell 0 _⟩
            have RX5 := Box'.mk (RX4.out.setOther ⟨rb, 0, none⟩ (.slice (some ⟨b2, o2 + 1, none⟩) un (c2 - 1)) NE.out.2.1)
            have RI5 := Box'.mk (RI4.out.setOther ⟨rb, 0, none⟩ (.slice (some ⟨b2, o2 + 1, none⟩) un (c2 - 1)) NE.out.1)
            have G5 := Box'.mk (G4.out.setCell 0 (.slice (some ⟨b2, o2 + 1, none⟩) un (c2 - 1)))
            clear RX4 RI4 RR4 G4 P2 P3 IV2
            go_upto_region 26 with (fail)
            clear k0 g0
            generalize w4.setCell ⟨rb, 0, none⟩ (.slice (some ⟨b2, o2 + 1, none⟩) un (c2 - 1)) = w5 at *
            have n0 : w5.cell? ⟨w.heap.size + 1, 0, none⟩ = some (.int .u8 (k.toNat : Int)) := by rw [RX5.out.cell]; rfl
            have n1 : w5.cell? ⟨w.heap.size + 1, 1, none⟩ = some (.slice none 0 0) := by rw [RX5.out.cell]; rfl
            have n2 : w5.cell? ⟨w.heap.size + 1, 2, none⟩ = some (.int .i64 0) := by rw [RX5.out.cell]; rfl
            have n3 : w5.cell? ⟨w.heap.size + 1, 3, none⟩ = some (.int .i64 0) := by rw [RX5.out.cell]; rfl
            have n4 : w5.cell? ⟨w.heap.size + 1, 4, none⟩ = some (.int .u8 (a.toNat : Int)) := by rw [RX5.out.cell]; rfl
            have my : Calls Try.prog 32 #[.agg #[.int .u8 (k.toNat : Int), .slice none 0 0, .int .i64 0, .int .i64 0, .int .u8 (a.toNat : Int)]] w5 fun e w' => e = .returned (.bool (Ev.may ⟨k, [], 0, 0, a⟩)) ∧ Below w5.heap.size w5 w' := refMay_nat k.toNat 0 a.toNat 0 0 none 0 w5
            generalize Ev.may ⟨k, [], 0, 0, a⟩ = MM at *
            go_wp2_with fail
            refine my.mono ?_
            rintro e w6 ⟨rfl, b6⟩
            have rx6 := RX5.out.below b6 RX5.out.lt
            have ri6 := RI5.out.below b6 RI5.out.lt
            have rr6 := RR5.out.below b6 RR5.out.lt
            have s6 := S5.out.below b6
            have g6 := G5.out.trans (Gb.below b6)
            clear my b6 n0 n1 n2 n3 n4 RX5 RI5 RR5 S5 G5
            cases MM with
            | true =>
              have eo : R = .ok (⟨k, [], 0, 0, a⟩, u) := by rw [EV.out]; exact if_pos rfl
              have se : stOf R = .ok u := by rw [eo]; rfl
              have hR : ∀ y l, R = .ok (y, l) → y = ⟨k, [], 0, 0, a⟩ := fun y l e => by rw [eo] at e; injection e with e; injection e with e _; exact e.symm
              rw [← se] at s6
              have m0 : w6.cell? ⟨w.heap.size + 1, 0, none⟩ = some (.int .u8 (k.toNat : Int)) := by rw [rx6.cell]; rfl
              have m1 : w6.cell? ⟨w.heap.size + 1, 1, none⟩ = some (.slice none 0 0) := by rw [rx6.cell]; rfl
              have m2 : w6.cell? ⟨w.heap.size + 1, 2, none⟩ = some (.int .i64 0) := by rw [rx6.cell]; rfl
              have m3 : w6.cell? ⟨w.heap.size + 1, 3, none⟩ = some (.int .i64 0) := by rw [rx6.cell]; rfl
              have m4 : w6.cell? ⟨w.heap.size + 1, 4, none⟩ = some (.int .u8 (a.toNat : Int)) := by rw [rx6.cell]; rfl
              have z0 : w6.cell? ⟨w.heap.size, 0, none⟩ = some (.int .u8 0) := by rw [ri6.cell]; rfl
              have f0 := ri6.frozen 0
              have z1 : w6.cell? ⟨w.heap.size, 1, none⟩ = some (.slice none 0 0) := by rw [ri6.cell]; rfl
              have f1 := ri6.frozen 1
              have z2 : w6.cell? ⟨w.heap.size, 2, none⟩ = some (.int .i64 0) := by rw [ri6.cell]; rfl
              have f2 := ri6.frozen 2
              have z3 : w6.cell? ⟨w.heap.size, 3, none⟩ = some (.int .i64 0) := by rw [ri6.cell]; rfl
              have f3 := ri6.frozen 3
              have z4 : w6.cell? ⟨w.heap.size, 4, none⟩ = some (.int .u8 0) := by rw [ri6.cell]; rfl
              have f4 := ri6.frozen 4
              have LI : LocR rb w w6 N _ w.heap.size (.slice none 0 0) _ := ⟨g6, s6, ⟨_, ri6⟩, (OwnB.nil _ _ : OwnB w.heap.size w6 (.slice none 0 0) []), NE.out.1, NE.out.2.2.1, Nat.le_refl _⟩
              have LF := Box'.mk (((((LI.set 0 (.int .u8 (k.toNat : Int))).set 1 (.slice none 0 0)).set 2 (.int .i64 0)).set 3 (.int .i64 0)).set 4 (.int .u8 (a.toNat : Int)))
              have PF := Box'.mk (put5 (by decide) ri6 (.int .u8 (k.toNat : Int)) (.slice none 0 0) (.int .i64 0) (.int .i64 0) (.int .u8 (a.toNat : Int))).1
              have HRR := Box'.mk (hR)
              clear LI rx6 ri6 rr6 s6 g6 se hR eo EV
              go_wp2_with fail
              exact bodyPost_ret (results_row rfl _ w.heap.size rfl _ _ PF.out _ Try.underlying48 rfl 5 Try.size48 rfl) rfl ⟨⟨k, [], 0, 0, a⟩, _, rfl, LF.out.own, LF.out.rst, HRR.out, LF.out.gb⟩
            | false =>
              have eo : R = .error 8 := by rw [EV.out]; exact if_neg (by decide)
              have se : stOf R = .error 8 := by rw [eo]; rfl
              have hR : ∀ y l, R = .ok (y, l) → y = ⟨k, [], 0, 0, a⟩ := fun y l e => by rw [eo] at e; cases e
              have s8 : RSt N (w6.setCell ⟨rb, 1, none⟩ (.int .i64 8)) rb (.error 8) := RSt.err HN.out rr6 8 (by decide)
              have g8 := g6.setCell 1 (.int .i64 8)
              have rx8 := rx6.setOther ⟨rb, 1, none⟩ (.int .i64 8) NE.out.2.1
              have ri8 := ri6.setOther ⟨rb, 1, none⟩ (.int .i64 8) NE.out.1
              have l1 : w6.cell? ⟨rb, 1, none⟩ = some (.int .i64 0) := by rw [rr6.cell]; rfl
              have lf1 := rr6.frozen 1
              rw [← se] at s8
              clear rx6 ri6 rr6 s6 g6 eo EV
              go_upto_region 28 with (fail)
              clear l1 lf1
              generalize w6.setCell ⟨rb, 1, none⟩ (.int .i64 8) = w8 at *
              have m0 : w8.cell? ⟨w.heap.size + 1, 0, none⟩ = some (.int .u8 (k.toNat : Int)) := by rw [rx8.cell]; rfl
              have m1 : w8.cell? ⟨w.heap.size + 1, 1, none⟩ = some (.slice none 0 0) := by rw [rx8.cell]; rfl
              have m2 : w8.cell? ⟨w.heap.size + 1, 2, none⟩ = some (.int .i64 0) := by rw [rx8.cell]; rfl
              have m3 : w8.cell? ⟨w.heap.size + 1, 3, none⟩ = some (.int .i64 0) := by rw [rx8.cell]; rfl
              have m4 : w8.cell? ⟨w.heap.size + 1, 4, none⟩ = some (.int .u8 (a.toNat : Int)) := by rw [rx8.cell]; rfl
              have z0 : w8.cell? ⟨w.heap.size, 0, none⟩ = some (.int .u8 0) := by rw [ri8.cell]; rfl
              have f0 := ri8.frozen 0
              have z1 : w8.cell? ⟨w.heap.size, 1, none⟩ = some (.slice none 0 0) := by rw [ri8.cell]; rfl
              have f1 := ri8.frozen 1
              have z2 : w8.cell? ⟨w.heap.size, 2, none⟩ = some (.int .i64 0) := by rw [ri8.cell]; rfl
              have f2 := ri8.frozen 2
              have z3 : w8.cell? ⟨w.heap.size, 3, none⟩ = some (.int .i64 0) := by rw [ri8.cell]; rfl
              have f3 := ri8.frozen 3
              have z4 : w8.cell? ⟨w.heap.size, 4, none⟩ = some (.int .u8 0) := by rw [ri8.cell]; rfl
              have f4 := ri8.frozen 4
              have LI : LocR rb w w8 N _ w.heap.size (.slice none 0 0) _ := ⟨g8, s8, ⟨_, ri8⟩, (OwnB.nil _ _ : OwnB w.heap.size w8 (.slice none 0 0) []), NE.out.1, NE.out.2.2.1, Nat.le_refl _⟩
              have LF := Box'.mk (((((LI.set 0 (.int .u8 (k.toNat : Int))).set 1 (.slice none 0 0)).set 2 (.int .i64 0)).set 3 (.int .i64 0)).set 4 (.int .u8 (a.toNat : Int)))
              have PF := Box'.mk (put5 (by decide) ri8 (.int .u8 (k.toNat : Int)) (.slice none 0 0) (.int .i64 0) (.int .i64 0) (.int .u8 (a.toNat : Int))).1
              have HRR := Box'.mk (hR)
              clear LI rx8 ri8 s8 g8 se hR
              go_wp2_with fail
              exact bodyPost_ret (results_row rfl _ w.heap.size rfl _ _ PF.out _ Try.underlying48 rfl 5 Try.size48 rfl) rfl ⟨⟨k, [], 0, 0, a⟩, _, rfl, LF.out.own, LF.out.rst, HRR.out, LF.out.gb⟩
end Go.Proofs.Ytpgljhgfoihnjaa
