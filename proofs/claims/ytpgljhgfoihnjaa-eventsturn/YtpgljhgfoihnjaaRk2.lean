/- The walk of the reference's event, a kind by itself. -/
import Derived.Test.YtpgljhgfoihnjaaRf
import Derived.Deep.Cut
import Derived.Test.YtpgljhgfoihnjaaU
import Derived.Test.YtpgljhgfoihnjaaO
import Derived.Test.YtpgljhgfoihnjaaE
import Derived.Test.YtpgljhgfoihnjaaFa
import Derived.Test.YtpgljhgfoihnjaaH
import Derived.Test.YtpgljhgfoihnjaaN
import Derived.Test.YtpgljhgfoihnjaaOz
import Derived.Test.YtpgljhgfoihnjaaR
import Derived.Test.YtpgljhgfoihnjaaS
import Derived.Test.YtpgljhgfoihnjaaT
import Derived.Test.YtpgljhgfoihnjaaY
import Derived.Test.YtpgljhgfoihnjaaEd
import Derived.Test.YtpgljhgfoihnjaaEa
import Derived.Test.YtpgljhgfoihnjaaEb
import Derived.Test.YtpgljhgfoihnjaaEc
namespace Go.Proofs.Ytpgljhgfoihnjaa
open Go.RowKit Go.BigFrame
set_option maxRecDepth 100000
set_option linter.unusedSimpArgs false
set_option linter.unusedVariables false

set_option maxRecDepth 100000 in
set_option maxHeartbeats 4000000 in
theorem refEvent_2 (N : Nat) (w : World) (rb : Nat) (k : UInt8) (t : List UInt8) (hk : k.toNat = 2) (h : RSt N w rb (.ok (k :: t))) :
    Calls Try.prog 44 #[.pointer (some ⟨rb, 0, none⟩)] w (VEnd N rb w (evR (k :: t))) := by
  have HH := Box'.mk h
  obtain ⟨w0, hw0⟩ : ∃ w0, w0 = (w.alloc (.cells #[.int .u8 0, .slice none 0 0, .int .i64 0, .int .i64 0, .int .u8 0] 48)).alloc (.cells #[.int .u8 0, .slice none 0 0, .int .i64 0, .int .i64 0, .int .u8 0] 48) := ⟨_, rfl⟩
  have b0 : Below w.heap.size w w0 := by rw [hw0]; exact ((Below.refl _ _).alloc (Nat.le_refl _) _).alloc (by simp) _
  have ri : Row w0 w.heap.size 48 #[.int .u8 0, .slice none 0 0, .int .i64 0, .int .i64 0, .int .u8 0] := by rw [hw0]; exact (Row.new _ _ _).alloc _
  have rx : Row w0 (w.heap.size + 1) 48 #[.int .u8 0, .slice none 0 0, .int .i64 0, .int .i64 0, .int .u8 0] := by rw [hw0]; exact Row.made _ 48 _ _ _ rfl (by simp)
  obtain ⟨h1, h2, v, r, hi, hl⟩ := h
  have r0 := r.below b0 r.lt
  have c0 : w0.cell? ⟨rb, 0, none⟩ = some v := by rw [r0.cell]; rfl
  have c1 : w0.cell? ⟨rb, 1, none⟩ = some (.int .i64 0) := by rw [r0.cell]; rfl
  have fr0 := r0.frozen 0
  have fr1 := r0.frozen 1
  have hi0 := hi.below b0 (by omega)
  have RI := Box'.mk ri
  have RX := Box'.mk rx
  have RR := Box'.mk r0
  have B0 := Box'.mk b0
  have NE : Box' (w.heap.size ≠ rb ∧ w.heap.size + 1 ≠ rb ∧ N ≤ w.heap.size ∧ N ≤ w.heap.size + 1 ∧ w.heap.size ≠ w.heap.size + 1) := ⟨by omega, by omega, by omega, by omega, by omega⟩
  have HN := Box'.mk h1
  · rcases inB_cut hi0 (show 1 ≤ (k :: t).length by simp) with ⟨-, e⟩ | ⟨b, o, c, rfl, hlc, q2, q3, -⟩
    · cases e
    have cb : w0.cell? ⟨b, o, none⟩ = some (.int .u8 (k.toNat : Int)) := by
      obtain ⟨b', o', c', e, _, hcell⟩ := hi0.cell (k := 0) (by simp)
      injection e with e1
      injection e1 with e1
      injection e1 with e1 e2
      subst e1 e2
      have := hcell 0 (by simp)
      simpa using this
    have hbN : b < N := by
      obtain ⟨b', o', c', e, hb', _⟩ := hi0.cell (k := 0) (by simp)
      injection e with e1
      injection e1 with e1
      injection e1 with e1 e2
      omega
    have hlt : t.length ≤ 140737488351232 := by simp at hl; omega
    have hlc' : t.length + 1 ≤ c := by simpa using hlc
    rw [List.drop_one, List.tail_cons] at q2 q3
    simp only [List.length_cons, Nat.add_sub_cancel] at q2 q3 c0
    have BX : Box' (b ≠ w.heap.size ∧ b ≠ w.heap.size + 1 ∧ b ≠ rb) := ⟨by omega, by omega, by omega⟩
    obtain ⟨wk, hwk⟩ : ∃ wk, wk = (w.alloc (.cells #[.int .u8 0, .slice none 0 0, .int .i64 0, .int .i64 0, .int .u8 0] 48)).alloc (.cells #[.int .u8 (k.toNat : Int), .slice none 0 0, .int .i64 0, .int .i64 0, .int .u8 0] 48) := ⟨_, rfl⟩
    have bk : Below w.heap.size w wk := by rw [hwk]; exact ((Below.refl _ _).alloc (Nat.le_refl _) _).alloc (by simp) _
    have rik : Row wk w.heap.size 48 #[.int .u8 0, .slice none 0 0, .int .i64 0, .int .i64 0, .int .u8 0] := by rw [hwk]; exact (Row.new _ _ _).alloc _
    have rxk : Row wk (w.heap.size + 1) 48 #[.int .u8 (k.toNat : Int), .slice none 0 0, .int .i64 0, .int .i64 0, .int .u8 0] := by rw [hwk]; exact Row.made _ 48 _ _ _ rfl (by simp)
    have rrk := r.below bk r.lt
    have ck0 : wk.cell? ⟨rb, 0, none⟩ = some (.slice (some ⟨b, o, none⟩) (t.length + 1) c) := by rw [rrk.cell]; rfl
    have ck1 : wk.cell? ⟨rb, 1, none⟩ = some (.int .i64 0) := by rw [rrk.cell]; rfl
    have fk0 := rrk.frozen 0
    have fk1 := rrk.frozen 1
    have xk0 : wk.cell? ⟨w.heap.size + 1, 0, none⟩ = some (.int .u8 (k.toNat : Int)) := by rw [rxk.cell]; rfl
    have FST : Box' (∀ v', InB N w0 v' t → Row (wk.setCell ⟨rb, 0, none⟩ v') (w.heap.size + 1) 48 #[.int .u8 (k.toNat : Int), .slice none 0 0, .int .i64 0, .int .i64 0, .int .u8 0] ∧ Row (wk.setCell ⟨rb, 0, none⟩ v') w.heap.size 48 #[.int .u8 0, .slice none 0 0, .int .i64 0, .int .i64 0, .int .u8 0] ∧ Row (wk.setCell ⟨rb, 0, none⟩ v') rb 70 #[v', .int .i64 0] ∧ RSt N (wk.setCell ⟨rb, 0, none⟩ v') rb (.ok t) ∧ Gb rb w (wk.setCell ⟨rb, 0, none⟩ v') ∧ InB N (wk.setCell ⟨rb, 0, none⟩ v') v' t) := ⟨fun v' hv' => by
      have iv : InB N wk v' t := by
        rcases hv' with hv' | ⟨bb, oo, cc, e1, e2, e3, e4⟩
        · exact .inl hv'
        · refine .inr ⟨bb, oo, cc, e1, e2, e3, fun j u hu => ?_⟩
          have := e4 j u hu
          rcases e3 with rfl | e3
          · simp at hu
          · rw [b0.cell (p := ⟨bb, oo + j, none⟩) (by show bb < w.heap.size; omega)] at this
            rw [bk.cell (p := ⟨bb, oo + j, none⟩) (by show bb < w.heap.size; omega)]
            exact this
      exact ⟨rxk.setOther _ _ NE.out.2.1, rik.setOther _ _ NE.out.1, rrk.setCell 0 _, RSt.turn h1 rrk v' t iv hlt, (Gb.below (g := rb) bk).setCell 0 v', iv.below (M := N) ((Below.refl _ _).setCell (p := ⟨rb, 0, none⟩) h1 v') (Nat.le_refl _)⟩⟩
    have x0 : w0.cell? ⟨w.heap.size + 1, 0, none⟩ = some (.int .u8 0) := by rw [rx.cell]; rfl
    have fx0 := rx.frozen 0
    have HTL := Box'.mk hlt
    clear hi hi0 r r0 ri rx b0 hl h2 RI RX RR B0 HH bk rik rxk rrk
    rw [hw0] at c0 c1 fr0 fr1 cb x0 fx0
    rw [hwk] at ck0 ck1 fk0 fk1 xk0
    clear hw0
    by_cases hc1 : c = 1
    · subst hc1
      have IV := Box'.mk (q3 rfl)
      clear q2 q3
      obtain ⟨rx3, ri3, rr3, st3, g3, i3⟩ := FST.out _ IV.out
      obtain ⟨w3, hw3⟩ : ∃ w3, w3 = wk.setCell ⟨rb, 0, none⟩ (.slice (some ⟨b, o, none⟩) 0 0) := ⟨_, rfl⟩
      rw [← hw3] at rx3 ri3 rr3 st3 g3 i3
      have G3 := Box'.mk g3
      have RX3 := Box'.mk rx3
      have RI3 := Box'.mk ri3
      have RR3 := Box'.mk rr3
      have ST3 := Box'.mk st3
      have I3 := Box'.mk i3
      have y0 : w3.cell? ⟨w.heap.size + 1, 0, none⟩ = some (.int .u8 (k.toNat : Int)) := by rw [rx3.cell]; rfl
      rw [hw3, hwk] at y0
      clear FST IV rx3 ri3 rr3 st3 g3 i3
      · have hk2 := hk
        have EV := Box'.mk (ev_2 (t := t) hk2)
        generalize evR (k :: t) = R at *
        have nm := refNum_any N w3 rb _ ST3.out
        generalize numV (.ok t) = n1 at EV nm
        generalize numS (.ok t) = S1 at EV nm
        have hq1 : ((k.toNat : Int) == 1) = false := by rw [beq_eq_false_iff_ne]; omega
        have hkq : ((k.toNat : Int) == 2) = true := by rw [beq_iff_eq]; omega
        clear hk2 hk
        rw [hw3, hwk] at nm
        go_enter Try.func44, Try.ntmps44
        go_wp2_with fail
        refine nm.mono ?_
        rw [← hwk, ← hw3]
        rintro e w4 ⟨rfl, s4, g4⟩
        have nm2 := refNum_any N w4 rb _ s4
        generalize numV S1 = n2 at EV nm2
        generalize numS S1 = S2 at EV nm2
        have G4 := Box'.mk g4
        clear nm s4 g4
        go_wp2_with fail
        refine nm2.mono ?_
        rintro e w5 ⟨rfl, s5, g5⟩
        clear nm2
        have gg := G4.out.trans g5
        have rx5 := gg.row RX3.out NE.out.2.1
        have ri5 := gg.row RI3.out NE.out.1
        have g5' := G3.out.trans gg
        have RX5 := Box'.mk rx5
        have RI5 := Box'.mk ri5
        have S5 := Box'.mk s5
        have G5 := Box'.mk g5'
        have x2 : w5.cell? ⟨w.heap.size + 1, 2, none⟩ = some (.int .i64 0) := by rw [rx5.cell]; rfl
        have x3 : w5.cell? ⟨w.heap.size + 1, 3, none⟩ = some (.int .i64 0) := by rw [rx5.cell]; rfl
        have fx2 := rx5.frozen 2
        have fx3 := rx5.frozen 3
        clear gg g5 g5' rx5 ri5 RX3 RI3 RR3 ST3 I3 G3 G4
        rcases S2 with x | t2
        · obtain ⟨h51, h52, hx, v5, r5⟩ := s5
          have k1 : w5.cell? ⟨rb, 1, none⟩ = some (.int .i64 x) := by rw [r5.cell]; rfl
          have hx0 : (x == 0) = false := by simpa using hx
          have se : stOf R = .error x := by rw [EV.out]; rfl
          have hR : ∀ y l, R = .ok (y, l) → y = ⟨k, [], (n1 : Int) % 1024, (n2 : Int) % 1024, 0⟩ := fun y l e => by rw [EV.out] at e; cases e
          clear r5 h51 h52 hx
          have RXq := RX5
          have RIq := RI5
          have Sq := S5
          have Gq := G5
          clear RX5 RI5 S5 G5
          have rx6 : Row ((w5.setCell ⟨w.heap.size + 1, 2, none⟩ (.int .i64 ((n1 : Int) % 1024))).setCell ⟨w.heap.size + 1, 3, none⟩ (.int .i64 ((n2 : Int) % 1024))) (w.heap.size + 1) 48 #[.int .u8 (k.toNat : Int), .slice none 0 0, .int .i64 ((n1 : Int) % 1024), .int .i64 ((n2 : Int) % 1024), .int .u8 0] := (RXq.out.setCell 2 _).setCell 3 _
          have ri6 := (RIq.out.setOther ⟨w.heap.size + 1, 2, none⟩ (.int .i64 ((n1 : Int) % 1024)) NE.out.2.2.2.2).setOther ⟨w.heap.size + 1, 3, none⟩ (.int .i64 ((n2 : Int) % 1024)) NE.out.2.2.2.2
          have s6 := (Sq.out.other (w.heap.size + 1) 2 (.int .i64 ((n1 : Int) % 1024)) NE.out.2.1 NE.out.2.2.2.1).other (w.heap.size + 1) 3 (.int .i64 ((n2 : Int) % 1024)) NE.out.2.1 NE.out.2.2.2.1
          have g6 := (Gq.out.setNew (w.heap.size + 1) 2 (.int .i64 ((n1 : Int) % 1024)) (Nat.le_succ _)).setNew (w.heap.size + 1) 3 (.int .i64 ((n2 : Int) % 1024)) (Nat.le_succ _)
          rw [← se] at s6
          obtain ⟨w6, hw6⟩ : ∃ w6, w6 = (w5.setCell ⟨w.heap.size + 1, 2, none⟩ (.int .i64 ((n1 : Int) % 1024))).setCell ⟨w.heap.size + 1, 3, none⟩ (.int .i64 ((n2 : Int) % 1024)) := ⟨_, rfl⟩
          rw [← hw6] at rx6 ri6 s6 g6
          have m0 : w6.cell? ⟨w.heap.size + 1, 0, none⟩ = some (.int .u8 (k.toNat : Int)) := by rw [rx6.cell]; rfl
          have m1 : w6.cell? ⟨w.heap.size + 1, 1, none⟩ = some (.slice none 0 0) := by rw [rx6.cell]; rfl
          have m2 : w6.cell? ⟨w.heap.size + 1, 2, none⟩ = some (.int .i64 ((n1 : Int) % 1024)) := by rw [rx6.cell]; rfl
          have m3 : w6.cell? ⟨w.heap.size + 1, 3, none⟩ = some (.int .i64 ((n2 : Int) % 1024)) := by rw [rx6.cell]; rfl
          have m4 : w6.cell? ⟨w.heap.size + 1, 4, none⟩ = some (.int .u8 0) := by rw [rx6.cell]; rfl
          have z0 : w6.cell? ⟨w.heap.size, 0, none⟩ = some (.int .u8 0) := by rw [ri6.cell]; rfl
          have f0 := ri6.frozen 0
          have z1 : w6.cell? ⟨w.heap.size, 1, none⟩ = some (.slice none 0 0) := by rw [ri6.cell]; rfl
          have f1 := ri6.frozen 1
          have z2 : w6.cell? ⟨w.heap.size, 2, none⟩ = some (.int .i64 0) := by rw [ri6.cell]; rfl
          have f2 := ri6.frozen 2
          have z3 : w6.cell? ⟨w.heap.size, 3, none⟩ = some (.int .i64 0) := by rw [ri6.cell]; rfl
          have f3 := ri6.frozen 3
          have z4 : w6.cell? ⟨w.heap.size, 4, none⟩ = some (.int .u8 0) := by rw [ri6.cell]; rfl
          have f4 := ri6.frozen 4
          have LI : LocR rb w w6 N _ w.heap.size (.slice none 0 0) _ := ⟨g6, s6, ⟨_, ri6⟩, (OwnB.nil _ _ : OwnB w.heap.size w6 (.slice none 0 0) []), NE.out.1, NE.out.2.2.1, Nat.le_refl _⟩
          have LF := Box'.mk (((((LI.set 0 (.int .u8 (k.toNat : Int))).set 1 (.slice none 0 0)).set 2 (.int .i64 ((n1 : Int) % 1024))).set 3 (.int .i64 ((n2 : Int) % 1024))).set 4 (.int .u8 0))
          have PF := Box'.mk (put5 (by decide) ri6 (.int .u8 (k.toNat : Int)) (.slice none 0 0) (.int .i64 ((n1 : Int) % 1024)) (.int .i64 ((n2 : Int) % 1024)) (.int .u8 0)).1
          have HRR := Box'.mk (hR)
          clear LI rx6 ri6 s6 g6 se hR RXq RIq Sq Gq EV 
          rw [hw6] at m0 m1 m2 m3 m4 z0 f0 z1 f1 z2 f2 z3 f3 z4 f4 PF LF
          go_wp2_with fail
          exact bodyPost_ret (results_row rfl _ w.heap.size rfl _ _ PF.out _ Try.underlying48 rfl 5 Try.size48 rfl) rfl ⟨⟨k, [], (n1 : Int) % 1024, (n2 : Int) % 1024, 0⟩, _, rfl, LF.out.own, LF.out.rst, HRR.out, LF.out.gb⟩
        · obtain ⟨h51, h52, v5, r5, i5, hl5⟩ := s5
          have k1 : w5.cell? ⟨rb, 1, none⟩ = some (.int .i64 0) := by rw [r5.cell]; rfl
          have fk1 := r5.frozen 1
          by_cases hbad : n1 < 1 ∨ 512 < n1 ∨ n2 < 1 ∨ 512 < n2
          · have e8 : R = .error 8 := by rw [EV.out]; exact if_pos hbad
            have se : stOf R = .error 8 := by rw [e8]; rfl
            have hR : ∀ y l, R = .ok (y, l) → y = ⟨k, [], (n1 : Int) % 1024, (n2 : Int) % 1024, 0⟩ := fun y l e => by rw [e8] at e; cases e
            have Sq : Box' (RSt N (w5.setCell ⟨rb, 1, none⟩ (.int .i64 8)) rb (.error 8)) := ⟨RSt.err h51 r5 8 (by decide)⟩
            have Gq := Box'.mk (G5.out.setCell 1 (.int .i64 8))
            have RXq := Box'.mk (RX5.out.setOther ⟨rb, 1, none⟩ (.int .i64 8) NE.out.2.1)
            have RIq := Box'.mk (RI5.out.setOther ⟨rb, 1, none⟩ (.int .i64 8) NE.out.1)
            have HNE := Box'.mk NE.out.2.1
            have y2 : (w5.setCell ⟨rb, 1, none⟩ (.int .i64 8)).cell? ⟨w.heap.size + 1, 2, none⟩ = some (.int .i64 0) := by rw [RXq.out.cell]; rfl
            have y3 : (w5.setCell ⟨rb, 1, none⟩ (.int .i64 8)).cell? ⟨w.heap.size + 1, 3, none⟩ = some (.int .i64 0) := by rw [RXq.out.cell]; rfl
            have fy2 := RXq.out.frozen 2
            have fy3 := RXq.out.frozen 3
            clear r5 i5 hl5 h51 h52 S5 G5 RX5 RI5 e8 x2 x3 fx2 fx3
            have hne1 : w.heap.size + 1 ≠ rb := NE.out.2.1
            have hne2 : rb ≠ w.heap.size + 1 := Ne.symm NE.out.2.1
            by_cases hb1 : n1 < 1
            · clear hbad
              go_upto_region 17 with (fail)
              clear k1 fk1
              generalize w5.setCell ⟨rb, 1, none⟩ (.int .i64 8) = wb at *
              have rx6 : Row ((wb.setCell ⟨w.heap.size + 1, 2, none⟩ (.int .i64 ((n1 : Int) % 1024))).setCell ⟨w.heap.size + 1, 3, none⟩ (.int .i64 ((n2 : Int) % 1024))) (w.heap.size + 1) 48 #[.int .u8 (k.toNat : Int), .slice none 0 0, .int .i64 ((n1 : Int) % 1024), .int .i64 ((n2 : Int) % 1024), .int .u8 0] := (RXq.out.setCell 2 _).setCell 3 _
              have ri6 := (RIq.out.setOther ⟨w.heap.size + 1, 2, none⟩ (.int .i64 ((n1 : Int) % 1024)) NE.out.2.2.2.2).setOther ⟨w.heap.size + 1, 3, none⟩ (.int .i64 ((n2 : Int) % 1024)) NE.out.2.2.2.2
              have s6 := (Sq.out.other (w.heap.size + 1) 2 (.int .i64 ((n1 : Int) % 1024)) NE.out.2.1 NE.out.2.2.2.1).other (w.heap.size + 1) 3 (.int .i64 ((n2 : Int) % 1024)) NE.out.2.1 NE.out.2.2.2.1
              have g6 := (Gq.out.setNew (w.heap.size + 1) 2 (.int .i64 ((n1 : Int) % 1024)) (Nat.le_succ _)).setNew (w.heap.size + 1) 3 (.int .i64 ((n2 : Int) % 1024)) (Nat.le_succ _)
              rw [← se] at s6
              obtain ⟨w6, hw6⟩ : ∃ w6, w6 = (wb.setCell ⟨w.heap.size + 1, 2, none⟩ (.int .i64 ((n1 : Int) % 1024))).setCell ⟨w.heap.size + 1, 3, none⟩ (.int .i64 ((n2 : Int) % 1024)) := ⟨_, rfl⟩
              rw [← hw6] at rx6 ri6 s6 g6
              have m0 : w6.cell? ⟨w.heap.size + 1, 0, none⟩ = some (.int .u8 (k.toNat : Int)) := by rw [rx6.cell]; rfl
              have m1 : w6.cell? ⟨w.heap.size + 1, 1, none⟩ = some (.slice none 0 0) := by rw [rx6.cell]; rfl
              have m2 : w6.cell? ⟨w.heap.size + 1, 2, none⟩ = some (.int .i64 ((n1 : Int) % 1024)) := by rw [rx6.cell]; rfl
              have m3 : w6.cell? ⟨w.heap.size + 1, 3, none⟩ = some (.int .i64 ((n2 : Int) % 1024)) := by rw [rx6.cell]; rfl
              have m4 : w6.cell? ⟨w.heap.size + 1, 4, none⟩ = some (.int .u8 0) := by rw [rx6.cell]; rfl
              have z0 : w6.cell? ⟨w.heap.size, 0, none⟩ = some (.int .u8 0) := by rw [ri6.cell]; rfl
              have f0 := ri6.frozen 0
              have z1 : w6.cell? ⟨w.heap.size, 1, none⟩ = some (.slice none 0 0) := by rw [ri6.cell]; rfl
              have f1 := ri6.frozen 1
              have z2 : w6.cell? ⟨w.heap.size, 2, none⟩ = some (.int .i64 0) := by rw [ri6.cell]; rfl
              have f2 := ri6.frozen 2
              have z3 : w6.cell? ⟨w.heap.size, 3, none⟩ = some (.int .i64 0) := by rw [ri6.cell]; rfl
              have f3 := ri6.frozen 3
              have z4 : w6.cell? ⟨w.heap.size, 4, none⟩ = some (.int .u8 0) := by rw [ri6.cell]; rfl
              have f4 := ri6.frozen 4
              have LI : LocR rb w w6 N _ w.heap.size (.slice none 0 0) _ := ⟨g6, s6, ⟨_, ri6⟩, (OwnB.nil _ _ : OwnB w.heap.size w6 (.slice none 0 0) []), NE.out.1, NE.out.2.2.1, Nat.le_refl _⟩
              have LF := Box'.mk (((((LI.set 0 (.int .u8 (k.toNat : Int))).set 1 (.slice none 0 0)).set 2 (.int .i64 ((n1 : Int) % 1024))).set 3 (.int .i64 ((n2 : Int) % 1024))).set 4 (.int .u8 0))
              have PF := Box'.mk (put5 (by decide) ri6 (.int .u8 (k.toNat : Int)) (.slice none 0 0) (.int .i64 ((n1 : Int) % 1024)) (.int .i64 ((n2 : Int) % 1024)) (.int .u8 0)).1
              have HRR := Box'.mk (hR)
              clear LI rx6 ri6 s6 g6 se hR RXq RIq Sq Gq EV 
              rw [hw6] at m0 m1 m2 m3 m4 z0 f0 z1 f1 z2 f2 z3 f3 z4 f4 PF LF
              go_wp2_with fail
              exact bodyPost_ret (results_row rfl _ w.heap.size rfl _ _ PF.out _ Try.underlying48 rfl 5 Try.size48 rfl) rfl ⟨⟨k, [], (n1 : Int) % 1024, (n2 : Int) % 1024, 0⟩, _, rfl, LF.out.own, LF.out.rst, HRR.out, LF.out.gb⟩
            · have _h : True := trivial
              by_cases hb2 : 512 < n1
              · clear hbad
                go_upto_region 17 with (fail)
                clear k1 fk1
                generalize w5.setCell ⟨rb, 1, none⟩ (.int .i64 8) = wb at *
                have rx6 : Row ((wb.setCell ⟨w.heap.size + 1, 2, none⟩ (.int .i64 ((n1 : Int) % 1024))).setCell ⟨w.heap.size + 1, 3, none⟩ (.int .i64 ((n2 : Int) % 1024))) (w.heap.size + 1) 48 #[.int .u8 (k.toNat : Int), .slice none 0 0, .int .i64 ((n1 : Int) % 1024), .int .i64 ((n2 : Int) % 1024), .int .u8 0] := (RXq.out.setCell 2 _).setCell 3 _
                have ri6 := (RIq.out.setOther ⟨w.heap.size + 1, 2, none⟩ (.int .i64 ((n1 : Int) % 1024)) NE.out.2.2.2.2).setOther ⟨w.heap.size + 1, 3, none⟩ (.int .i64 ((n2 : Int) % 1024)) NE.out.2.2.2.2
                have s6 := (Sq.out.other (w.heap.size + 1) 2 (.int .i64 ((n1 : Int) % 1024)) NE.out.2.1 NE.out.2.2.2.1).other (w.heap.size + 1) 3 (.int .i64 ((n2 : Int) % 1024)) NE.out.2.1 NE.out.2.2.2.1
                have g6 := (Gq.out.setNew (w.heap.size + 1) 2 (.int .i64 ((n1 : Int) % 1024)) (Nat.le_succ _)).setNew (w.heap.size + 1) 3 (.int .i64 ((n2 : Int) % 1024)) (Nat.le_succ _)
                rw [← se] at s6
                obtain ⟨w6, hw6⟩ : ∃ w6, w6 = (wb.setCell ⟨w.heap.size + 1, 2, none⟩ (.int .i64 ((n1 : Int) % 1024))).setCell ⟨w.heap.size + 1, 3, none⟩ (.int .i64 ((n2 : Int) % 1024)) := ⟨_, rfl⟩
                rw [← hw6] at rx6 ri6 s6 g6
                have m0 : w6.cell? ⟨w.heap.size + 1, 0, none⟩ = some (.int .u8 (k.toNat : Int)) := by rw [rx6.cell]; rfl
                have m1 : w6.cell? ⟨w.heap.size + 1, 1, none⟩ = some (.slice none 0 0) := by rw [rx6.cell]; rfl
                have m2 : w6.cell? ⟨w.heap.size + 1, 2, none⟩ = some (.int .i64 ((n1 : Int) % 1024)) := by rw [rx6.cell]; rfl
                have m3 : w6.cell? ⟨w.heap.size + 1, 3, none⟩ = some (.int .i64 ((n2 : Int) % 1024)) := by rw [rx6.cell]; rfl
                have m4 : w6.cell? ⟨w.heap.size + 1, 4, none⟩ = some (.int .u8 0) := by rw [rx6.cell]; rfl
                have z0 : w6.cell? ⟨w.heap.size, 0, none⟩ = some (.int .u8 0) := by rw [ri6.cell]; rfl
                have f0 := ri6.frozen 0
                have z1 : w6.cell? ⟨w.heap.size, 1, none⟩ = some (.slice none 0 0) := by rw [ri6.cell]; rfl
                have f1 := ri6.frozen 1
                have z2 : w6.cell? ⟨w.heap.size, 2, none⟩ = some (.int .i64 0) := by rw [ri6.cell]; rfl
                have f2 := ri6.frozen 2
                have z3 : w6.cell? ⟨w.heap.size, 3, none⟩ = some (.int .i64 0) := by rw [ri6.cell]; rfl
                have f3 := ri6.frozen 3
                have z4 : w6.cell? ⟨w.heap.size, 4, none⟩ = some (.int .u8 0) := by rw [ri6.cell]; rfl
                have f4 := ri6.frozen 4
                have LI : LocR rb w w6 N _ w.heap.size (.slice none 0 0) _ := ⟨g6, s6, ⟨_, ri6⟩, (OwnB.nil _ _ : OwnB w.heap.size w6 (.slice none 0 0) []), NE.out.1, NE.out.2.2.1, Nat.le_refl _⟩
                have LF := Box'.mk (((((LI.set 0 (.int .u8 (k.toNat : Int))).set 1 (.slice none 0 0)).set 2 (.int .i64 ((n1 : Int) % 1024))).set 3 (.int .i64 ((n2 : Int) % 1024))).set 4 (.int .u8 0))
                have PF := Box'.mk (put5 (by decide) ri6 (.int .u8 (k.toNat : Int)) (.slice none 0 0) (.int .i64 ((n1 : Int) % 1024)) (.int .i64 ((n2 : Int) % 1024)) (.int .u8 0)).1
                have HRR := Box'.mk (hR)
                clear LI rx6 ri6 s6 g6 se hR RXq RIq Sq Gq EV 
                rw [hw6] at m0 m1 m2 m3 m4 z0 f0 z1 f1 z2 f2 z3 f3 z4 f4 PF LF
                go_wp2_with fail
                exact bodyPost_ret (results_row rfl _ w.heap.size rfl _ _ PF.out _ Try.underlying48 rfl 5 Try.size48 rfl) rfl ⟨⟨k, [], (n1 : Int) % 1024, (n2 : Int) % 1024, 0⟩, _, rfl, LF.out.own, LF.out.rst, HRR.out, LF.out.gb⟩
              · have _h : True := trivial
                by_cases hb3 : n2 < 1
                · clear hbad
                  go_upto_region 17 with (fail)
                  clear k1 fk1
                  generalize w5.setCell ⟨rb, 1, none⟩ (.int .i64 8) = wb at *
                  have rx6 : Row ((wb.setCell ⟨w.heap.size + 1, 2, none⟩ (.int .i64 ((n1 : Int) % 1024))).setCell ⟨w.heap.size + 1, 3, none⟩ (.int .i64 ((n2 : Int) % 1024))) (w.heap.size + 1) 48 #[.int .u8 (k.toNat : Int), .slice none 0 0, .int .i64 ((n1 : Int) % 1024), .int .i64 ((n2 : Int) % 1024), .int .u8 0] := (RXq.out.setCell 2 _).setCell 3 _
                  have ri6 := (RIq.out.setOther ⟨w.heap.size + 1, 2, none⟩ (.int .i64 ((n1 : Int) % 1024)) NE.out.2.2.2.2).setOther ⟨w.heap.size + 1, 3, none⟩ (.int .i64 ((n2 : Int) % 1024)) NE.out.2.2.2.2
                  have s6 := (Sq.out.other (w.heap.size + 1) 2 (.int .i64 ((n1 : Int) % 1024)) NE.out.2.1 NE.out.2.2.2.1).other (w.heap.size + 1) 3 (.int .i64 ((n2 : Int) % 1024)) NE.out.2.1 NE.out.2.2.2.1
                  have g6 := (Gq.out.setNew (w.heap.size + 1) 2 (.int .i64 ((n1 : Int) % 1024)) (Nat.le_succ _)).setNew (w.heap.size + 1) 3 (.int .i64 ((n2 : Int) % 1024)) (Nat.le_succ _)
                  rw [← se] at s6
                  obtain ⟨w6, hw6⟩ : ∃ w6, w6 = (wb.setCell ⟨w.heap.size + 1, 2, none⟩ (.int .i64 ((n1 : Int) % 1024))).setCell ⟨w.heap.size + 1, 3, none⟩ (.int .i64 ((n2 : Int) % 1024)) := ⟨_, rfl⟩
                  rw [← hw6] at rx6 ri6 s6 g6
                  have m0 : w6.cell? ⟨w.heap.size + 1, 0, none⟩ = some (.int .u8 (k.toNat : Int)) := by rw [rx6.cell]; rfl
                  have m1 : w6.cell? ⟨w.heap.size + 1, 1, none⟩ = some (.slice none 0 0) := by rw [rx6.cell]; rfl
                  have m2 : w6.cell? ⟨w.heap.size + 1, 2, none⟩ = some (.int .i64 ((n1 : Int) % 1024)) := by rw [rx6.cell]; rfl
                  have m3 : w6.cell? ⟨w.heap.size + 1, 3, none⟩ = some (.int .i64 ((n2 : Int) % 1024)) := by rw [rx6.cell]; rfl
                  have m4 : w6.cell? ⟨w.heap.size + 1, 4, none⟩ = some (.int .u8 0) := by rw [rx6.cell]; rfl
                  have z0 : w6.cell? ⟨w.heap.size, 0, none⟩ = some (.int .u8 0) := by rw [ri6.cell]; rfl
                  have f0 := ri6.frozen 0
                  have z1 : w6.cell? ⟨w.heap.size, 1, none⟩ = some (.slice none 0 0) := by rw [ri6.cell]; rfl
                  have f1 := ri6.frozen 1
                  have z2 : w6.cell? ⟨w.heap.size, 2, none⟩ = some (.int .i64 0) := by rw [ri6.cell]; rfl
                  have f2 := ri6.frozen 2
                  have z3 : w6.cell? ⟨w.heap.size, 3, none⟩ = some (.int .i64 0) := by rw [ri6.cell]; rfl
                  have f3 := ri6.frozen 3
                  have z4 : w6.cell? ⟨w.heap.size, 4, none⟩ = some (.int .u8 0) := by rw [ri6.cell]; rfl
                  have f4 := ri6.frozen 4
                  have LI : LocR rb w w6 N _ w.heap.size (.slice none 0 0) _ := ⟨g6, s6, ⟨_, ri6⟩, (OwnB.nil _ _ : OwnB w.heap.size w6 (.slice none 0 0) []), NE.out.1, NE.out.2.2.1, Nat.le_refl _⟩
                  have LF := Box'.mk (((((LI.set 0 (.int .u8 (k.toNat : Int))).set 1 (.slice none 0 0)).set 2 (.int .i64 ((n1 : Int) % 1024))).set 3 (.int .i64 ((n2 : Int) % 1024))).set 4 (.int .u8 0))
                  have PF := Box'.mk (put5 (by decide) ri6 (.int .u8 (k.toNat : Int)) (.slice none 0 0) (.int .i64 ((n1 : Int) % 1024)) (.int .i64 ((n2 : Int) % 1024)) (.int .u8 0)).1
                  have HRR := Box'.mk (hR)
                  clear LI rx6 ri6 s6 g6 se hR RXq RIq Sq Gq EV 
                  rw [hw6] at m0 m1 m2 m3 m4 z0 f0 z1 f1 z2 f2 z3 f3 z4 f4 PF LF
                  go_wp2_with fail
                  exact bodyPost_ret (results_row rfl _ w.heap.size rfl _ _ PF.out _ Try.underlying48 rfl 5 Try.size48 rfl) rfl ⟨⟨k, [], (n1 : Int) % 1024, (n2 : Int) % 1024, 0⟩, _, rfl, LF.out.own, LF.out.rst, HRR.out, LF.out.gb⟩
                · have _h : True := trivial
                  by_cases hb4 : 512 < n2
                  · clear hbad
                    go_upto_region 17 with (fail)
                    clear k1 fk1
                    generalize w5.setCell ⟨rb, 1, none⟩ (.int .i64 8) = wb at *
                    have rx6 : Row ((wb.setCell ⟨w.heap.size + 1, 2, none⟩ (.int .i64 ((n1 : Int) % 1024))).setCell ⟨w.heap.size + 1, 3, none⟩ (.int .i64 ((n2 : Int) % 1024))) (w.heap.size + 1) 48 #[.int .u8 (k.toNat : Int), .slice none 0 0, .int .i64 ((n1 : Int) % 1024), .int .i64 ((n2 : Int) % 1024), .int .u8 0] := (RXq.out.setCell 2 _).setCell 3 _
                    have ri6 := (RIq.out.setOther ⟨w.heap.size + 1, 2, none⟩ (.int .i64 ((n1 : Int) % 1024)) NE.out.2.2.2.2).setOther ⟨w.heap.size + 1, 3, none⟩ (.int .i64 ((n2 : Int) % 1024)) NE.out.2.2.2.2
                    have s6 := (Sq.out.other (w.heap.size + 1) 2 (.int .i64 ((n1 : Int) % 1024)) NE.out.2.1 NE.out.2.2.2.1).other (w.heap.size + 1) 3 (.int .i64 ((n2 : Int) % 1024)) NE.out.2.1 NE.out.2.2.2.1
                    have g6 := (Gq.out.setNew (w.heap.size + 1) 2 (.int .i64 ((n1 : Int) % 1024)) (Nat.le_succ _)).setNew (w.heap.size + 1) 3 (.int .i64 ((n2 : Int) % 1024)) (Nat.le_succ _)
                    rw [← se] at s6
                    obtain ⟨w6, hw6⟩ : ∃ w6, w6 = (wb.setCell ⟨w.heap.size + 1, 2, none⟩ (.int .i64 ((n1 : Int) % 1024))).setCell ⟨w.heap.size + 1, 3, none⟩ (.int .i64 ((n2 : Int) % 1024)) := ⟨_, rfl⟩
                    rw [← hw6] at rx6 ri6 s6 g6
                    have m0 : w6.cell? ⟨w.heap.size + 1, 0, none⟩ = some (.int .u8 (k.toNat : Int)) := by rw [rx6.cell]; rfl
                    have m1 : w6.cell? ⟨w.heap.size + 1, 1, none⟩ = some (.slice none 0 0) := by rw [rx6.cell]; rfl
                    have m2 : w6.cell? ⟨w.heap.size + 1, 2, none⟩ = some (.int .i64 ((n1 : Int) % 1024)) := by rw [rx6.cell]; rfl
                    have m3 : w6.cell? ⟨w.heap.size + 1, 3, none⟩ = some (.int .i64 ((n2 : Int) % 1024)) := by rw [rx6.cell]; rfl
                    have m4 : w6.cell? ⟨w.heap.size + 1, 4, none⟩ = some (.int .u8 0) := by rw [rx6.cell]; rfl
                    have z0 : w6.cell? ⟨w.heap.size, 0, none⟩ = some (.int .u8 0) := by rw [ri6.cell]; rfl
                    have f0 := ri6.frozen 0
                    have z1 : w6.cell? ⟨w.heap.size, 1, none⟩ = some (.slice none 0 0) := by rw [ri6.cell]; rfl
                    have f1 := ri6.frozen 1
                    have z2 : w6.cell? ⟨w.heap.size, 2, none⟩ = some (.int .i64 0) := by rw [ri6.cell]; rfl
                    have f2 := ri6.frozen 2
                    have z3 : w6.cell? ⟨w.heap.size, 3, none⟩ = some (.int .i64 0) := by rw [ri6.cell]; rfl
                    have f3 := ri6.frozen 3
                    have z4 : w6.cell? ⟨w.heap.size, 4, none⟩ = some (.int .u8 0) := by rw [ri6.cell]; rfl
                    have f4 := ri6.frozen 4
                    have LI : LocR rb w w6 N _ w.heap.size (.slice none 0 0) _ := ⟨g6, s6, ⟨_, ri6⟩, (OwnB.nil _ _ : OwnB w.heap.size w6 (.slice none 0 0) []), NE.out.1, NE.out.2.2.1, Nat.le_refl _⟩
                    have LF := Box'.mk (((((LI.set 0 (.int .u8 (k.toNat : Int))).set 1 (.slice none 0 0)).set 2 (.int .i64 ((n1 : Int) % 1024))).set 3 (.int .i64 ((n2 : Int) % 1024))).set 4 (.int .u8 0))
                    have PF := Box'.mk (put5 (by decide) ri6 (.int .u8 (k.toNat : Int)) (.slice none 0 0) (.int .i64 ((n1 : Int) % 1024)) (.int .i64 ((n2 : Int) % 1024)) (.int .u8 0)).1
                    have HRR := Box'.mk (hR)
                    clear LI rx6 ri6 s6 g6 se hR RXq RIq Sq Gq EV 
                    rw [hw6] at m0 m1 m2 m3 m4 z0 f0 z1 f1 z2 f2 z3 f3 z4 f4 PF LF
                    go_wp2_with fail
                    exact bodyPost_ret (results_row rfl _ w.heap.size rfl _ _ PF.out _ Try.underlying48 rfl 5 Try.size48 rfl) rfl ⟨⟨k, [], (n1 : Int) % 1024, (n2 : Int) % 1024, 0⟩, _, rfl, LF.out.own, LF.out.rst, HRR.out, LF.out.gb⟩
                  · have _h : True := trivial
                    exact absurd hbad (by omega)
          · have hg1 : 1 ≤ n1 := by omega
            have hg2 : n1 ≤ 512 := by omega
            have hg3 : 1 ≤ n2 := by omega
            have hg4 : n2 ≤ 512 := by omega
            have eo : R = .ok (⟨k, [], (n1 : Int), (n2 : Int), 0⟩, t2) := by rw [EV.out]; exact if_neg hbad
            have se : stOf R = .ok t2 := by rw [eo]; rfl
            have em1 : (n1 : Int) % 1024 = (n1 : Int) := by omega
            have em2 : (n2 : Int) % 1024 = (n2 : Int) := by omega
            have hR : ∀ y l, R = .ok (y, l) → y = ⟨k, [], (n1 : Int) % 1024, (n2 : Int) % 1024, 0⟩ := fun y l e => by rw [eo] at e; injection e with e; injection e with e _; rw [em1, em2]; exact e.symm
            clear r5 i5 hl5 h51 h52 eo hbad em1 em2
            have RXq := RX5
            have RIq := RI5
            have Sq := S5
            have Gq := G5
            clear RX5 RI5 S5 G5
            have rx6 : Row ((w5.setCell ⟨w.heap.size + 1, 2, none⟩ (.int .i64 ((n1 : Int) % 1024))).setCell ⟨w.heap.size + 1, 3, none⟩ (.int .i64 ((n2 : Int) % 1024))) (w.heap.size + 1) 48 #[.int .u8 (k.toNat : Int), .slice none 0 0, .int .i64 ((n1 : Int) % 1024), .int .i64 ((n2 : Int) % 1024), .int .u8 0] := (RXq.out.setCell 2 _).setCell 3 _
            have ri6 := (RIq.out.setOther ⟨w.heap.size + 1, 2, none⟩ (.int .i64 ((n1 : Int) % 1024)) NE.out.2.2.2.2).setOther ⟨w.heap.size + 1, 3, none⟩ (.int .i64 ((n2 : Int) % 1024)) NE.out.2.2.2.2
            have s6 := (Sq.out.other (w.heap.size + 1) 2 (.int .i64 ((n1 : Int) % 1024)) NE.out.2.1 NE.out.2.2.2.1).other (w.heap.size + 1) 3 (.int .i64 ((n2 : Int) % 1024)) NE.out.2.1 NE.out.2.2.2.1
            have g6 := (Gq.out.setNew (w.heap.size + 1) 2 (.int .i64 ((n1 : Int) % 1024)) (Nat.le_succ _)).setNew (w.heap.size + 1) 3 (.int .i64 ((n2 : Int) % 1024)) (Nat.le_succ _)
            rw [← se] at s6
            obtain ⟨w6, hw6⟩ : ∃ w6, w6 = (w5.setCell ⟨w.heap.size + 1, 2, none⟩ (.int .i64 ((n1 : Int) % 1024))).setCell ⟨w.heap.size + 1, 3, none⟩ (.int .i64 ((n2 : Int) % 1024)) := ⟨_, rfl⟩
            rw [← hw6] at rx6 ri6 s6 g6
            have m0 : w6.cell? ⟨w.heap.size + 1, 0, none⟩ = some (.int .u8 (k.toNat : Int)) := by rw [rx6.cell]; rfl
            have m1 : w6.cell? ⟨w.heap.size + 1, 1, none⟩ = some (.slice none 0 0) := by rw [rx6.cell]; rfl
            have m2 : w6.cell? ⟨w.heap.size + 1, 2, none⟩ = some (.int .i64 ((n1 : Int) % 1024)) := by rw [rx6.cell]; rfl
            have m3 : w6.cell? ⟨w.heap.size + 1, 3, none⟩ = some (.int .i64 ((n2 : Int) % 1024)) := by rw [rx6.cell]; rfl
            have m4 : w6.cell? ⟨w.heap.size + 1, 4, none⟩ = some (.int .u8 0) := by rw [rx6.cell]; rfl
            have z0 : w6.cell? ⟨w.heap.size, 0, none⟩ = some (.int .u8 0) := by rw [ri6.cell]; rfl
            have f0 := ri6.frozen 0
            have z1 : w6.cell? ⟨w.heap.size, 1, none⟩ = some (.slice none 0 0) := by rw [ri6.cell]; rfl
            have f1 := ri6.frozen 1
            have z2 : w6.cell? ⟨w.heap.size, 2, none⟩ = some (.int .i64 0) := by rw [ri6.cell]; rfl
            have f2 := ri6.frozen 2
            have z3 : w6.cell? ⟨w.heap.size, 3, none⟩ = some (.int .i64 0) := by rw [ri6.cell]; rfl
            have f3 := ri6.frozen 3
            have z4 : w6.cell? ⟨w.heap.size, 4, none⟩ = some (.int .u8 0) := by rw [ri6.cell]; rfl
            have f4 := ri6.frozen 4
            have LI : LocR rb w w6 N _ w.heap.size (.slice none 0 0) _ := ⟨g6, s6, ⟨_, ri6⟩, (OwnB.nil _ _ : OwnB w.heap.size w6 (.slice none 0 0) []), NE.out.1, NE.out.2.2.1, Nat.le_refl _⟩
            have LF := Box'.mk (((((LI.set 0 (.int .u8 (k.toNat : Int))).set 1 (.slice none 0 0)).set 2 (.int .i64 ((n1 : Int) % 1024))).set 3 (.int .i64 ((n2 : Int) % 1024))).set 4 (.int .u8 0))
            have PF := Box'.mk (put5 (by decide) ri6 (.int .u8 (k.toNat : Int)) (.slice none 0 0) (.int .i64 ((n1 : Int) % 1024)) (.int .i64 ((n2 : Int) % 1024)) (.int .u8 0)).1
            have HRR := Box'.mk (hR)
            clear LI rx6 ri6 s6 g6 se hR RXq RIq Sq Gq EV 
            rw [hw6] at m0 m1 m2 m3 m4 z0 f0 z1 f1 z2 f2 z3 f3 z4 f4 PF LF
            go_wp2_with fail
            exact bodyPost_ret (results_row rfl _ w.heap.size rfl _ _ PF.out _ Try.underlying48 rfl 5 Try.size48 rfl) rfl ⟨⟨k, [], (n1 : Int) % 1024, (n2 : Int) % 1024, 0⟩, _, rfl, LF.out.own, LF.out.rst, HRR.out, LF.out.gb⟩
    · have IV := Box'.mk (q2 hc1)
      clear q2 q3
      obtain ⟨rx3, ri3, rr3, st3, g3, i3⟩ := FST.out _ IV.out
      obtain ⟨w3, hw3⟩ : ∃ w3, w3 = wk.setCell ⟨rb, 0, none⟩ (.slice (some ⟨b, o + 1, none⟩) t.length (c - 1)) := ⟨_, rfl⟩
      rw [← hw3] at rx3 ri3 rr3 st3 g3 i3
      have G3 := Box'.mk g3
      have RX3 := Box'.mk rx3
      have RI3 := Box'.mk ri3
      have RR3 := Box'.mk rr3
      have ST3 := Box'.mk st3
      have I3 := Box'.mk i3
      have y0 : w3.cell? ⟨w.heap.size + 1, 0, none⟩ = some (.int .u8 (k.toNat : Int)) := by rw [rx3.cell]; rfl
      rw [hw3, hwk] at y0
      clear FST IV rx3 ri3 rr3 st3 g3 i3
      · have hk2 := hk
        have EV := Box'.mk (ev_2 (t := t) hk2)
        generalize evR (k :: t) = R at *
        have nm := refNum_any N w3 rb _ ST3.out
        generalize numV (.ok t) = n1 at EV nm
        generalize numS (.ok t) = S1 at EV nm
        have hq1 : ((k.toNat : Int) == 1) = false := by rw [beq_eq_false_iff_ne]; omega
        have hkq : ((k.toNat : Int) == 2) = true := by rw [beq_iff_eq]; omega
        clear hk2 hk
        rw [hw3, hwk] at nm
        go_enter Try.func44, Try.ntmps44
        go_wp2_with fail
        refine nm.mono ?_
        rw [← hwk, ← hw3]
        rintro e w4 ⟨rfl, s4, g4⟩
        have nm2 := refNum_any N w4 rb _ s4
        generalize numV S1 = n2 at EV nm2
        generalize numS S1 = S2 at EV nm2
        have G4 := Box'.mk g4
        clear nm s4 g4
        go_wp2_with fail
        refine nm2.mono ?_
        rintro e w5 ⟨rfl, s5, g5⟩
        clear nm2
        have gg := G4.out.trans g5
        have rx5 := gg.row RX3.out NE.out.2.1
        have ri5 := gg.row RI3.out NE.out.1
        have g5' := G3.out.trans gg
        have RX5 := Box'.mk rx5
        have RI5 := Box'.mk ri5
        have S5 := Box'.mk s5
        have G5 := Box'.mk g5'
        have x2 : w5.cell? ⟨w.heap.size + 1, 2, none⟩ = some (.int .i64 0) := by rw [rx5.cell]; rfl
        have x3 : w5.cell? ⟨w.heap.size + 1, 3, none⟩ = some (.int .i64 0) := by rw [rx5.cell]; rfl
        have fx2 := rx5.frozen 2
        have fx3 := rx5.frozen 3
        clear gg g5 g5' rx5 ri5 RX3 RI3 RR3 ST3 I3 G3 G4
        rcases S2 with x | t2
        · obtain ⟨h51, h52, hx, v5, r5⟩ := s5
          have k1 : w5.cell? ⟨rb, 1, none⟩ = some (.int .i64 x) := by rw [r5.cell]; rfl
          have hx0 : (x == 0) = false := by simpa using hx
          have se : stOf R = .error x := by rw [EV.out]; rfl
          have hR : ∀ y l, R = .ok (y, l) → y = ⟨k, [], (n1 : Int) % 1024, (n2 : Int) % 1024, 0⟩ := fun y l e => by rw [EV.out] at e; cases e
          clear r5 h51 h52 hx
          have RXq := RX5
          have RIq := RI5
          have Sq := S5
          have Gq := G5
          clear RX5 RI5 S5 G5
          have rx6 : Row ((w5.setCell ⟨w.heap.size + 1, 2, none⟩ (.int .i64 ((n1 : Int) % 1024))).setCell ⟨w.heap.size + 1, 3, none⟩ (.int .i64 ((n2 : Int) % 1024))) (w.heap.size + 1) 48 #[.int .u8 (k.toNat : Int), .slice none 0 0, .int .i64 ((n1 : Int) % 1024), .int .i64 ((n2 : Int) % 1024), .int .u8 0] := (RXq.out.setCell 2 _).setCell 3 _
          have ri6 := (RIq.out.setOther ⟨w.heap.size + 1, 2, none⟩ (.int .i64 ((n1 : Int) % 1024)) NE.out.2.2.2.2).setOther ⟨w.heap.size + 1, 3, none⟩ (.int .i64 ((n2 : Int) % 1024)) NE.out.2.2.2.2
          have s6 := (Sq.out.other (w.heap.size + 1) 2 (.int .i64 ((n1 : Int) % 1024)) NE.out.2.1 NE.out.2.2.2.1).other (w.heap.size + 1) 3 (.int .i64 ((n2 : Int) % 1024)) NE.out.2.1 NE.out.2.2.2.1
          have g6 := (Gq.out.setNew (w.heap.size + 1) 2 (.int .i64 ((n1 : Int) % 1024)) (Nat.le_succ _)).setNew (w.heap.size + 1) 3 (.int .i64 ((n2 : Int) % 1024)) (Nat.le_succ _)
          rw [← se] at s6
          obtain ⟨w6, hw6⟩ : ∃ w6, w6 = (w5.setCell ⟨w.heap.size + 1, 2, none⟩ (.int .i64 ((n1 : Int) % 1024))).setCell ⟨w.heap.size + 1, 3, none⟩ (.int .i64 ((n2 : Int) % 1024)) := ⟨_, rfl⟩
          rw [← hw6] at rx6 ri6 s6 g6
          have m0 : w6.cell? ⟨w.heap.size + 1, 0, none⟩ = some (.int .u8 (k.toNat : Int)) := by rw [rx6.cell]; rfl
          have m1 : w6.cell? ⟨w.heap.size + 1, 1, none⟩ = some (.slice none 0 0) := by rw [rx6.cell]; rfl
          have m2 : w6.cell? ⟨w.heap.size + 1, 2, none⟩ = some (.int .i64 ((n1 : Int) % 1024)) := by rw [rx6.cell]; rfl
          have m3 : w6.cell? ⟨w.heap.size + 1, 3, none⟩ = some (.int .i64 ((n2 : Int) % 1024)) := by rw [rx6.cell]; rfl
          have m4 : w6.cell? ⟨w.heap.size + 1, 4, none⟩ = some (.int .u8 0) := by rw [rx6.cell]; rfl
          have z0 : w6.cell? ⟨w.heap.size, 0, none⟩ = some (.int .u8 0) := by rw [ri6.cell]; rfl
          have f0 := ri6.frozen 0
          have z1 : w6.cell? ⟨w.heap.size, 1, none⟩ = some (.slice none 0 0) := by rw [ri6.cell]; rfl
          have f1 := ri6.frozen 1
          have z2 : w6.cell? ⟨w.heap.size, 2, none⟩ = some (.int .i64 0) := by rw [ri6.cell]; rfl
          have f2 := ri6.frozen 2
          have z3 : w6.cell? ⟨w.heap.size, 3, none⟩ = some (.int .i64 0) := by rw [ri6.cell]; rfl
          have f3 := ri6.frozen 3
          have z4 : w6.cell? ⟨w.heap.size, 4, none⟩ = some (.int .u8 0) := by rw [ri6.cell]; rfl
          have f4 := ri6.frozen 4
          have LI : LocR rb w w6 N _ w.heap.size (.slice none 0 0) _ := ⟨g6, s6, ⟨_, ri6⟩, (OwnB.nil _ _ : OwnB w.heap.size w6 (.slice none 0 0) []), NE.out.1, NE.out.2.2.1, Nat.le_refl _⟩
          have LF := Box'.mk (((((LI.set 0 (.int .u8 (k.toNat : Int))).set 1 (.slice none 0 0)).set 2 (.int .i64 ((n1 : Int) % 1024))).set 3 (.int .i64 ((n2 : Int) % 1024))).set 4 (.int .u8 0))
          have PF := Box'.mk (put5 (by decide) ri6 (.int .u8 (k.toNat : Int)) (.slice none 0 0) (.int .i64 ((n1 : Int) % 1024)) (.int .i64 ((n2 : Int) % 1024)) (.int .u8 0)).1
          have HRR := Box'.mk (hR)
          clear LI rx6 ri6 s6 g6 se hR RXq RIq Sq Gq EV 
          rw [hw6] at m0 m1 m2 m3 m4 z0 f0 z1 f1 z2 f2 z3 f3 z4 f4 PF LF
          go_wp2_with fail
          exact bodyPost_ret (results_row rfl _ w.heap.size rfl _ _ PF.out _ Try.underlying48 rfl 5 Try.size48 rfl) rfl ⟨⟨k, [], (n1 : Int) % 1024, (n2 : Int) % 1024, 0⟩, _, rfl, LF.out.own, LF.out.rst, HRR.out, LF.out.gb⟩
        · obtain ⟨h51, h52, v5, r5, i5, hl5⟩ := s5
          have k1 : w5.cell? ⟨rb, 1, none⟩ = some (.int .i64 0) := by rw [r5.cell]; rfl
          have fk1 := r5.frozen 1
          by_cases hbad : n1 < 1 ∨ 512 < n1 ∨ n2 < 1 ∨ 512 < n2
          · have e8 : R = .error 8 := by rw [EV.out]; exact if_pos hbad
            have se : stOf R = .error 8 := by rw [e8]; rfl
            have hR : ∀ y l, R = .ok (y, l) → y = ⟨k, [], (n1 : Int) % 1024, (n2 : Int) % 1024, 0⟩ := fun y l e => by rw [e8] at e; cases e
            have Sq : Box' (RSt N (w5.setCell ⟨rb, 1, none⟩ (.int .i64 8)) rb (.error 8)) := ⟨RSt.err h51 r5 8 (by decide)⟩
            have Gq := Box'.mk (G5.out.setCell 1 (.int .i64 8))
            have RXq := Box'.mk (RX5.out.setOther ⟨rb, 1, none⟩ (.int .i64 8) NE.out.2.1)
            have RIq := Box'.mk (RI5.out.setOther ⟨rb, 1, none⟩ (.int .i64 8) NE.out.1)
            have HNE := Box'.mk NE.out.2.1
            have y2 : (w5.setCell ⟨rb, 1, none⟩ (.int .i64 8)).cell? ⟨w.heap.size + 1, 2, none⟩ = some (.int .i64 0) := by rw [RXq.out.cell]; rfl
            have y3 : (w5.setCell ⟨rb, 1, none⟩ (.int .i64 8)).cell? ⟨w.heap.size + 1, 3, none⟩ = some (.int .i64 0) := by rw [RXq.out.cell]; rfl
            have fy2 := RXq.out.frozen 2
            have fy3 := RXq.out.frozen 3
            clear r5 i5 hl5 h51 h52 S5 G5 RX5 RI5 e8 x2 x3 fx2 fx3
            have hne1 : w.heap.size + 1 ≠ rb := NE.out.2.1
            have hne2 : rb ≠ w.heap.size + 1 := Ne.symm NE.out.2.1
            by_cases hb1 : n1 < 1
            · clear hbad
              go_upto_region 17 with (fail)
              clear k1 fk1
              generalize w5.setCell ⟨rb, 1, none⟩ (.int .i64 8) = wb at *
              have rx6 : Row ((wb.setCell ⟨w.heap.size + 1, 2, none⟩ (.int .i64 ((n1 : Int) % 1024))).setCell ⟨w.heap.size + 1, 3, none⟩ (.int .i64 ((n2 : Int) % 1024))) (w.heap.size + 1) 48 #[.int .u8 (k.toNat : Int), .slice none 0 0, .int .i64 ((n1 : Int) % 1024), .int .i64 ((n2 : Int) % 1024), .int .u8 0] := (RXq.out.setCell 2 _).setCell 3 _
              have ri6 := (RIq.out.setOther ⟨w.heap.size + 1, 2, none⟩ (.int .i64 ((n1 : Int) % 1024)) NE.out.2.2.2.2).setOther ⟨w.heap.size + 1, 3, none⟩ (.int .i64 ((n2 : Int) % 1024)) NE.out.2.2.2.2
              have s6 := (Sq.out.other (w.heap.size + 1) 2 (.int .i64 ((n1 : Int) % 1024)) NE.out.2.1 NE.out.2.2.2.1).other (w.heap.size + 1) 3 (.int .i64 ((n2 : Int) % 1024)) NE.out.2.1 NE.out.2.2.2.1
              have g6 := (Gq.out.setNew (w.heap.size + 1) 2 (.int .i64 ((n1 : Int) % 1024)) (Nat.le_succ _)).setNew (w.heap.size + 1) 3 (.int .i64 ((n2 : Int) % 1024)) (Nat.le_succ _)
              rw [← se] at s6
              obtain ⟨w6, hw6⟩ : ∃ w6, w6 = (wb.setCell ⟨w.heap.size + 1, 2, none⟩ (.int .i64 ((n1 : Int) % 1024))).setCell ⟨w.heap.size + 1, 3, none⟩ (.int .i64 ((n2 : Int) % 1024)) := ⟨_, rfl⟩
              rw [← hw6] at rx6 ri6 s6 g6
              have m0 : w6.cell? ⟨w.heap.size + 1, 0, none⟩ = some (.int .u8 (k.toNat : Int)) := by rw [rx6.cell]; rfl
              have m1 : w6.cell? ⟨w.heap.size + 1, 1, none⟩ = some (.slice none 0 0) := by rw [rx6.cell]; rfl
              have m2 : w6.cell? ⟨w.heap.size + 1, 2, none⟩ = some (.int .i64 ((n1 : Int) % 1024)) := by rw [rx6.cell]; rfl
              have m3 : w6.cell? ⟨w.heap.size + 1, 3, none⟩ = some (.int .i64 ((n2 : Int) % 1024)) := by rw [rx6.cell]; rfl
              have m4 : w6.cell? ⟨w.heap.size + 1, 4, none⟩ = some (.int .u8 0) := by rw [rx6.cell]; rfl
              have z0 : w6.cell? ⟨w.heap.size, 0, none⟩ = some (.int .u8 0) := by rw [ri6.cell]; rfl
              have f0 := ri6.frozen 0
              have z1 : w6.cell? ⟨w.heap.size, 1, none⟩ = some (.slice none 0 0) := by rw [ri6.cell]; rfl
              have f1 := ri6.frozen 1
              have z2 : w6.cell? ⟨w.heap.size, 2, none⟩ = some (.int .i64 0) := by rw [ri6.cell]; rfl
              have f2 := ri6.frozen 2
              have z3 : w6.cell? ⟨w.heap.size, 3, none⟩ = some (.int .i64 0) := by rw [ri6.cell]; rfl
              have f3 := ri6.frozen 3
              have z4 : w6.cell? ⟨w.heap.size, 4, none⟩ = some (.int .u8 0) := by rw [ri6.cell]; rfl
              have f4 := ri6.frozen 4
              have LI : LocR rb w w6 N _ w.heap.size (.slice none 0 0) _ := ⟨g6, s6, ⟨_, ri6⟩, (OwnB.nil _ _ : OwnB w.heap.size w6 (.slice none 0 0) []), NE.out.1, NE.out.2.2.1, Nat.le_refl _⟩
              have LF := Box'.mk (((((LI.set 0 (.int .u8 (k.toNat : Int))).set 1 (.slice none 0 0)).set 2 (.int .i64 ((n1 : Int) % 1024))).set 3 (.int .i64 ((n2 : Int) % 1024))).set 4 (.int .u8 0))
              have PF := Box'.mk (put5 (by decide) ri6 (.int .u8 (k.toNat : Int)) (.slice none 0 0) (.int .i64 ((n1 : Int) % 1024)) (.int .i64 ((n2 : Int) % 1024)) (.int .u8 0)).1
              have HRR := Box'.mk (hR)
              clear LI rx6 ri6 s6 g6 se hR RXq RIq Sq Gq EV 
              rw [hw6] at m0 m1 m2 m3 m4 z0 f0 z1 f1 z2 f2 z3 f3 z4 f4 PF LF
              go_wp2_with fail
              exact bodyPost_ret (results_row rfl _ w.heap.size rfl _ _ PF.out _ Try.underlying48 rfl 5 Try.size48 rfl) rfl ⟨⟨k, [], (n1 : Int) % 1024, (n2 : Int) % 1024, 0⟩, _, rfl, LF.out.own, LF.out.rst, HRR.out, LF.out.gb⟩
            · have _h : True := trivial
              by_cases hb2 : 512 < n1
              · clear hbad
                go_upto_region 17 with (fail)
                clear k1 fk1
                generalize w5.setCell ⟨rb, 1, none⟩ (.int .i64 8) = wb at *
                have rx6 : Row ((wb.setCell ⟨w.heap.size + 1, 2, none⟩ (.int .i64 ((n1 : Int) % 1024))).setCell ⟨w.heap.size + 1, 3, none⟩ (.int .i64 ((n2 : Int) % 1024))) (w.heap.size + 1) 48 #[.int .u8 (k.toNat : Int), .slice none 0 0, .int .i64 ((n1 : Int) % 1024), .int .i64 ((n2 : Int) % 1024), .int .u8 0] := (RXq.out.setCell 2 _).setCell 3 _
                have ri6 := (RIq.out.setOther ⟨w.heap.size + 1, 2, none⟩ (.int .i64 ((n1 : Int) % 1024)) NE.out.2.2.2.2).setOther ⟨w.heap.size + 1, 3, none⟩ (.int .i64 ((n2 : Int) % 1024)) NE.out.2.2.2.2
                have s6 := (Sq.out.other (w.heap.size + 1) 2 (.int .i64 ((n1 : Int) % 1024)) NE.out.2.1 NE.out.2.2.2.1).other (w.heap.size + 1) 3 (.int .i64 ((n2 : Int) % 1024)) NE.out.2.1 NE.out.2.2.2.1
                have g6 := (Gq.out.setNew (w.heap.size + 1) 2 (.int .i64 ((n1 : Int) % 1024)) (Nat.le_succ _)).setNew (w.heap.size + 1) 3 (.int .i64 ((n2 : Int) % 1024)) (Nat.le_succ _)
                rw [← se] at s6
                obtain ⟨w6, hw6⟩ : ∃ w6, w6 = (wb.setCell ⟨w.heap.size + 1, 2, none⟩ (.int .i64 ((n1 : Int) % 1024))).setCell ⟨w.heap.size + 1, 3, none⟩ (.int .i64 ((n2 : Int) % 1024)) := ⟨_, rfl⟩
                rw [← hw6] at rx6 ri6 s6 g6
                have m0 : w6.cell? ⟨w.heap.size + 1, 0, none⟩ = some (.int .u8 (k.toNat : Int)) := by rw [rx6.cell]; rfl
                have m1 : w6.cell? ⟨w.heap.size + 1, 1, none⟩ = some (.slice none 0 0) := by rw [rx6.cell]; rfl
                have m2 : w6.cell? ⟨w.heap.size + 1, 2, none⟩ = some (.int .i64 ((n1 : Int) % 1024)) := by rw [rx6.cell]; rfl
                have m3 : w6.cell? ⟨w.heap.size + 1, 3, none⟩ = some (.int .i64 ((n2 : Int) % 1024)) := by rw [rx6.cell]; rfl
                have m4 : w6.cell? ⟨w.heap.size + 1, 4, none⟩ = some (.int .u8 0) := by rw [rx6.cell]; rfl
                have z0 : w6.cell? ⟨w.heap.size, 0, none⟩ = some (.int .u8 0) := by rw [ri6.cell]; rfl
                have f0 := ri6.frozen 0
                have z1 : w6.cell? ⟨w.heap.size, 1, none⟩ = some (.slice none 0 0) := by rw [ri6.cell]; rfl
                have f1 := ri6.frozen 1
                have z2 : w6.cell? ⟨w.heap.size, 2, none⟩ = some (.int .i64 0) := by rw [ri6.cell]; rfl
                have f2 := ri6.frozen 2
                have z3 : w6.cell? ⟨w.heap.size, 3, none⟩ = some (.int .i64 0) := by rw [ri6.cell]; rfl
                have f3 := ri6.frozen 3
                have z4 : w6.cell? ⟨w.heap.size, 4, none⟩ = some (.int .u8 0) := by rw [ri6.cell]; rfl
                have f4 := ri6.frozen 4
                have LI : LocR rb w w6 N _ w.heap.size (.slice none 0 0) _ := ⟨g6, s6, ⟨_, ri6⟩, (OwnB.nil _ _ : OwnB w.heap.size w6 (.slice none 0 0) []), NE.out.1, NE.out.2.2.1, Nat.le_refl _⟩
                have LF := Box'.mk (((((LI.set 0 (.int .u8 (k.toNat : Int))).set 1 (.slice none 0 0)).set 2 (.int .i64 ((n1 : Int) % 1024))).set 3 (.int .i64 ((n2 : Int) % 1024))).set 4 (.int .u8 0))
                have PF := Box'.mk (put5 (by decide) ri6 (.int .u8 (k.toNat : Int)) (.slice none 0 0) (.int .i64 ((n1 : Int) % 1024)) (.int .i64 ((n2 : Int) % 1024)) (.int .u8 0)).1
                have HRR := Box'.mk (hR)
                clear LI rx6 ri6 s6 g6 se hR RXq RIq Sq Gq EV 
                rw [hw6] at m0 m1 m2 m3 m4 z0 f0 z1 f1 z2 f2 z3 f3 z4 f4 PF LF
                go_wp2_with fail
                exact bodyPost_ret (results_row rfl _ w.heap.size rfl _ _ PF.out _ Try.underlying48 rfl 5 Try.size48 rfl) rfl ⟨⟨k, [], (n1 : Int) % 1024, (n2 : Int) % 1024, 0⟩, _, rfl, LF.out.own, LF.out.rst, HRR.out, LF.out.gb⟩
              · have _h : True := trivial
                by_cases hb3 : n2 < 1
                · clear hbad
                  go_upto_region 17 with (fail)
                  clear k1 fk1
                  generalize w5.setCell ⟨rb, 1, none⟩ (.int .i64 8) = wb at *
                  have rx6 : Row ((wb.setCell ⟨w.heap.size + 1, 2, none⟩ (.int .i64 ((n1 : Int) % 1024))).setCell ⟨w.heap.size + 1, 3, none⟩ (.int .i64 ((n2 : Int) % 1024))) (w.heap.size + 1) 48 #[.int .u8 (k.toNat : Int), .slice none 0 0, .int .i64 ((n1 : Int) % 1024), .int .i64 ((n2 : Int) % 1024), .int .u8 0] := (RXq.out.setCell 2 _).setCell 3 _
                  have ri6 := (RIq.out.setOther ⟨w.heap.size + 1, 2, none⟩ (.int .i64 ((n1 : Int) % 1024)) NE.out.2.2.2.2).setOther ⟨w.heap.size + 1, 3, none⟩ (.int .i64 ((n2 : Int) % 1024)) NE.out.2.2.2.2
                  have s6 := (Sq.out.other (w.heap.size + 1) 2 (.int .i64 ((n1 : Int) % 1024)) NE.out.2.1 NE.out.2.2.2.1).other (w.heap.size + 1) 3 (.int .i64 ((n2 : Int) % 1024)) NE.out.2.1 NE.out.2.2.2.1
                  have g6 := (Gq.out.setNew (w.heap.size + 1) 2 (.int .i64 ((n1 : Int) % 1024)) (Nat.le_succ _)).setNew (w.heap.size + 1) 3 (.int .i64 ((n2 : Int) % 1024)) (Nat.le_succ _)
                  rw [← se] at s6
                  obtain ⟨w6, hw6⟩ : ∃ w6, w6 = (wb.setCell ⟨w.heap.size + 1, 2, none⟩ (.int .i64 ((n1 : Int) % 1024))).setCell ⟨w.heap.size + 1, 3, none⟩ (.int .i64 ((n2 : Int) % 1024)) := ⟨_, rfl⟩
                  rw [← hw6] at rx6 ri6 s6 g6
                  have m0 : w6.cell? ⟨w.heap.size + 1, 0, none⟩ = some (.int .u8 (k.toNat : Int)) := by rw [rx6.cell]; rfl
                  have m1 : w6.cell? ⟨w.heap.size + 1, 1, none⟩ = some (.slice none 0 0) := by rw [rx6.cell]; rfl
                  have m2 : w6.cell? ⟨w.heap.size + 1, 2, none⟩ = some (.int .i64 ((n1 : Int) % 1024)) := by rw [rx6.cell]; rfl
                  have m3 : w6.cell? ⟨w.heap.size + 1, 3, none⟩ = some (.int .i64 ((n2 : Int) % 1024)) := by rw [rx6.cell]; rfl
                  have m4 : w6.cell? ⟨w.heap.size + 1, 4, none⟩ = some (.int .u8 0) := by rw [rx6.cell]; rfl
                  have z0 : w6.cell? ⟨w.heap.size, 0, none⟩ = some (.int .u8 0) := by rw [ri6.cell]; rfl
                  have f0 := ri6.frozen 0
                  have z1 : w6.cell? ⟨w.heap.size, 1, none⟩ = some (.slice none 0 0) := by rw [ri6.cell]; rfl
                  have f1 := ri6.frozen 1
                  have z2 : w6.cell? ⟨w.heap.size, 2, none⟩ = some (.int .i64 0) := by rw [ri6.cell]; rfl
                  have f2 := ri6.frozen 2
                  have z3 : w6.cell? ⟨w.heap.size, 3, none⟩ = some (.int .i64 0) := by rw [ri6.cell]; rfl
                  have f3 := ri6.frozen 3
                  have z4 : w6.cell? ⟨w.heap.size, 4, none⟩ = some (.int .u8 0) := by rw [ri6.cell]; rfl
                  have f4 := ri6.frozen 4
                  have LI : LocR rb w w6 N _ w.heap.size (.slice none 0 0) _ := ⟨g6, s6, ⟨_, ri6⟩, (OwnB.nil _ _ : OwnB w.heap.size w6 (.slice none 0 0) []), NE.out.1, NE.out.2.2.1, Nat.le_refl _⟩
                  have LF := Box'.mk (((((LI.set 0 (.int .u8 (k.toNat : Int))).set 1 (.slice none 0 0)).set 2 (.int .i64 ((n1 : Int) % 1024))).set 3 (.int .i64 ((n2 : Int) % 1024))).set 4 (.int .u8 0))
                  have PF := Box'.mk (put5 (by decide) ri6 (.int .u8 (k.toNat : Int)) (.slice none 0 0) (.int .i64 ((n1 : Int) % 1024)) (.int .i64 ((n2 : Int) % 1024)) (.int .u8 0)).1
                  have HRR := Box'.mk (hR)
                  clear LI rx6 ri6 s6 g6 se hR RXq RIq Sq Gq EV 
                  rw [hw6] at m0 m1 m2 m3 m4 z0 f0 z1 f1 z2 f2 z3 f3 z4 f4 PF LF
                  go_wp2_with fail
                  exact bodyPost_ret (results_row rfl _ w.heap.size rfl _ _ PF.out _ Try.underlying48 rfl 5 Try.size48 rfl) rfl ⟨⟨k, [], (n1 : Int) % 1024, (n2 : Int) % 1024, 0⟩, _, rfl, LF.out.own, LF.out.rst, HRR.out, LF.out.gb⟩
                · have _h : True := trivial
                  by_cases hb4 : 512 < n2
                  · clear hbad
                    go_upto_region 17 with (fail)
                    clear k1 fk1
                    generalize w5.setCell ⟨rb, 1, none⟩ (.int .i64 8) = wb at *
                    have rx6 : Row ((wb.setCell ⟨w.heap.size + 1, 2, none⟩ (.int .i64 ((n1 : Int) % 1024))).setCell ⟨w.heap.size + 1, 3, none⟩ (.int .i64 ((n2 : Int) % 1024))) (w.heap.size + 1) 48 #[.int .u8 (k.toNat : Int), .slice none 0 0, .int .i64 ((n1 : Int) % 1024), .int .i64 ((n2 : Int) % 1024), .int .u8 0] := (RXq.out.setCell 2 _).setCell 3 _
                    have ri6 := (RIq.out.setOther ⟨w.heap.size + 1, 2, none⟩ (.int .i64 ((n1 : Int) % 1024)) NE.out.2.2.2.2).setOther ⟨w.heap.size + 1, 3, none⟩ (.int .i64 ((n2 : Int) % 1024)) NE.out.2.2.2.2
                    have s6 := (Sq.out.other (w.heap.size + 1) 2 (.int .i64 ((n1 : Int) % 1024)) NE.out.2.1 NE.out.2.2.2.1).other (w.heap.size + 1) 3 (.int .i64 ((n2 : Int) % 1024)) NE.out.2.1 NE.out.2.2.2.1
                    have g6 := (Gq.out.setNew (w.heap.size + 1) 2 (.int .i64 ((n1 : Int) % 1024)) (Nat.le_succ _)).setNew (w.heap.size + 1) 3 (.int .i64 ((n2 : Int) % 1024)) (Nat.le_succ _)
                    rw [← se] at s6
                    obtain ⟨w6, hw6⟩ : ∃ w6, w6 = (wb.setCell ⟨w.heap.size + 1, 2, none⟩ (.int .i64 ((n1 : Int) % 1024))).setCell ⟨w.heap.size + 1, 3, none⟩ (.int .i64 ((n2 : Int) % 1024)) := ⟨_, rfl⟩
                    rw [← hw6] at rx6 ri6 s6 g6
                    have m0 : w6.cell? ⟨w.heap.size + 1, 0, none⟩ = some (.int .u8 (k.toNat : Int)) := by rw [rx6.cell]; rfl
                    have m1 : w6.cell? ⟨w.heap.size + 1, 1, none⟩ = some (.slice none 0 0) := by rw [rx6.cell]; rfl
                    have m2 : w6.cell? ⟨w.heap.size + 1, 2, none⟩ = some (.int .i64 ((n1 : Int) % 1024)) := by rw [rx6.cell]; rfl
                    have m3 : w6.cell? ⟨w.heap.size + 1, 3, none⟩ = some (.int .i64 ((n2 : Int) % 1024)) := by rw [rx6.cell]; rfl
                    have m4 : w6.cell? ⟨w.heap.size + 1, 4, none⟩ = some (.int .u8 0) := by rw [rx6.cell]; rfl
                    have z0 : w6.cell? ⟨w.heap.size, 0, none⟩ = some (.int .u8 0) := by rw [ri6.cell]; rfl
                    have f0 := ri6.frozen 0
                    have z1 : w6.cell? ⟨w.heap.size, 1, none⟩ = some (.slice none 0 0) := by rw [ri6.cell]; rfl
                    have f1 := ri6.frozen 1
                    have z2 : w6.cell? ⟨w.heap.size, 2, none⟩ = some (.int .i64 0) := by rw [ri6.cell]; rfl
                    have f2 := ri6.frozen 2
                    have z3 : w6.cell? ⟨w.heap.size, 3, none⟩ = some (.int .i64 0) := by rw [ri6.cell]; rfl
                    have f3 := ri6.frozen 3
                    have z4 : w6.cell? ⟨w.heap.size, 4, none⟩ = some (.int .u8 0) := by rw [ri6.cell]; rfl
                    have f4 := ri6.frozen 4
                    have LI : LocR rb w w6 N _ w.heap.size (.slice none 0 0) _ := ⟨g6, s6, ⟨_, ri6⟩, (OwnB.nil _ _ : OwnB w.heap.size w6 (.slice none 0 0) []), NE.out.1, NE.out.2.2.1, Nat.le_refl _⟩
                    have LF := Box'.mk (((((LI.set 0 (.int .u8 (k.toNat : Int))).set 1 (.slice none 0 0)).set 2 (.int .i64 ((n1 : Int) % 1024))).set 3 (.int .i64 ((n2 : Int) % 1024))).set 4 (.int .u8 0))
                    have PF := Box'.mk (put5 (by decide) ri6 (.int .u8 (k.toNat : Int)) (.slice none 0 0) (.int .i64 ((n1 : Int) % 1024)) (.int .i64 ((n2 : Int) % 1024)) (.int .u8 0)).1
                    have HRR := Box'.mk (hR)
                    clear LI rx6 ri6 s6 g6 se hR RXq RIq Sq Gq EV 
                    rw [hw6] at m0 m1 m2 m3 m4 z0 f0 z1 f1 z2 f2 z3 f3 z4 f4 PF LF
                    go_wp2_with fail
                    exact bodyPost_ret (results_row rfl _ w.heap.size rfl _ _ PF.out _ Try.underlying48 rfl 5 Try.size48 rfl) rfl ⟨⟨k, [], (n1 : Int) % 1024, (n2 : Int) % 1024, 0⟩, _, rfl, LF.out.own, LF.out.rst, HRR.out, LF.out.gb⟩
                  · have _h : True := trivial
                    exact absurd hbad (by omega)
          · have hg1 : 1 ≤ n1 := by omega
            have hg2 : n1 ≤ 512 := by omega
            have hg3 : 1 ≤ n2 := by omega
            have hg4 : n2 ≤ 512 := by omega
            have eo : R = .ok (⟨k, [], (n1 : Int), (n2 : Int), 0⟩, t2) := by rw [EV.out]; exact if_neg hbad
            have se : stOf R = .ok t2 := by rw [eo]; rfl
            have em1 : (n1 : Int) % 1024 = (n1 : Int) := by omega
            have em2 : (n2 : Int) % 1024 = (n2 : Int) := by omega
            have hR : ∀ y l, R = .ok (y, l) → y = ⟨k, [], (n1 : Int) % 1024, (n2 : Int) % 1024, 0⟩ := fun y l e => by rw [eo] at e; injection e with e; injection e with e _; rw [em1, em2]; exact e.symm
            clear r5 i5 hl5 h51 h52 eo hbad em1 em2
            have RXq := RX5
            have RIq := RI5
            have Sq := S5
            have Gq := G5
            clear RX5 RI5 S5 G5
            have rx6 : Row ((w5.setCell ⟨w.heap.size + 1, 2, none⟩ (.int .i64 ((n1 : Int) % 1024))).setCell ⟨w.heap.size + 1, 3, none⟩ (.int .i64 ((n2 : Int) % 1024))) (w.heap.size + 1) 48 #[.int .u8 (k.toNat : Int), .slice none 0 0, .int .i64 ((n1 : Int) % 1024), .int .i64 ((n2 : Int) % 1024), .int .u8 0] := (RXq.out.setCell 2 _).setCell 3 _
            have ri6 := (RIq.out.setOther ⟨w.heap.size + 1, 2, none⟩ (.int .i64 ((n1 : Int) % 1024)) NE.out.2.2.2.2).setOther ⟨w.heap.size + 1, 3, none⟩ (.int .i64 ((n2 : Int) % 1024)) NE.out.2.2.2.2
            have s6 := (Sq.out.other (w.heap.size + 1) 2 (.int .i64 ((n1 : Int) % 1024)) NE.out.2.1 NE.out.2.2.2.1).other (w.heap.size + 1) 3 (.int .i64 ((n2 : Int) % 1024)) NE.out.2.1 NE.out.2.2.2.1
            have g6 := (Gq.out.setNew (w.heap.size + 1) 2 (.int .i64 ((n1 : Int) % 1024)) (Nat.le_succ _)).setNew (w.heap.size + 1) 3 (.int .i64 ((n2 : Int) % 1024)) (Nat.le_succ _)
            rw [← se] at s6
            obtain ⟨w6, hw6⟩ : ∃ w6, w6 = (w5.setCell ⟨w.heap.size + 1, 2, none⟩ (.int .i64 ((n1 : Int) % 1024))).setCell ⟨w.heap.size + 1, 3, none⟩ (.int .i64 ((n2 : Int) % 1024)) := ⟨_, rfl⟩
            rw [← hw6] at rx6 ri6 s6 g6
            have m0 : w6.cell? ⟨w.heap.size + 1, 0, none⟩ = some (.int .u8 (k.toNat : Int)) := by rw [rx6.cell]; rfl
            have m1 : w6.cell? ⟨w.heap.size + 1, 1, none⟩ = some (.slice none 0 0) := by rw [rx6.cell]; rfl
            have m2 : w6.cell? ⟨w.heap.size + 1, 2, none⟩ = some (.int .i64 ((n1 : Int) % 1024)) := by rw [rx6.cell]; rfl
            have m3 : w6.cell? ⟨w.heap.size + 1, 3, none⟩ = some (.int .i64 ((n2 : Int) % 1024)) := by rw [rx6.cell]; rfl
            have m4 : w6.cell? ⟨w.heap.size + 1, 4, none⟩ = some (.int .u8 0) := by rw [rx6.cell]; rfl
            have z0 : w6.cell? ⟨w.heap.size, 0, none⟩ = some (.int .u8 0) := by rw [ri6.cell]; rfl
            have f0 := ri6.frozen 0
            have z1 : w6.cell? ⟨w.heap.size, 1, none⟩ = some (.slice none 0 0) := by rw [ri6.cell]; rfl
            have f1 := ri6.frozen 1
            have z2 : w6.cell? ⟨w.heap.size, 2, none⟩ = some (.int .i64 0) := by rw [ri6.cell]; rfl
            have f2 := ri6.frozen 2
            have z3 : w6.cell? ⟨w.heap.size, 3, none⟩ = some (.int .i64 0) := by rw [ri6.cell]; rfl
            have f3 := ri6.frozen 3
            have z4 : w6.cell? ⟨w.heap.size, 4, none⟩ = some (.int .u8 0) := by rw [ri6.cell]; rfl
            have f4 := ri6.frozen 4
            have LI : LocR rb w w6 N _ w.heap.size (.slice none 0 0) _ := ⟨g6, s6, ⟨_, ri6⟩, (OwnB.nil _ _ : OwnB w.heap.size w6 (.slice none 0 0) []), NE.out.1, NE.out.2.2.1, Nat.le_refl _⟩
            have LF := Box'.mk (((((LI.set 0 (.int .u8 (k.toNat : Int))).set 1 (.slice none 0 0)).set 2 (.int .i64 ((n1 : Int) % 1024))).set 3 (.int .i64 ((n2 : Int) % 1024))).set 4 (.int .u8 0))
            have PF := Box'.mk (put5 (by decide) ri6 (.int .u8 (k.toNat : Int)) (.slice none 0 0) (.int .i64 ((n1 : Int) % 1024)) (.int .i64 ((n2 : Int) % 1024)) (.int .u8 0)).1
            have HRR := Box'.mk (hR)
            clear LI rx6 ri6 s6 g6 se hR RXq RIq Sq Gq EV 
            rw [hw6] at m0 m1 m2 m3 m4 z0 f0 z1 f1 z2 f2 z3 f3 z4 f4 PF LF
            go_wp2_with fail
            exact bodyPost_ret (results_row rfl _ w.heap.size rfl _ _ PF.out _ Try.underlying48 rfl 5 Try.size48 rfl) rfl ⟨⟨k, [], (n1 : Int) % 1024, (n2 : Int) % 1024, 0⟩, _, rfl, LF.out.own, LF.out.rst, HRR.out, LF.out.gb⟩
end Go.Proofs.Ytpgljhgfoihnjaa
