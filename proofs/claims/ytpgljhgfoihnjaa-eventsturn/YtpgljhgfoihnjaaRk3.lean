/- The walk of the reference's event, a kind by itself. -/
import Derived.Test.YtpgljhgfoihnjaaRf
import Derived.Test.YtpgljhgfoihnjaaU
import Derived.Test.YtpgljhgfoihnjaaO
import Derived.Test.YtpgljhgfoihnjaaE
import Derived.Test.YtpgljhgfoihnjaaFa
import Derived.Test.YtpgljhgfoihnjaaH
import Derived.Test.YtpgljhgfoihnjaaN
import Derived.Test.YtpgljhgfoihnjaaOz
import Derived.Test.YtpgljhgfoihnjaaR
import Derived.Test.YtpgljhgfoihnjaaS
import Derived.Test.YtpgljhgfoihnjaaT
import Derived.Test.YtpgljhgfoihnjaaY
import Derived.Test.YtpgljhgfoihnjaaEd
import Derived.Test.YtpgljhgfoihnjaaEa
import Derived.Test.YtpgljhgfoihnjaaEb
import Derived.Test.YtpgljhgfoihnjaaEc
namespace Go.Proofs.Ytpgljhgfoihnjaa
open Go.RowKit Go.BigFrame
set_option maxRecDepth 100000
set_option linter.unusedSimpArgs false
set_option linter.unusedVariables false

set_option maxRecDepth 100000 in
set_option maxHeartbeats 4000000 in
theorem refEvent_3 (N : Nat) (w : World) (rb : Nat) (k : UInt8) (t : List UInt8) (hk : k.toNat = 3) (h : RSt N w rb (.ok (k :: t))) :
    Calls Try.prog 44 #[.pointer (some ⟨rb, 0, none⟩)] w (VEnd N rb w (evR (k :: t))) := by
  have HH := Box'.mk h
  obtain ⟨w0, hw0⟩ : ∃ w0, w0 = (w.alloc (.cells #[.int .u8 0, .slice none 0 0, .int .i64 0, .int .i64 0, .int .u8 0] 48)).alloc (.cells #[.int .u8 0, .slice none 0 0, .int .i64 0, .int .i64 0, .int .u8 0] 48) := ⟨_, rfl⟩
  have b0 : Below w.heap.size w w0 := by rw [hw0]; exact ((Below.refl _ _).alloc (Nat.le_refl _) _).alloc (by simp) _
  have ri : Row w0 w.heap.size 48 #[.int .u8 0, .slice none 0 0, .int .i64 0, .int .i64 0, .int .u8 0] := by rw [hw0]; exact (Row.new _ _ _).alloc _
  have rx : Row w0 (w.heap.size + 1) 48 #[.int .u8 0, .slice none 0 0, .int .i64 0, .int .i64 0, .int .u8 0] := by rw [hw0]; exact Row.made _ 48 _ _ _ rfl (by simp)
  obtain ⟨h1, h2, v, r, hi, hl⟩ := h
  have r0 := r.below b0 r.lt
  have c0 : w0.cell? ⟨rb, 0, none⟩ = some v := by rw [r0.cell]; rfl
  have c1 : w0.cell? ⟨rb, 1, none⟩ = some (.int .i64 0) := by rw [r0.cell]; rfl
  have fr0 := r0.frozen 0
  have fr1 := r0.frozen 1
  have hi0 := hi.below b0 (by omega)
  have RI := Box'.mk ri
  have RX := Box'.mk rx
  have RR := Box'.mk r0
  have B0 := Box'.mk b0
  have NE : Box' (w.heap.size ≠ rb ∧ w.heap.size + 1 ≠ rb ∧ N ≤ w.heap.size ∧ N ≤ w.heap.size + 1 ∧ w.heap.size ≠ w.heap.size + 1) := ⟨by omega, by omega, by omega, by omega, by omega⟩
  have HN := Box'.mk h1
  · rcases inB_cut hi0 (show 1 ≤ (k :: t).length by simp) with ⟨-, e⟩ | ⟨b, o, c, rfl, hlc, q2, q3, -⟩
    · cases e
    have cb : w0.cell? ⟨b, o, none⟩ = some (.int .u8 (k.toNat : Int)) := by
      obtain ⟨b', o', c', e, _, hcell⟩ := hi0.cell (k := 0) (by simp)
      injection e with e1
      injection e1 with e1
      injection e1 with e1 e2
      subst e1 e2
      have := hcell 0 (by simp)
      simpa using this
    have hbN : b < N := by
      obtain ⟨b', o', c', e, hb', _⟩ := hi0.cell (k := 0) (by simp)
      injection e with e1
      injection e1 with e1
      injection e1 with e1 e2
      omega
    have hlt : t.length ≤ 140737488351232 := by simp at hl; omega
    have hlc' : t.length + 1 ≤ c := by simpa using hlc
    rw [List.drop_one, List.tail_cons] at q2 q3
    simp only [List.length_cons, Nat.add_sub_cancel] at q2 q3 c0
    have BX : Box' (b ≠ w.heap.size ∧ b ≠ w.heap.size + 1 ∧ b ≠ rb) := ⟨by omega, by omega, by omega⟩
    obtain ⟨wk, hwk⟩ : ∃ wk, wk = (w.alloc (.cells #[.int .u8 0, .slice none 0 0, .int .i64 0, .int .i64 0, .int .u8 0] 48)).alloc (.cells #[.int .u8 (k.toNat : Int), .slice none 0 0, .int .i64 0, .int .i64 0, .int .u8 0] 48) := ⟨_, rfl⟩
    have bk : Below w.heap.size w wk := by rw [hwk]; exact ((Below.refl _ _).alloc (Nat.le_refl _) _).alloc (by simp) _
    have rik : Row wk w.heap.size 48 #[.int .u8 0, .slice none 0 0, .int .i64 0, .int .i64 0, .int .u8 0] := by rw [hwk]; exact (Row.new _ _ _).alloc _
    have rxk : Row wk (w.heap.size + 1) 48 #[.int .u8 (k.toNat : Int), .slice none 0 0, .int .i64 0, .int .i64 0, .int .u8 0] := by rw [hwk]; exact Row.made _ 48 _ _ _ rfl (by simp)
    have rrk := r.below bk r.lt
    have ck0 : wk.cell? ⟨rb, 0, none⟩ = some (.slice (some ⟨b, o, none⟩) (t.length + 1) c) := by rw [rrk.cell]; rfl
    have ck1 : wk.cell? ⟨rb, 1, none⟩ = some (.int .i64 0) := by rw [rrk.cell]; rfl
    have fk0 := rrk.frozen 0
    have fk1 := rrk.frozen 1
    have xk0 : wk.cell? ⟨w.heap.size + 1, 0, none⟩ = some (.int .u8 (k.toNat : Int)) := by rw [rxk.cell]; rfl
    have FST : Box' (∀ v', InB N w0 v' t → Row (wk.setCell ⟨rb, 0, none⟩ v') (w.heap.size + 1) 48 #[.int .u8 (k.toNat : Int), .slice none 0 0, .int .i64 0, .int .i64 0, .int .u8 0] ∧ Row (wk.setCell ⟨rb, 0, none⟩ v') w.heap.size 48 #[.int .u8 0, .slice none 0 0, .int .i64 0, .int .i64 0, .int .u8 0] ∧ Row (wk.setCell ⟨rb, 0, none⟩ v') rb 70 #[v', .int .i64 0] ∧ RSt N (wk.setCell ⟨rb, 0, none⟩ v') rb (.ok t) ∧ Gb rb w (wk.setCell ⟨rb, 0, none⟩ v') ∧ InB N (wk.setCell ⟨rb, 0, none⟩ v') v' t) := ⟨fun v' hv' => by
      have iv : InB N wk v' t := by
        rcases hv' with hv' | ⟨bb, oo, cc, e1, e2, e3, e4⟩
        · exact .inl hv'
        · refine .inr ⟨bb, oo, cc, e1, e2, e3, fun j u hu => ?_⟩
          have := e4 j u hu
          rcases e3 with rfl | e3
          · simp at hu
          · rw [b0.cell (p := ⟨bb, oo + j, none⟩) (by show bb < w.heap.size; omega)] at this
            rw [bk.cell (p := ⟨bb, oo + j, none⟩) (by show bb < w.heap.size; omega)]
            exact this
      exact ⟨rxk.setOther _ _ NE.out.2.1, rik.setOther _ _ NE.out.1, rrk.setCell 0 _, RSt.turn h1 rrk v' t iv hlt, (Gb.below (g := rb) bk).setCell 0 v', iv.below (M := N) ((Below.refl _ _).setCell (p := ⟨rb, 0, none⟩) h1 v') (Nat.le_refl _)⟩⟩
    have x0 : w0.cell? ⟨w.heap.size + 1, 0, none⟩ = some (.int .u8 0) := by rw [rx.cell]; rfl
    have fx0 := rx.frozen 0
    have HTL := Box'.mk hlt
    clear hi hi0 r r0 ri rx b0 hl h2 RI RX RR B0 HH bk rik rxk rrk
    rw [hw0] at c0 c1 fr0 fr1 cb x0 fx0
    rw [hwk] at ck0 ck1 fk0 fk1 xk0
    clear hw0
    by_cases hc1 : c = 1
    · subst hc1
      have IV := Box'.mk (q3 rfl)
      clear q2 q3
      obtain ⟨rx3, ri3, rr3, st3, g3, i3⟩ := FST.out _ IV.out
      obtain ⟨w3, hw3⟩ : ∃ w3, w3 = wk.setCell ⟨rb, 0, none⟩ (.slice (some ⟨b, o, none⟩) 0 0) := ⟨_, rfl⟩
      rw [← hw3] at rx3 ri3 rr3 st3 g3 i3
      have G3 := Box'.mk g3
      have RX3 := Box'.mk rx3
      have RI3 := Box'.mk ri3
      have RR3 := Box'.mk rr3
      have ST3 := Box'.mk st3
      have I3 := Box'.mk i3
      have y0 : w3.cell? ⟨w.heap.size + 1, 0, none⟩ = some (.int .u8 (k.toNat : Int)) := by rw [rx3.cell]; rfl
      rw [hw3, hwk] at y0
      clear FST IV rx3 ri3 rr3 st3 g3 i3
      · have EV := Box'.mk (ev_3 (t := t) hk)
        generalize evR (k :: t) = R at *
        have rr0 := refRaw_any N w3 rb 0 4096 (by decide) _ ST3.out
        have rr : Calls Try.prog 57 #[.pointer (some ⟨rb, 0, none⟩), .int .u64 0, .int .u64 4096] w3 fun e w' => ∃ v, e = .returned v ∧ OwnB w3.heap.size w' v (bvOf (rawF 0 4096 t)) ∧ RSt N w' rb (stOf (rawF 0 4096 t)) ∧ Gb rb w3 w' := rr0
        generalize rawF 0 4096 t = RW at *
        have hq1 : ((k.toNat : Int) == 1) = false := by rw [beq_eq_false_iff_ne]; omega
        have hq2 : ((k.toNat : Int) == 2) = false := by rw [beq_eq_false_iff_ne]; omega
        have hkq : ((k.toNat : Int) == 3) = true := by rw [beq_iff_eq]; omega
        clear rr0 hk
        rw [hw3, hwk] at rr
        go_enter Try.func44, Try.ntmps44
        go_wp2_with fail
        refine rr.mono ?_
        rw [← hwk, ← hw3]
        rintro e w4 ⟨v4, rfl, o4, s4, g4⟩
        have rx4 := g4.row RX3.out NE.out.2.1
        have ri4 := g4.row RI3.out NE.out.1
        have cx4 : w4.cell? ⟨w.heap.size + 1, 1, none⟩ = some (.slice none 0 0) := by rw [rx4.cell]; rfl
        have fx4 := rx4.frozen 1
        obtain ⟨a4, c4, rfl⟩ := o4.slice
        have rx5 : Row (w4.setCell ⟨w.heap.size + 1, 1, none⟩ (.slice a4 (bvOf RW).length c4)) (w.heap.size + 1) 48 #[.int .u8 (k.toNat : Int), .slice a4 (bvOf RW).length c4, .int .i64 0, .int .i64 0, .int .u8 0] := rx4.setCell 1 _
        have ri5 := ri4.setOther ⟨w.heap.size + 1, 1, none⟩ (.slice a4 (bvOf RW).length c4) NE.out.2.2.2.2
        have s5 := s4.other (w.heap.size + 1) 1 (.slice a4 (bvOf RW).length c4) NE.out.2.1 NE.out.2.2.2.1
        have g5 := (G3.out.trans g4).setNew (w.heap.size + 1) 1 (.slice a4 (bvOf RW).length c4) (Nat.le_succ _)
        have o5 : OwnB w.heap.size (w4.setCell ⟨w.heap.size + 1, 1, none⟩ (.slice a4 (bvOf RW).length c4)) (.slice a4 (bvOf RW).length c4) (bvOf RW) := (o4.less G3.out.size).other rx4 (by decide) 1 _
        have se : stOf R = stOf RW := by
          rw [EV.out]
          cases RW with
          | error x => rfl
          | ok p => rfl
        rw [← se] at s5
        have hR : ∀ y l, R = .ok (y, l) → y = ⟨k, bvOf RW, 0, 0, 0⟩ := fun y l e => by
          rw [EV.out] at e
          cases RW with
          | error x => cases e
          | ok p => injection e with e; injection e with e _; exact e.symm
        obtain ⟨w5, hw5⟩ : ∃ w5, w5 = w4.setCell ⟨w.heap.size + 1, 1, none⟩ (.slice a4 (bvOf RW).length c4) := ⟨_, rfl⟩
        rw [← hw5] at rx5 ri5 s5 g5 o5
        have m0 : w5.cell? ⟨w.heap.size + 1, 0, none⟩ = some (.int .u8 (k.toNat : Int)) := by rw [rx5.cell]; rfl
        have m1 : w5.cell? ⟨w.heap.size + 1, 1, none⟩ = some (.slice a4 (bvOf RW).length c4) := by rw [rx5.cell]; rfl
        have m2 : w5.cell? ⟨w.heap.size + 1, 2, none⟩ = some (.int .i64 0) := by rw [rx5.cell]; rfl
        have m3 : w5.cell? ⟨w.heap.size + 1, 3, none⟩ = some (.int .i64 0) := by rw [rx5.cell]; rfl
        have m4 : w5.cell? ⟨w.heap.size + 1, 4, none⟩ = some (.int .u8 0) := by rw [rx5.cell]; rfl
        have z0 : w5.cell? ⟨w.heap.size, 0, none⟩ = some (.int .u8 0) := by rw [ri5.cell]; rfl
        have f0 := ri5.frozen 0
        have z1 : w5.cell? ⟨w.heap.size, 1, none⟩ = some (.slice none 0 0) := by rw [ri5.cell]; rfl
        have f1 := ri5.frozen 1
        have z2 : w5.cell? ⟨w.heap.size, 2, none⟩ = some (.int .i64 0) := by rw [ri5.cell]; rfl
        have f2 := ri5.frozen 2
        have z3 : w5.cell? ⟨w.heap.size, 3, none⟩ = some (.int .i64 0) := by rw [ri5.cell]; rfl
        have f3 := ri5.frozen 3
        have z4 : w5.cell? ⟨w.heap.size, 4, none⟩ = some (.int .u8 0) := by rw [ri5.cell]; rfl
        have f4 := ri5.frozen 4
        have LI : LocR rb w w5 N _ w.heap.size (.slice a4 (bvOf RW).length c4) _ := ⟨g5, s5, ⟨_, ri5⟩, o5, NE.out.1, NE.out.2.2.1, Nat.le_refl _⟩
        have LF := Box'.mk (((((LI.set 0 (.int .u8 (k.toNat : Int))).set 1 (.slice a4 (bvOf RW).length c4)).set 2 (.int .i64 0)).set 3 (.int .i64 0)).set 4 (.int .u8 0))
        have PF := Box'.mk (put5 (by decide) ri5 (.int .u8 (k.toNat : Int)) (.slice a4 (bvOf RW).length c4) (.int .i64 0) (.int .i64 0) (.int .u8 0)).1
        have HRR := Box'.mk (hR)
        clear LI rx4 ri4 rx5 ri5 s4 s5 g4 g5 o4 o5 se hR RX3 RI3 RR3 ST3 I3 EV G3
        rw [hw5] at m0 m1 m2 m3 m4 z0 f0 z1 f1 z2 f2 z3 f3 z4 f4 PF LF
        go_wp2_with fail
        exact bodyPost_ret (results_row rfl _ w.heap.size rfl _ _ PF.out _ Try.underlying48 rfl 5 Try.size48 rfl) rfl ⟨⟨k, bvOf RW, 0, 0, 0⟩, _, rfl, LF.out.own, LF.out.rst, HRR.out, LF.out.gb⟩
    · have IV := Box'.mk (q2 hc1)
      clear q2 q3
      obtain ⟨rx3, ri3, rr3, st3, g3, i3⟩ := FST.out _ IV.out
      obtain ⟨w3, hw3⟩ : ∃ w3, w3 = wk.setCell ⟨rb, 0, none⟩ (.slice (some ⟨b, o + 1, none⟩) t.length (c - 1)) := ⟨_, rfl⟩
      rw [← hw3] at rx3 ri3 rr3 st3 g3 i3
      have G3 := Box'.mk g3
      have RX3 := Box'.mk rx3
      have RI3 := Box'.mk ri3
      have RR3 := Box'.mk rr3
      have ST3 := Box'.mk st3
      have I3 := Box'.mk i3
      have y0 : w3.cell? ⟨w.heap.size + 1, 0, none⟩ = some (.int .u8 (k.toNat : Int)) := by rw [rx3.cell]; rfl
      rw [hw3, hwk] at y0
      clear FST IV rx3 ri3 rr3 st3 g3 i3
      · have EV := Box'.mk (ev_3 (t := t) hk)
        generalize evR (k :: t) = R at *
        have rr0 := refRaw_any N w3 rb 0 4096 (by decide) _ ST3.out
        have rr : Calls Try.prog 57 #[.pointer (some ⟨rb, 0, none⟩), .int .u64 0, .int .u64 4096] w3 fun e w' => ∃ v, e = .returned v ∧ OwnB w3.heap.size w' v (bvOf (rawF 0 4096 t)) ∧ RSt N w' rb (stOf (rawF 0 4096 t)) ∧ Gb rb w3 w' := rr0
        generalize rawF 0 4096 t = RW at *
        have hq1 : ((k.toNat : Int) == 1) = false := by rw [beq_eq_false_iff_ne]; omega
        have hq2 : ((k.toNat : Int) == 2) = false := by rw [beq_eq_false_iff_ne]; omega
        have hkq : ((k.toNat : Int) == 3) = true := by rw [beq_iff_eq]; omega
        clear rr0 hk
        rw [hw3, hwk] at rr
        go_enter Try.func44, Try.ntmps44
        go_wp2_with fail
        refine rr.mono ?_
        rw [← hwk, ← hw3]
        rintro e w4 ⟨v4, rfl, o4, s4, g4⟩
        have rx4 := g4.row RX3.out NE.out.2.1
        have ri4 := g4.row RI3.out NE.out.1
        have cx4 : w4.cell? ⟨w.heap.size + 1, 1, none⟩ = some (.slice none 0 0) := by rw [rx4.cell]; rfl
        have fx4 := rx4.frozen 1
        obtain ⟨a4, c4, rfl⟩ := o4.slice
        have rx5 : Row (w4.setCell ⟨w.heap.size + 1, 1, none⟩ (.slice a4 (bvOf RW).length c4)) (w.heap.size + 1) 48 #[.int .u8 (k.toNat : Int), .slice a4 (bvOf RW).length c4, .int .i64 0, .int .i64 0, .int .u8 0] := rx4.setCell 1 _
        have ri5 := ri4.setOther ⟨w.heap.size + 1, 1, none⟩ (.slice a4 (bvOf RW).length c4) NE.out.2.2.2.2
        have s5 := s4.other (w.heap.size + 1) 1 (.slice a4 (bvOf RW).length c4) NE.out.2.1 NE.out.2.2.2.1
        have g5 := (G3.out.trans g4).setNew (w.heap.size + 1) 1 (.slice a4 (bvOf RW).length c4) (Nat.le_succ _)
        have o5 : OwnB w.heap.size (w4.setCell ⟨w.heap.size + 1, 1, none⟩ (.slice a4 (bvOf RW).length c4)) (.slice a4 (bvOf RW).length c4) (bvOf RW) := (o4.less G3.out.size).other rx4 (by decide) 1 _
        have se : stOf R = stOf RW := by
          rw [EV.out]
          cases RW with
          | error x => rfl
          | ok p => rfl
        rw [← se] at s5
        have hR : ∀ y l, R = .ok (y, l) → y = ⟨k, bvOf RW, 0, 0, 0⟩ := fun y l e => by
          rw [EV.out] at e
          cases RW with
          | error x => cases e
          | ok p => injection e with e; injection e with e _; exact e.symm
        obtain ⟨w5, hw5⟩ : ∃ w5, w5 = w4.setCell ⟨w.heap.size + 1, 1, none⟩ (.slice a4 (bvOf RW).length c4) := ⟨_, rfl⟩
        rw [← hw5] at rx5 ri5 s5 g5 o5
        have m0 : w5.cell? ⟨w.heap.size + 1, 0, none⟩ = some (.int .u8 (k.toNat : Int)) := by rw [rx5.cell]; rfl
        have m1 : w5.cell? ⟨w.heap.size + 1, 1, none⟩ = some (.slice a4 (bvOf RW).length c4) := by rw [rx5.cell]; rfl
        have m2 : w5.cell? ⟨w.heap.size + 1, 2, none⟩ = some (.int .i64 0) := by rw [rx5.cell]; rfl
        have m3 : w5.cell? ⟨w.heap.size + 1, 3, none⟩ = some (.int .i64 0) := by rw [rx5.cell]; rfl
        have m4 : w5.cell? ⟨w.heap.size + 1, 4, none⟩ = some (.int .u8 0) := by rw [rx5.cell]; rfl
        have z0 : w5.cell? ⟨w.heap.size, 0, none⟩ = some (.int .u8 0) := by rw [ri5.cell]; rfl
        have f0 := ri5.frozen 0
        have z1 : w5.cell? ⟨w.heap.size, 1, none⟩ = some (.slice none 0 0) := by rw [ri5.cell]; rfl
        have f1 := ri5.frozen 1
        have z2 : w5.cell? ⟨w.heap.size, 2, none⟩ = some (.int .i64 0) := by rw [ri5.cell]; rfl
        have f2 := ri5.frozen 2
        have z3 : w5.cell? ⟨w.heap.size, 3, none⟩ = some (.int .i64 0) := by rw [ri5.cell]; rfl
        have f3 := ri5.frozen 3
        have z4 : w5.cell? ⟨w.heap.size, 4, none⟩ = some (.int .u8 0) := by rw [ri5.cell]; rfl
        have f4 := ri5.frozen 4
        have LI : LocR rb w w5 N _ w.heap.size (.slice a4 (bvOf RW).length c4) _ := ⟨g5, s5, ⟨_, ri5⟩, o5, NE.out.1, NE.out.2.2.1, Nat.le_refl _⟩
        have LF := Box'.mk (((((LI.set 0 (.int .u8 (k.toNat : Int))).set 1 (.slice a4 (bvOf RW).length c4)).set 2 (.int .i64 0)).set 3 (.int .i64 0)).set 4 (.int .u8 0))
        have PF := Box'.mk (put5 (by decide) ri5 (.int .u8 (k.toNat : Int)) (.slice a4 (bvOf RW).length c4) (.int .i64 0) (.int .i64 0) (.int .u8 0)).1
        have HRR := Box'.mk (hR)
        clear LI rx4 ri4 rx5 ri5 s4 s5 g4 g5 o4 o5 se hR RX3 RI3 RR3 ST3 I3 EV G3
        rw [hw5] at m0 m1 m2 m3 m4 z0 f0 z1 f1 z2 f2 z3 f3 z4 f4 PF LF
        go_wp2_with fail
        exact bodyPost_ret (results_row rfl _ w.heap.size rfl _ _ PF.out _ Try.underlying48 rfl 5 Try.size48 rfl) rfl ⟨⟨k, bvOf RW, 0, 0, 0⟩, _, rfl, LF.out.own, LF.out.rst, HRR.out, LF.out.gb⟩
end Go.Proofs.Ytpgljhgfoihnjaa
