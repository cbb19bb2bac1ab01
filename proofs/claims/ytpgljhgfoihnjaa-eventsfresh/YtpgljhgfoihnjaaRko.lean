/- The walk of the reference's event, a kind by itself. The walk of the reference's event, a kind by itself. -/
import Derived.Test.YtpgljhgfoihnjaaRf
import Derived.Test.YtpgljhgfoihnjaaU
import Derived.Test.YtpgljhgfoihnjaaO
import Derived.Test.YtpgljhgfoihnjaaE
import Derived.Test.YtpgljhgfoihnjaaFa
import Derived.Test.YtpgljhgfoihnjaaH
import Derived.Test.YtpgljhgfoihnjaaN
import Derived.Test.YtpgljhgfoihnjaaOz
import Derived.Test.YtpgljhgfoihnjaaR
import Derived.Test.YtpgljhgfoihnjaaS
import Derived.Test.YtpgljhgfoihnjaaT
import Derived.Test.YtpgljhgfoihnjaaY
import Derived.Test.YtpgljhgfoihnjaaEd
import Derived.Test.YtpgljhgfoihnjaaEa
import Derived.Test.YtpgljhgfoihnjaaEb
import Derived.Test.YtpgljhgfoihnjaaEc
import Derived.Deep.Cut
namespace Go.Proofs.Ytpgljhgfoihnjaa
open Go.RowKit Go.BigFrame
set_option maxRecDepth 100000
set_option linter.unusedSimpArgs false
set_option linter.unusedVariables false

set_option maxRecDepth 100000 in
set_option maxHeartbeats 4000000 in
theorem refEvent_o (N : Nat) (w : World) (rb : Nat) (k : UInt8) (t : List UInt8) (hk : k.toNat ≠ 1 ∧ k.toNat ≠ 2 ∧ k.toNat ≠ 3 ∧ k.toNat ≠ 4) (h : RSt N w rb (.ok (k :: t))) :
    Calls Try.prog 44 #[.pointer (some ⟨rb, 0, none⟩)] w (VEnd N rb w (evR (k :: t))) := by
  have HH := Box'.mk h
  obtain ⟨w0, hw0⟩ : ∃ w0, w0 = (w.alloc (.cells #[.int .u8 0, .slice none 0 0, .int .i64 0, .int .i64 0, .int .u8 0] 48)).alloc (.cells #[.int .u8 0, .slice none 0 0, .int .i64 0, .int .i64 0, .int .u8 0] 48) := ⟨_, rfl⟩
  have b0 : Below w.heap.size w w0 := by rw [hw0]; exact ((Below.refl _ _).alloc (Nat.le_refl _) _).alloc (by simp) _
  have ri : Row w0 w.heap.size 48 #[.int .u8 0, .slice none 0 0, .int .i64 0, .int .i64 0, .int .u8 0] := by rw [hw0]; exact (Row.new _ _ _).alloc _
  have rx : Row w0 (w.heap.size + 1) 48 #[.int .u8 0, .slice none 0 0, .int .i64 0, .int .i64 0, .int .u8 0] := by rw [hw0]; exact Row.made _ 48 _ _ _ rfl (by simp)
  obtain ⟨h1, h2, v, r, hi, hl⟩ := h
  have r0 := r.below b0 r.lt
  have c0 : w0.cell? ⟨rb, 0, none⟩ = some v := by rw [r0.cell]; rfl
  have c1 : w0.cell? ⟨rb, 1, none⟩ = some (.int .i64 0) := by rw [r0.cell]; rfl
  have fr0 := r0.frozen 0
  have fr1 := r0.frozen 1
  have hi0 := hi.below b0 (by omega)
  have RI := Box'.mk ri
  have RX := Box'.mk rx
  have RR := Box'.mk r0
  have B0 := Box'.mk b0
  have NE : Box' (w.heap.size ≠ rb ∧ w.heap.size + 1 ≠ rb ∧ N ≤ w.heap.size ∧ N ≤ w.heap.size + 1 ∧ w.heap.size ≠ w.heap.size + 1) := ⟨by omega, by omega, by omega, by omega, by omega⟩
  have HN := Box'.mk h1
  · rcases inB_cut hi0 (show 1 ≤ (k :: t).length by simp) with ⟨-, e⟩ | ⟨b, o, c, rfl, hlc, q2, q3, -⟩
    · cases e
    have cb : w0.cell? ⟨b, o, none⟩ = some (.int .u8 (k.toNat : Int)) := by
      obtain ⟨b', o', c', e, _, hcell⟩ := hi0.cell (k := 0) (by simp)
      injection e with e1
      injection e1 with e1
      injection e1 with e1 e2
      subst e1 e2
      have := hcell 0 (by simp)
      simpa using this
    have hbN : b < N := by
      obtain ⟨b', o', c', e, hb', _⟩ := hi0.cell (k := 0) (by simp)
      injection e with e1
      injection e1 with e1
      injection e1 with e1 e2
      omega
    have hlt : t.length ≤ 140737488351232 := by simp at hl; omega
    have hlc' : t.length + 1 ≤ c := by simpa using hlc
    rw [List.drop_one, List.tail_cons] at q2 q3
    simp only [List.length_cons, Nat.add_sub_cancel] at q2 q3 c0
    have BX : Box' (b ≠ w.heap.size ∧ b ≠ w.heap.size + 1 ∧ b ≠ rb) := ⟨by omega, by omega, by omega⟩
    obtain ⟨wk, hwk⟩ : ∃ wk, wk = (w.alloc (.cells #[.int .u8 0, .slice none 0 0, .int .i64 0, .int .i64 0, .int .u8 0] 48)).alloc (.cells #[.int .u8 (k.toNat : Int), .slice none 0 0, .int .i64 0, .int .i64 0, .int .u8 0] 48) := ⟨_, rfl⟩
    have bk : Below w.heap.size w wk := by rw [hwk]; exact ((Below.refl _ _).alloc (Nat.le_refl _) _).alloc (by simp) _
    have rik : Row wk w.heap.size 48 #[.int .u8 0, .slice none 0 0, .int .i64 0, .int .i64 0, .int .u8 0] := by rw [hwk]; exact (Row.new _ _ _).alloc _
    have rxk : Row wk (w.heap.size + 1) 48 #[.int .u8 (k.toNat : Int), .slice none 0 0, .int .i64 0, .int .i64 0, .int .u8 0] := by rw [hwk]; exact Row.made _ 48 _ _ _ rfl (by simp)
    have rrk := r.below bk r.lt
    have ck0 : wk.cell? ⟨rb, 0, none⟩ = some (.slice (some ⟨b, o, none⟩) (t.length + 1) c) := by rw [rrk.cell]; rfl
    have ck1 : wk.cell? ⟨rb, 1, none⟩ = some (.int .i64 0) := by rw [rrk.cell]; rfl
    have fk0 := rrk.frozen 0
    have fk1 := rrk.frozen 1
    have xk0 : wk.cell? ⟨w.heap.size + 1, 0, none⟩ = some (.int .u8 (k.toNat : Int)) := by rw [rxk.cell]; rfl
    have FST : Box' (∀ v', InB N w0 v' t → Row (wk.setCell ⟨rb, 0, none⟩ v') (w.heap.size + 1) 48 #[.int .u8 (k.toNat : Int), .slice none 0 0, .int .i64 0, .int .i64 0, .int .u8 0] ∧ Row (wk.setCell ⟨rb, 0, none⟩ v') w.heap.size 48 #[.int .u8 0, .slice none 0 0, .int .i64 0, .int .i64 0, .int .u8 0] ∧ Row (wk.setCell ⟨rb, 0, none⟩ v') rb 70 #[v', .int .i64 0] ∧ RSt N (wk.setCell ⟨rb, 0, none⟩ v') rb (.ok t) ∧ Gb rb w (wk.setCell ⟨rb, 0, none⟩ v') ∧ InB N (wk.setCell ⟨rb, 0, none⟩ v') v' t) := ⟨fun v' hv' => by
      have iv : InB N wk v' t := by
        rcases hv' with hv' | ⟨bb, oo, cc, e1, e2, e3, e4⟩
        · exact .inl hv'
        · refine .inr ⟨bb, oo, cc, e1, e2, e3, fun j u hu => ?_⟩
          have := e4 j u hu
          rcases e3 with rfl | e3
          · simp at hu
          · rw [b0.cell (p := ⟨bb, oo + j, none⟩) (by show bb < w.heap.size; omega)] at this
            rw [bk.cell (p := ⟨bb, oo + j, none⟩) (by show bb < w.heap.size; omega)]
            exact this
      exact ⟨rxk.setOther _ _ NE.out.2.1, rik.setOther _ _ NE.out.1, rrk.setCell 0 _, RSt.turn h1 rrk v' t iv hlt, (Gb.below (g := rb) bk).setCell 0 v', iv.below (M := N) ((Below.refl _ _).setCell (p := ⟨rb, 0, none⟩) h1 v') (Nat.le_refl _)⟩⟩
    have x0 : w0.cell? ⟨w.heap.size + 1, 0, none⟩ = some (.int .u8 0) := by rw [rx.cell]; rfl
    have fx0 := rx.frozen 0
    have HTL := Box'.mk hlt
    clear hi hi0 r r0 ri rx b0 hl h2 RI RX RR B0 HH bk rik rxk rrk
    rw [hw0] at c0 c1 fr0 fr1 cb x0 fx0
    rw [hwk] at ck0 ck1 fk0 fk1 xk0
    clear hw0
    by_cases hc1 : c = 1
    · subst hc1
      have IV := Box'.mk (q3 rfl)
      clear q2 q3
      obtain ⟨rx3, ri3, rr3, st3, g3, i3⟩ := FST.out _ IV.out
      obtain ⟨w3, hw3⟩ : ∃ w3, w3 = wk.setCell ⟨rb, 0, none⟩ (.slice (some ⟨b, o, none⟩) 0 0) := ⟨_, rfl⟩
      rw [← hw3] at rx3 ri3 rr3 st3 g3 i3
      have G3 := Box'.mk g3
      have RX3 := Box'.mk rx3
      have RI3 := Box'.mk ri3
      have RR3 := Box'.mk rr3
      have ST3 := Box'.mk st3
      have I3 := Box'.mk i3
      have y0 : w3.cell? ⟨w.heap.size + 1, 0, none⟩ = some (.int .u8 (k.toNat : Int)) := by rw [rx3.cell]; rfl
      rw [hw3, hwk] at y0
      clear FST IV rx3 ri3 rr3 st3 g3 i3
      · have hq1 : ((k.toNat : Int) == 1) = false := by rw [beq_eq_false_iff_ne]; have := hk.1; omega
        have hq2 : ((k.toNat : Int) == 2) = false := by rw [beq_eq_false_iff_ne]; have := hk.2.1; omega
        have hq3 : ((k.toNat : Int) == 3) = false := by rw [beq_eq_false_iff_ne]; have := hk.2.2.1; omega
        have hq4 : ((k.toNat : Int) == 4) = false := by rw [beq_eq_false_iff_ne]; have := hk.2.2.2; omega
        have EV := Box'.mk (ev_0 (k := k) (t := t) hk)
        generalize evR (k :: t) = R at *
        have se : stOf R = .error 8 := by rw [EV.out]; rfl
        have hR : ∀ y l, R = .ok (y, l) → y = ⟨k, [], 0, 0, 0⟩ := fun y l e => by rw [EV.out] at e; cases e
        have s8 : RSt N (w3.setCell ⟨rb, 1, none⟩ (.int .i64 8)) rb (.error 8) := RSt.err HN.out RR3.out 8 (by decide)
        have g8 := G3.out.setCell 1 (.int .i64 8)
        have rx8 := RX3.out.setOther ⟨rb, 1, none⟩ (.int .i64 8) NE.out.2.1
        have ri8 := RI3.out.setOther ⟨rb, 1, none⟩ (.int .i64 8) NE.out.1
        rw [← se] at s8
        obtain ⟨w8, hw8⟩ : ∃ w8, w8 = w3.setCell ⟨rb, 1, none⟩ (.int .i64 8) := ⟨_, rfl⟩
        rw [← hw8] at s8 g8 rx8 ri8
        have kk1 : w3.cell? ⟨rb, 1, none⟩ = some (.int .i64 0) := by rw [RR3.out.cell]; rfl
        have kf1 := RR3.out.frozen 1
        have m0 : w8.cell? ⟨w.heap.size + 1, 0, none⟩ = some (.int .u8 (k.toNat : Int)) := by rw [rx8.cell]; rfl
        have m1 : w8.cell? ⟨w.heap.size + 1, 1, none⟩ = some (.slice none 0 0) := by rw [rx8.cell]; rfl
        have m2 : w8.cell? ⟨w.heap.size + 1, 2, none⟩ = some (.int .i64 0) := by rw [rx8.cell]; rfl
        have m3 : w8.cell? ⟨w.heap.size + 1, 3, none⟩ = some (.int .i64 0) := by rw [rx8.cell]; rfl
        have m4 : w8.cell? ⟨w.heap.size + 1, 4, none⟩ = some (.int .u8 0) := by rw [rx8.cell]; rfl
        have z0 : w8.cell? ⟨w.heap.size, 0, none⟩ = some (.int .u8 0) := by rw [ri8.cell]; rfl
        have f0 := ri8.frozen 0
        have z1 : w8.cell? ⟨w.heap.size, 1, none⟩ = some (.slice none 0 0) := by rw [ri8.cell]; rfl
        have f1 := ri8.frozen 1
        have z2 : w8.cell? ⟨w.heap.size, 2, none⟩ = some (.int .i64 0) := by rw [ri8.cell]; rfl
        have f2 := ri8.frozen 2
        have z3 : w8.cell? ⟨w.heap.size, 3, none⟩ = some (.int .i64 0) := by rw [ri8.cell]; rfl
        have f3 := ri8.frozen 3
        have z4 : w8.cell? ⟨w.heap.size, 4, none⟩ = some (.int .u8 0) := by rw [ri8.cell]; rfl
        have f4 := ri8.frozen 4
        have LI : LocR rb w w8 N _ w.heap.size (.slice none 0 0) _ := ⟨g8, s8, ⟨_, ri8⟩, (OwnB.nil _ _ : OwnB w.heap.size w8 (.slice none 0 0) []), NE.out.1, NE.out.2.2.1, Nat.le_refl _⟩
        have LF := Box'.mk (((((LI.set 0 (.int .u8 (k.toNat : Int))).set 1 (.slice none 0 0)).set 2 (.int .i64 0)).set 3 (.int .i64 0)).set 4 (.int .u8 0))
        have PF := Box'.mk (put5 (by decide) ri8 (.int .u8 (k.toNat : Int)) (.slice none 0 0) (.int .i64 0) (.int .i64 0) (.int .u8 0)).1
        have HRR := Box'.mk (hR)
        clear LI rx8 ri8 s8 g8 se hR RX3 RI3 RR3 ST3 I3 EV G3 hk
        rw [hw8, hw3, hwk] at m0 m1 m2 m3 m4 z0 f0 z1 f1 z2 f2 z3 f3 z4 f4 PF LF
        rw [hw3, hwk] at kk1 kf1
        go_enter Try.func44, Try.ntmps44
        go_wp2_with fail
        exact bodyPost_ret (results_row rfl _ w.heap.size rfl _ _ PF.out _ Try.underlying48 rfl 5 Try.size48 rfl) rfl ⟨⟨k, [], 0, 0, 0⟩, _, rfl, LF.out.own, LF.out.rst, HRR.out, LF.out.gb⟩
    · have IV := Box'.mk (q2 hc1)
      clear q2 q3
      obtain ⟨rx3, ri3, rr3, st3, g3, i3⟩ := FST.out _ IV.out
      obtain ⟨w3, hw3⟩ : ∃ w3, w3 = wk.setCell ⟨rb, 0, none⟩ (.slice (some ⟨b, o + 1, none⟩) t.length (c - 1)) := ⟨_, rfl⟩
      rw [← hw3] at rx3 ri3 rr3 st3 g3 i3
      have G3 := Box'.mk g3
      have RX3 := Box'.mk rx3
      have RI3 := Box'.mk ri3
      have RR3 := Box'.mk rr3
      have ST3 := Box'.mk st3
      have I3 := Box'.mk i3
      have y0 : w3.cell? ⟨w.heap.size + 1, 0, none⟩ = some (.int .u8 (k.toNat : Int)) := by rw [rx3.cell]; rfl
      rw [hw3, hwk] at y0
      clear FST IV rx3 ri3 rr3 st3 g3 i3
      · have hq1 : ((k.toNat : Int) == 1) = false := by rw [beq_eq_false_iff_ne]; have := hk.1; omega
        have hq2 : ((k.toNat : Int) == 2) = false := by rw [beq_eq_false_iff_ne]; have := hk.2.1; omega
        have hq3 : ((k.toNat : Int) == 3) = false := by rw [beq_eq_false_iff_ne]; have := hk.2.2.1; omega
        have hq4 : ((k.toNat : Int) == 4) = false := by rw [beq_eq_false_iff_ne]; have := hk.2.2.2; omega
        have EV := Box'.mk (ev_0 (k := k) (t := t) hk)
        generalize evR (k :: t) = R at *
        have se : stOf R = .error 8 := by rw [EV.out]; rfl
        have hR : ∀ y l, R = .ok (y, l) → y = ⟨k, [], 0, 0, 0⟩ := fun y l e => by rw [EV.out] at e; cases e
        have s8 : RSt N (w3.setCell ⟨rb, 1, none⟩ (.int .i64 8)) rb (.error 8) := RSt.err HN.out RR3.out 8 (by decide)
        have g8 := G3.out.setCell 1 (.int .i64 8)
        have rx8 := RX3.out.setOther ⟨rb, 1, none⟩ (.int .i64 8) NE.out.2.1
        have ri8 := RI3.out.setOther ⟨rb, 1, none⟩ (.int .i64 8) NE.out.1
        rw [← se] at s8
        obtain ⟨w8, hw8⟩ : ∃ w8, w8 = w3.setCell ⟨rb, 1, none⟩ (.int .i64 8) := ⟨_, rfl⟩
        rw [← hw8] at s8 g8 rx8 ri8
        have kk1 : w3.cell? ⟨rb, 1, none⟩ = some (.int .i64 0) := by rw [RR3.out.cell]; rfl
        have kf1 := RR3.out.frozen 1
        have m0 : w8.cell? ⟨w.heap.size + 1, 0, none⟩ = some (.int .u8 (k.toNat : Int)) := by rw [rx8.cell]; rfl
        have m1 : w8.cell? ⟨w.heap.size + 1, 1, none⟩ = some (.slice none 0 0) := by rw [rx8.cell]; rfl
        have m2 : w8.cell? ⟨w.heap.size + 1, 2, none⟩ = some (.int .i64 0) := by rw [rx8.cell]; rfl
        have m3 : w8.cell? ⟨w.heap.size + 1, 3, none⟩ = some (.int .i64 0) := by rw [rx8.cell]; rfl
        have m4 : w8.cell? ⟨w.heap.size + 1, 4, none⟩ = some (.int .u8 0) := by rw [rx8.cell]; rfl
        have z0 : w8.cell? ⟨w.heap.size, 0, none⟩ = some (.int .u8 0) := by rw [ri8.cell]; rfl
        have f0 := ri8.frozen 0
        have z1 : w8.cell? ⟨w.heap.size, 1, none⟩ = some (.slice none 0 0) := by rw [ri8.cell]; rfl
        have f1 := ri8.frozen 1
        have z2 : w8.cell? ⟨w.heap.size, 2, none⟩ = some (.int .i64 0) := by rw [ri8.cell]; rfl
        have f2 := ri8.frozen 2
        have z3 : w8.cell? ⟨w.heap.size, 3, none⟩ = some (.int .i64 0) := by rw [ri8.cell]; rfl
        have f3 := ri8.frozen 3
        have z4 : w8.cell? ⟨w.heap.size, 4, none⟩ = some (.int .u8 0) := by rw [ri8.cell]; rfl
        have f4 := ri8.frozen 4
        have LI : LocR rb w w8 N _ w.heap.size (.slice none 0 0) _ := ⟨g8, s8, ⟨_, ri8⟩, (OwnB.nil _ _ : OwnB w.heap.size w8 (.slice none 0 0) []), NE.out.1, NE.out.2.2.1, Nat.le_refl _⟩
        have LF := Box'.mk (((((LI.set 0 (.int .u8 (k.toNat : Int))).set 1 (.slice none 0 0)).set 2 (.int .i64 0)).set 3 (.int .i64 0)).set 4 (.int .u8 0))
        have PF := Box'.mk (put5 (by decide) ri8 (.int .u8 (k.toNat : Int)) (.slice none 0 0) (.int .i64 0) (.int .i64 0) (.int .u8 0)).1
        have HRR := Box'.mk (hR)
        clear LI rx8 ri8 s8 g8 se hR RX3 RI3 RR3 ST3 I3 EV G3 hk
        rw [hw8, hw3, hwk] at m0 m1 m2 m3 m4 z0 f0 z1 f1 z2 f2 z3 f3 z4 f4 PF LF
        rw [hw3, hwk] at kk1 kf1
        go_enter Try.func44, Try.ntmps44
        go_wp2_with fail
        exact bodyPost_ret (results_row rfl _ w.heap.size rfl _ _ PF.out _ Try.underlying48 rfl 5 Try.size48 rfl) rfl ⟨⟨k, [], 0, 0, 0⟩, _, rfl, LF.out.own, LF.out.rst, HRR.out, LF.out.gb⟩
end Go.Proofs.Ytpgljhgfoihnjaa
namespace Go.Proofs.Ytpgljhgfoihnjaa
open Go.RowKit Go.BigFrame
set_option maxRecDepth 100000
set_option linter.unusedSimpArgs false
set_option linter.unusedVariables false

set_option maxRecDepth 100000 in
set_option maxHeartbeats 4000000 in
theorem refEvent_n (N : Nat) (w : World) (rb : Nat)   (h : RSt N w rb (.ok [])) :
    Calls Try.prog 44 #[.pointer (some ⟨rb, 0, none⟩)] w (VEnd N rb w (evR [])) := by
  have HH := Box'.mk h
  obtain ⟨w0, hw0⟩ : ∃ w0, w0 = (w.alloc (.cells #[.int .u8 0, .slice none 0 0, .int .i64 0, .int .i64 0, .int .u8 0] 48)).alloc (.cells #[.int .u8 0, .slice none 0 0, .int .i64 0, .int .i64 0, .int .u8 0] 48) := ⟨_, rfl⟩
  have b0 : Below w.heap.size w w0 := by rw [hw0]; exact ((Below.refl _ _).alloc (Nat.le_refl _) _).alloc (by simp) _
  have ri : Row w0 w.heap.size 48 #[.int .u8 0, .slice none 0 0, .int .i64 0, .int .i64 0, .int .u8 0] := by rw [hw0]; exact (Row.new _ _ _).alloc _
  have rx : Row w0 (w.heap.size + 1) 48 #[.int .u8 0, .slice none 0 0, .int .i64 0, .int .i64 0, .int .u8 0] := by rw [hw0]; exact Row.made _ 48 _ _ _ rfl (by simp)
  obtain ⟨h1, h2, v, r, hi, hl⟩ := h
  have r0 := r.below b0 r.lt
  have c0 : w0.cell? ⟨rb, 0, none⟩ = some v := by rw [r0.cell]; rfl
  have c1 : w0.cell? ⟨rb, 1, none⟩ = some (.int .i64 0) := by rw [r0.cell]; rfl
  have fr0 := r0.frozen 0
  have fr1 := r0.frozen 1
  have hi0 := hi.below b0 (by omega)
  have RI := Box'.mk ri
  have RX := Box'.mk rx
  have RR := Box'.mk r0
  have B0 := Box'.mk b0
  have NE : Box' (w.heap.size ≠ rb ∧ w.heap.size + 1 ≠ rb ∧ N ≤ w.heap.size ∧ N ≤ w.heap.size + 1 ∧ w.heap.size ≠ w.heap.size + 1) := ⟨by omega, by omega, by omega, by omega, by omega⟩
  have HN := Box'.mk h1
  · obtain ⟨av, cv, rfl, _⟩ := hi.slice
    have rn := r0.setCell 1 (.int .i64 7)
    have rst7 : RSt N (w0.setCell ⟨rb, 1, none⟩ (.int .i64 7)) rb (.error 7) := RSt.err h1 r0 7 (by decide)
    have rx7 := rx.setOther ⟨rb, 1, none⟩ (.int .i64 7) NE.out.2.1
    have ri7 := ri.setOther ⟨rb, 1, none⟩ (.int .i64 7) NE.out.1
    have gb7 := (Gb.below (g := rb) b0).setCell 1 (.int .i64 7)
    obtain ⟨w7, hw7⟩ : ∃ w7, w7 = w0.setCell ⟨rb, 1, none⟩ (.int .i64 7) := ⟨_, rfl⟩
    rw [← hw7] at rst7 rx7 ri7 gb7
    have RB : Box' (Row w7 (w.heap.size + 1) 48 #[.int .u8 0, .slice none 0 0, .int .i64 0, .int .i64 0, .int .u8 0] ∧ Row w7 w.heap.size 48 #[.int .u8 0, .slice none 0 0, .int .i64 0, .int .i64 0, .int .u8 0]) := ⟨rx7, ri7⟩
    have m0 : w7.cell? ⟨w.heap.size + 1, 0, none⟩ = some (.int .u8 0) := by rw [rx7.cell]; rfl
    have m1 : w7.cell? ⟨w.heap.size + 1, 1, none⟩ = some (.slice none 0 0) := by rw [rx7.cell]; rfl
    have m2 : w7.cell? ⟨w.heap.size + 1, 2, none⟩ = some (.int .i64 0) := by rw [rx7.cell]; rfl
    have m3 : w7.cell? ⟨w.heap.size + 1, 3, none⟩ = some (.int .i64 0) := by rw [rx7.cell]; rfl
    have m4 : w7.cell? ⟨w.heap.size + 1, 4, none⟩ = some (.int .u8 0) := by rw [rx7.cell]; rfl
    have z0 : w7.cell? ⟨w.heap.size, 0, none⟩ = some (.int .u8 0) := by rw [ri7.cell]; rfl
    have f0 := ri7.frozen 0
    have z1 : w7.cell? ⟨w.heap.size, 1, none⟩ = some (.slice none 0 0) := by rw [ri7.cell]; rfl
    have f1 := ri7.frozen 1
    have z2 : w7.cell? ⟨w.heap.size, 2, none⟩ = some (.int .i64 0) := by rw [ri7.cell]; rfl
    have f2 := ri7.frozen 2
    have z3 : w7.cell? ⟨w.heap.size, 3, none⟩ = some (.int .i64 0) := by rw [ri7.cell]; rfl
    have f3 := ri7.frozen 3
    have z4 : w7.cell? ⟨w.heap.size, 4, none⟩ = some (.int .u8 0) := by rw [ri7.cell]; rfl
    have f4 := ri7.frozen 4
    have LI : LocR rb w w7 N _ w.heap.size (.slice none 0 0) _ := ⟨gb7, rst7, ⟨_, ri7⟩, (OwnB.nil _ _ : OwnB w.heap.size w7 (.slice none 0 0) []), NE.out.1, NE.out.2.2.1, Nat.le_refl _⟩
    have LF := Box'.mk (((((LI.set 0 (.int .u8 0)).set 1 (.slice none 0 0)).set 2 (.int .i64 0)).set 3 (.int .i64 0)).set 4 (.int .u8 0))
    have PF := Box'.mk (put5 (by decide) ri7 (.int .u8 0) (.slice none 0 0) (.int .i64 0) (.int .i64 0) (.int .u8 0)).1
    have HRR := Box'.mk ((show ∀ y l, evR [] = .ok (y, l) → y = (⟨0, [], 0, 0, 0⟩ : Ev) from fun y l e => by cases e))
    clear LI rn rst7 rx7 ri7 gb7 hi0 r0 r b0 hi ri rx h1 h2 RI RX RR B0 HH
    rw [hw0] at c0 c1 fr0 fr1
    clear m0 m1 m2 m3 m4 z0 f0 z1 f1 z2 f2 z3 f3 z4 f4
    go_enter Try.func44, Try.ntmps44
    go_upto_region 6 with (fail)
    rw [← hw0, ← hw7]
    clear c0 c1 fr0 fr1 hw0 hw7
    obtain ⟨RX7, RI7⟩ := RB.out
    have m0 : w7.cell? ⟨w.heap.size + 1, 0, none⟩ = some (.int .u8 0) := by rw [RX7.cell]; rfl
    have m1 : w7.cell? ⟨w.heap.size + 1, 1, none⟩ = some (.slice none 0 0) := by rw [RX7.cell]; rfl
    have m2 : w7.cell? ⟨w.heap.size + 1, 2, none⟩ = some (.int .i64 0) := by rw [RX7.cell]; rfl
    have m3 : w7.cell? ⟨w.heap.size + 1, 3, none⟩ = some (.int .i64 0) := by rw [RX7.cell]; rfl
    have m4 : w7.cell? ⟨w.heap.size + 1, 4, none⟩ = some (.int .u8 0) := by rw [RX7.cell]; rfl
    have z0 : w7.cell? ⟨w.heap.size, 0, none⟩ = some (.int .u8 0) := by rw [RI7.cell]; rfl
    have f0 := RI7.frozen 0
    have z1 : w7.cell? ⟨w.heap.size, 1, none⟩ = some (.slice none 0 0) := by rw [RI7.cell]; rfl
    have f1 := RI7.frozen 1
    have z2 : w7.cell? ⟨w.heap.size, 2, none⟩ = some (.int .i64 0) := by rw [RI7.cell]; rfl
    have f2 := RI7.frozen 2
    have z3 : w7.cell? ⟨w.heap.size, 3, none⟩ = some (.int .i64 0) := by rw [RI7.cell]; rfl
    have f3 := RI7.frozen 3
    have z4 : w7.cell? ⟨w.heap.size, 4, none⟩ = some (.int .u8 0) := by rw [RI7.cell]; rfl
    have f4 := RI7.frozen 4
    clear RX7 RI7
    go_wp2_with fail
    exact bodyPost_ret (results_row rfl _ w.heap.size rfl _ _ PF.out _ Try.underlying48 rfl 5 Try.size48 rfl) rfl ⟨⟨0, [], 0, 0, 0⟩, _, rfl, LF.out.own, LF.out.rst, HRR.out, LF.out.gb⟩
end Go.Proofs.Ytpgljhgfoihnjaa
