/- ClockSettles, ClockStays walked. -/
import Derived.Test.YtmafghbhbahhcaaP
namespace Go.Proofs.Ytmafghbhbahhcaa
open Go.RowKit Go.BigFrame
set_option linter.unusedVariables false
set_option linter.unusedSimpArgs false

/-- Samples behind a slice. -/
def Sms (N : Nat) (w : World) (a : Option Addr) (n : Nat) (l : List Int) : Prop :=
  l.length = n ∧ ∀ k, k < n → ∃ b o, a = some ⟨b, o, none⟩ ∧ b < N ∧ 0 ≤ l.getD k 0 ∧ l.getD k 0 ≤ 65535 ∧ w.cell? ⟨b, o + k, none⟩ = some (.int .u16 (l.getD k 0))
theorem Sms.below {N : Nat} {w w' : World} {a : Option Addr} {n : Nat} {l : List Int} (h : Sms N w a n l) (hb : Below N w w') : Sms N w' a n l :=
  ⟨h.1, fun k hk => by
    obtain ⟨b, o, e, h1, h2, h3, h4⟩ := h.2 k hk
    exact ⟨b, o, e, h1, h2, h3, (hb.cell (p := ⟨b, o + k, none⟩) h1).trans h4⟩⟩
/-- The estimate behind the first k samples. -/
def sams (l : List Int) : Nat → Gf.St
  | 0 => ⟨false, 0, 0⟩
  | k + 1 => Gf.step (l.getD k 0) (sams l k)
theorem sams_ok {N : Nat} {w : World} {a : Option Addr} {n : Nat} {l : List Int} (h : Sms N w a n l) : ∀ k, k ≤ n → Gf.ok (sams l k)
  | 0, _ => Gf.may_start
  | k + 1, hk => by
    obtain ⟨_, _, _, _, h2, h3, _⟩ := h.2 k (by omega)
    exact (Gf.step_ok h2 h3 (sams_ok h k (by omega))).1

theorem settled' {x : Int} (hx : 0 ≤ x) (hx' : x ≤ 65535) {j : Nat} (hj : j = 400) {r : Gf.St} (h : Gf.ok r) : (Gf.run x j r).a = true ∧ (Gf.run x j r).m / 8 = x ∧ 0 ≤ (Gf.run x j r).s ∧ (Gf.run x j r).s ≤ 3 ∧ Gf.ok (Gf.run x j r) := by
  rw [hj]; exact Gf.settled hx hx' h
set_option maxRecDepth 100000 in
set_option maxHeartbeats 4000000 in
theorem settles_any (a : Option Addr) (n c : Nat) (l : List Int) (x : Int) (hx1 : 0 ≤ x) (hx2 : x ≤ 65535) (hn : n ≤ 140737488355328) (w : World) (h : Sms w.heap.size w a n l) : Calls Try.prog 5 #[.slice a n c, .int .u16 x] w fun e w' => e = .returned (.bool true) ∧ Below w.heap.size w w' := by
  have HS := Box'.mk h
  have hok := Box'.mk (fun k hk => sams_ok h k hk)
  clear h
  go_enter Try.func5, Try.ntmps5
  go_wp2_with (fail)
  refine (an0 _).mono ?_
  rintro e w1 ⟨rfl, b1⟩
  have B1 := Box'.mk b1
  have hz1 := b1.size
  clear b1
  go_wp2_with (fail)
  go_loopw [6] (fun i w' => ∃ k : Nat, k ≤ n ∧ i = .int .i64 k ∧ Row w' w1.heap.size 23 #[.bool (sams l k).a, .int .i64 (sams l k).m, .int .i64 (sams l k).s] ∧ Below w.heap.size w w') (fun i _ => n - (intOf i).toNat)
  case atStart =>
    exact ⟨0, Nat.zero_le _, rfl, Row.made _ 23 _ _ _ rfl rfl, B1.out.alloc hz1 _⟩
  case round =>
    obtain ⟨k, hk, rfl, hr, hb⟩ := hrel
    by_cases hlt : k < n
    · obtain ⟨b, o, rfl, hbN, hl1, hl2, hl3⟩ := (HS.out.below hb).2 k hlt
      have hs := fun w => sample_any (sams l k).a (sams l k).m (sams l k).s (l.getD k 0) hl1 hl2 w
      rw [show Gf.erE (sams l k).a (sams l k).m (sams l k).s = 0 from if_pos (hok.out k hk)] at hs
      have hs' : ∀ w, Calls Try.prog 7 #[.agg #[.bool (sams l k).a, .int .i64 (sams l k).m, .int .i64 (sams l k).s], .int .u16 (l.getD k 0)] w fun e w' => e = .returned (.tuple #[.agg #[.bool (sams l (k + 1)).a, .int .i64 (sams l (k + 1)).m, .int .i64 (sams l (k + 1)).s], .int .i64 0]) ∧ Below w.heap.size w w' := hs
      clear hs
      generalize sams l k = S0 at *
      generalize hS1 : sams l (k + 1) = S1 at *
      have E1 := Box'.mk hS1
      clear hS1
      generalize l.getD k 0 = y at *
      obtain ⟨a0, m0, s0⟩ := S0
      obtain ⟨a1, m1, s1⟩ := S1
      simp only at hs' hr
      have c0 := hr.cell 0
      have c1 := hr.cell 1
      have c2 := hr.cell 2
      have f0 := hr.frozen 0
      have f1 := hr.frozen 1
      have f2 := hr.frozen 2
      have hlt' := hr.lt
      have bne : b ≠ w1.heap.size := by omega
      have hbr := Nat.lt_of_lt_of_le hbN hb.size
      have HR := Box'.mk hr
      have HB := Box'.mk hb
      have j1 : (0 : Int) ≤ (k : Int) := by omega
      have j2 : (k : Int) < (n : Int) := by omega
      clear hr hb
      go_wp2_with (fail)
      go_region_with
        (first | (go_at_call 7; refine (hs' _).mono ?_; rintro e w' ⟨rfl, hb'⟩; have k0 : w'.cell? ⟨w1.heap.size, 0, none⟩ = some (.bool a0) := (hb'.cell (p := ⟨w1.heap.size, 0, none⟩) hlt').trans c0; have k1 : w'.cell? ⟨w1.heap.size, 1, none⟩ = some (.int .i64 m0) := (hb'.cell (p := ⟨w1.heap.size, 1, none⟩) hlt').trans c1; have k2 : w'.cell? ⟨w1.heap.size, 2, none⟩ = some (.int .i64 s0) := (hb'.cell (p := ⟨w1.heap.size, 2, none⟩) hlt').trans c2; have k3 : w'.cell? ⟨b, o + k, none⟩ = some (.int .u16 y) := (hb'.cell (p := ⟨b, o + k, none⟩) hbr).trans hl3; have g0 : w'.frozen? ⟨w1.heap.size, 0, none⟩ = false := (hb'.frozen (p := ⟨w1.heap.size, 0, none⟩) hlt').trans f0; have g1 : w'.frozen? ⟨w1.heap.size, 1, none⟩ = false := (hb'.frozen (p := ⟨w1.heap.size, 1, none⟩) hlt').trans f1; have g2 : w'.frozen? ⟨w1.heap.size, 2, none⟩ = false := (hb'.frozen (p := ⟨w1.heap.size, 2, none⟩) hlt').trans f2))
      all_goals
        go_wp2
        go_roundw
        case rel =>
          refine ⟨k + 1, by omega, by go_num, ?_, ((((Below.drewN HB.out 1).trans (hb'.mono HB.out.size)).setCell hz1 _).setCell hz1 _).setCell hz1 _⟩
          rw [E1.out]
          exact ((((Row.drew HR.out).below hb' HR.out.lt).setCell 0 _).setCell 1 _).setCell 2 _
        case measure => simp [intOf]; omega
    · have hkn : k = n := by omega
      have ho := Box'.mk (hok.out k hk)
      have HR := Box'.mk hr
      have HB := Box'.mk hb
      generalize sams l k = S0 at *
      clear hkn hr hb
      go_wp2_with (fail)
      go_loopw [7] (fun i w' => ∃ j : Nat, j ≤ 400 ∧ i = .int .i64 j ∧ Row w' w1.heap.size 23 #[.bool (Gf.run x j S0).a, .int .i64 (Gf.run x j S0).m, .int .i64 (Gf.run x j S0).s] ∧ Below w.heap.size w w') (fun i _ => 400 - (intOf i).toNat)
      case atStart =>
        exact ⟨0, Nat.zero_le _, rfl, HR.out, HB.out⟩
      case round =>
        obtain ⟨j, hj, rfl, hr, hb⟩ := hrel
        by_cases hlt2 : j < 400
        · have hs := fun w => sample_any (Gf.run x j S0).a (Gf.run x j S0).m (Gf.run x j S0).s x hx1 hx2 w
          rw [show Gf.erE (Gf.run x j S0).a (Gf.run x j S0).m (Gf.run x j S0).s = 0 from if_pos (Gf.run_ok hx1 hx2 j ho.out)] at hs
          have hs' : ∀ w, Calls Try.prog 7 #[.agg #[.bool (Gf.run x j S0).a, .int .i64 (Gf.run x j S0).m, .int .i64 (Gf.run x j S0).s], .int .u16 x] w fun e w' => e = .returned (.tuple #[.agg #[.bool (Gf.run x (j + 1) S0).a, .int .i64 (Gf.run x (j + 1) S0).m, .int .i64 (Gf.run x (j + 1) S0).s], .int .i64 0]) ∧ Below w.heap.size w w' := by
            rw [Gf.run_snoc]; exact hs
          clear hs
          generalize Gf.run x j S0 = R0 at *
          generalize hS1 : Gf.run x (j + 1) S0 = R1 at *
          have E1 := Box'.mk hS1
          clear hS1
          obtain ⟨a0, m0, s0⟩ := R0
          obtain ⟨a1, m1, s1⟩ := R1
          simp only at hs' hr
          have c0 := hr.cell 0
          have c1 := hr.cell 1
          have c2 := hr.cell 2
          have HR2 := Box'.mk hr
          have HB2 := Box'.mk hb
          clear hr hb HR HB
          go_wp2_with (fail)
          refine (hs' _).mono ?_
          rintro e w' ⟨rfl, hb'⟩
          have r3 := HR2.out.below hb' HR2.out.lt
          have f0 := r3.frozen 0
          have f1 := r3.frozen 1
          have f2 := r3.frozen 2
          have d0 := r3.cell 0
          have d1 := r3.cell 1
          have d2 := r3.cell 2
          have HR3 := Box'.mk r3
          have HB3 := Box'.mk (HB2.out.trans (hb'.mono HB2.out.size))
          clear r3 hb' hs' c0 c1 c2 HR2 HB2
          go_wp2
          go_roundw
          case rel =>
            refine ⟨j + 1, by omega, by go_num, ?_, ((HB3.out.setCell hz1 _).setCell hz1 _).setCell hz1 _⟩
            rw [E1.out]
            exact ((HR3.out.setCell 0 _).setCell 1 _).setCell 2 _
          case measure => simp [intOf]; omega
        · obtain ⟨q1, q2, q3, q4, q5⟩ := settled' hx1 hx2 (show j = 400 by omega) ho.out
          have ht := fun w => timeout_any (Gf.run x j S0).a (Gf.run x j S0).m (Gf.run x j S0).s w
          rw [show Gf.erE (Gf.run x j S0).a (Gf.run x j S0).m (Gf.run x j S0).s = 0 from if_pos q5, show Gf.tmO (Gf.run x j S0).a (Gf.run x j S0).m (Gf.run x j S0).s = Gf.wi ((Gf.run x j S0).m / 8 + (Gf.run x j S0).s) 50 1000 by unfold Gf.tmO; rw [if_pos (show Gf.mayB _ _ _ = true from q5), if_pos q1]] at ht
          obtain ⟨g1, g2, g3, g4, _⟩ := Gf.may_of q5
          clear q5
          generalize Gf.run x j S0 = R0 at *
          obtain ⟨a0, m0, s0⟩ := R0
          simp only at ht hr q1 q2 q3 q4 g1 g2 g3 g4
          have hT : ∃ T : Int, Gf.wi (m0 / 8 + s0) 50 1000 = T ∧ (T ≤ 50 ∨ T ≤ x + 8) ∧ T ≤ 1000 := ⟨_, rfl, by unfold Gf.wi; omega, by unfold Gf.wi; omega⟩
          obtain ⟨T, hT1, hT2, hT3⟩ := hT
          rw [hT1] at ht
          have k1 : -1 ≤ m0 / 8 - x := by omega
          have k2 : m0 / 8 - x ≤ 1 := by omega
          have K := Box'.mk (And.intro hT2 hT3)
          clear hT1 q1 q2 q3 q4 g3 g4 hT2 hT3
          have c0 := hr.cell 0
          have c1 := hr.cell 1
          have c2 := hr.cell 2
          have HR2 := Box'.mk hr
          have HB2 := Box'.mk hb
          clear hr hb HR HB
          go_wp2_with (fail)
          refine (ht _).mono ?_
          rintro e w' ⟨rfl, hb'⟩
          have r3 := HR2.out.below hb' HR2.out.lt
          have d1 := r3.cell 1
          have HB3 := Box'.mk (HB2.out.trans (hb'.mono HB2.out.size))
          clear r3 hb' ht c0 c1 c2 HR2 HB2
          go_wp2_with (fail)
          refine (anchored_any _).mono ?_
          rintro e w2 ⟨rfl, b2⟩
          have HB4 := Box'.mk (HB3.out.trans (b2.mono HB3.out.size))
          clear b2
          obtain ⟨hT2, hT3⟩ := K.out
          have k3 : T ≤ (if (if x + 8 < 1000 then x + 8 else 1000) > 50 then (if x + 8 < 1000 then x + 8 else 1000) else 50) := by
            split <;> split <;> omega
          clear hT2 hT3 K
          generalize hd : m0 / 8 = q at *
          clear hd
          go_wp2
          all_goals go_ret
          all_goals exact ⟨rfl, HB4.out⟩
end Go.Proofs.Ytmafghbhbahhcaa
