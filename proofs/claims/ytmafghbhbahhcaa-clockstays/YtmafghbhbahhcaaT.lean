/- ClockStays walked. -/
import Derived.Test.YtmafghbhbahhcaaS
namespace Go.Proofs.Ytmafghbhbahhcaa
open Go.RowKit Go.BigFrame
set_option linter.unusedVariables false
set_option linter.unusedSimpArgs false

theorem wp_cut {P : Program} {c : Code} {Q : Exit → Act → World → Prop} {a : Act} {w : World} (POST : Act → World → Prop) (h1 : Box' (∀ a' w', POST a' w' → Q .normal a' w')) (h2 : Box' (∀ a' w', POST a' w' → Q .normal a' w') → c.wp P Q a w) : c.wp P Q a w := h2 h1
theorem tm_bd {r : Gf.St} (h : Gf.ok r) : 50 ≤ Gf.tmO r.a r.m r.s ∧ Gf.tmO r.a r.m r.s ≤ 1000 := by
  unfold Gf.tmO
  rw [if_pos (show Gf.mayB _ _ _ = true from h)]
  unfold Gf.wi
  split <;> omega
theorem pa_bd {r : Gf.St} (h : Gf.ok r) : 20 ≤ Gf.paO r.a r.m r.s ∧ Gf.paO r.a r.m r.s ≤ 250 := by
  unfold Gf.paO
  rw [if_pos (show Gf.mayB _ _ _ = true from h)]
  unfold Gf.wi
  split <;> omega
set_option maxRecDepth 100000 in
set_option maxHeartbeats 4000000 in
theorem stays_any (a : Option Addr) (n c : Nat) (l : List Int) (hn : n ≤ 140737488355328) (w : World) (h : Sms w.heap.size w a n l) : Calls Try.prog 4 #[.slice a n c] w fun e w' => e = .returned (.bool true) ∧ Below w.heap.size w w' := by
  have HS := Box'.mk h
  have hok := Box'.mk (fun k hk => sams_ok h k hk)
  clear h
  go_enter Try.func4, Try.ntmps4
  go_wp2_with (fail)
  refine (an0 _).mono ?_
  rintro e w1 ⟨rfl, b1⟩
  have B1 := Box'.mk b1
  have hz1 := b1.size
  clear b1
  go_wp2_with (fail)
  go_loopw [4] (fun i w' => ∃ k : Nat, k ≤ n ∧ i = .int .i64 k ∧ Row w' w1.heap.size 23 #[.bool (sams l k).a, .int .i64 (sams l k).m, .int .i64 (sams l k).s] ∧ Below w.heap.size w w') (fun i _ => n - (intOf i).toNat)
  case atStart =>
    exact ⟨0, Nat.zero_le _, rfl, Row.made _ 23 _ _ _ rfl rfl, B1.out.alloc hz1 _⟩
  case round =>
    obtain ⟨k, hk, rfl, hr, hb⟩ := hrel
    by_cases hlt : k < n
    · obtain ⟨b, o, rfl, hbN, hl1, hl2, hl3⟩ := (HS.out.below hb).2 k hlt
      have hs := fun w => sample_any (sams l k).a (sams l k).m (sams l k).s (l.getD k 0) hl1 hl2 w
      rw [show Gf.erE (sams l k).a (sams l k).m (sams l k).s = 0 from if_pos (hok.out k hk)] at hs
      have hs' : ∀ w, Calls Try.prog 7 #[.agg #[.bool (sams l k).a, .int .i64 (sams l k).m, .int .i64 (sams l k).s], .int .u16 (l.getD k 0)] w fun e w' => e = .returned (.tuple #[.agg #[.bool (sams l (k + 1)).a, .int .i64 (sams l (k + 1)).m, .int .i64 (sams l (k + 1)).s], .int .i64 0]) ∧ Below w.heap.size w w' := hs
      have ok1 : Gf.ok (sams l (k + 1)) := hok.out (k + 1) (by omega)
      have ht := fun w => timeout_any (sams l (k + 1)).a (sams l (k + 1)).m (sams l (k + 1)).s w
      have hp := fun w => pace_any (sams l (k + 1)).a (sams l (k + 1)).m (sams l (k + 1)).s w
      have hm := fun w => may_any (sams l (k + 1)).a (sams l (k + 1)).m (sams l (k + 1)).s w
      have hq := fun w => rmay_any (sams l (k + 1)).a (sams l (k + 1)).m (sams l (k + 1)).s w
      have e0 : Gf.erE (sams l (k + 1)).a (sams l (k + 1)).m (sams l (k + 1)).s = 0 := if_pos ok1
      have e1 : Gf.mayB (sams l (k + 1)).a (sams l (k + 1)).m (sams l (k + 1)).s = true := ok1
      rw [e0] at ht hp
      rw [e1] at hm hq
      obtain ⟨t1, t2⟩ := tm_bd ok1
      obtain ⟨p1, p2⟩ := pa_bd ok1
      clear hs e0 e1 ok1
      generalize sams l k = S0 at *
      generalize hS1 : sams l (k + 1) = S1 at *
      have E1 := Box'.mk hS1
      clear hS1
      generalize l.getD k 0 = y at *
      obtain ⟨a0, m0, s0⟩ := S0
      obtain ⟨a1, m1, s1⟩ := S1
      simp only at hs' hr ht hp hm hq t1 t2 p1 p2
      generalize Gf.tmO a1 m1 s1 = T at *
      generalize Gf.paO a1 m1 s1 = P at *
      have HT := Box'.mk ht
      have HP := Box'.mk hp
      have HM := Box'.mk hm
      have HQ := Box'.mk hq
      have c0 := hr.cell 0
      have c1 := hr.cell 1
      have c2 := hr.cell 2
      have hlt' := hr.lt
      have hbr := Nat.lt_of_lt_of_le hbN hb.size
      have HR := Box'.mk hr
      have HB := Box'.mk hb
      have j1 : (0 : Int) ≤ (k : Int) := by omega
      have j2 : (k : Int) < (n : Int) := by omega
      clear hr hb ht hp hm hq
      go_wp2_with (fail)
      refine wp_cut (fun a' w5 => ∃ (p : Nat) (v18 v19 v20 v21 v22 v23 v24 v25 v26 : Value), a' = ⟨List.toArray (.slice (some ⟨b, o, none⟩) n c :: undef :: u2 :: .pointer (some ⟨w1.heap.size, 0, none⟩) :: .int .i64 (k : Int) :: .pointer (some ⟨p, 0, none⟩) :: .int .i64 0 :: u7 :: u8 :: u9 :: u10 :: .agg #[.bool false, .int .i64 0, .int .i64 0] :: .int .i64 (k : Int) :: .slice (some ⟨b, o, none⟩) n c :: .int .i64 (n : Int) :: .bool true :: u16 :: u17 :: v18 :: v19 :: v20 :: v21 :: v22 :: v23 :: v24 :: v25 :: v26 :: u27 :: u28 :: u29 :: u30 :: u31 :: u32 :: u33 :: u34 :: u35 :: u36 :: u37 :: u38 :: u39 :: u40 :: u41 :: u42 :: u43 :: u44 :: u45 :: u46 :: u47 :: u48 :: u49 :: u50 :: u51 :: u52 :: u53 :: u54 :: u55 :: u56 :: u57 :: u58 :: u59 :: u60 :: u61 :: u62 :: u63 :: u64 :: u65 :: u66 :: u67 :: u68 :: u69 :: u70 :: u71 :: u72 :: u73 :: undef :: []), []⟩ ∧ wr.heap.size ≤ p ∧ Row w5 p 23 #[.bool a1, .int .i64 m1, .int .i64 s1] ∧ Row w5 w1.heap.size 23 #[.bool a0, .int .i64 m0, .int .i64 s0] ∧ Below wr.heap.size wr w5) (Box'.mk ?_) (fun HC => ?_)
      · rintro a' w5 ⟨p, v18, v19, v20, v21, v22, v23, v24, v25, v26, rfl, hp, r5, q5, b5⟩
        have B5 := Box'.mk (HB.out.trans (b5.mono HB.out.size))
        have hpz : p ≠ w1.heap.size := by omega
        clear hs' c0 c1 c2 HR HB hbr hl3 b5
        have d0 := r5.cell 0
        have d1 := r5.cell 1
        have d2 := r5.cell 2
        have R5 := Box'.mk r5
        have Q5 := Box'.mk q5
        clear r5 q5
        go_wp2_with (fail)
        refine (HT.out _).mono ?_
        rintro e w6 ⟨rfl, b6⟩
        have B6 := Box'.mk (B5.out.trans (b6.mono B5.out.size))
        have r6 := R5.out.below b6 R5.out.lt
        have d0 := r6.cell 0
        have d1 := r6.cell 1
        have d2 := r6.cell 2
        have R6 := Box'.mk r6
        have Q6 := Box'.mk (Q5.out.below b6 Q5.out.lt)
        clear R5 Q5 B5 HT r6 b6
        go_wp2_with (fail)
        refine (HP.out _).mono ?_
        rintro e w7 ⟨rfl, b7⟩
        have B7 := Box'.mk (B6.out.trans (b7.mono B6.out.size))
        have r7 := R6.out.below b7 R6.out.lt
        have d0 := r7.cell 0
        have d1 := r7.cell 1
        have d2 := r7.cell 2
        have R7 := Box'.mk r7
        have Q7 := Box'.mk (Q6.out.below b7 Q6.out.lt)
        clear R6 Q6 B6 HP r7 b7
        go_wp2_with (fail)
        refine (HQ.out _).mono ?_
        rintro e w8 ⟨rfl, b8⟩
        have B8 := Box'.mk (B7.out.trans (b8.mono B7.out.size))
        have r8 := R7.out.below b8 R7.out.lt
        have d0 := r8.cell 0
        have d1 := r8.cell 1
        have d2 := r8.cell 2
        have R8 := Box'.mk r8
        have Q8 := Box'.mk (Q7.out.below b8 Q7.out.lt)
        clear R7 Q7 B7 HQ r8 b8
        go_wp2_with (fail)
        refine (HM.out _).mono ?_
        rintro e w9 ⟨rfl, b9⟩
        have B9 := Box'.mk (B8.out.trans (b9.mono B8.out.size))
        have r9 := R8.out.below b9 R8.out.lt
        have q9 := Q8.out.below b9 Q8.out.lt
        have d0 := r9.cell 0
        have d1 := r9.cell 1
        have d2 := r9.cell 2
        have x0 := q9.cell 0
        have x1 := q9.cell 1
        have x2 := q9.cell 2
        have y0 := q9.frozen 0
        have y1 := q9.frozen 1
        have y2 := q9.frozen 2
        have Q9 := Box'.mk q9
        clear R8 Q8 B8 HM r9 q9 b9
        go_wp2
        go_roundw
        case rel =>
          refine ⟨k + 1, by omega, by go_num, ?_, ((B9.out.setCell hz1 _).setCell hz1 _).setCell hz1 _⟩
          rw [E1.out]
          exact ((Q9.out.setCell 0 _).setCell 1 _).setCell 2 _
        case measure => simp [intOf]; omega
      · go_region_with (first | (go_at_call 7; refine (hs' _).mono ?_; rintro e w' ⟨rfl, hb'⟩; first | (have rr : Row w' wr.heap.size 23 #[.bool false, .int .i64 0, .int .i64 0] := (Row.made wr.drew 23 _ _ wr.heap.size rfl rfl).below hb' (by simp); have z0 := rr.cell 0; have z1 := rr.cell 1; have z2 := rr.cell 2; have y0 := rr.frozen 0; have y1 := rr.frozen 1; have y2 := rr.frozen 2) | skip))
        all_goals
          first
            | exact HC.out _ _ ⟨_, _, _, _, _, _, _, _, _, _, rfl, hb'.size, Row.made _ 23 _ _ w'.heap.size rfl rfl, ((Row.drew HR.out).below hb' hlt').alloc _, ((Below.drewN (Below.refl _ _) 1).trans (hb'.mono (Nat.le_refl _))).alloc hb'.size _⟩
            | exact HC.out _ _ ⟨_, _, _, _, _, _, _, _, _, _, rfl, Nat.le_refl _, ((rr.setCell 0 _).setCell 1 _).setCell 2 _, (((((Row.drew HR.out).alloc _).below hb' (by simp; omega)).setOther _ _ (by simp; omega)).setOther _ _ (by simp; omega)).setOther _ _ (by simp; omega), (((((Below.drewN (Below.refl _ _) 1).alloc (Nat.le_refl _) _).trans (hb'.mono (by simp))).setCell (Nat.le_refl _) _).setCell (Nat.le_refl _) _).setCell (Nat.le_refl _) _⟩
    · clear hr
      have HB := Box'.mk hb
      clear hb
      go_wp2_with (fail)
      refine (anchored_any _).mono ?_
      rintro e w2 ⟨rfl, b2⟩
      have HB4 := Box'.mk (HB.out.trans (b2.mono HB.out.size))
      clear b2
      go_wp2
      go_ret
      exact ⟨rfl, HB4.out⟩
end Go.Proofs.Ytmafghbhbahhcaa
