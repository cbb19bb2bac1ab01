/- A line is fed, forward and back. -/
import Derived.Test.YtlekleeckcdcgaaGreatXt
namespace Go.Proofs.YtlekleeckcdcgaaGreat
open Go.RowKit Go.BigFrame
set_option linter.unusedVariables false
set_option linter.unusedSimpArgs false
set_option maxHeartbeats 8000000
set_option maxRecDepth 100000
def fdF (x : Sn) : Sn := if x.cur.row = x.bot then rlF x x.top x.bot 1 else if x.cur.row < x.g.ro - 1 then rwF x (x.cur.row + 1) else x
theorem bFeed_a (N : Nat) (w : World) (p : Nat) (x : Sn) (vg vt vm vl : Value) (h : Bd N w p x vg vt vm vl) (m : Mm x) (hG : mayG x.g.co x.g.ro x.g.c = true) (hS : mayS x.cur.st = true) (h1 : x.cur.row = x.bot) :
  Calls Tryz.prog 130 #[.pointer (some ⟨p, 0, none⟩)] w fun e w' => (∃ v, e = .returned v) ∧ Bd N w' p (rlF x x.top x.bot 1) vg vt vm vl ∧ Below N w w' := by
 have HA := Box'.mk h1
 have RL : Box' (∀ wq, Bd N wq p x vg vt vm vl → Calls Tryz.prog 136 #[.pointer (some ⟨p, 0, none⟩), .int .i64 x.top, .int .i64 x.bot, .int .i64 1] wq fun e w' => (∃ v, e = .returned v) ∧ Bd N w' p (rlF x x.top x.bot 1) vg vt vm vl ∧ Below N wq w') := ⟨fun wq hb => bRoll_any N wq p x vg vt vm vl hb hG hS x.top x.bot 1 m.t1 m.t2 m.b2⟩
 clear h1 hG hS
 have BB := Box'.mk h
 clear h
 go_enter Tryz.func130, Tryz.ntmps130
 go_wp2_with fail
 refine wp_region_walk 10 (by kernel_rfl) (by kernel_rfl) (fun D f wa => (Bd N wa p x vg vt vm vl ∧ Below N w wa) ∧ ∀ i, D i = true → (fun kc => kc == 999) i = false → f i = (fun kc => match kc with
   | 0 => .pointer (some ⟨p, 0, none⟩)
   | 1 => .pointer (some ⟨p, 0, none⟩)
   | 2 => .pointer (some ⟨p, 3, none⟩)
   | 3 => .int .i64 x.cur.row
   | 4 => .pointer (some ⟨p, 0, none⟩)
   | 5 => .pointer (some ⟨p, 0, none⟩)
   | 6 => .pointer (some ⟨p, 17, none⟩)
   | 7 => .int .i64 x.bot
   | 8 => .bool true
   | 9 => .bool true
   | _ => undef) i) ?_ ?_ ?_
 ·exact fun f => ⟨⟨BB.out.below (bR.drew), bR.drew⟩, fun i h => by cases h⟩
 ·refine ⟨?b0, ?b1, ?b2, ?b3, ?b4, ?b5, ?b6, ?b7, ?b8, ?b9, trivial⟩
  all_goals intro D f wq hJ hD hd KK hK
  all_goals have G := fun j h h2 => hJ.2 j (hd j h) h2
  all_goals have cq0 : wq.cell? ⟨p, 3, none⟩ = some (.int .i64 x.cur.row) := hJ.1.1.box.cell 3
  all_goals have cq1 : wq.cell? ⟨p, 17, none⟩ = some (.int .i64 x.bot) := hJ.1.1.box.cell 17
  all_goals simp (disch := decide +kernel) only [tkS, tkZ, setAll, siB, stS, stZ, Nat.zero_add, Nat.reduceAdd, G] at hK ⊢
  case b8 =>
   refine wp_of_quiet rfl ?_
   go_big_quiet_step (fail)
   exact wpQuiet_nil (hK _ _ ⟨hJ.1, vals_upd hJ.2 (.inr (by first | (simp [HA.out]; done) | (have := HA.out; simp; omega)))⟩)
  all_goals (refine wp_of_quiet rfl ?_; go_big_quiet_step (fail); exact wpQuiet_nil (hK _ _ ⟨hJ.1, vals_upd hJ.2 (.inr rfl)⟩))
 ·intro D f wz hD hJ
  have hW := hJ.1
  have P := fun j h h2 => hJ.2 j (hD j h) h2
  clear hJ hD
  simp (disch := decide) only [tkS, tkZ, List.drop_succ_cons, List.drop_zero, setAll, siB, stS, stZ, Nat.zero_add, Nat.reduceAdd, P]
  clear P
  have BY := Box'.mk hW
  clear hW
  go_wp2_with fail
  refine wp_region_walk 10 (by kernel_rfl) (by kernel_rfl) (fun D f wa => (Bd N wa p (bif (D 9) then rlF x x.top x.bot 1 else x) vg vt vm vl ∧ Below N w wa) ∧ ∀ i, D i = true → (fun kc => kc == 9) i = false → f i = (fun kc => match kc with
    | 0 => .pointer (some ⟨p, 0, none⟩)
    | 1 => .pointer (some ⟨p, 0, none⟩)
    | 2 => .pointer (some ⟨p, 0, none⟩)
    | 3 => .pointer (some ⟨p, 16, none⟩)
    | 4 => .int .i64 x.top
    | 5 => .pointer (some ⟨p, 0, none⟩)
    | 6 => .pointer (some ⟨p, 0, none⟩)
    | 7 => .pointer (some ⟨p, 17, none⟩)
    | 8 => .int .i64 x.bot
    | _ => undef) i) ?_ ?_ ?_
  ·exact fun f => ⟨⟨BY.out.1.below (bR.drew), BY.out.2.drew⟩, fun i h => by cases h⟩
  ·refine ⟨?a0, ?a1, ?a2, ?a3, ?a4, ?a5, ?a6, ?a7, ?a8, ?a9, trivial⟩
   all_goals intro D f wq hJ hD hd KK hK
   all_goals have G := fun j h h2 => hJ.2 j (hd j h) h2
   all_goals have cq0 : wq.cell? ⟨p, 16, none⟩ = some (.int .i64 x.top) := (hJ.1.1.box.cell 16).trans (by cases D 9 <;> rfl)
   all_goals have cq1 : wq.cell? ⟨p, 17, none⟩ = some (.int .i64 x.bot) := (hJ.1.1.box.cell 17).trans (by cases D 9 <;> rfl)
   all_goals simp (disch := decide +kernel) only [tkS, tkZ, setAll, siB, stS, stZ, Nat.zero_add, Nat.reduceAdd, G] at hK ⊢
   case a9 =>
    have hn : D 9 = false := hD
    have hb := hJ.1.1
    rw [hn] at hb
    refine wp_callR 136 #[.pointer (some ⟨p, 0, none⟩), .int .i64 x.top, .int .i64 x.bot, .int .i64 1] (by simp [go_sem]) (fun v w'' => Bd N w'' p (rlF x x.top x.bot 1) vg vt vm vl ∧ Below N wq w'') ((RL.out wq hb).mono ?_) ?_
    ·rintro e w'' ⟨⟨v, rfl⟩, k1, k2⟩
     exact ⟨v, rfl, k1, k2⟩
    ·rintro v w'' ⟨k1, k2⟩
     exact hK _ _ ⟨⟨k1, hJ.1.2.trans k2⟩, vals_upd hJ.2 (.inl rfl)⟩
   all_goals (refine wp_of_quiet rfl ?_; go_big_quiet_step (fail); exact wpQuiet_nil (hK _ _ ⟨hJ.1, vals_upd hJ.2 (.inr rfl)⟩))
  ·intro D f wz hD hJ
   have hW := hJ.1
   rw [hD 9 (by decide)] at hW
   have P := fun j h h2 => hJ.2 j (hD j h) h2
   clear hJ hD
   simp (disch := decide) only [tkS, tkZ, List.drop_succ_cons, List.drop_zero, setAll, siB, stS, stZ, Nat.zero_add, Nat.reduceAdd, P]
   clear P
   have BY := Box'.mk hW
   clear hW
   go_wp2_with fail
   exact bodyPost_end (results_none rfl _ _) rfl ⟨⟨_, rfl⟩, BY.out.1, BY.out.2⟩
theorem bFeed_b (N : Nat) (w : World) (p : Nat) (x : Sn) (vg vt vm vl : Value) (h : Bd N w p x vg vt vm vl) (m : Mm x) (hG : mayG x.g.co x.g.ro x.g.c = true) (hS : mayS x.cur.st = true) (h1 : ¬ x.cur.row = x.bot) (h2 : x.cur.row < x.g.ro - 1) :
  Calls Tryz.prog 130 #[.pointer (some ⟨p, 0, none⟩)] w fun e w' => (∃ v, e = .returned v) ∧ Bd N w' p (rwF x (x.cur.row + 1)) vg vt vm vl ∧ Below N w w' := by
 have HA := Box'.mk h1
 have HB := Box'.mk h2
 have w1 := m.w1
 have w2 := m.w2
 have r2 := m.r2
 clear h1 h2 hG hS
 have BB := Box'.mk h
 clear h
 go_enter Tryz.func130, Tryz.ntmps130
 go_wp2_with fail
 refine wp_region_walk 10 (by kernel_rfl) (by kernel_rfl) (fun D f wa => (Bd N wa p x vg vt vm vl ∧ Below N w wa) ∧ ∀ i, D i = true → (fun kc => kc == 999) i = false → f i = (fun kc => match kc with
   | 0 => .pointer (some ⟨p, 0, none⟩)
   | 1 => .pointer (some ⟨p, 0, none⟩)
   | 2 => .pointer (some ⟨p, 3, none⟩)
   | 3 => .int .i64 x.cur.row
   | 4 => .pointer (some ⟨p, 0, none⟩)
   | 5 => .pointer (some ⟨p, 0, none⟩)
   | 6 => .pointer (some ⟨p, 17, none⟩)
   | 7 => .int .i64 x.bot
   | 8 => .bool false
   | 9 => .bool false
   | _ => undef) i) ?_ ?_ ?_
 ·exact fun f => ⟨⟨BB.out.below (bR.drew), bR.drew⟩, fun i h => by cases h⟩
 ·refine ⟨?d0, ?d1, ?d2, ?d3, ?d4, ?d5, ?d6, ?d7, ?d8, ?d9, trivial⟩
  all_goals intro D f wq hJ hD hd KK hK
  all_goals have G := fun j h h2 => hJ.2 j (hd j h) h2
  all_goals have cq0 : wq.cell? ⟨p, 3, none⟩ = some (.int .i64 x.cur.row) := hJ.1.1.box.cell 3
  all_goals have cq1 : wq.cell? ⟨p, 17, none⟩ = some (.int .i64 x.bot) := hJ.1.1.box.cell 17
  all_goals simp (disch := decide +kernel) only [tkS, tkZ, setAll, siB, stS, stZ, Nat.zero_add, Nat.reduceAdd, G] at hK ⊢
  case d8 =>
   refine wp_of_quiet rfl ?_
   go_big_quiet_step (fail)
   exact wpQuiet_nil (hK _ _ ⟨hJ.1, vals_upd hJ.2 (.inr (by first | (simp [HA.out]; done) | (have := HA.out; simp; omega)))⟩)
  all_goals (refine wp_of_quiet rfl ?_; go_big_quiet_step (fail); exact wpQuiet_nil (hK _ _ ⟨hJ.1, vals_upd hJ.2 (.inr rfl)⟩))
 ·intro D f wz hD hJ
  have hW := hJ.1
  have P := fun j h h2 => hJ.2 j (hD j h) h2
  clear hJ hD
  simp (disch := decide) only [tkS, tkZ, List.drop_succ_cons, List.drop_zero, setAll, siB, stS, stZ, Nat.zero_add, Nat.reduceAdd, P]
  clear P
  have BY := Box'.mk hW
  clear hW
  go_wp2_with fail
  refine wp_region_walk 8 (by kernel_rfl) (by kernel_rfl) (fun D f wa => (Bd N wa p x vg vt vm vl ∧ Below N w wa) ∧ ∀ i, D i = true → (fun kc => kc == 999) i = false → f i = (fun kc => match kc with
    | 0 => .pointer (some ⟨p, 0, none⟩)
    | 1 => .pointer (some ⟨p, 0, none⟩)
    | 2 => .pointer (some ⟨p, 3, none⟩)
    | 3 => .int .i64 x.cur.row
    | 4 => .pointer (some ⟨p, 0, none⟩)
    | 5 => .int .i64 (x.g.ro - 1)
    | 6 => .bool true
    | 7 => .bool true
    | _ => undef) i) ?_ ?_ ?_
  ·exact fun f => ⟨⟨BY.out.1.below (bR.drew), BY.out.2.drew⟩, fun i h => by cases h⟩
  ·refine ⟨?c0, ?c1, ?c2, ?c3, ?c4, ?c5, ?c6, ?c7, trivial⟩
   all_goals intro D f wq hJ hD hd KK hK
   all_goals have G := fun j h h2 => hJ.2 j (hd j h) h2
   all_goals have cq0 : wq.cell? ⟨p, 3, none⟩ = some (.int .i64 x.cur.row) := hJ.1.1.box.cell 3
   all_goals simp (disch := decide +kernel) only [tkS, tkZ, setAll, siB, stS, stZ, Nat.zero_add, Nat.reduceAdd, G] at hK ⊢
   case c5 =>
    refine wp_call 132 #[.pointer (some ⟨p, 0, none⟩)] (by simp [go_sem]) (.int .i64 (x.g.ro - 1)) (fun w'' => w'' = wq) (lastRow_any N wq p x vg vt vm vl hJ.1.1 m.r1 m.r2) ?_
    rintro _ rfl
    exact hK _ _ ⟨hJ.1, vals_upd hJ.2 (.inr rfl)⟩
   case c6 =>
    refine wp_of_quiet rfl ?_
    go_big_quiet_step (fail)
    exact wpQuiet_nil (hK _ _ ⟨hJ.1, vals_upd hJ.2 (.inr (by first | (simp [HB.out]; done) | (have := HB.out; simp; omega)))⟩)
   all_goals (refine wp_of_quiet rfl ?_; go_big_quiet_step (fail); exact wpQuiet_nil (hK _ _ ⟨hJ.1, vals_upd hJ.2 (.inr rfl)⟩))
  ·intro D f wz hD hJ
   have hW := hJ.1
   have P := fun j h h2 => hJ.2 j (hD j h) h2
   clear hJ hD
   simp (disch := decide) only [tkS, tkZ, List.drop_succ_cons, List.drop_zero, setAll, siB, stS, stZ, Nat.zero_add, Nat.reduceAdd, P]
   clear P
   have BY := Box'.mk hW
   clear hW
   have cc : wz.cell? ⟨p, 3, none⟩ = some (.int .i64 x.cur.row) := BY.out.1.box.cell 3
   have ff := BY.out.1.box.frozen 3
   have B4 : Box' (Bd N (wz.setCell ⟨p, 3, none⟩ (.int .i64 (x.cur.row + 1))) p (rwF x (x.cur.row + 1)) vg vt vm vl) := ⟨BY.out.1.setCell _ 3 _ rfl rfl rfl rfl rfl⟩
   have T4 : Box' (Below N w (wz.setCell ⟨p, 3, none⟩ (.int .i64 (x.cur.row + 1)))) := ⟨BY.out.2.trans (((Tc.refl p wz).setCell 3 _).below BY.out.1.hp (Nat.le_trans BY.out.1.hp (Nat.le_of_lt BY.out.1.lt)))⟩
   go_wp2_with fail
   exact bodyPost_end (results_none rfl _ _) rfl ⟨⟨_, rfl⟩, B4.out, T4.out⟩
theorem bFeed_c (N : Nat) (w : World) (p : Nat) (x : Sn) (vg vt vm vl : Value) (h : Bd N w p x vg vt vm vl) (m : Mm x) (hG : mayG x.g.co x.g.ro x.g.c = true) (hS : mayS x.cur.st = true) (h1 : ¬ x.cur.row = x.bot) (h2 : ¬ x.cur.row < x.g.ro - 1) :
  Calls Tryz.prog 130 #[.pointer (some ⟨p, 0, none⟩)] w fun e w' => (∃ v, e = .returned v) ∧ Bd N w' p (x) vg vt vm vl ∧ Below N w w' := by
 have HA := Box'.mk h1
 have HB := Box'.mk h2
 have w1 := m.w1
 have w2 := m.w2
 have r2 := m.r2
 clear h1 h2 hG hS
 have BB := Box'.mk h
 clear h
 go_enter Tryz.func130, Tryz.ntmps130
 go_wp2_with fail
 refine wp_region_walk 10 (by kernel_rfl) (by kernel_rfl) (fun D f wa => (Bd N wa p x vg vt vm vl ∧ Below N w wa) ∧ ∀ i, D i = true → (fun kc => kc == 999) i = false → f i = (fun kc => match kc with
   | 0 => .pointer (some ⟨p, 0, none⟩)
   | 1 => .pointer (some ⟨p, 0, none⟩)
   | 2 => .pointer (some ⟨p, 3, none⟩)
   | 3 => .int .i64 x.cur.row
   | 4 => .pointer (some ⟨p, 0, none⟩)
   | 5 => .pointer (some ⟨p, 0, none⟩)
   | 6 => .pointer (some ⟨p, 17, none⟩)
   | 7 => .int .i64 x.bot
   | 8 => .bool false
   | 9 => .bool false
   | _ => undef) i) ?_ ?_ ?_
 ·exact fun f => ⟨⟨BB.out.below (bR.drew), bR.drew⟩, fun i h => by cases h⟩
 ·refine ⟨?f0, ?f1, ?f2, ?f3, ?f4, ?f5, ?f6, ?f7, ?f8, ?f9, trivial⟩
  all_goals intro D f wq hJ hD hd KK hK
  all_goals have G := fun j h h2 => hJ.2 j (hd j h) h2
  all_goals have cq0 : wq.cell? ⟨p, 3, none⟩ = some (.int .i64 x.cur.row) := hJ.1.1.box.cell 3
  all_goals have cq1 : wq.cell? ⟨p, 17, none⟩ = some (.int .i64 x.bot) := hJ.1.1.box.cell 17
  all_goals simp (disch := decide +kernel) only [tkS, tkZ, setAll, siB, stS, stZ, Nat.zero_add, Nat.reduceAdd, G] at hK ⊢
  case f8 =>
   refine wp_of_quiet rfl ?_
   go_big_quiet_step (fail)
   exact wpQuiet_nil (hK _ _ ⟨hJ.1, vals_upd hJ.2 (.inr (by first | (simp [HA.out]; done) | (have := HA.out; simp; omega)))⟩)
  all_goals (refine wp_of_quiet rfl ?_; go_big_quiet_step (fail); exact wpQuiet_nil (hK _ _ ⟨hJ.1, vals_upd hJ.2 (.inr rfl)⟩))
 ·intro D f wz hD hJ
  have hW := hJ.1
  have P := fun j h h2 => hJ.2 j (hD j h) h2
  clear hJ hD
  simp (disch := decide) only [tkS, tkZ, List.drop_succ_cons, List.drop_zero, setAll, siB, stS, stZ, Nat.zero_add, Nat.reduceAdd, P]
  clear P
  have BY := Box'.mk hW
  clear hW
  go_wp2_with fail
  refine wp_region_walk 8 (by kernel_rfl) (by kernel_rfl) (fun D f wa => (Bd N wa p x vg vt vm vl ∧ Below N w wa) ∧ ∀ i, D i = true → (fun kc => kc == 999) i = false → f i = (fun kc => match kc with
    | 0 => .pointer (some ⟨p, 0, none⟩)
    | 1 => .pointer (some ⟨p, 0, none⟩)
    | 2 => .pointer (some ⟨p, 3, none⟩)
    | 3 => .int .i64 x.cur.row
    | 4 => .pointer (some ⟨p, 0, none⟩)
    | 5 => .int .i64 (x.g.ro - 1)
    | 6 => .bool false
    | 7 => .bool false
    | _ => undef) i) ?_ ?_ ?_
  ·exact fun f => ⟨⟨BY.out.1.below (bR.drew), BY.out.2.drew⟩, fun i h => by cases h⟩
  ·refine ⟨?e0, ?e1, ?e2, ?e3, ?e4, ?e5, ?e6, ?e7, trivial⟩
   all_goals intro D f wq hJ hD hd KK hK
   all_goals have G := fun j h h2 => hJ.2 j (hd j h) h2
   all_goals have cq0 : wq.cell? ⟨p, 3, none⟩ = some (.int .i64 x.cur.row) := hJ.1.1.box.cell 3
   all_goals simp (disch := decide +kernel) only [tkS, tkZ, setAll, siB, stS, stZ, Nat.zero_add, Nat.reduceAdd, G] at hK ⊢
   case e5 =>
    refine wp_call 132 #[.pointer (some ⟨p, 0, none⟩)] (by simp [go_sem]) (.int .i64 (x.g.ro - 1)) (fun w'' => w'' = wq) (lastRow_any N wq p x vg vt vm vl hJ.1.1 m.r1 m.r2) ?_
    rintro _ rfl
    exact hK _ _ ⟨hJ.1, vals_upd hJ.2 (.inr rfl)⟩
   case e6 =>
    refine wp_of_quiet rfl ?_
    go_big_quiet_step (fail)
    exact wpQuiet_nil (hK _ _ ⟨hJ.1, vals_upd hJ.2 (.inr (by first | (simp [HB.out]; done) | (have := HB.out; simp; omega)))⟩)
   all_goals (refine wp_of_quiet rfl ?_; go_big_quiet_step (fail); exact wpQuiet_nil (hK _ _ ⟨hJ.1, vals_upd hJ.2 (.inr rfl)⟩))
  ·intro D f wz hD hJ
   have hW := hJ.1
   have P := fun j h h2 => hJ.2 j (hD j h) h2
   clear hJ hD
   simp (disch := decide) only [tkS, tkZ, List.drop_succ_cons, List.drop_zero, setAll, siB, stS, stZ, Nat.zero_add, Nat.reduceAdd, P]
   clear P
   have BY := Box'.mk hW
   clear hW
   go_wp2_with fail
   exact bodyPost_end (results_none rfl _ _) rfl ⟨⟨_, rfl⟩, BY.out.1, BY.out.2⟩
theorem bFeed_any (N : Nat) (w : World) (p : Nat) (x : Sn) (vg vt vm vl : Value) (h : Bd N w p x vg vt vm vl) (m : Mm x) (hG : mayG x.g.co x.g.ro x.g.c = true) (hS : mayS x.cur.st = true) :
  Calls Tryz.prog 130 #[.pointer (some ⟨p, 0, none⟩)] w fun e w' => (∃ v, e = .returned v) ∧ Bd N w' p (fdF x) vg vt vm vl ∧ Below N w w' := by
 unfold fdF
 by_cases h1 : x.cur.row = x.bot
 ·rw [if_pos h1]; exact bFeed_a N w p x vg vt vm vl h m hG hS h1
 ·rw [if_neg h1]
  by_cases h2 : x.cur.row < x.g.ro - 1
  ·rw [if_pos h2]; exact bFeed_b N w p x vg vt vm vl h m hG hS h1 h2
  ·rw [if_neg h2]; exact bFeed_c N w p x vg vt vm vl h m hG hS h1 h2
end Go.Proofs.YtlekleeckcdcgaaGreat
