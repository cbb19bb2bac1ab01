/- A line is fed back. Cells are written into the cursor's row. -/
import Derived.Test.YtlekleeckcdcgaaGreatXw
namespace Go.Proofs.YtlekleeckcdcgaaGreat
open Go.RowKit Go.BigFrame
set_option linter.unusedVariables false
set_option linter.unusedSimpArgs false
set_option maxRecDepth 100000
set_option maxHeartbeats 8000000
def fbF (x : Sn) : Sn := if x.cur.row = x.top then rlF x x.top x.bot (-1) else if 0 < x.cur.row then rwF x (x.cur.row - 1) else x
theorem bBack_a (N : Nat) (w : World) (p : Nat) (x : Sn) (vg vt vm vl : Value) (h : Bd N w p x vg vt vm vl) (m : Mm x) (hG : mayG x.g.co x.g.ro x.g.c = true) (hS : mayS x.cur.st = true) (h1 : x.cur.row = x.top) :
  Calls Tryz.prog 131 #[.pointer (some ⟨p, 0, none⟩)] w fun e w' => (∃ v, e = .returned v) ∧ Bd N w' p (rlF x x.top x.bot (-1)) vg vt vm vl ∧ Below N w w' := by
 have HA := Box'.mk h1
 have RL : Box' (∀ wq, Bd N wq p x vg vt vm vl → Calls Tryz.prog 136 #[.pointer (some ⟨p, 0, none⟩), .int .i64 x.top, .int .i64 x.bot, .int .i64 (-1)] wq fun e w' => (∃ v, e = .returned v) ∧ Bd N w' p (rlF x x.top x.bot (-1)) vg vt vm vl ∧ Below N wq w') := ⟨fun wq hb => bRoll_any N wq p x vg vt vm vl hb hG hS x.top x.bot (-1) m.t1 m.t2 m.b2⟩
 clear h1 hG hS
 have BB := Box'.mk h
 clear h
 go_enter Tryz.func131, Tryz.ntmps131
 go_wp2_with fail
 refine wp_region_walk 10 (by kernel_rfl) (by kernel_rfl) (fun D f wa => (Bd N wa p x vg vt vm vl ∧ Below N w wa) ∧ ∀ i, D i = true → (fun kc => kc == 999) i = false → f i = (fun kc => match kc with
   | 0 => .pointer (some ⟨p, 0, none⟩)
   | 1 => .pointer (some ⟨p, 0, none⟩)
   | 2 => .pointer (some ⟨p, 3, none⟩)
   | 3 => .int .i64 x.cur.row
   | 4 => .pointer (some ⟨p, 0, none⟩)
   | 5 => .pointer (some ⟨p, 0, none⟩)
   | 6 => .pointer (some ⟨p, 16, none⟩)
   | 7 => .int .i64 x.top
   | 8 => .bool true
   | 9 => .bool true
   | _ => undef) i) ?_ ?_ ?_
 ·exact fun f => ⟨⟨BB.out.below (bR.drew), bR.drew⟩, fun i h => by cases h⟩
 ·refine ⟨?b0, ?b1, ?b2, ?b3, ?b4, ?b5, ?b6, ?b7, ?b8, ?b9, trivial⟩
  all_goals intro D f wq hJ hD hd KK hK
  all_goals have G := fun j h h2 => hJ.2 j (hd j h) h2
  all_goals have cq0 : wq.cell? ⟨p, 3, none⟩ = some (.int .i64 x.cur.row) := hJ.1.1.box.cell 3
  all_goals have cq1 : wq.cell? ⟨p, 16, none⟩ = some (.int .i64 x.top) := hJ.1.1.box.cell 16
  all_goals simp (disch := decide +kernel) only [tkS, tkZ, setAll, siB, stS, stZ, Nat.zero_add, Nat.reduceAdd, G] at hK ⊢
  case b8 =>
   refine wp_of_quiet rfl ?_
   go_big_quiet_step (fail)
   exact wpQuiet_nil (hK _ _ ⟨hJ.1, vals_upd hJ.2 (.inr (by first | (simp [HA.out]; done) | (have := HA.out; simp; omega)))⟩)
  all_goals (refine wp_of_quiet rfl ?_; go_big_quiet_step (fail); exact wpQuiet_nil (hK _ _ ⟨hJ.1, vals_upd hJ.2 (.inr rfl)⟩))
 ·intro D f wz hD hJ
  have hW := hJ.1
  have P := fun j h h2 => hJ.2 j (hD j h) h2
  clear hJ hD
  simp (disch := decide) only [tkS, tkZ, List.drop_succ_cons, List.drop_zero, setAll, siB, stS, stZ, Nat.zero_add, Nat.reduceAdd, P]
  clear P
  have BY := Box'.mk hW
  clear hW
  go_wp2_with fail
  refine wp_region_walk 10 (by kernel_rfl) (by kernel_rfl) (fun D f wa => (Bd N wa p (bif (D 9) then rlF x x.top x.bot (-1) else x) vg vt vm vl ∧ Below N w wa) ∧ ∀ i, D i = true → (fun kc => kc == 9) i = false → f i = (fun kc => match kc with
    | 0 => .pointer (some ⟨p, 0, none⟩)
    | 1 => .pointer (some ⟨p, 0, none⟩)
    | 2 => .pointer (some ⟨p, 0, none⟩)
    | 3 => .pointer (some ⟨p, 16, none⟩)
    | 4 => .int .i64 x.top
    | 5 => .pointer (some ⟨p, 0, none⟩)
    | 6 => .pointer (some ⟨p, 0, none⟩)
    | 7 => .pointer (some ⟨p, 17, none⟩)
    | 8 => .int .i64 x.bot
    | _ => undef) i) ?_ ?_ ?_
  ·exact fun f => ⟨⟨BY.out.1.below (bR.drew), BY.out.2.drew⟩, fun i h => by cases h⟩
  ·refine ⟨?a0, ?a1, ?a2, ?a3, ?a4, ?a5, ?a6, ?a7, ?a8, ?a9, trivial⟩
   all_goals intro D f wq hJ hD hd KK hK
   all_goals have G := fun j h h2 => hJ.2 j (hd j h) h2
   all_goals have cq0 : wq.cell? ⟨p, 16, none⟩ = some (.int .i64 x.top) := (hJ.1.1.box.cell 16).trans (by cases D 9 <;> rfl)
   all_goals have cq1 : wq.cell? ⟨p, 17, none⟩ = some (.int .i64 x.bot) := (hJ.1.1.box.cell 17).trans (by cases D 9 <;> rfl)
   all_goals simp (disch := decide +kernel) only [tkS, tkZ, setAll, siB, stS, stZ, Nat.zero_add, Nat.reduceAdd, G] at hK ⊢
   case a9 =>
    have hn : D 9 = false := hD
    have hb := hJ.1.1
    rw [hn] at hb
    refine wp_callR 136 #[.pointer (some ⟨p, 0, none⟩), .int .i64 x.top, .int .i64 x.bot, .int .i64 (-1)] (by simp [go_sem]) (fun v w'' => Bd N w'' p (rlF x x.top x.bot (-1)) vg vt vm vl ∧ Below N wq w'') ((RL.out wq hb).mono ?_) ?_
    ·rintro e w'' ⟨⟨v, rfl⟩, k1, k2⟩
     exact ⟨v, rfl, k1, k2⟩
    ·rintro v w'' ⟨k1, k2⟩
     exact hK _ _ ⟨⟨k1, hJ.1.2.trans k2⟩, vals_upd hJ.2 (.inl rfl)⟩
   all_goals (refine wp_of_quiet rfl ?_; go_big_quiet_step (fail); exact wpQuiet_nil (hK _ _ ⟨hJ.1, vals_upd hJ.2 (.inr rfl)⟩))
  ·intro D f wz hD hJ
   have hW := hJ.1
   rw [hD 9 (by decide)] at hW
   have P := fun j h h2 => hJ.2 j (hD j h) h2
   clear hJ hD
   simp (disch := decide) only [tkS, tkZ, List.drop_succ_cons, List.drop_zero, setAll, siB, stS, stZ, Nat.zero_add, Nat.reduceAdd, P]
   clear P
   have BY := Box'.mk hW
   clear hW
   go_wp2_with fail
   exact bodyPost_end (results_none rfl _ _) rfl ⟨⟨_, rfl⟩, BY.out.1, BY.out.2⟩
theorem bBack_b (N : Nat) (w : World) (p : Nat) (x : Sn) (vg vt vm vl : Value) (h : Bd N w p x vg vt vm vl) (m : Mm x) (hG : mayG x.g.co x.g.ro x.g.c = true) (hS : mayS x.cur.st = true) (h1 : ¬ x.cur.row = x.top) (h2 : 0 < x.cur.row) :
  Calls Tryz.prog 131 #[.pointer (some ⟨p, 0, none⟩)] w fun e w' => (∃ v, e = .returned v) ∧ Bd N w' p (rwF x (x.cur.row - 1)) vg vt vm vl ∧ Below N w w' := by
 have HA := Box'.mk h1
 have w1 := m.w1
 have w2 := m.w2
 have r2 := m.r2
 clear h1 hG hS
 have BB := Box'.mk h
 clear h
 go_enter Tryz.func131, Tryz.ntmps131
 go_wp2_with fail
 refine wp_region_walk 10 (by kernel_rfl) (by kernel_rfl) (fun D f wa => (Bd N wa p x vg vt vm vl ∧ Below N w wa) ∧ ∀ i, D i = true → (fun kc => kc == 999) i = false → f i = (fun kc => match kc with
   | 0 => .pointer (some ⟨p, 0, none⟩)
   | 1 => .pointer (some ⟨p, 0, none⟩)
   | 2 => .pointer (some ⟨p, 3, none⟩)
   | 3 => .int .i64 x.cur.row
   | 4 => .pointer (some ⟨p, 0, none⟩)
   | 5 => .pointer (some ⟨p, 0, none⟩)
   | 6 => .pointer (some ⟨p, 16, none⟩)
   | 7 => .int .i64 x.top
   | 8 => .bool false
   | 9 => .bool false
   | _ => undef) i) ?_ ?_ ?_
 ·exact fun f => ⟨⟨BB.out.below (bR.drew), bR.drew⟩, fun i h => by cases h⟩
 ·refine ⟨?c0, ?c1, ?c2, ?c3, ?c4, ?c5, ?c6, ?c7, ?c8, ?c9, trivial⟩
  all_goals intro D f wq hJ hD hd KK hK
  all_goals have G := fun j h h2 => hJ.2 j (hd j h) h2
  all_goals have cq0 : wq.cell? ⟨p, 3, none⟩ = some (.int .i64 x.cur.row) := hJ.1.1.box.cell 3
  all_goals have cq1 : wq.cell? ⟨p, 16, none⟩ = some (.int .i64 x.top) := hJ.1.1.box.cell 16
  all_goals simp (disch := decide +kernel) only [tkS, tkZ, setAll, siB, stS, stZ, Nat.zero_add, Nat.reduceAdd, G] at hK ⊢
  case c8 =>
   refine wp_of_quiet rfl ?_
   go_big_quiet_step (fail)
   exact wpQuiet_nil (hK _ _ ⟨hJ.1, vals_upd hJ.2 (.inr (by first | (simp [HA.out]; done) | (have := HA.out; simp; omega)))⟩)
  all_goals (refine wp_of_quiet rfl ?_; go_big_quiet_step (fail); exact wpQuiet_nil (hK _ _ ⟨hJ.1, vals_upd hJ.2 (.inr rfl)⟩))
 ·intro D f wz hD hJ
  have hW := hJ.1
  have P := fun j h h2 => hJ.2 j (hD j h) h2
  clear hJ hD
  simp (disch := decide) only [tkS, tkZ, List.drop_succ_cons, List.drop_zero, setAll, siB, stS, stZ, Nat.zero_add, Nat.reduceAdd, P]
  clear P
  have BY := Box'.mk hW
  clear hW
  have cr : wz.cell? ⟨p, 3, none⟩ = some (.int .i64 x.cur.row) := BY.out.1.box.cell 3
  have cc : wz.cell? ⟨p, 3, none⟩ = some (.int .i64 x.cur.row) := BY.out.1.box.cell 3
  have ff := BY.out.1.box.frozen 3
  have B4 : Box' (Bd N (wz.setCell ⟨p, 3, none⟩ (.int .i64 (x.cur.row - 1))) p (rwF x (x.cur.row - 1)) vg vt vm vl) := ⟨BY.out.1.setCell _ 3 _ rfl rfl rfl rfl rfl⟩
  have T4 : Box' (Below N w (wz.setCell ⟨p, 3, none⟩ (.int .i64 (x.cur.row - 1)))) := ⟨BY.out.2.trans (((Tc.refl p wz).setCell 3 _).below BY.out.1.hp (Nat.le_trans BY.out.1.hp (Nat.le_of_lt BY.out.1.lt)))⟩
  go_wp2_with fail
  exact bodyPost_end (results_none rfl _ _) rfl ⟨⟨_, rfl⟩, B4.out, T4.out⟩
theorem bBack_c (N : Nat) (w : World) (p : Nat) (x : Sn) (vg vt vm vl : Value) (h : Bd N w p x vg vt vm vl) (m : Mm x) (hG : mayG x.g.co x.g.ro x.g.c = true) (hS : mayS x.cur.st = true) (h1 : ¬ x.cur.row = x.top) (h2 : ¬ 0 < x.cur.row) :
  Calls Tryz.prog 131 #[.pointer (some ⟨p, 0, none⟩)] w fun e w' => (∃ v, e = .returned v) ∧ Bd N w' p (x) vg vt vm vl ∧ Below N w w' := by
 have HA := Box'.mk h1
 have w1 := m.w1
 have w2 := m.w2
 have r2 := m.r2
 clear h1 hG hS
 have BB := Box'.mk h
 clear h
 go_enter Tryz.func131, Tryz.ntmps131
 go_wp2_with fail
 refine wp_region_walk 10 (by kernel_rfl) (by kernel_rfl) (fun D f wa => (Bd N wa p x vg vt vm vl ∧ Below N w wa) ∧ ∀ i, D i = true → (fun kc => kc == 999) i = false → f i = (fun kc => match kc with
   | 0 => .pointer (some ⟨p, 0, none⟩)
   | 1 => .pointer (some ⟨p, 0, none⟩)
   | 2 => .pointer (some ⟨p, 3, none⟩)
   | 3 => .int .i64 x.cur.row
   | 4 => .pointer (some ⟨p, 0, none⟩)
   | 5 => .pointer (some ⟨p, 0, none⟩)
   | 6 => .pointer (some ⟨p, 16, none⟩)
   | 7 => .int .i64 x.top
   | 8 => .bool false
   | 9 => .bool false
   | _ => undef) i) ?_ ?_ ?_
 ·exact fun f => ⟨⟨BB.out.below (bR.drew), bR.drew⟩, fun i h => by cases h⟩
 ·refine ⟨?d0, ?d1, ?d2, ?d3, ?d4, ?d5, ?d6, ?d7, ?d8, ?d9, trivial⟩
  all_goals intro D f wq hJ hD hd KK hK
  all_goals have G := fun j h h2 => hJ.2 j (hd j h) h2
  all_goals have cq0 : wq.cell? ⟨p, 3, none⟩ = some (.int .i64 x.cur.row) := hJ.1.1.box.cell 3
  all_goals have cq1 : wq.cell? ⟨p, 16, none⟩ = some (.int .i64 x.top) := hJ.1.1.box.cell 16
  all_goals simp (disch := decide +kernel) only [tkS, tkZ, setAll, siB, stS, stZ, Nat.zero_add, Nat.reduceAdd, G] at hK ⊢
  case d8 =>
   refine wp_of_quiet rfl ?_
   go_big_quiet_step (fail)
   exact wpQuiet_nil (hK _ _ ⟨hJ.1, vals_upd hJ.2 (.inr (by first | (simp [HA.out]; done) | (have := HA.out; simp; omega)))⟩)
  all_goals (refine wp_of_quiet rfl ?_; go_big_quiet_step (fail); exact wpQuiet_nil (hK _ _ ⟨hJ.1, vals_upd hJ.2 (.inr rfl)⟩))
 ·intro D f wz hD hJ
  have hW := hJ.1
  have P := fun j h h2 => hJ.2 j (hD j h) h2
  clear hJ hD
  simp (disch := decide) only [tkS, tkZ, List.drop_succ_cons, List.drop_zero, setAll, siB, stS, stZ, Nat.zero_add, Nat.reduceAdd, P]
  clear P
  have BY := Box'.mk hW
  clear hW
  have cr : wz.cell? ⟨p, 3, none⟩ = some (.int .i64 x.cur.row) := BY.out.1.box.cell 3
  go_wp2_with fail
  exact bodyPost_end (results_none rfl _ _) rfl ⟨⟨_, rfl⟩, BY.out.1, BY.out.2⟩
theorem bBack_any (N : Nat) (w : World) (p : Nat) (x : Sn) (vg vt vm vl : Value) (h : Bd N w p x vg vt vm vl) (m : Mm x) (hG : mayG x.g.co x.g.ro x.g.c = true) (hS : mayS x.cur.st = true) :
  Calls Tryz.prog 131 #[.pointer (some ⟨p, 0, none⟩)] w fun e w' => (∃ v, e = .returned v) ∧ Bd N w' p (fbF x) vg vt vm vl ∧ Below N w w' := by
 unfold fbF
 by_cases h1 : x.cur.row = x.top
 ·rw [if_pos h1]; exact bBack_a N w p x vg vt vm vl h m hG hS h1
 ·rw [if_neg h1]
  by_cases h2 : 0 < x.cur.row
  ·rw [if_pos h2]; exact bBack_b N w p x vg vt vm vl h m hG hS h1 h2
  ·rw [if_neg h2]; exact bBack_c N w p x vg vt vm vl h m hG hS h1 h2
theorem bWrite_walk (N : Nat) (w : World) (p : Nat) (x : Sn) (b cap : Nat) (vt vm vl : Value) (hb : Bd N w p x (.slice (some ⟨b, 0, none⟩) x.g.c.length cap) vt vm vl) (sp : List Value) (hrc : RC w b x.g.c sp) (hNb : N ≤ b) (cols lo n : Nat) (col : Int) (lv : Value) (l : List Cl) (hlen : l.length = n) (hfit : lo + n ≤ x.g.c.length)
  (RW : ∀ wa, Bd N wa p x (.slice (some ⟨b, 0, none⟩) x.g.c.length cap) vt vm vl → Calls Tryz.prog 166 #[.pointer (some ⟨p, 0, none⟩), .int .i64 x.cur.row, .int .i64 x.cur.row] wa fun e w' => e = .returned (.agg (gA (cols : Int) 1 (.slice (some ⟨b, lo * 15, none⟩) n n))) ∧ Below wa.heap.size wa w')
  (HC0 : ∀ wa, Below w.heap.size w wa → RC wa b x.g.c sp → Calls Tryz.prog 183 #[.agg (gA (cols : Int) 1 (.slice (some ⟨b, lo * 15, none⟩) n n)), .int .i64 0, .int .i64 col, .agg (sA x.cur.st), lv] wa fun e w' => ∃ v, e = .returned v ∧ ∃ g, v = gOk (cols : Int) 1 (.slice (some ⟨g, 0, none⟩) n n) ∧ wa.heap.size ≤ g ∧ RC w' g l [] ∧ Below wa.heap.size wa w') :
  Calls Tryz.prog 167 #[.pointer (some ⟨p, 0, none⟩), .int .i64 col, lv] w fun e w' => (∃ v, e = .returned v) ∧ Bd N w' p (clS x (lay x.g.c lo l)) (.slice (some ⟨b, 0, none⟩) x.g.c.length cap) vt vm vl ∧ Below N w w' := by
 have HL := Box'.mk hlen
 have HF := Box'.mk hfit
 have NB := Box'.mk hNb
 have NW : Box' (N ≤ w.heap.size) := ⟨Nat.le_trans hb.hp (Nat.le_of_lt hb.lt)⟩
 have S24 := Box'.mk s24g
 have I26 : Box' ((Tryz.prog.info? 26).map (·.size) = some (sA x.cur.st).toList.length) := ⟨by kernel_rfl⟩
 have Z24 : Box' ((Tryz.prog.info? 24).map (fun i => (i.zero, i.size)) = some (some (.agg #[.int .i64 0, .int .i64 0, .slice none 0 0]), 3)) := ⟨by kernel_rfl⟩
 have O := Box'.mk (gA_one (cols : Int) 1 (some ⟨b, lo * 15, none⟩) n n)
 have BB := Box'.mk hb
 have HB := Box'.mk hrc
 have RWB := Box'.mk RW
 have HCB := Box'.mk HC0
 clear hb hrc RW HC0 hlen hfit hNb
 go_enter Tryz.func167, Tryz.ntmps167
 go_wp2_with fail
 refine wp_region_walk 12 (by kernel_rfl) (by kernel_rfl) (fun D f wa => (BoJ w 9 (gA (cols : Int) 1 (.slice (some ⟨b, lo * 15, none⟩) n n)) D f wa) ∧ ∀ i, D i = true → (fun kc => kc == 9 || kc == 10 || kc == 11) i = false → f i = (fun kc => match kc with
   | 0 => .pointer (some ⟨p, 0, none⟩)
   | 1 => .pointer (some ⟨p, 0, none⟩)
   | 2 => .pointer (some ⟨p, 0, none⟩)
   | 3 => .pointer (some ⟨p, 3, none⟩)
   | 4 => .int .i64 x.cur.row
   | 5 => .pointer (some ⟨p, 0, none⟩)
   | 6 => .pointer (some ⟨p, 0, none⟩)
   | 7 => .pointer (some ⟨p, 3, none⟩)
   | 8 => .int .i64 x.cur.row
   | _ => undef) i) ?_ ?_ ?_
 ·exact fun f => ⟨BoJ.begin _ _ _ _, fun i h => by cases h⟩
 ·refine ⟨?wa0, ?wa1, ?wa2, ?wa3, ?wa4, ?wa5, ?wa6, ?wa7, ?wa8, ?wa9, ?wa10, ?wa11, trivial⟩
  all_goals intro D f wq hJ hD hd KK hK
  all_goals have G := fun j h h2 => hJ.2 j (hd j h) h2
  all_goals simp (disch := decide +kernel) only [tkS, tkZ, setAll, siB, stS, stZ, Nat.zero_add, Nat.reduceAdd, G] at hK ⊢
  case wa4 =>
   have cq : wq.cell? ⟨p, 3, none⟩ = some (.int .i64 x.cur.row) := (BB.out.below hJ.1.be).box.cell 3
   refine wp_of_quiet rfl ?_
   go_big_quiet_step (fail)
   exact wpQuiet_nil (hK _ _ ⟨(hJ.1.other 4 _ (by decide)), vals_upd hJ.2 (.inr rfl)⟩)
  case wa8 =>
   have cq : wq.cell? ⟨p, 3, none⟩ = some (.int .i64 x.cur.row) := (BB.out.below hJ.1.be).box.cell 3
   refine wp_of_quiet rfl ?_
   go_big_quiet_step (fail)
   exact wpQuiet_nil (hK _ _ ⟨(hJ.1.other 8 _ (by decide)), vals_upd hJ.2 (.inr rfl)⟩)
  case wa9 =>
   refine wp_callR 166 #[.pointer (some ⟨p, 0, none⟩), .int .i64 x.cur.row, .int .i64 x.cur.row] (by simp [go_sem]) (fun v w'' => v = .agg (gA (cols : Int) 1 (.slice (some ⟨b, lo * 15, none⟩) n n)) ∧ Below wq.heap.size wq w'') ((RWB.out wq (BB.out.below hJ.1.be)).mono ?_) ?_
   ·rintro e w'' ⟨rfl, k1⟩
    exact ⟨_, rfl, rfl, k1⟩
   ·rintro v w'' ⟨rfl, k1⟩
    exact hK _ _ ⟨(hJ.1.grow k1).o0, vals_upd hJ.2 (.inl rfl)⟩
  case wa10 =>
   exact wp_alloc_row 24 rfl #[.int .i64 0, .int .i64 0, .slice none 0 0] 3 Z24.out (hK _ _ ⟨(hJ.1.grow (bR.alloc (Nat.le_refl _) _)).o1 hD wq.heap.size hJ.1.be.size ((Row.new wq 24 _).room rfl), vals_upd hJ.2 (.inl rfl)⟩)
  case wa11 =>
   have e2 : f 9 = .agg (gA (cols : Int) 1 (.slice (some ⟨b, lo * 15, none⟩) n n)) := hJ.1.k0 (hd 9 (by kernel_rfl))
   obtain ⟨q, e4, hq, hrm⟩ := hJ.1.k1 (hd 10 (by kernel_rfl))
   have e4 : f 10 = .pointer (some ⟨q, 0, none⟩) := e4
   have e4' := Box'.mk e4
   simp only [e2, e4] at hK ⊢
   exact wp_store_row 24 (.tmp 6) (.tmp 18) rfl q rfl (gA (cols : Int) 1 (.slice (some ⟨b, lo * 15, none⟩) n n)) rfl 24 3 hrm S24.out rfl O.out (hK _ _ ⟨hJ.1.o2 (hd 10 (by kernel_rfl)) q e4'.out rfl _, vals_upd hJ.2 (.inl rfl)⟩)
  all_goals (refine wp_of_quiet rfl ?_; go_big_quiet_step (fail); exact wpQuiet_nil (hK _ _ ⟨(hJ.1.other _ _ (by decide)), vals_upd hJ.2 (.inr rfl)⟩))
 ·intro D f wz hD hJ
  have hW := hJ.1
  have p0 : f 0 = .pointer (some ⟨p, 0, none⟩) := hJ.2 0 (hD 0 (by decide)) rfl
  have p1 : f 1 = .pointer (some ⟨p, 0, none⟩) := hJ.2 1 (hD 1 (by decide)) rfl
  have p2 : f 2 = .pointer (some ⟨p, 0, none⟩) := hJ.2 2 (hD 2 (by decide)) rfl
  have p3 : f 3 = .pointer (some ⟨p, 3, none⟩) := hJ.2 3 (hD 3 (by decide)) rfl
  have p4 : f 4 = .int .i64 x.cur.row := hJ.2 4 (hD 4 (by decide)) rfl
  have p5 : f 5 = .pointer (some ⟨p, 0, none⟩) := hJ.2 5 (hD 5 (by decide)) rfl
  have p6 : f 6 = .pointer (some ⟨p, 0, none⟩) := hJ.2 6 (hD 6 (by decide)) rfl
  have p7 : f 7 = .pointer (some ⟨p, 3, none⟩) := hJ.2 7 (hD 7 (by decide)) rfl
  have p8 : f 8 = .int .i64 x.cur.row := hJ.2 8 (hD 8 (by decide)) rfl
  obtain ⟨q8, e0, e1, hq8, hrow⟩ := hW.fin 12 (by decide) hD
  have e0 : f 9 = _ := e0
  have e1 : f 10 = _ := e1
  have BE := Box'.mk hW.be
  have R8 := Box'.mk hrow
  clear hW hrow
  clear hJ hD
  simp only [tkS, tkZ, List.drop_succ_cons, List.drop_zero, setAll, siB, stS, stZ, Nat.zero_add, Nat.reduceAdd, p0, p1, p2, p3, p4, p5, p6, p7, p8, e0, e1]
  clear p0 p1 p2 p3 p4 p5 p6 p7 p8 e0 e1
  have B3 := Box'.mk (BB.out.below BE.out)
  have HB3 := Box'.mk (HB.out.below BE.out HB.out.lt)
  have BSZ := Box'.mk BE.out.size
  clear BB HB RWB
  go_wp2_with fail
  generalize wz = w3 at *
  have HC : Box' (∀ wa, Below w3.heap.size w3 wa → Calls Tryz.prog 183 #[.agg (gA (cols : Int) 1 (.slice (some ⟨b, lo * 15, none⟩) n n)), .int .i64 0, .int .i64 col, .agg (sA x.cur.st), lv] wa fun e w' => ∃ v, e = .returned v ∧ ∃ g, v = gOk (cols : Int) 1 (.slice (some ⟨g, 0, none⟩) n n) ∧ wa.heap.size ≤ g ∧ RC w' g l [] ∧ Below wa.heap.size wa w') := ⟨fun wa hw => HCB.out wa (BE.out.trans (hw.mono BSZ.out)) (HB3.out.below hw HB3.out.lt)⟩
  refine wp_region_walk 14 (by kernel_rfl) (by kernel_rfl) (fun D f wa => (ChJ w3 7 (cols : Int) 1 n l D f wa) ∧ ∀ i, D i = true → (fun kc => kc == 7 || kc == 8 || kc == 9 || kc == 10 || kc == 11 || kc == 12 || kc == 13) i = false → f i = (fun kc => match kc with
    | 0 => .agg (gA (cols : Int) 1 (.slice (some ⟨b, lo * 15, none⟩) n n))
    | 1 => .int .i64 col
    | 2 => .pointer (some ⟨p, 0, none⟩)
    | 3 => .pointer (some ⟨p, 0, none⟩)
    | 4 => .pointer (some ⟨p, 6, none⟩)
    | 5 => .agg (sA x.cur.st)
    | 6 => lv
    | _ => undef) i) ?_ ?_ ?_
  ·exact fun f => ⟨ChJ.begin _ _ _ _ _ _ _, fun i h => by cases h⟩
  ·refine ⟨?wb0, ?wb1, ?wb2, ?wb3, ?wb4, ?wb5, ?wb6, ?wb7, ?wb8, ?wb9, ?wb10, ?wb11, ?wb12, ?wb13, trivial⟩
   all_goals intro D f wq hJ hD hd KK hK
   all_goals have G := fun j h h2 => hJ.2 j (hd j h) h2
   all_goals simp (disch := decide +kernel) only [tkS, tkZ, setAll, siB, stS, stZ, Nat.zero_add, Nat.reduceAdd, G] at hK ⊢
   case wb0 =>
    exact wp_load_row 24 (.tmp 6) rfl q8 rfl 24 _ (R8.out.below hJ.1.be R8.out.lt) _ Tryz.underlying24 rfl 3 s24g rfl (hK _ _ ⟨(hJ.1.other 0 _ (by decide)), vals_upd hJ.2 (.inr rfl)⟩)
   case wb5 =>
    exact wp_mid 26 (.tmp 24) rfl p 6 (sA x.cur.st) _ Tryz.underlying26 rfl I26.out rfl (sn_style (B3.out.below hJ.1.be).box) (hK _ _ ⟨(hJ.1.other 5 _ (by decide)), vals_upd hJ.2 (.inr rfl)⟩)
   case wb7 =>
    refine wp_callR 183 #[.agg (gA (cols : Int) 1 (.slice (some ⟨b, lo * 15, none⟩) n n)), .int .i64 0, .int .i64 col, .agg (sA x.cur.st), lv] (by simp [go_sem]) _ (HC.out wq hJ.1.be) ?_
    rintro v w'' ⟨g, rfl, hg, hrc, hb⟩
    exact hK _ _ ⟨(hJ.1.grow hb).o0 hD g (Nat.le_trans hJ.1.be.size hg) hrc, vals_upd hJ.2 (.inl rfl)⟩
   case wb8 =>
    exact wp_val (f 7) (by simp [go_sem]) (hK _ _ ⟨hJ.1.o1 hD (hd 7 (by kernel_rfl)), vals_upd hJ.2 (.inl rfl)⟩)
   case wb9 =>
    obtain ⟨d0, e1⟩ := hJ.1.k1 (hd 8 (by kernel_rfl))
    obtain ⟨g, e0, hg, hrc⟩ := hJ.1.k0 d0
    have e1 : f 8 = gOk (cols : Int) 1 (.slice (some ⟨g, 0, none⟩) n n) := e1.trans e0
    simp only [e1] at hK ⊢
    exact wp_val (.agg (gA (cols : Int) 1 (.slice (some ⟨g, 0, none⟩) n n))) (by simp [go_sem, gOk]) (hK _ _ ⟨hJ.1.o2 hD d0 g e0, vals_upd hJ.2 (.inl rfl)⟩)
   case wb10 =>
    obtain ⟨d0, e1⟩ := hJ.1.k1 (hd 8 (by kernel_rfl))
    obtain ⟨g, e0, hg, hrc⟩ := hJ.1.k0 d0
    have e1 : f 8 = gOk (cols : Int) 1 (.slice (some ⟨g, 0, none⟩) n n) := e1.trans e0
    simp only [e1] at hK ⊢
    exact wp_val (.int .i64 0) (by simp [go_sem, gOk]) (hK _ _ ⟨hJ.1.o3 hD, vals_upd hJ.2 (.inl rfl)⟩)
   case wb11 =>
    exact wp_alloc_row 24 rfl #[.int .i64 0, .int .i64 0, .slice none 0 0] 3 Z24.out (hK _ _ ⟨(hJ.1.grow (bR.alloc (Nat.le_refl _) _)).o4 hD wq.heap.size hJ.1.be.size ((Row.new wq 24 _).room rfl), vals_upd hJ.2 (.inl rfl)⟩)
   case wb12 =>
    obtain ⟨d0, g, e0, e2⟩ := hJ.1.k2 (hd 9 (by kernel_rfl))
    obtain ⟨q, e4, hq, hrm⟩ := hJ.1.k4 (hd 11 (by kernel_rfl))
    have e2 : f 9 = .agg (gA (cols : Int) 1 (.slice (some ⟨g, 0, none⟩) n n)) := e2
    have e4 : f 11 = .pointer (some ⟨q, 0, none⟩) := e4
    have e4' := Box'.mk e4
    simp only [e2, e4] at hK ⊢
    exact wp_store_row 24 (.tmp 7) (.tmp 28) rfl q rfl (gA (cols : Int) 1 (.slice (some ⟨g, 0, none⟩) n n)) rfl 24 3 hrm S24.out rfl (gA_one _ _ _ _ _) (hK _ _ ⟨hJ.1.o5 hD d0 (hd 11 (by kernel_rfl)) g q e0 e4'.out _, vals_upd hJ.2 (.inl rfl)⟩)
   case wb13 =>
    have e3 : f 10 = .int .i64 0 := hJ.1.k3 (hd 10 (by kernel_rfl))
    simp only [e3] at hK ⊢
    exact wp_val (.int .i64 0) (by simp [go_sem]) (hK _ _ ⟨hJ.1.o6 hD, vals_upd hJ.2 (.inl rfl)⟩)
   all_goals (refine wp_of_quiet rfl ?_; go_big_quiet_step (fail); exact wpQuiet_nil (hK _ _ ⟨(hJ.1.other _ _ (by decide)), vals_upd hJ.2 (.inr rfl)⟩))
  ·intro D f wz hD hJ
   have hW := hJ.1
   have p0 : f 0 = .agg (gA (cols : Int) 1 (.slice (some ⟨b, lo * 15, none⟩) n n)) := hJ.2 0 (hD 0 (by decide)) rfl
   have p1 : f 1 = .int .i64 col := hJ.2 1 (hD 1 (by decide)) rfl
   have p2 : f 2 = .pointer (some ⟨p, 0, none⟩) := hJ.2 2 (hD 2 (by decide)) rfl
   have p3 : f 3 = .pointer (some ⟨p, 0, none⟩) := hJ.2 3 (hD 3 (by decide)) rfl
   have p4 : f 4 = .pointer (some ⟨p, 6, none⟩) := hJ.2 4 (hD 4 (by decide)) rfl
   have p5 : f 5 = .agg (sA x.cur.st) := hJ.2 5 (hD 5 (by decide)) rfl
   have p6 : f 6 = lv := hJ.2 6 (hD 6 (by decide)) rfl
   obtain ⟨g, q, e0, e1, e2, e3, e4, e6, hg, hq, hrc, hrow⟩ := hW.fin 14 (by decide) hD
   have e0 : f 7 = _ := e0
   have e1 : f 8 = _ := e1
   have e2 : f 9 = _ := e2
   have e3 : f 10 = _ := e3
   have e4 : f 11 = _ := e4
   have e6 : f 13 = _ := e6
   have HBE := Box'.mk hW.be
   have HRC := Box'.mk hrc
   have HRW := Box'.mk hrow
   clear hW hrc hrow
   clear hJ hD
   simp only [tkS, tkZ, List.drop_succ_cons, List.drop_zero, setAll, siB, stS, stZ, Nat.zero_add, Nat.reduceAdd, p0, p1, p2, p3, p4, p5, p6, e0, e1, e2, e3, e4, e6]
   clear p0 p1 p2 p3 p4 p5 p6 e0 e1 e2 e3 e4 e6
   have A1 := Box'.mk (HB3.out.below HBE.out HB3.out.lt)
   have R9 := Box'.mk (R8.out.below HBE.out R8.out.lt)
   have LY := Box'.mk (sLay_any wz b lo n x.g.c l sp A1.out g HRC.out HL.out HF.out (cols : Int) 1 (cols : Int) 1)
   go_wp2_with (first
    | (refine wpList_load_row rfl 24 (.tmp 6) rfl q8 rfl 24 _ R9.out _ Tryz.underlying24 rfl 3 s24g rfl ?_)
    | (refine wpList_load_row rfl 24 (.tmp 7) rfl q rfl 24 _ HRW.out _ Tryz.underlying24 rfl 3 s24g rfl ?_))
   refine LY.out.mono ?_
   rintro e w5 ⟨⟨v, rfl⟩, k2, k3⟩
   have K2 := Box'.mk (Bd.cells (B3.out.below HBE.out) k3 _ _ A1.out k2 (lay_len _ _ _ (by rw [HL.out]; exact HF.out)))
   have K3 : Box' (Below N w w5) := ⟨below_tc (BE.out.trans (HBE.out.mono BSZ.out)) k3 NB.out NW.out⟩
   clear k2 k3 LY
   go_wp2_with fail
   exact bodyPost_end (results_none rfl _ _) rfl ⟨⟨_, rfl⟩, K2.out, K3.out⟩
end Go.Proofs.YtlekleeckcdcgaaGreat
