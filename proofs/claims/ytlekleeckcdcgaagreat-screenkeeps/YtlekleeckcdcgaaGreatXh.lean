/- A cursor is brought back; Keep. Places within bounds; the outer functions of deeds; Keep. The cursor is placed, and moved. -/
import Derived.Test.YtlekleeckcdcgaaGreatXf
namespace Go.Proofs.YtlekleeckcdcgaaGreat
open Go.RowKit Go.BigFrame
set_option linter.unusedVariables false
set_option linter.unusedSimpArgs false
set_option maxRecDepth 100000
set_option maxHeartbeats 8000000
theorem vals_upd {V : Nat → Value} {S : Nat → Bool} {D : Nat → Bool} {f : Nat → Value} {k : Nat} {v : Value} (hv : ∀ i, D i = true → S i = false → f i = V i) (h : S k = true ∨ v = V k) : ∀ i, updB D k i = true → S i = false → upd f k v i = V i := by
 intro i hi hs
 by_cases e : i = k
 ·subst e
  rcases h with h | h
  ·rw [h] at hs; cases hs
  ·simp [upd, h]
 ·simp only [upd, if_neg e]
  simp only [updB, if_neg e] at hi
  exact hv i hi hs
section
variable {op : Oper} {a : Act} {w : World} {Q : Exit → Act → World → Prop} {K : Act → World → Prop}
theorem wp_store3 (x y : Operand) (ho : op.op = .store 3 x y) (b o : Nat) (n : Int) (u : Value) (hx : a.eval x = .pointer (some ⟨b, o, none⟩)) (hy : a.eval y = .int .i64 n) (hc : w.cell? ⟨b, o, none⟩ = some u) (hf : w.frozen? ⟨b, o, none⟩ = false) (h : K (a.put op.dst undef) (w.setCell ⟨b, o, none⟩ (.int .i64 n))) : op.wp Tryz.prog a w K Q := by
 unfold Oper.wp execOp
 simp only [ho, hx, hy]
 simp [go_sem, hc, hf]
 exact h
theorem wp_store4 (x y : Operand) (ho : op.op = .store 4 x y) (b o : Nat) (n : Bool) (u : Value) (hx : a.eval x = .pointer (some ⟨b, o, none⟩)) (hy : a.eval y = .bool n) (hc : w.cell? ⟨b, o, none⟩ = some u) (hf : w.frozen? ⟨b, o, none⟩ = false) (h : K (a.put op.dst undef) (w.setCell ⟨b, o, none⟩ (.bool n))) : op.wp Tryz.prog a w K Q := by
 unfold Oper.wp execOp
 simp only [ho, hx, hy]
 simp [go_sem, hc, hf]
 exact h
end
theorem ownsRow_setCell {N e k : Nat} {w : World} {v : Value} {n : Nat} {xs : List Value} (h : w.ownsRow N e k v n xs) (g t o : Nat) (u : Value) (d : Array Value) (hr : Row w g t d) (hne : e ≠ t) : (w.setCell ⟨g, o, none⟩ u).ownsRow N e k v n xs := by
 refine ⟨h.1, ?_⟩
 rcases h.2 with h2 | ⟨b, cap, cur, e1, e2, e3, e4⟩
 ·exact .inl h2
 ·have hb : b ≠ g := by
   intro ee
   subst ee
   have hd' : w.heap[b]? = some (.cells d t (0, 0)) := hr
   rw [e3] at hd'
   simp at hd'
   exact hne hd'.2
  exact .inr ⟨b, cap, cur, e1, e2, by rw [Below.heap_setCell _ _ _ _ hb]; exact e3, e4⟩
/-- A cell of the box is another one. -/
theorem Bd.setCell {N : Nat} {w : World} {p : Nat} {x : Sn} {vg vt vm vl : Value} (h : Bd N w p x vg vt vm vl) (y : Sn) (o : Nat) (u : Value) (e : (snA x vg vt vm vl).setIfInBounds o u = snA y vg vt vm vl) (e1 : y.g.c = x.g.c) (e2 : y.mn.c = x.mn.c) (e3 : y.tabs = x.tabs) (e4 : y.title = x.title) : Bd N (w.setCell ⟨p, o, none⟩ u) p y vg vt vm vl := by
 have b := h.box.setCell o u
 rw [e] at b
 exact ⟨b, h.hp, by rw [e1]; exact ownsRow_setCell h.own.g p 116 o u _ h.box (by decide), by rw [e2]; exact ownsRow_setCell h.own.m p 116 o u _ h.box (by decide), h.own.gm, by rw [e3]; exact ownsRow_setCell h.own.t p 116 o u _ h.box (by decide), by rw [e4]; exact ownsRow_setCell h.own.l p 116 o u _ h.box (by decide)⟩
theorem Tc.setCell {p : Nat} {w w' : World} (h : Tc p w w') (o : Nat) (u : Value) : Tc p w (w'.setCell ⟨p, o, none⟩ u) :=
 ⟨h.os, h.tape, h.output, Nat.le_trans h.size ((Below.refl 0 w').setCell (p := ⟨p, o, none⟩) (Nat.zero_le _) u).size, fun k hk hb => by rw [Below.heap_setCell _ _ _ _ hb]; exact h.block k hk hb⟩
theorem row_neT {w : World} {p q t t' : Nat} {c c' : Array Value} (h : Row w p t c) (h' : Row w q t' c') (hne : t ≠ t') : q ≠ p := by
 intro e
 subst e
 have a : w.heap[q]? = some (.cells c t (0, 0)) := h
 have b : w.heap[q]? = some (.cells c' t' (0, 0)) := h'
 rw [a] at b
 simp at b
 exact hne b.2
/-- The screen while its cursor is brought back. -/
def kbS (x : Sn) (k : Sv) (b1 b2 b3 b4 b5 : Bool) : Sn := { x with cur := ⟨if b1 then k.row else x.cur.row, if b2 then k.col else x.cur.col, if b3 then k.pend else x.cur.pend, if b4 then k.orig else x.cur.orig, if b5 then k.st else x.cur.st⟩ }
structure KbM (N p q : Nat) (w0 : World) (x : Sn) (k : Sv) (vg vt vm vl : Value) (b1 b2 b3 b4 b5 : Bool) (w : World) : Prop where
 bd : Bd N w p (kbS x k b1 b2 b3 b4 b5) vg vt vm vl
 rq : Row w q 29 (svA k)
 tc : Tc p w0 w
theorem KbM.drew {N p q : Nat} {w0 : World} {x : Sn} {k : Sv} {vg vt vm vl : Value} {b1 b2 b3 b4 b5 : Bool} {w : World} (h : KbM N p q w0 x k vg vt vm vl b1 b2 b3 b4 b5 w) : KbM N p q w0 x k vg vt vm vl b1 b2 b3 b4 b5 w.drew :=
 ⟨h.bd.below (bR.drew), h.rq.below (bR.drew) h.rq.lt, h.tc.drew⟩
theorem KbM.cell {N p q : Nat} {w0 : World} {x : Sn} {k : Sv} {vg vt vm vl : Value} {b1 b2 b3 b4 b5 c1 c2 c3 c4 c5 : Bool} {w : World} (h : KbM N p q w0 x k vg vt vm vl b1 b2 b3 b4 b5 w) (o : Nat) (u : Value) (e : (snA (kbS x k b1 b2 b3 b4 b5) vg vt vm vl).setIfInBounds o u = snA (kbS x k c1 c2 c3 c4 c5) vg vt vm vl) : KbM N p q w0 x k vg vt vm vl c1 c2 c3 c4 c5 (w.setCell ⟨p, o, none⟩ u) :=
 ⟨h.bd.setCell _ o u e rfl rfl rfl rfl, h.rq.setOther _ _ (row_neT h.bd.box h.rq (by decide)), h.tc.setCell o u⟩
theorem keepBack_any (N : Nat) (w : World) (p : Nat) (x : Sn) (vg vt vm vl : Value) (h : Bd N w p x vg vt vm vl) :
  Calls Tryz.prog 69 #[.pointer (some ⟨p, 0, none⟩)] w fun e w' => (∃ v, e = .returned v) ∧ Bd N w' p (kbS x x.sv true true true true true) vg vt vm vl ∧ Tc p w w' := by
 have HB := Box'.mk h
 have S29 := Box'.mk s29
 have O := Box'.mk (svA_one x.sv)
 have RG := Box'.mk (sn_saved h.box)
 have RMn : Box' (Room (w.alloc (.cells #[.int .i64 0, .int .i64 0, .bool false, .bool false, .int .i64 0, .int .i64 0, .bool false, .bool false, .bool false, .bool false, .bool false, .bool false, .bool false, .bool false] 29)) w.heap.size 29 14) := ⟨Room.new _ _ _ _ rfl⟩
 have BN : Box' (Below w.heap.size w ((w.alloc (.cells #[.int .i64 0, .int .i64 0, .bool false, .bool false, .int .i64 0, .int .i64 0, .bool false, .bool false, .bool false, .bool false, .bool false, .bool false, .bool false, .bool false] 29)).setRow w.heap.size (svA x.sv))) := ⟨below_setRow (bR.alloc (Nat.le_refl _) _) (Nat.le_refl _) _⟩
 have F3 : Box' (KbM N p w.heap.size w x x.sv vg vt vm vl false false false false false ((w.alloc (.cells #[.int .i64 0, .int .i64 0, .bool false, .bool false, .int .i64 0, .int .i64 0, .bool false, .bool false, .bool false, .bool false, .bool false, .bool false, .bool false, .bool false] 29)).setRow w.heap.size (svA x.sv))) := ⟨⟨HB.out.below BN.out, RMn.out.setRow _, Tc.of BN.out⟩⟩
 clear h BN
 go_enter Tryz.func69, Tryz.ntmps69
 go_upto_region 1 with (first
  | (refine wpList_load_saved rfl (.tmp 5) rfl p 25 x.sv rfl RG.out ?_)
  | (refine wpList_store_row rfl 29 (.tmp 2) (.tmp 6) rfl w.heap.size rfl (svA x.sv) rfl 29 14 RMn.out S29.out rfl O.out ?_))
 clear RMn RG HB
 generalize ((w.alloc (.cells #[.int .i64 0, .int .i64 0, .bool false, .bool false, .int .i64 0, .int .i64 0, .bool false, .bool false, .bool false, .bool false, .bool false, .bool false, .bool false, .bool false] 29)).setRow w.heap.size (svA x.sv)) = w3 at *
 generalize w.heap.size = q at *
 refine wp_region_walk 18 (by kernel_rfl) (by kernel_rfl) (fun D f wa => KbM N p q w x x.sv vg vt vm vl (D 11) (D 14) (D 17) false false wa ∧ ∀ i, D i = true → (fun kc => kc == 11 || kc == 14 || kc == 17) i = false → f i = (fun kc => match kc with
   | 0 => .pointer (some ⟨p, 0, none⟩)
   | 1 => .pointer (some ⟨p, 0, none⟩)
   | 2 => .pointer (some ⟨p, 0, none⟩)
   | 3 => .pointer (some ⟨q, 0, none⟩)
   | 4 => .int .i64 x.sv.row
   | 5 => .pointer (some ⟨q, 1, none⟩)
   | 6 => .int .i64 x.sv.col
   | 7 => .pointer (some ⟨q, 2, none⟩)
   | 8 => .bool x.sv.pend
   | 9 => .pointer (some ⟨p, 0, none⟩)
   | 10 => .pointer (some ⟨p, 3, none⟩)
   | 12 => .pointer (some ⟨p, 0, none⟩)
   | 13 => .pointer (some ⟨p, 4, none⟩)
   | 15 => .pointer (some ⟨p, 0, none⟩)
   | 16 => .pointer (some ⟨p, 5, none⟩)
   | _ => undef) i) ?_ ?_ ?_
 ·exact fun f => ⟨F3.out.drew, fun i h => by cases h⟩
 ·refine ⟨?b0, ?b1, ?b2, ?b3, ?b4, ?b5, ?b6, ?b7, ?b8, ?b9, ?b10, ?b11, ?b12, ?b13, ?b14, ?b15, ?b16, ?b17, trivial⟩
  all_goals intro D f wq hJ hD hd KK hK
  all_goals have G := fun j h h2 => hJ.2 j (hd j h) h2
  all_goals have cq0 : wq.cell? ⟨q, 0, none⟩ = some (.int .i64 x.sv.row) := hJ.1.rq.cell 0
  all_goals have cq1 : wq.cell? ⟨q, 1, none⟩ = some (.int .i64 x.sv.col) := hJ.1.rq.cell 1
  all_goals have cq2 : wq.cell? ⟨q, 2, none⟩ = some (.bool x.sv.pend) := hJ.1.rq.cell 2
  all_goals simp (disch := decide +kernel) only [tkS, tkZ, setAll, siB, stS, stZ, Nat.zero_add, Nat.reduceAdd, G] at hK ⊢
  case b11 =>
   exact wp_store3 (.tmp 17) (.tmp 11) rfl p 3 x.sv.row _ rfl rfl (hJ.1.bd.box.cell 3) (hJ.1.bd.box.frozen 3) (hK _ _ ⟨hJ.1.cell 3 _ rfl, vals_upd hJ.2 (.inl rfl)⟩)
  case b14 =>
   exact wp_store3 (.tmp 19) (.tmp 13) rfl p 4 x.sv.col _ rfl rfl (hJ.1.bd.box.cell 4) (hJ.1.bd.box.frozen 4) (hK _ _ ⟨hJ.1.cell 4 _ rfl, vals_upd hJ.2 (.inl rfl)⟩)
  case b17 =>
   exact wp_store4 (.tmp 21) (.tmp 15) rfl p 5 x.sv.pend _ rfl rfl (hJ.1.bd.box.cell 5) (hJ.1.bd.box.frozen 5) (hK _ _ ⟨hJ.1.cell 5 _ rfl, vals_upd hJ.2 (.inl rfl)⟩)
  all_goals (refine wp_of_quiet rfl ?_; go_big_quiet_step (fail); exact wpQuiet_nil (hK _ _ ⟨hJ.1, vals_upd hJ.2 (.inr rfl)⟩))
 ·intro D f wz hD hJ
  have hW := hJ.1
  rw [hD 11 (by decide)] at hW
  rw [hD 14 (by decide)] at hW
  rw [hD 17 (by decide)] at hW
  have P := fun j h h2 => hJ.2 j (hD j h) h2
  clear hJ hD
  simp (disch := decide) only [tkS, tkZ, List.drop_succ_cons, List.drop_zero, setAll, siB, stS, stZ, Nat.zero_add, Nat.reduceAdd, P]
  clear P
  have FZ := Box'.mk hW
  clear hW F3
  go_upto_region 2 with (fail)
  refine wp_region_walk 12 (by kernel_rfl) (by kernel_rfl) (fun D f wa => KbM N p q w x x.sv vg vt vm vl true true true (D 8) (D 11) wa ∧ ∀ i, D i = true → (fun kc => kc == 8 || kc == 11) i = false → f i = (fun kc => match kc with
    | 0 => .pointer (some ⟨p, 0, none⟩)
    | 1 => .pointer (some ⟨p, 0, none⟩)
    | 2 => .pointer (some ⟨q, 3, none⟩)
    | 3 => .bool x.sv.orig
    | 4 => .pointer (some ⟨q, 4, none⟩)
    | 5 => .agg (sA x.sv.st)
    | 6 => .pointer (some ⟨p, 0, none⟩)
    | 7 => .pointer (some ⟨p, 20, none⟩)
    | 9 => .pointer (some ⟨p, 0, none⟩)
    | 10 => .pointer (some ⟨p, 6, none⟩)
    | _ => undef) i) ?_ ?_ ?_
  ·exact fun f => ⟨FZ.out.drew, fun i h => by cases h⟩
  ·refine ⟨?a0, ?a1, ?a2, ?a3, ?a4, ?a5, ?a6, ?a7, ?a8, ?a9, ?a10, ?a11, trivial⟩
   all_goals intro D f wq hJ hD hd KK hK
   all_goals have G := fun j h h2 => hJ.2 j (hd j h) h2
   all_goals have cq0 : wq.cell? ⟨q, 3, none⟩ = some (.bool x.sv.orig) := hJ.1.rq.cell 3
   all_goals simp (disch := decide +kernel) only [tkS, tkZ, setAll, siB, stS, stZ, Nat.zero_add, Nat.reduceAdd, G] at hK ⊢
   case a5 =>
    exact wp_load_style (.tmp 26) rfl q 4 x.sv.st rfl (sv_style hJ.1.rq) (hK _ _ ⟨hJ.1, vals_upd hJ.2 (.inr rfl)⟩)
   case a8 =>
    exact wp_store4 (.tmp 29) (.tmp 25) rfl p 20 x.sv.orig _ rfl rfl (hJ.1.bd.box.cell 20) (hJ.1.bd.box.frozen 20) (hK _ _ ⟨hJ.1.cell 20 _ rfl, vals_upd hJ.2 (.inl rfl)⟩)
   case a11 =>
    exact wp_store_part 26 (.tmp 31) (.tmp 27) rfl p 116 6 _ (sA x.sv.st) (snA (kbS x x.sv true true true (D 8) true) vg vt vm vl) rfl rfl hJ.1.bd.box s24 (show 6 + 10 ≤ 44 by omega) (one10 _) rfl (hK _ _ ⟨⟨hJ.1.bd.put _ rfl rfl rfl rfl, hJ.1.rq.setRowOther _ _ (row_neT hJ.1.bd.box hJ.1.rq (by decide)), hJ.1.tc.setRow _⟩, vals_upd hJ.2 (.inl rfl)⟩)
   all_goals (refine wp_of_quiet rfl ?_; go_big_quiet_step (fail); exact wpQuiet_nil (hK _ _ ⟨hJ.1, vals_upd hJ.2 (.inr rfl)⟩))
  ·intro D f wz hD hJ
   have hW := hJ.1
   rw [hD 8 (by decide)] at hW
   rw [hD 11 (by decide)] at hW
   have P := fun j h h2 => hJ.2 j (hD j h) h2
   clear hJ hD
   simp (disch := decide) only [tkS, tkZ, List.drop_succ_cons, List.drop_zero, setAll, siB, stS, stZ, Nat.zero_add, Nat.reduceAdd, P]
   clear P
   have F9 := Box'.mk hW
   clear hW FZ
   go_wp2_with fail
   exact bodyPost_end (results_none rfl _ _) rfl ⟨⟨_, rfl⟩, F9.out.bd, F9.out.tc⟩
theorem lastRow_any (N : Nat) (w : World) (p : Nat) (x : Sn) (vg vt vm vl : Value) (h : Bd N w p x vg vt vm vl) (h1 : 0 < x.g.ro) (h2 : x.g.ro ≤ 512) : Calls Tryz.prog 132 #[.pointer (some ⟨p, 0, none⟩)] w fun e w' => e = .returned (.int .i64 (x.g.ro - 1)) ∧ w' = w := by
 have c1 : w.cell? ⟨p, 1, none⟩ = some (.int .i64 x.g.ro) := h.box.cell 1
 clear h
 go_enter Tryz.func132, Tryz.ntmps132
 go_wp2_with fail
 go_ret
 exact ⟨rfl, rfl⟩
theorem lastCol_any (N : Nat) (w : World) (p : Nat) (x : Sn) (vg vt vm vl : Value) (h : Bd N w p x vg vt vm vl) (h1 : 0 < x.g.co) (h2 : x.g.co ≤ 512) : Calls Tryz.prog 134 #[.pointer (some ⟨p, 0, none⟩)] w fun e w' => e = .returned (.int .i64 (x.g.co - 1)) ∧ w' = w := by
 have c1 : w.cell? ⟨p, 0, none⟩ = some (.int .i64 x.g.co) := h.box.cell 0
 clear h
 go_enter Tryz.func134, Tryz.ntmps134
 go_wp2_with fail
 go_ret
 exact ⟨rfl, rfl⟩
/-- A number, or the one next to it that is no further from 0 than the longest side. -/
def neF (n : Int) : Int := if n < -512 then -512 else if 512 < n then 512 else n
theorem neF_lo (n : Int) : -512 ≤ neF n := by unfold neF; split <;> (try split) <;> omega
theorem neF_hi (n : Int) : neF n ≤ 512 := by unfold neF; split <;> (try split) <;> omega
theorem near_any (n : Int) (w : World) : Calls Tryz.prog 137 #[.int .i64 n] w fun e w' => e = .returned (.int .i16 (neF n)) ∧ w' = w := by
 by_cases h1 : n < -512
 ·have E : Box' (neF n = -512) := ⟨by unfold neF; rw [if_pos h1]⟩
  go_enter Tryz.func137, Tryz.ntmps137
  go_wp2_with fail
  go_ret
  exact ⟨by rw [E.out]; rfl, rfl⟩
 ·by_cases h2 : 512 < n
  ·have E : Box' (neF n = 512) := ⟨by unfold neF; rw [if_neg h1, if_pos h2]⟩
   go_enter Tryz.func137, Tryz.ntmps137
   go_wp2_with fail
   go_ret
   exact ⟨by rw [E.out]; rfl, rfl⟩
  ·have E : Box' (neF n = n) := ⟨by unfold neF; rw [if_neg h1, if_neg h2]⟩
   go_enter Tryz.func137, Tryz.ntmps137
   go_wp2_with fail
   ·go_ret
    exact ⟨by rw [E.out]; rfl, rfl⟩
   ·go_ret
    exact ⟨by rw [show neF n = -512 by rw [E.out]; omega]; rfl, rfl⟩
/-- A place further on, or the one next to it from low to high. -/
def wiF (at' by' lo hi : Int) : Int := if at' + neF by' < lo then lo else if hi < at' + neF by' then hi else at' + neF by'
theorem within_any (at' by' lo hi : Int) (h1 : 0 ≤ at') (h2 : at' ≤ 600) (h3 : lo ≤ hi) (w : World) : Calls Tryz.prog 133 #[.int .i64 at', .int .i64 by', .int .i64 lo, .int .i64 hi] w fun e w' => e = .returned (.int .i64 (wiF at' by' lo hi)) ∧ w' = w := by
 have NE := Box'.mk (near_any by')
 have n1 := neF_lo by'
 have n2 := neF_hi by'
 unfold wiF
 generalize neF by' = z at *
 by_cases q1 : at' + z < lo
 ·rw [if_pos q1]
  by_cases q2 : at' + z ≤ hi
  ·go_enter Tryz.func133, Tryz.ntmps133
   go_wp2_with fail
   refine (NE.out _).mono ?_
   rintro e w2 ⟨rfl, rfl⟩
   go_wp2_with fail
   go_ret
   exact ⟨rfl, rfl⟩
  ·omega
 ·rw [if_neg q1]
  by_cases q2 : hi < at' + z
  ·rw [if_pos q2]
   go_enter Tryz.func133, Tryz.ntmps133
   go_wp2_with fail
   refine (NE.out _).mono ?_
   rintro e w2 ⟨rfl, rfl⟩
   go_wp2_with fail
   ·go_ret
    exact ⟨rfl, rfl⟩
   ·go_ret
    have e : lo = hi := by omega
    exact ⟨by subst e; rfl, rfl⟩
  ·rw [if_neg q2]
   go_enter Tryz.func133, Tryz.ntmps133
   go_wp2_with fail
   refine (NE.out _).mono ?_
   rintro e w2 ⟨rfl, rfl⟩
   go_wp2_with fail
   ·go_ret
    exact ⟨rfl, rfl⟩
   ·go_ret
    have e : lo = at' + z := by omega
    exact ⟨by subst e; rfl, rfl⟩
/-- A screen was answered, of lists of its own. -/
def ScR (N : Nat) (w : World) (e : Ending) (y : Sn) : Prop := ∃ vg vt vm vl, e = .returned (.tuple #[.agg (snA y vg vt vm vl), .int .i64 0]) ∧ OwnL N w y vg vt vm vl
/-- A screen was answered, or the error. -/
def DR (N : Nat) (w : World) (e : Ending) : Option Sn → Prop
 | some y => ScR N w e y
 | none => e = .returned sErr
theorem DR.out {N : Nat} {w : World} {e : Ending} {r : Option Sn} (h : DR N w e r) : ∃ y vg vt vm vl er, e = .returned (.tuple #[.agg (snA y vg vt vm vl), .int .i64 er]) ∧ (snA y vg vt vm vl).all (·.oneCell') = true ∧ ∀ q c, Room w q 32 44 → DR N (w.setRow q c) e r := by
 cases r with
 | some y =>
  obtain ⟨vg, vt, vm, vl, rfl, ow⟩ := h
  exact ⟨y, vg, vt, vm, vl, 0, rfl, snA_oneV y vg vt vm vl (own_sl ow.g) (own_sl ow.t) (own_sl ow.m) (own_sl ow.l), fun q c hr => ⟨vg, vt, vm, vl, rfl, ow.setRow q 32 c hr (by decide) (by decide) (by decide)⟩⟩
 | none =>
  have h : e = .returned sErr := h
  subst h
  exact ⟨zN, _, _, _, _, 2, rfl, snA_one zN none none none none 0 0 0 0 0 0 0 0, fun q c hr => rfl⟩
theorem DR.dn {N M : Nat} {w : World} {e : Ending} {r : Option Sn} (h : DR N w e r) (hM : M ≤ N) : DR M w e r := by
 cases r with
 | some y =>
  obtain ⟨vg, vt, vm, vl, h1, h2⟩ := h
  exact ⟨vg, vt, vm, vl, h1, h2.down hM⟩
 | none => exact h
/-- What stands while a deed's outer function runs. -/
structure Wr1 (w : World) (s : Array Value) (t0 : TypeId) (v0 : Value) (wr : World) : Prop where
 r : Row wr w.heap.size 32 s
 c0 : Row wr (w.heap.size + 1) t0 #[v0]
 rr : Room wr (w.heap.size + 2) 32 44
 be : Below w.heap.size w wr
 sz : w.heap.size + 3 ≤ wr.heap.size
theorem Wr1.begin (w : World) (s : Array Value) (t0 : TypeId) (v0 : Value) : Wr1 w s t0 v0 (((w.alloc (.cells s 32)).alloc (.cells #[v0] t0)).alloc (.cells z32 32)) :=
 ⟨((Row.new _ _ _).alloc _).alloc _, (Row.made _ _ _ _ _ rfl (by simp)).alloc _, Room.made _ _ _ _ _ rfl (by simp), ((((Below.refl w.heap.size w).alloc (Nat.le_refl _) _).alloc (by simp) _).alloc (by simp; omega) _), by simp⟩
/-- What stands while a deed's outer function runs. -/
structure Wr2 (w : World) (s : Array Value) (t0 : TypeId) (v0 : Value) (t1 : TypeId) (v1 : Value) (wr : World) : Prop where
 r : Row wr w.heap.size 32 s
 c0 : Row wr (w.heap.size + 1) t0 #[v0]
 c1 : Row wr (w.heap.size + 2) t1 #[v1]
 rr : Room wr (w.heap.size + 3) 32 44
 be : Below w.heap.size w wr
 sz : w.heap.size + 4 ≤ wr.heap.size
theorem Wr2.begin (w : World) (s : Array Value) (t0 : TypeId) (v0 : Value) (t1 : TypeId) (v1 : Value) : Wr2 w s t0 v0 t1 v1 ((((w.alloc (.cells s 32)).alloc (.cells #[v0] t0)).alloc (.cells #[v1] t1)).alloc (.cells z32 32)) :=
 ⟨(((Row.new _ _ _).alloc _).alloc _).alloc _, ((Row.made _ _ _ _ _ rfl (by simp)).alloc _).alloc _, (Row.made _ _ _ _ _ rfl (by simp)).alloc _, Room.made _ _ _ _ _ rfl (by simp), (((((Below.refl w.heap.size w).alloc (Nat.le_refl _) _).alloc (by simp) _).alloc (by simp; omega) _).alloc (by simp; omega) _), by simp⟩
/-- What stands while a deed's outer function runs. -/
structure Wr3 (w : World) (s : Array Value) (t0 : TypeId) (v0 : Value) (t1 : TypeId) (v1 : Value) (t2 : TypeId) (v2 : Value) (wr : World) : Prop where
 r : Row wr w.heap.size 32 s
 c0 : Row wr (w.heap.size + 1) t0 #[v0]
 c1 : Row wr (w.heap.size + 2) t1 #[v1]
 c2 : Row wr (w.heap.size + 3) t2 #[v2]
 rr : Room wr (w.heap.size + 4) 32 44
 be : Below w.heap.size w wr
 sz : w.heap.size + 5 ≤ wr.heap.size
theorem Wr3.begin (w : World) (s : Array Value) (t0 : TypeId) (v0 : Value) (t1 : TypeId) (v1 : Value) (t2 : TypeId) (v2 : Value) : Wr3 w s t0 v0 t1 v1 t2 v2 (((((w.alloc (.cells s 32)).alloc (.cells #[v0] t0)).alloc (.cells #[v1] t1)).alloc (.cells #[v2] t2)).alloc (.cells z32 32)) :=
 ⟨((((Row.new _ _ _).alloc _).alloc _).alloc _).alloc _, (((Row.made _ _ _ _ _ rfl (by simp)).alloc _).alloc _).alloc _, ((Row.made _ _ _ _ _ rfl (by simp)).alloc _).alloc _, (Row.made _ _ _ _ _ rfl (by simp)).alloc _, Room.made _ _ _ _ _ rfl (by simp), ((((((Below.refl w.heap.size w).alloc (Nat.le_refl _) _).alloc (by simp) _).alloc (by simp; omega) _).alloc (by simp; omega) _).alloc (by simp; omega) _), by simp⟩
/-- What Keep makes of a screen. -/
def keF (x : Sn) (back : Bool) : Sn := if back then kbS x x.sv true true true true true else { x with sv := x.cur }
theorem keep1_any (N : Nat) (w : World) (p : Nat) (x : Sn) (vg vt vm vl : Value) (h : Bd N w p x vg vt vm vl) (c : Nat) (back : Bool) (hr : Row w c 4 #[.bool back]) :
  Calls Tryz.prog 68 #[.pointer (some ⟨p, 0, none⟩), .pointer (some ⟨c, 0, none⟩)] w fun e w' => (∃ v, e = .returned v) ∧ Bd N w' p (keF x back) vg vt vm vl ∧ Tc p w w' := by
 have c0 : w.cell? ⟨c, 0, none⟩ = some (.bool back) := hr.cell 0
 have KB := Box'.mk (keepBack_any N w p x vg vt vm vl h)
 have KE := Box'.mk (keep_any N w p x vg vt vm vl h)
 clear h hr
 cases back with
 | true =>
  go_enter Tryz.func68, Tryz.ntmps68
  go_wp2_with fail
  refine KB.out.mono ?_
  rintro e w2 ⟨⟨v, rfl⟩, h2, h3⟩
  have H2 := Box'.mk h2
  have H3 := Box'.mk h3
  clear h2 h3 c0
  go_wp2_with fail
  exact bodyPost_end (results_none rfl _ _) rfl ⟨⟨_, rfl⟩, H2.out, H3.out⟩
 | false =>
  go_enter Tryz.func68, Tryz.ntmps68
  go_wp2_with fail
  refine KE.out.mono ?_
  rintro e w2 ⟨⟨v, rfl⟩, h2, h3⟩
  have H2 := Box'.mk h2
  have H3 := Box'.mk h3
  clear h2 h3 c0
  go_wp2_with fail
  exact bodyPost_end (results_none rfl _ _) rfl ⟨⟨_, rfl⟩, H2.out, H3.out⟩
theorem Keep_dr (x : Sn) (vg vt vm vl : Value) (back : Bool) (w : World) (hl : Li w.heap.size w x vg vt vm vl) (hb : Bo x) :
  Calls Tryz.prog 18 #[.agg (snA x vg vt vm vl), .bool back] w fun e w' => DR w.heap.size w' e (if mayN x then some (keF x back) else none) ∧ Below w.heap.size w w' := by
 have DO : Box' (∀ wx, Below w.heap.size w wx → w.heap.size + 3 ≤ wx.heap.size → Row wx (w.heap.size + 1) 4 #[.bool back] → Calls Tryz.prog 67 #[.agg (snA x vg vt vm vl), .func (.func 68) #[] #[.pointer (some ⟨w.heap.size + 1, 0, none⟩)]] wx fun e w' => DR wx.heap.size w' e (if mayN x then some (keF x back) else none) ∧ Below wx.heap.size wx w') := ⟨fun wx hbe hsz r0 => by
  cases hN : mayN x with
  | false => exact do1_no x vg vt vm vl 68 (.pointer (some ⟨w.heap.size + 1, 0, none⟩)) wx (hl.at hbe) hb hN
  | true =>
   exact do1_ok x (keF x back) vg vt vm vl 68 (.pointer (some ⟨w.heap.size + 1, 0, none⟩)) wx (hl.at hbe) hb hN (fun _ _ => rfl) (fun wy p vg vt vm vl hby bd hp => by
   have r0 := r0.below hby (by omega)
   refine (keep1_any (wx.heap.size + 2) wy p x vg vt vm vl bd (w.heap.size + 1) back r0).mono ?_
   rintro e w' ⟨h1, h2, h3⟩
   exact ⟨h1, ⟨_, _, _, _, h2⟩, h3.below (by omega) (by have := bd.lt; omega)⟩)⟩
 have F := Box'.mk (Wr1.begin w (snA x vg vt vm vl) 4 (.bool back))
 have U32 := Box'.mk Tryz.underlying32
 have S32 := Box'.mk s32
 clear hl hb
 generalize (if mayN x then some (keF x back) else none) = r at *
 go_enter Tryz.func18, Tryz.ntmps18
 go_upto_region 1 with (fail)
 generalize (((w.alloc (.cells (snA x vg vt vm vl) 32)).alloc (.cells #[.bool back] 4)).alloc (.cells z32 32)) = w1 at *
 have hz := F.out.sz
 go_wp2_with (first
  | (refine wpList_load_row rfl 32 (.tmp 2) rfl w.heap.size rfl 32 (snA x vg vt vm vl) F.out.r _ U32.out rfl 44 S32.out rfl ?_))
 refine (DO.out _ F.out.be (by omega) F.out.c0).mono ?_
 rintro e w2 ⟨hd, hb⟩
 obtain ⟨y, yg, yt, ym, yl, er, rfl, ho, hs⟩ := (hd.dn (show w.heap.size ≤ w1.heap.size by omega)).out
 have RR := Box'.mk (F.out.rr.below hb (by omega))
 have BE : Box' (Below w.heap.size w w2) := ⟨F.out.be.trans (hb.mono F.out.be.size)⟩
 have OO := Box'.mk ho
 have HS := Box'.mk hs
 clear hd hb ho hs F DO
 go_wp2_with (first
  | (refine wpList_store_row rfl 32 (.tmp 4) (.tmp 9) rfl (w.heap.size + 2) rfl (snA y yg yt ym yl) rfl 32 44 RR.out S32.out rfl OO.out ?_))
 exact bodyPost_ret (results_sn rfl _ (w.heap.size + 2) rfl _ rfl _ _ (RR.out.setRow _) rfl) rfl ⟨HS.out _ _ RR.out, below_setRow BE.out (by omega) _⟩
theorem Keep_no (x : Sn) (vg vt vm vl : Value) (back : Bool) (w : World) (hl : Li w.heap.size w x vg vt vm vl) (hb : Bo x) (hN : mayN x = false) :
  Calls Tryz.prog 18 #[.agg (snA x vg vt vm vl), .bool back] w fun e w' => e = .returned sErr ∧ Below w.heap.size w w' := (Keep_dr x vg vt vm vl back w hl hb).mono fun e w' q => by
 rw [hN] at q; exact q
theorem Keep_ok (x : Sn) (vg vt vm vl : Value) (back : Bool) (w : World) (hl : Li w.heap.size w x vg vt vm vl) (hb : Bo x) (hN : mayN x = true) :
  Calls Tryz.prog 18 #[.agg (snA x vg vt vm vl), .bool back] w fun e w' => ScR w.heap.size w' e (keF x back) ∧ Below w.heap.size w w' := (Keep_dr x vg vt vm vl back w hl hb).mono fun e w' q => by
 rw [hN] at q; exact q
/-- What is sure of a screen that may be. -/
structure Mm (x : Sn) : Prop where
 c1 : 0 < x.g.co
 c2 : x.g.co ≤ 512
 r1 : 0 < x.g.ro
 r2 : x.g.ro ≤ 512
 t1 : 0 ≤ x.top
 t2 : x.top ≤ x.bot
 b2 : x.bot < x.g.ro
 w1 : 0 ≤ x.cur.row
 w2 : x.cur.row < x.g.ro
 l1 : 0 ≤ x.cur.col
 l2 : x.cur.col < x.g.co
theorem may_Mm {x : Sn} (h : mayN x = true) : Mm x := by
 unfold mayN at h
 simp only [Bool.and_eq_true] at h
 obtain ⟨h0, _, h2, h3, h4, _, _, h7, _⟩ := h
 obtain ⟨cols, rows, e1, e2, p1, p2, p3, p4, hl⟩ := mayG_dest h7
 unfold curF at h0
 simp only [Bool.and_eq_true] at h0
 have a1 := of_decide_eq_true h0.1
 have a2 := of_decide_eq_true h0.2.1
 have a3 := of_decide_eq_true h2
 have a4 := of_decide_eq_true h3
 have a5 := of_decide_eq_true h4
 exact ⟨by omega, by omega, by omega, by omega, by omega, by omega, by omega, by omega, by omega, by omega, by omega⟩
/-- The cursor at a place, a line no longer pending. -/
def atF (x : Sn) (row col : Int) : Sn := { x with cur := { x.cur with row := row, col := col, pend := false } }
def rwF (x : Sn) (row : Int) : Sn := { x with cur := { x.cur with row := row } }
def rcF (x : Sn) (row col : Int) : Sn := { x with cur := { x.cur with row := row, col := col } }
def plF (x : Sn) (row col : Int) : Sn := if x.cur.orig then atF x (wiF x.top row x.top x.bot) (wiF 0 col 0 (x.g.co - 1)) else atF x (wiF 0 row 0 (x.g.ro - 1)) (wiF 0 col 0 (x.g.co - 1))
def mvF (x : Sn) (down right : Int) : Sn := atF x (wiF x.cur.row down (if x.top ≤ x.cur.row then x.top else 0) (if x.cur.row ≤ x.bot then x.bot else x.g.ro - 1)) (wiF x.cur.col right 0 (x.g.co - 1))
theorem Bd.drewN {N : Nat} {w : World} {p : Nat} {x : Sn} {vg vt vm vl : Value} (h : Bd N w p x vg vt vm vl) (n : Nat) : Bd N (w.drewN n) p x vg vt vm vl := h.below (Below.drewN bR n)
theorem bPlace_any (N : Nat) (w : World) (p : Nat) (x : Sn) (vg vt vm vl : Value) (h : Bd N w p x vg vt vm vl) (m : Mm x) (row col : Int) :
  Calls Tryz.prog 79 #[.pointer (some ⟨p, 0, none⟩), .int .i64 row, .int .i64 col] w fun e w' => (∃ v, e = .returned v) ∧ Bd N w' p (plF x row col) vg vt vm vl ∧ Tc p w w' := by
 have LR := Box'.mk (lastRow_any N w p x vg vt vm vl h m.r1 m.r2)
 have LC : Box' (∀ wx z, Bd N wx p (rwF x z) vg vt vm vl → Calls Tryz.prog 134 #[.pointer (some ⟨p, 0, none⟩)] wx fun e w' => e = .returned (.int .i64 (x.g.co - 1)) ∧ w' = wx) := ⟨fun wx z hb => lastCol_any N wx p (rwF x z) vg vt vm vl hb m.c1 m.c2⟩
 have WC := Box'.mk (within_any 0 col 0 (x.g.co - 1) (by omega) (by omega) (by have := m.c1; omega))
 have BB := Box'.mk h
 have TT := Box'.mk (Tc.refl p w)
 have c20 : w.cell? ⟨p, 20, none⟩ = some (.bool x.cur.orig) := h.box.cell 20
 have c16 : w.cell? ⟨p, 16, none⟩ = some (.int .i64 x.top) := h.box.cell 16
 have c17 : w.cell? ⟨p, 17, none⟩ = some (.int .i64 x.bot) := h.box.cell 17
 clear h
 unfold plF
 cases ho : x.cur.orig with
 | false =>
  rw [ho] at c20
  have WR := Box'.mk (within_any 0 row 0 (x.g.ro - 1) (by omega) (by omega) (by have := m.r1; omega))
  have E : Box' (atF x (wiF 0 row 0 (x.g.ro - 1)) (wiF 0 col 0 (x.g.co - 1)) = if false = true then atF x (wiF x.top row x.top x.bot) (wiF 0 col 0 (x.g.co - 1)) else atF x (wiF 0 row 0 (x.g.ro - 1)) (wiF 0 col 0 (x.g.co - 1))) := ⟨rfl⟩
  rw [← E.out]
  clear E ho
  generalize wiF 0 row 0 (x.g.ro - 1) = Z at *
  generalize wiF 0 col 0 (x.g.co - 1) = Y at *
  go_enter Tryz.func79, Tryz.ntmps79
  go_wp2_with fail
  refine LR.out.mono ?_
  rintro e w2 ⟨rfl, rfl⟩
  go_wp2_with fail
  refine (WR.out _).mono ?_
  rintro e w3 ⟨rfl, rfl⟩
  have cc : w3.cell? ⟨p, 3, none⟩ = some (.int .i64 x.cur.row) := BB.out.box.cell 3
  have ff := BB.out.box.frozen 3
  have B2 : Box' (Bd N (w3.setCell ⟨p, 3, none⟩ (.int .i64 Z)) p (rwF x Z) vg vt vm vl) := ⟨BB.out.setCell _ 3 _ rfl rfl rfl rfl rfl⟩
  have T2 : Box' (Tc p w3 (w3.setCell ⟨p, 3, none⟩ (.int .i64 Z))) := ⟨TT.out.setCell 3 _⟩
  clear BB TT
  go_upto_region 4 with (fail)
  clear cc ff
  generalize (w3.setCell ⟨p, 3, none⟩ (.int .i64 Z)) = w4 at *
  go_wp2_with fail
  refine (LC.out _ _ B2.out).mono ?_
  rintro e w5 ⟨rfl, rfl⟩
  go_wp2_with fail
  refine (WC.out _).mono ?_
  rintro e w6 ⟨rfl, rfl⟩
  have cc : w6.cell? ⟨p, 4, none⟩ = some (.int .i64 x.cur.col) := B2.out.box.cell 4
  have ff := B2.out.box.frozen 4
  have B3 : Box' (Bd N (w6.setCell ⟨p, 4, none⟩ (.int .i64 Y)) p (rcF x Z Y) vg vt vm vl) := ⟨B2.out.setCell _ 4 _ rfl rfl rfl rfl rfl⟩
  have T3 : Box' (Tc p w3 (w6.setCell ⟨p, 4, none⟩ (.int .i64 Y))) := ⟨T2.out.setCell 4 _⟩
  clear B2 T2
  go_upto_region 5 with (fail)
  clear cc ff
  generalize (w6.setCell ⟨p, 4, none⟩ (.int .i64 Y)) = w7 at *
  have cc : w7.cell? ⟨p, 5, none⟩ = some (.bool x.cur.pend) := B3.out.box.cell 5
  have ff := B3.out.box.frozen 5
  have B4 : Box' (Bd N (w7.setCell ⟨p, 5, none⟩ (.bool false)) p (atF x Z Y) vg vt vm vl) := ⟨B3.out.setCell _ 5 _ rfl rfl rfl rfl rfl⟩
  have T4 : Box' (Tc p w3 (w7.setCell ⟨p, 5, none⟩ (.bool false))) := ⟨T3.out.setCell 5 _⟩
  clear B3 T3
  go_wp2_with fail
  exact bodyPost_end (results_none rfl _ _) rfl ⟨⟨_, rfl⟩, B4.out, T4.out⟩
 | true =>
  rw [ho] at c20
  have WR := Box'.mk (within_any x.top row x.top x.bot m.t1 (by have := m.t2; have := m.b2; have := m.r2; omega) m.t2)
  have E : Box' (atF x (wiF x.top row x.top x.bot) (wiF 0 col 0 (x.g.co - 1)) = if true = true then atF x (wiF x.top row x.top x.bot) (wiF 0 col 0 (x.g.co - 1)) else atF x (wiF 0 row 0 (x.g.ro - 1)) (wiF 0 col 0 (x.g.co - 1))) := ⟨rfl⟩
  rw [← E.out]
  clear E ho
  generalize wiF x.top row x.top x.bot = Z at *
  generalize wiF 0 col 0 (x.g.co - 1) = Y at *
  go_enter Tryz.func79, Tryz.ntmps79
  go_wp2_with fail
  refine LR.out.mono ?_
  rintro e w2 ⟨rfl, rfl⟩
  go_wp2_with fail
  refine wp_region_walk 10 (by kernel_rfl) (by kernel_rfl) (fun D f wa => (Bd N wa p x vg vt vm vl ∧ Tc p w2 wa) ∧ ∀ i, D i = true → (fun kc => kc == 999) i = false → f i = (fun kc => match kc with
    | 0 => .pointer (some ⟨p, 0, none⟩)
    | 1 => .pointer (some ⟨p, 0, none⟩)
    | 2 => .pointer (some ⟨p, 16, none⟩)
    | 3 => .int .i64 x.top
    | 4 => .pointer (some ⟨p, 0, none⟩)
    | 5 => .pointer (some ⟨p, 0, none⟩)
    | 6 => .pointer (some ⟨p, 17, none⟩)
    | 7 => .int .i64 x.bot
    | 8 => .int .i64 x.top
    | 9 => .int .i64 x.bot
    | _ => undef) i) ?_ ?_ ?_
  ·exact fun f => ⟨⟨BB.out.below (bR.drew), TT.out.drew⟩, fun i h => by cases h⟩
  ·refine ⟨?a0, ?a1, ?a2, ?a3, ?a4, ?a5, ?a6, ?a7, ?a8, ?a9, trivial⟩
   all_goals intro D f wq hJ hD hd KK hK
   all_goals have G := fun j h h2 => hJ.2 j (hd j h) h2
   all_goals have cq0 : wq.cell? ⟨p, 16, none⟩ = some (.int .i64 x.top) := hJ.1.1.box.cell 16
   all_goals have cq1 : wq.cell? ⟨p, 17, none⟩ = some (.int .i64 x.bot) := hJ.1.1.box.cell 17
   all_goals simp (disch := decide +kernel) only [tkS, tkZ, setAll, siB, stS, stZ, Nat.zero_add, Nat.reduceAdd, G] at hK ⊢
   all_goals (refine wp_of_quiet rfl ?_; go_big_quiet_step (fail); exact wpQuiet_nil (hK _ _ ⟨hJ.1, vals_upd hJ.2 (.inr rfl)⟩))
  ·intro D f wz hD hJ
   have hW := hJ.1
   have P := fun j h h2 => hJ.2 j (hD j h) h2
   clear hJ hD
   simp (disch := decide) only [tkS, tkZ, List.drop_succ_cons, List.drop_zero, setAll, siB, stS, stZ, Nat.zero_add, Nat.reduceAdd, P]
   clear P
   have BB := Box'.mk hW.1
   have TT := Box'.mk hW.2
   clear hW
   go_wp2_with fail
   refine (WR.out _).mono ?_
   rintro e w3 ⟨rfl, rfl⟩
   have cc : w3.cell? ⟨p, 3, none⟩ = some (.int .i64 x.cur.row) := BB.out.box.cell 3
   have ff := BB.out.box.frozen 3
   have B2 : Box' (Bd N (w3.setCell ⟨p, 3, none⟩ (.int .i64 Z)) p (rwF x Z) vg vt vm vl) := ⟨BB.out.setCell _ 3 _ rfl rfl rfl rfl rfl⟩
   have T2 : Box' (Tc p w2 (w3.setCell ⟨p, 3, none⟩ (.int .i64 Z))) := ⟨TT.out.setCell 3 _⟩
   clear BB TT
   go_upto_region 4 with (fail)
   clear cc ff
   generalize (w3.setCell ⟨p, 3, none⟩ (.int .i64 Z)) = w4 at *
   go_wp2_with fail
   refine (LC.out _ _ B2.out).mono ?_
   rintro e w5 ⟨rfl, rfl⟩
   go_wp2_with fail
   refine (WC.out _).mono ?_
   rintro e w6 ⟨rfl, rfl⟩
   have cc : w6.cell? ⟨p, 4, none⟩ = some (.int .i64 x.cur.col) := B2.out.box.cell 4
   have ff := B2.out.box.frozen 4
   have B3 : Box' (Bd N (w6.setCell ⟨p, 4, none⟩ (.int .i64 Y)) p (rcF x Z Y) vg vt vm vl) := ⟨B2.out.setCell _ 4 _ rfl rfl rfl rfl rfl⟩
   have T3 : Box' (Tc p w2 (w6.setCell ⟨p, 4, none⟩ (.int .i64 Y))) := ⟨T2.out.setCell 4 _⟩
   clear B2 T2
   go_upto_region 5 with (fail)
   clear cc ff
   generalize (w6.setCell ⟨p, 4, none⟩ (.int .i64 Y)) = w7 at *
   have cc : w7.cell? ⟨p, 5, none⟩ = some (.bool x.cur.pend) := B3.out.box.cell 5
   have ff := B3.out.box.frozen 5
   have B4 : Box' (Bd N (w7.setCell ⟨p, 5, none⟩ (.bool false)) p (atF x Z Y) vg vt vm vl) := ⟨B3.out.setCell _ 5 _ rfl rfl rfl rfl rfl⟩
   have T4 : Box' (Tc p w2 (w7.setCell ⟨p, 5, none⟩ (.bool false))) := ⟨T3.out.setCell 5 _⟩
   clear B3 T3
   go_wp2_with fail
   exact bodyPost_end (results_none rfl _ _) rfl ⟨⟨_, rfl⟩, B4.out, T4.out⟩
theorem place1_any (N : Nat) (w : World) (p : Nat) (x : Sn) (vg vt vm vl : Value) (h : Bd N w p x vg vt vm vl) (m : Mm x) (c d : Nat) (row col : Int) (hr : Row w c 3 #[.int .i64 row]) (hc : Row w d 3 #[.int .i64 col]) :
  Calls Tryz.prog 78 #[.pointer (some ⟨p, 0, none⟩), .pointer (some ⟨c, 0, none⟩), .pointer (some ⟨d, 0, none⟩)] w fun e w' => (∃ v, e = .returned v) ∧ Bd N w' p (plF x row col) vg vt vm vl ∧ Tc p w w' := by
 have c0 : w.cell? ⟨c, 0, none⟩ = some (.int .i64 row) := hr.cell 0
 have c1 : w.cell? ⟨d, 0, none⟩ = some (.int .i64 col) := hc.cell 0
 have PL := Box'.mk (bPlace_any N w p x vg vt vm vl h m row col)
 clear h hr hc
 go_enter Tryz.func78, Tryz.ntmps78
 go_wp2_with fail
 refine PL.out.mono ?_
 rintro e w2 ⟨⟨v, rfl⟩, h2, h3⟩
 have H2 := Box'.mk h2
 have H3 := Box'.mk h3
 clear h2 h3 c0 c1
 go_wp2_with fail
 exact bodyPost_end (results_none rfl _ _) rfl ⟨⟨_, rfl⟩, H2.out, H3.out⟩
theorem Place_dr (x : Sn) (vg vt vm vl : Value) (row col : Int) (w : World) (hl : Li w.heap.size w x vg vt vm vl) (hb : Bo x) :
  Calls Tryz.prog 24 #[.agg (snA x vg vt vm vl), .int .i64 row, .int .i64 col] w fun e w' => DR w.heap.size w' e (if mayN x then some (plF x row col) else none) ∧ Below w.heap.size w w' := by
 have DO : Box' (∀ wx, Below w.heap.size w wx → w.heap.size + 4 ≤ wx.heap.size → Row wx (w.heap.size + 1) 3 #[.int .i64 row] → Row wx (w.heap.size + 2) 3 #[.int .i64 col] → Calls Tryz.prog 67 #[.agg (snA x vg vt vm vl), .func (.func 78) #[] #[.pointer (some ⟨w.heap.size + 1, 0, none⟩), .pointer (some ⟨w.heap.size + 2, 0, none⟩)]] wx fun e w' => DR wx.heap.size w' e (if mayN x then some (plF x row col) else none) ∧ Below wx.heap.size wx w') := ⟨fun wx hbe hsz r0 r1 => by
  cases hN : mayN x with
  | false => exact do2_no x vg vt vm vl 78 (.pointer (some ⟨w.heap.size + 1, 0, none⟩)) (.pointer (some ⟨w.heap.size + 2, 0, none⟩)) wx (hl.at hbe) hb hN
  | true =>
   exact do2_ok x (plF x row col) vg vt vm vl 78 (.pointer (some ⟨w.heap.size + 1, 0, none⟩)) (.pointer (some ⟨w.heap.size + 2, 0, none⟩)) wx (hl.at hbe) hb hN (fun _ _ => rfl) (fun wy p vg vt vm vl hby bd hp => by
   have r0 := r0.below hby (by omega)
   have r1 := r1.below hby (by omega)
   refine (place1_any (wx.heap.size + 2) wy p x vg vt vm vl bd (may_Mm hN) (w.heap.size + 1) (w.heap.size + 2) row col r0 r1).mono ?_
   rintro e w' ⟨h1, h2, h3⟩
   exact ⟨h1, ⟨_, _, _, _, h2⟩, h3.below (by omega) (by have := bd.lt; omega)⟩)⟩
 have F := Box'.mk (Wr2.begin w (snA x vg vt vm vl) 3 (.int .i64 row) 3 (.int .i64 col))
 have U32 := Box'.mk Tryz.underlying32
 have S32 := Box'.mk s32
 clear hl hb
 generalize (if mayN x then some (plF x row col) else none) = r at *
 go_enter Tryz.func24, Tryz.ntmps24
 go_upto_region 1 with (fail)
 generalize ((((w.alloc (.cells (snA x vg vt vm vl) 32)).alloc (.cells #[.int .i64 row] 3)).alloc (.cells #[.int .i64 col] 3)).alloc (.cells z32 32)) = w1 at *
 have hz := F.out.sz
 go_wp2_with (first
  | (refine wpList_load_row rfl 32 (.tmp 3) rfl w.heap.size rfl 32 (snA x vg vt vm vl) F.out.r _ U32.out rfl 44 S32.out rfl ?_))
 refine (DO.out _ F.out.be (by omega) F.out.c0 F.out.c1).mono ?_
 rintro e w2 ⟨hd, hb⟩
 obtain ⟨y, yg, yt, ym, yl, er, rfl, ho, hs⟩ := (hd.dn (show w.heap.size ≤ w1.heap.size by omega)).out
 have RR := Box'.mk (F.out.rr.below hb (by omega))
 have BE : Box' (Below w.heap.size w w2) := ⟨F.out.be.trans (hb.mono F.out.be.size)⟩
 have OO := Box'.mk ho
 have HS := Box'.mk hs
 clear hd hb ho hs F DO
 go_wp2_with (first
  | (refine wpList_store_row rfl 32 (.tmp 6) (.tmp 11) rfl (w.heap.size + 3) rfl (snA y yg yt ym yl) rfl 32 44 RR.out S32.out rfl OO.out ?_))
 exact bodyPost_ret (results_sn rfl _ (w.heap.size + 3) rfl _ rfl _ _ (RR.out.setRow _) rfl) rfl ⟨HS.out _ _ RR.out, below_setRow BE.out (by omega) _⟩
theorem Place_no (x : Sn) (vg vt vm vl : Value) (row col : Int) (w : World) (hl : Li w.heap.size w x vg vt vm vl) (hb : Bo x) (hN : mayN x = false) :
  Calls Tryz.prog 24 #[.agg (snA x vg vt vm vl), .int .i64 row, .int .i64 col] w fun e w' => e = .returned sErr ∧ Below w.heap.size w w' := (Place_dr x vg vt vm vl row col w hl hb).mono fun e w' q => by
 rw [hN] at q; exact q
theorem Place_ok (x : Sn) (vg vt vm vl : Value) (row col : Int) (w : World) (hl : Li w.heap.size w x vg vt vm vl) (hb : Bo x) (hN : mayN x = true) :
  Calls Tryz.prog 24 #[.agg (snA x vg vt vm vl), .int .i64 row, .int .i64 col] w fun e w' => ScR w.heap.size w' e (plF x row col) ∧ Below w.heap.size w w' := (Place_dr x vg vt vm vl row col w hl hb).mono fun e w' q => by
 rw [hN] at q; exact q
end Go.Proofs.YtlekleeckcdcgaaGreat
