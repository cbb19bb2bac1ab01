/- Tab. -/
import Derived.Test.YtlekleeckcdcgaaGreatYi
import Derived.Test.YtlekleeckcdcgaaGreatYj
namespace Go.Proofs.YtlekleeckcdcgaaGreat
open Go.RowKit Go.BigFrame
set_option linter.unusedVariables false
set_option linter.unusedSimpArgs false
set_option maxHeartbeats 8000000
set_option maxRecDepth 100000
/-- What stands while a tabulator is put in. -/
structure TbJ (w0 : World) (N b p : Nat) (col : Int) (l : List Int) (D : Nat → Bool) (f : Nat → Value) (wa : World) : Prop where
 d : D 11 = true → D 4 = true ∧ D 10 = true
 e : D 10 = true → D 9 = true
 m : D 14 = true → D 11 = true
 a : D 11 = false → Below w0.heap.size w0 wa
 k : D 10 = true → D 11 = false → ∃ q, f 10 = .slice (some ⟨q, 0, none⟩) 1 1 ∧ q < wa.heap.size ∧ wa.cell? ⟨q, 0, none⟩ = some (.int .i64 col)
 z : D 11 = true → D 14 = false → OwnN N wa (f 11) l ∧ Tc b w0 wa
 y : D 14 = true → ∃ wb, OwnN N wb (f 11) l ∧ Tc b w0 wb ∧ wa = wb.setCell ⟨p, 18, none⟩ (f 11)
theorem TbJ.begin (w0 : World) (N b p : Nat) (col : Int) (l : List Int) (f : Nat → Value) : TbJ w0 N b p col l (fun _ => false) f w0.drew :=
 ⟨nofun, nofun, nofun, fun _ => bR.drew, nofun, nofun, nofun⟩
theorem TbJ.idle {w0 : World} {N b p : Nat} {col : Int} {l : List Int} {D : Nat → Bool} {f : Nat → Value} {wa : World} (j : TbJ w0 N b p col l D f wa) (i : Nat) (hi : i = 4 ∨ i = 9 ∨ i = 10 ∨ i = 11) (hD : D i = false) : D 11 = false := by
 cases h : D 11 with
 | false => rfl
 | true =>
  obtain ⟨a1, a2⟩ := j.d h
  have a3 := j.e a2
  rcases hi with rfl | rfl | rfl | rfl
  ·rw [hD] at a1; cases a1
  ·rw [hD] at a3; cases a3
  ·rw [hD] at a2; cases a2
  ·rw [hD] at h; cases h
theorem TbJ.other {w0 : World} {N b p : Nat} {col : Int} {l : List Int} {D : Nat → Bool} {f : Nat → Value} {wa : World} (j : TbJ w0 N b p col l D f wa) (k : Nat) (v : Value) (h0 : k ≠ 10) (h1 : k ≠ 11) (h2 : k ≠ 14) : TbJ w0 N b p col l (updB D k) (upd f k v) wa := by
 have h0 : ¬ 10 = k := fun e => h0 e.symm
 have h1 : ¬ 11 = k := fun e => h1 e.symm
 have h2 : ¬ 14 = k := fun e => h2 e.symm
 obtain ⟨a0, a1, a2, a3, a4, a5, a6⟩ := j
 refine ⟨fun h => ?_, fun h => ?_, ?_, ?_, ?_, ?_, ?_⟩
 ·simp only [updB, if_neg h1] at h
  obtain ⟨q1, q2⟩ := a0 h
  exact ⟨updB_up q1, updB_up q2⟩
 ·simp only [updB, if_neg h0] at h
  exact updB_up (a1 h)
 all_goals (simp only [updB, upd, if_neg h0, if_neg h1, if_neg h2]; assumption)
theorem TbJ.o10 {w0 : World} {N b p : Nat} {col : Int} {l : List Int} {D : Nat → Bool} {f : Nat → Value} {wa : World} (j : TbJ w0 N b p col l D f wa) (hD : D 10 = false) (h9 : D 9 = true) (w2 : World) (hb : Below wa.heap.size wa w2) (q : Nat) (hq : q < w2.heap.size) (hc : w2.cell? ⟨q, 0, none⟩ = some (.int .i64 col)) : TbJ w0 N b p col l (updB D 10) (upd f 10 (.slice (some ⟨q, 0, none⟩) 1 1)) w2 := by
 have q11 := j.idle 10 (.inr (.inr (.inl rfl))) hD
 have b := j.a q11
 have m14 : D 14 = false := by
  cases h : D 14 with
  | false => rfl
  | true => have := j.m h; rw [q11] at this; cases this
 refine ⟨fun h => ?_, fun _ => updB_up h9, fun h => ?_, fun _ => b.trans (hb.mono b.size), fun _ _ => ⟨q, by simp [upd], hq, hc⟩, fun h => ?_, fun h => ?_⟩
 ·simp [updB] at h; rw [q11] at h; cases h
 ·simp [updB] at h; rw [m14] at h; cases h
 ·simp [updB] at h; rw [q11] at h; cases h
 ·simp [updB] at h; rw [m14] at h; cases h
theorem TbJ.o11 {w0 : World} {N b p : Nat} {col : Int} {l : List Int} {D : Nat → Bool} {f : Nat → Value} {wa : World} (j : TbJ w0 N b p col l D f wa) (hD : D 11 = false) (h4 : D 4 = true) (h10 : D 10 = true) (v : Value) (w2 : World) (hv : OwnN N w2 v l) (ht : Tc b w0 w2) : TbJ w0 N b p col l (updB D 11) (upd f 11 v) w2 := by
 have m14 : D 14 = false := by
  cases h : D 14 with
  | false => rfl
  | true => have := j.m h; rw [hD] at this; cases this
 refine ⟨fun _ => ⟨updB_up h4, updB_up h10⟩, fun _ => updB_up (j.e h10), fun _ => by simp [updB], fun h => ?_, fun _ h => ?_, fun _ _ => ⟨by simpa [upd] using hv, ht⟩, fun h => ?_⟩
 ·simp [updB] at h
 ·simp [updB] at h
 ·simp [updB] at h; rw [m14] at h; cases h
theorem TbJ.o14 {w0 : World} {N b p : Nat} {col : Int} {l : List Int} {D : Nat → Bool} {f : Nat → Value} {wa : World} (j : TbJ w0 N b p col l D f wa) (hD : D 14 = false) (h11 : D 11 = true) (v : Value) : TbJ w0 N b p col l (updB D 14) (upd f 14 v) (wa.setCell ⟨p, 18, none⟩ (f 11)) := by
 obtain ⟨z1, z2⟩ := j.z h11 hD
 obtain ⟨q1, q2⟩ := j.d h11
 refine ⟨fun _ => ⟨updB_up q1, updB_up q2⟩, fun _ => updB_up (j.e q2), fun _ => updB_up h11, fun h => ?_, fun _ h => ?_, fun _ h => ?_, fun _ => ⟨wa, by simpa [upd] using z1, z2, by simp [upd]⟩⟩
 ·simp [updB] at h; rw [h11] at h; cases h
 ·simp [updB] at h; rw [h11] at h; cases h
 ·simp [updB] at h
theorem wp_store27 {op : Oper} {a : Act} {w : World} {Q : Exit → Act → World → Prop} {K : Act → World → Prop} (x y : Operand) (ho : op.op = .store 27 x y) (b o : Nat) (v u : Value) (hv : ∃ a n c, v = .slice a n c) (hx : a.eval x = .pointer (some ⟨b, o, none⟩)) (hy : a.eval y = v) (hc : w.cell? ⟨b, o, none⟩ = some u) (hf : w.frozen? ⟨b, o, none⟩ = false) (h : K (a.put op.dst undef) (w.setCell ⟨b, o, none⟩ v)) : op.wp Tryz.prog a w K Q := by
 obtain ⟨a0, n0, c0, rfl⟩ := hv
 unfold Oper.wp execOp
 simp only [ho, hx, hy]
 simp [go_sem, hc, hf]
 exact h
theorem Bd.tabsBox {N : Nat} {w wb : World} {p : Nat} {x : Sn} {vg vm vl : Value} {b n : Nat} (h : Bd N w p x vg (.slice (some ⟨b, 0, none⟩) n n) vm vl) (ht : Tc b w wb) : Row wb p 116 (snA x vg (.slice (some ⟨b, 0, none⟩) n n) vm vl) := by
 rcases h.own.t.2 with ⟨e1, e2⟩ | ⟨g, cap, cur, e1, e2, e3, e4⟩
 ·cases e1
 ·simp only [Value.slice.injEq, Option.some.injEq, Addr.mk.injEq] at e1
  obtain ⟨⟨rfl, _⟩, e1a, rfl⟩ := e1
  have hb : Row w b 3 cur := e3
  exact ht.row h.box (row_neT hb h.box (by decide))
theorem wp_val' {op : Oper} {a : Act} {w : World} {K : Act → World → Prop} {Q : Exit → Act → World → Prop} (v : Value) (w2 : World) (hrun : (execOp a.eval op).run Tryz.prog w = .ok (.value v) w2) (h : K (a.put op.dst v) w2) : op.wp Tryz.prog a w K Q := by
 unfold Oper.wp
 rw [hrun]
 exact h
theorem tab_r4 (N : Nat) (w : World) (p : Nat) (x : Sn) (vg vm vl : Value) (b n i0 : Nat) (h : Bd N w p x vg (.slice (some ⟨b, 0, none⟩) n n) vm vl) (hn : x.tabs.length = n) (hn2 : n ≤ 100000) (hi : i0 ≤ n) (u1 u2 u3 u5 u6 u7 u8 u9 u10 u11 u12 u13 u14 u15 u16 u17 u18 u19 u20 u21 u22 u23 u24 u25 u26 u27 u28 u29 u30 u31 u32 u33 u34 u35 u36 u37 u38 u39 u40 u41 u42 u43 u44 u45 u46 u47 u48 u49 u50 u51 u52 u53 u54 u55 : Value) (df : List Deferred) (Q : Exit → Act → World → Prop) (hQ : ∀ (z10 z11 : Value) (wz : World), (∃ v, Bd N wz p { x with tabs := x.tabs.take i0 ++ x.cur.col :: x.tabs.drop i0 } vg v vm vl ∧ Below N w wz) → wpList Tryz.prog #[] Q [] ⟨List.toArray ((.pointer (some ⟨p, 0, none⟩)) :: u1 :: u2 :: u3 :: (.int .i64 (i0 : Int)) :: u5 :: u6 :: u7 :: u8 :: u9 :: u10 :: u11 :: u12 :: u13 :: u14 :: u15 :: u16 :: u17 :: u18 :: u19 :: u20 :: u21 :: u22 :: (.pointer (some ⟨p, 0, none⟩)) :: (.pointer (some ⟨p, 0, none⟩)) :: (.pointer (some ⟨p, 0, none⟩)) :: (.pointer (some ⟨p, 18, none⟩)) :: ((.slice (some ⟨b, 0, none⟩) n n)) :: (.int .i64 (i0 : Int)) :: (.pointer (some ⟨p, 0, none⟩)) :: (.pointer (some ⟨p, 0, none⟩)) :: (.pointer (some ⟨p, 4, none⟩)) :: (.int .i64 x.cur.col) :: z10 :: z11 :: (.pointer (some ⟨p, 0, none⟩)) :: (.pointer (some ⟨p, 18, none⟩)) :: u37 :: u38 :: u39 :: u40 :: u41 :: u42 :: u43 :: u44 :: u45 :: u46 :: u47 :: u48 :: u49 :: u50 :: u51 :: u52 :: u53 :: u54 :: u55 :: []), df⟩ wz) :
  Code.wp Tryz.prog ((Tryz.f94.body.bind (regOf' 4)).getD .skip) Q ⟨List.toArray ((.pointer (some ⟨p, 0, none⟩)) :: u1 :: u2 :: u3 :: (.int .i64 (i0 : Int)) :: u5 :: u6 :: u7 :: u8 :: u9 :: u10 :: u11 :: u12 :: u13 :: u14 :: u15 :: u16 :: u17 :: u18 :: u19 :: u20 :: u21 :: u22 :: u23 :: u24 :: u25 :: u26 :: u27 :: u28 :: u29 :: u30 :: u31 :: u32 :: u33 :: u34 :: u35 :: u36 :: u37 :: u38 :: u39 :: u40 :: u41 :: u42 :: u43 :: u44 :: u45 :: u46 :: u47 :: u48 :: u49 :: u50 :: u51 :: u52 :: u53 :: u54 :: u55 :: []), df⟩ w := by
 conv => arg 2; whnf
 refine wp_region_walk 15 (by kernel_rfl) (by kernel_rfl) (fun D f wa => (TbJ w N b p x.cur.col (x.tabs.take i0 ++ x.cur.col :: x.tabs.drop i0) D f wa) ∧ ∀ i, D i = true → (fun kc => kc == 10 || kc == 11 || kc == 14) i = false → f i = (fun kc => match kc with
   | 0 => .pointer (some ⟨p, 0, none⟩)
   | 1 => .pointer (some ⟨p, 0, none⟩)
   | 2 => .pointer (some ⟨p, 0, none⟩)
   | 3 => .pointer (some ⟨p, 18, none⟩)
   | 4 => (.slice (some ⟨b, 0, none⟩) n n)
   | 5 => .int .i64 (i0 : Int)
   | 6 => .pointer (some ⟨p, 0, none⟩)
   | 7 => .pointer (some ⟨p, 0, none⟩)
   | 8 => .pointer (some ⟨p, 4, none⟩)
   | 9 => .int .i64 x.cur.col
   | 12 => .pointer (some ⟨p, 0, none⟩)
   | 13 => .pointer (some ⟨p, 18, none⟩)
   | _ => undef) i) ?_ ?_ ?_
 ·exact fun f => ⟨TbJ.begin _ _ _ _ _ _ _, fun i h => by cases h⟩
 ·refine ⟨?wa0, ?wa1, ?wa2, ?wa3, ?wa4, ?wa5, ?wa6, ?wa7, ?wa8, ?wa9, ?wa10, ?wa11, ?wa12, ?wa13, ?wa14, trivial⟩
  all_goals intro D f wq hJ hD hd KK hK
  all_goals have G := fun j h h2 => hJ.2 j (hd j h) h2
  all_goals simp (disch := decide +kernel) only [tkS, tkZ, setAll, siB, stS, stZ, Nat.zero_add, Nat.reduceAdd, G] at hK ⊢
  case wa4 =>
   have cx : wq.cell? ⟨p, 18, none⟩ = some ((.slice (some ⟨b, 0, none⟩) n n)) := (h.below (hJ.1.a (hJ.1.idle 4 (.inl rfl) hD))).box.cell 18
   refine wp_of_quiet rfl ?_
   go_big_quiet_step (fail)
   exact wpQuiet_nil (hK _ _ ⟨(hJ.1.other 4 _ (by decide) (by decide) (by decide)), vals_upd hJ.2 (.inr rfl)⟩)
  case wa9 =>
   have cx : wq.cell? ⟨p, 4, none⟩ = some (.int .i64 x.cur.col) := (h.below (hJ.1.a (hJ.1.idle 9 (.inr (.inl rfl)) hD))).box.cell 4
   refine wp_of_quiet rfl ?_
   go_big_quiet_step (fail)
   exact wpQuiet_nil (hK _ _ ⟨(hJ.1.other 9 _ (by decide) (by decide) (by decide)), vals_upd hJ.2 (.inr rfl)⟩)
  case wa10 =>
   have q11 := hJ.1.idle 10 (.inr (.inr (.inl rfl))) hD
   refine wp_val' (.slice (some ⟨wq.heap.size, 0, none⟩) 1 1) (wq.alloc (.cells #[.int .i64 x.cur.col] 3)) (by simp [go_sem]) ?_
   exact hK _ _ ⟨hJ.1.o10 hD (hd 9 (by kernel_rfl)) _ (bR.alloc (Nat.le_refl _) _) wq.heap.size (by simp) ((Row.new wq 3 #[.int .i64 x.cur.col]).cell 0), vals_upd hJ.2 (.inl rfl)⟩
  case wa11 =>
   have d10 : D 10 = true := hd 10 (by kernel_rfl)
   obtain ⟨q, e10, hq, hcq⟩ := hJ.1.k d10 hD
   have hbe := hJ.1.a hD
   simp only [e10] at hK ⊢
   refine wp_callR 142 #[(.slice (some ⟨b, 0, none⟩) n n), .int .i64 (i0 : Int), .slice (some ⟨q, 0, none⟩) 1 1] (by simp [go_sem]) (fun v w'' => OwnN N w'' v (x.tabs.take i0 ++ x.cur.col :: x.tabs.drop i0) ∧ Tc b wq w'') ?_ ?_
   ·refine (insert_any N b q n i0 x.tabs x.cur.col wq hn hn2 hi (h.below hbe).own.t (Nat.le_trans h.hp (Nat.le_trans (Nat.le_of_lt h.lt) hbe.size)) hcq hq).mono ?_
    rintro e w' ⟨v, rfl, k1, k2⟩
    exact ⟨v, rfl, k1, k2⟩
   ·rintro v w'' ⟨k1, k2⟩
    exact hK _ _ ⟨hJ.1.o11 hD (hd 4 (by kernel_rfl)) d10 v w'' k1 ((Tc.of hbe).trans k2), vals_upd hJ.2 (.inl rfl)⟩
  case wa14 =>
   have d11 : D 11 = true := hd 11 (by kernel_rfl)
   obtain ⟨z1, z2⟩ := hJ.1.z d11 hD
   have hbx := Bd.tabsBox h z2
   obtain ⟨v11, e11⟩ : ∃ v, f 11 = v := ⟨_, rfl⟩
   have hj14 := hJ.1.o14 hD d11
   rw [e11] at z1 hj14
   simp only [e11] at hK ⊢
   exact wp_store27 (.tmp 36) (.tmp 34) rfl p 18 v11 _ (own_sl z1) rfl rfl (hbx.cell 18) (hbx.frozen 18) (hK _ _ ⟨hj14 _, vals_upd hJ.2 (.inl rfl)⟩)
  all_goals (refine wp_of_quiet rfl ?_; go_big_quiet_step (fail); exact wpQuiet_nil (hK _ _ ⟨(hJ.1.other _ _ (by decide) (by decide) (by decide)), vals_upd hJ.2 (.inr rfl)⟩))
 ·intro D f wz hD hJ
  have hW := hJ.1
  have P := fun j h h2 => hJ.2 j (hD j h) h2
  have hz : ∃ v, Bd N wz p { x with tabs := x.tabs.take i0 ++ x.cur.col :: x.tabs.drop i0 } vg v vm vl ∧ Below N w wz := by
   obtain ⟨wb, y1, y2, rfl⟩ := hW.y (hD 14 (by decide))
   refine ⟨_, Bd.tabs h y2 _ _ y1, ?_⟩
   have hb := h.nb
   exact (y2.below hb.1 (Nat.le_trans hb.1 (Nat.le_of_lt hb.2))).setCell h.hp _
  clear hJ hD
  simp (disch := decide) only [tkS, tkZ, List.drop_succ_cons, List.drop_zero, setAll, siB, stS, stZ, Nat.zero_add, Nat.reduceAdd, P]
  clear P
  exact hQ _ _ wz (hz)
theorem tab_n {x : Sn} {n : Nat} (hN : mayN x = true) (hn : x.tabs.length = n) : n ≤ 100000 := by
 have m := may_Mm hN
 have := tab_len x.tabs (-1) x.g.co (Ma.of hN).tab (by have := m.c1; omega)
 have := m.c2
 omega
theorem tab_SE (N p : Nat) (x : Sn) (vg vm vl : Value) (b n : Nat) (hN : mayN x = true) (hn : x.tabs.length = n) : ∀ wx, Bd N wx p x vg (.slice (some ⟨b, 0, none⟩) n n) vm vl → Calls Tryz.prog 141 #[(.slice (some ⟨b, 0, none⟩) n n), .int .i64 x.cur.col] wx fun e w' => e = .returned (.tuple #[.int .i64 ((lwT x.cur.col x.tabs : Nat) : Int), .bool (decide (x.tabs[lwT x.cur.col x.tabs]? = some x.cur.col))]) ∧ ∃ q, w' = wx.drewN q := fun wx hb => by
 have hn1 := tab_n hN hn
 obtain ⟨a, cp, e, hcp, hc⟩ := hb.own.t.cells
 have e' := e
 simp only [Value.slice.injEq] at e'
 obtain ⟨ea, en, ecp⟩ := e'
 rw [e]
 exact search_any b x.tabs cp x.cur.col x.g.co (-1) (by omega) (Ma.of hN).tab wx a (fun k hk => by
  obtain ⟨b', e2, hb2, hc2⟩ := hc k hk
  rw [e2] at ea
  simp only [Option.some.injEq, Addr.mk.injEq] at ea
  rw [ea.1]
  exact ⟨e2, hc2⟩)
theorem bTab_0y (N : Nat) (w : World) (p : Nat) (x : Sn) (vg vm vl : Value) (b n : Nat) (h : Bd N w p x vg (.slice (some ⟨b, 0, none⟩) n n) vm vl) (hN : mayN x = true) (hn : x.tabs.length = n) (hs : x.tabs[lwT x.cur.col x.tabs]? = some x.cur.col) :
  Calls Tryz.prog 94 #[.pointer (some ⟨p, 0, none⟩), .int .i64 0] w fun e w' => (∃ v, e = .returned v) ∧ (∃ vt', Bd N w' p (x) vg vt' vm vl) ∧ Below N w w' := by
 have B0 := Box'.mk h
 have hn1 := tab_n hN hn
 have SE := Box'.mk (tab_SE N p x vg vm vl b n hN hn)
 have c4 : w.cell? ⟨p, 4, none⟩ = some (.int .i64 x.cur.col) := h.box.cell 4
 have c18 : w.cell? ⟨p, 18, none⟩ = some (.slice (some ⟨b, 0, none⟩) n n) := h.box.cell 18
 rw [show decide (x.tabs[lwT x.cur.col x.tabs]? = some x.cur.col) = true from decide_eq_true hs] at SE
 clear h hN hs
 go_enter Tryz.func94, Tryz.ntmps94
 go_wp2_with fail
 go_quiet ((go_at_call 141; exact Calls.quiet_of (SE.out _ (B0.out.drewN _))))
 clear c4 c18 SE
 replace B0 := Box'.mk (B0.out.drewN nq)
 have T0 : Box' (Below N w (w.drewN nq)) := ⟨Below.drewN bR nq⟩
 generalize w.drewN nq = w1 at *
 go_wp2_with fail
 exact bodyPost_end (results_none rfl _ _) rfl ⟨⟨_, rfl⟩, ⟨_, B0.out⟩, T0.out⟩
theorem bTab_1n (N : Nat) (w : World) (p : Nat) (x : Sn) (vg vm vl : Value) (b n : Nat) (h : Bd N w p x vg (.slice (some ⟨b, 0, none⟩) n n) vm vl) (hN : mayN x = true) (hn : x.tabs.length = n) (hs : ¬ x.tabs[lwT x.cur.col x.tabs]? = some x.cur.col) :
  Calls Tryz.prog 94 #[.pointer (some ⟨p, 0, none⟩), .int .i64 1] w fun e w' => (∃ v, e = .returned v) ∧ (∃ vt', Bd N w' p (x) vg vt' vm vl) ∧ Below N w w' := by
 have B0 := Box'.mk h
 have hn1 := tab_n hN hn
 have SE := Box'.mk (tab_SE N p x vg vm vl b n hN hn)
 have c4 : w.cell? ⟨p, 4, none⟩ = some (.int .i64 x.cur.col) := h.box.cell 4
 have c18 : w.cell? ⟨p, 18, none⟩ = some (.slice (some ⟨b, 0, none⟩) n n) := h.box.cell 18
 rw [show decide (x.tabs[lwT x.cur.col x.tabs]? = some x.cur.col) = false from decide_eq_false hs] at SE
 clear h hN hs
 go_enter Tryz.func94, Tryz.ntmps94
 go_wp2_with fail
 go_quiet ((go_at_call 141; exact Calls.quiet_of (SE.out _ (B0.out.drewN _))))
 clear c4 c18 SE
 replace B0 := Box'.mk (B0.out.drewN nq)
 have T0 : Box' (Below N w (w.drewN nq)) := ⟨Below.drewN bR nq⟩
 generalize w.drewN nq = w1 at *
 go_wp2_with fail
 exact bodyPost_end (results_none rfl _ _) rfl ⟨⟨_, rfl⟩, ⟨_, B0.out⟩, T0.out⟩
theorem bTab_no (N : Nat) (w : World) (p : Nat) (x : Sn) (vg vm vl : Value) (b n : Nat) (h : Bd N w p x vg (.slice (some ⟨b, 0, none⟩) n n) vm vl) (hN : mayN x = true) (hn : x.tabs.length = n) (kind : Int) (h0 : ¬ kind = 0) (h1 : ¬ kind = 1) (h2 : ¬ kind = 2) :
  Calls Tryz.prog 94 #[.pointer (some ⟨p, 0, none⟩), .int .i64 kind] w fun e w' => (∃ v, e = .returned v) ∧ (∃ vt', Bd N w' p (x) vg vt' vm vl) ∧ Below N w w' := by
 have B0 := Box'.mk h
 have hn1 := tab_n hN hn
 have SE := Box'.mk (tab_SE N p x vg vm vl b n hN hn)
 have c4 : w.cell? ⟨p, 4, none⟩ = some (.int .i64 x.cur.col) := h.box.cell 4
 have c18 : w.cell? ⟨p, 18, none⟩ = some (.slice (some ⟨b, 0, none⟩) n n) := h.box.cell 18
 generalize decide (x.tabs[lwT x.cur.col x.tabs]? = some x.cur.col) = bb at *
 clear h hN 
 go_enter Tryz.func94, Tryz.ntmps94
 go_wp2_with fail
 go_quiet ((go_at_call 141; exact Calls.quiet_of (SE.out _ (B0.out.drewN _))))
 clear c4 c18 SE
 replace B0 := Box'.mk (B0.out.drewN nq)
 have T0 : Box' (Below N w (w.drewN nq)) := ⟨Below.drewN bR nq⟩
 generalize w.drewN nq = w1 at *
 go_wp2_with fail
 exact bodyPost_end (results_none rfl _ _) rfl ⟨⟨_, rfl⟩, ⟨_, B0.out⟩, T0.out⟩
theorem bTab_0n (N : Nat) (w : World) (p : Nat) (x : Sn) (vg vm vl : Value) (b n : Nat) (h : Bd N w p x vg (.slice (some ⟨b, 0, none⟩) n n) vm vl) (hN : mayN x = true) (hn : x.tabs.length = n) (hs : ¬ x.tabs[lwT x.cur.col x.tabs]? = some x.cur.col) :
  Calls Tryz.prog 94 #[.pointer (some ⟨p, 0, none⟩), .int .i64 0] w fun e w' => (∃ v, e = .returned v) ∧ (∃ vt', Bd N w' p ({ x with tabs := x.tabs.take (lwT x.cur.col x.tabs) ++ x.cur.col :: x.tabs.drop (lwT x.cur.col x.tabs) }) vg vt' vm vl) ∧ Below N w w' := by
 have B0 := Box'.mk h
 have hn1 := tab_n hN hn
 have SE := Box'.mk (tab_SE N p x vg vm vl b n hN hn)
 have c4 : w.cell? ⟨p, 4, none⟩ = some (.int .i64 x.cur.col) := h.box.cell 4
 have c18 : w.cell? ⟨p, 18, none⟩ = some (.slice (some ⟨b, 0, none⟩) n n) := h.box.cell 18
 rw [show decide (x.tabs[lwT x.cur.col x.tabs]? = some x.cur.col) = false from decide_eq_false hs] at SE
 have R4 : Box' (∀ wx, Bd N wx p x vg (.slice (some ⟨b, 0, none⟩) n n) vm vl → _) := ⟨fun wx hb => tab_r4 N wx p x vg vm vl b n (lwT x.cur.col x.tabs) hb hn hn1 (by have := lwT_le x.cur.col x.tabs; omega)⟩
 clear h hN hs hn
 generalize lwT x.cur.col x.tabs = i0 at *
 go_enter Tryz.func94, Tryz.ntmps94
 go_wp2_with fail
 go_quiet ((go_at_call 141; exact Calls.quiet_of (SE.out _ (B0.out.drewN _))))
 clear c4 c18 SE
 replace B0 := Box'.mk (B0.out.drewN nq)
 have T0 : Box' (Below N w (w.drewN nq)) := ⟨Below.drewN bR nq⟩
 generalize w.drewN nq = w1 at *
 go_wp2_with fail
 refine R4.out _ B0.out _ _ _ _ _ _ _ _ _ _ _ _ _ _ _ _ _ _ _ _ _ _ _ _ _ _ _ _ _ _ _ _ _ _ _ _ _ _ _ _ _ _ _ _ _ _ _ _ _ _ _ _ _ _ [] _ ?_
 rintro z10 z11 wz ⟨v, b2, t2⟩
 have B2 := Box'.mk b2
 have T2 : Box' (Below N w wz) := ⟨T0.out.trans t2⟩
 clear b2 t2 B0 T0 R4
 go_wp2_with fail
 exact bodyPost_end (results_none rfl _ _) rfl ⟨⟨_, rfl⟩, ⟨_, B2.out⟩, T2.out⟩
theorem bTab_1y (N : Nat) (w : World) (p : Nat) (x : Sn) (vg vm vl : Value) (b n : Nat) (h : Bd N w p x vg (.slice (some ⟨b, 0, none⟩) n n) vm vl) (hN : mayN x = true) (hn : x.tabs.length = n) (hs : x.tabs[lwT x.cur.col x.tabs]? = some x.cur.col) :
  Calls Tryz.prog 94 #[.pointer (some ⟨p, 0, none⟩), .int .i64 1] w fun e w' => (∃ v, e = .returned v) ∧ (∃ vt', Bd N w' p ({ x with tabs := x.tabs.take (lwT x.cur.col x.tabs) ++ x.tabs.drop (lwT x.cur.col x.tabs + 1) }) vg vt' vm vl) ∧ Below N w w' := by
 have B0 := Box'.mk h
 have hn1 := tab_n hN hn
 have SE := Box'.mk (tab_SE N p x vg vm vl b n hN hn)
 have c4 : w.cell? ⟨p, 4, none⟩ = some (.int .i64 x.cur.col) := h.box.cell 4
 have c18 : w.cell? ⟨p, 18, none⟩ = some (.slice (some ⟨b, 0, none⟩) n n) := h.box.cell 18
 rw [show decide (x.tabs[lwT x.cur.col x.tabs]? = some x.cur.col) = true from decide_eq_true hs] at SE
 have hlt : lwT x.cur.col x.tabs < n := by have := (List.getElem?_eq_some_iff.1 hs).1; omega
 have DE : Box' (∀ wx, Bd N wx p x vg (.slice (some ⟨b, 0, none⟩) n n) vm vl → Calls Tryz.prog 143 #[(.slice (some ⟨b, 0, none⟩) n n), .int .i64 ((lwT x.cur.col x.tabs : Nat) : Int), .int .i64 (((lwT x.cur.col x.tabs : Nat) : Int) + 1)] wx fun e w' => ∃ v, e = .returned v ∧ OwnN N w' v (x.tabs.take (lwT x.cur.col x.tabs) ++ x.tabs.drop (lwT x.cur.col x.tabs + 1)) ∧ Tc b wx w') := ⟨fun wx hb => by
  have := delete_any N b n (lwT x.cur.col x.tabs) x.tabs wx hn hn1 hlt hb.own.t
  rw [show ((lwT x.cur.col x.tabs + 1 : Nat) : Int) = ((lwT x.cur.col x.tabs : Nat) : Int) + 1 by omega] at this
  exact this⟩
 clear h hN hs hn
 generalize hi0 : lwT x.cur.col x.tabs = i0 at *
 clear hi0
 go_enter Tryz.func94, Tryz.ntmps94
 go_wp2_with fail
 go_quiet ((go_at_call 141; exact Calls.quiet_of (SE.out _ (B0.out.drewN _))))
 clear c4 c18 SE
 replace B0 := Box'.mk (B0.out.drewN nq)
 have T0 : Box' (Below N w (w.drewN nq)) := ⟨Below.drewN bR nq⟩
 generalize w.drewN nq = w1 at *
 have c18 : w1.cell? ⟨p, 18, none⟩ = some (.slice (some ⟨b, 0, none⟩) n n) := B0.out.box.cell 18
 go_wp2_with fail
 refine (DE.out _ B0.out).mono ?_
 rintro e w2 ⟨v, rfl, o2, t2⟩
 obtain ⟨va, vn, vc, rfl⟩ := own_sl o2
 have BX := Box'.mk (Bd.tabsBox B0.out t2)
 have B2 := Box'.mk (Bd.tabs B0.out t2 _ _ o2)
 have T2 : Box' (Below N w (w2.setCell ⟨p, 18, none⟩ (.slice va vn vc))) := ⟨by
  have hb := B0.out.nb
  exact T0.out.trans ((t2.below hb.1 (Nat.le_trans hb.1 (Nat.le_of_lt hb.2))).setCell B0.out.hp _)⟩
 clear o2 t2 B0 T0 DE c18
 have c18 : w2.cell? ⟨p, 18, none⟩ = some (.slice (some ⟨b, 0, none⟩) n n) := BX.out.cell 18
 have f18 := BX.out.frozen 18
 clear BX
 go_wp2_with fail
 exact bodyPost_end (results_none rfl _ _) rfl ⟨⟨_, rfl⟩, ⟨_, B2.out⟩, T2.out⟩
theorem bTab_2 (N : Nat) (w : World) (p : Nat) (x : Sn) (vg vm vl : Value) (b n : Nat) (h : Bd N w p x vg (.slice (some ⟨b, 0, none⟩) n n) vm vl) (hN : mayN x = true) (hn : x.tabs.length = n)  :
  Calls Tryz.prog 94 #[.pointer (some ⟨p, 0, none⟩), .int .i64 2] w fun e w' => (∃ v, e = .returned v) ∧ (∃ vt', Bd N w' p ({ x with tabs := [] }) vg vt' vm vl) ∧ Below N w w' := by
 have B0 := Box'.mk h
 have hn1 := tab_n hN hn
 have SE := Box'.mk (tab_SE N p x vg vm vl b n hN hn)
 have c4 : w.cell? ⟨p, 4, none⟩ = some (.int .i64 x.cur.col) := h.box.cell 4
 have c18 : w.cell? ⟨p, 18, none⟩ = some (.slice (some ⟨b, 0, none⟩) n n) := h.box.cell 18
 clear h hN hn
 generalize decide (x.tabs[lwT x.cur.col x.tabs]? = some x.cur.col) = bb at *
 go_enter Tryz.func94, Tryz.ntmps94
 go_wp2_with fail
 go_quiet ((go_at_call 141; exact Calls.quiet_of (SE.out _ (B0.out.drewN _))))
 clear c4 c18 SE
 replace B0 := Box'.mk (B0.out.drewN nq)
 have T0 : Box' (Below N w (w.drewN nq)) := ⟨Below.drewN bR nq⟩
 generalize w.drewN nq = w1 at *
 have BX := Box'.mk (Bd.tabsBox B0.out (Tc.refl b w1))
 have B2 := Box'.mk (Bd.tabs B0.out (Tc.refl b w1) _ _ (OwnN.nil N w1))
 have T2 : Box' (Below N w (w1.setCell ⟨p, 18, none⟩ (.slice none 0 0))) := ⟨T0.out.setCell B0.out.hp _⟩
 clear B0 T0
 have c18 : w1.cell? ⟨p, 18, none⟩ = some (.slice (some ⟨b, 0, none⟩) n n) := BX.out.cell 18
 have f18 := BX.out.frozen 18
 clear BX
 go_wp2_with fail
 exact bodyPost_end (results_none rfl _ _) rfl ⟨⟨_, rfl⟩, ⟨_, B2.out⟩, T2.out⟩
theorem bTab_any (N : Nat) (w : World) (p : Nat) (x : Sn) (vg vm vl : Value) (b n : Nat) (h : Bd N w p x vg (.slice (some ⟨b, 0, none⟩) n n) vm vl) (hN : mayN x = true) (hn : x.tabs.length = n) (kind : Int) :
  Calls Tryz.prog 94 #[.pointer (some ⟨p, 0, none⟩), .int .i64 kind] w fun e w' => (∃ v, e = .returned v) ∧ (∃ vt', Bd N w' p (tgF x kind) vg vt' vm vl) ∧ Below N w w' := by
 unfold tgF
 by_cases h0 : kind = 0
 ·rw [if_pos h0]; subst h0
  by_cases hs : x.tabs[lwT x.cur.col x.tabs]? = some x.cur.col
  ·have e : { x with tabs := inT x.cur.col x.tabs } = x := by rw [inT_has _ _ hs]
   rw [e]
   exact bTab_0y N w p x vg vm vl b n h hN hn hs
  ·rw [inT_is _ _ hs]
   exact bTab_0n N w p x vg vm vl b n h hN hn hs
 rw [if_neg h0]
 by_cases h1 : kind = 1
 ·rw [if_pos h1]; subst h1
  by_cases hs : x.tabs[lwT x.cur.col x.tabs]? = some x.cur.col
  ·rw [ouT_is _ _ hs]
   exact bTab_1y N w p x vg vm vl b n h hN hn hs
  ·have e : { x with tabs := ouT x.cur.col x.tabs } = x := by rw [ouT_not _ _ hs]
   rw [e]
   exact bTab_1n N w p x vg vm vl b n h hN hn hs
 rw [if_neg h1]
 by_cases h2 : kind = 2
 ·rw [if_pos h2]; subst h2; exact bTab_2 N w p x vg vm vl b n h hN hn
 rw [if_neg h2]
 exact bTab_no N w p x vg vm vl b n h hN hn kind h0 h1 h2
theorem tab1_any (N : Nat) (w : World) (p : Nat) (x : Sn) (vg vt vm vl : Value) (h : Bd N w p x vg vt vm vl) (hN : mayN x = true) (hvt : ∃ b3, vt = .slice (some ⟨b3, 0, none⟩) x.tabs.length x.tabs.length) (c : Nat) (n : Int) (hr : Row w c 3 #[.int .i64 n]) :
  Calls Tryz.prog 93 #[.pointer (some ⟨p, 0, none⟩), .pointer (some ⟨c, 0, none⟩)] w fun e w' => (∃ v, e = .returned v) ∧ (∃ vt', Bd N w' p (tgF x n) vg vt' vm vl) ∧ Below N w w' := by
 obtain ⟨b3, rfl⟩ := hvt
 have c0 : w.cell? ⟨c, 0, none⟩ = some (.int .i64 n) := hr.cell 0
 have PL := Box'.mk (bTab_any N w p x vg vm vl b3 _ h hN rfl n)
 clear h hr hN
 go_enter Tryz.func93, Tryz.ntmps93
 go_wp2_with fail
 refine PL.out.mono ?_
 rintro e w2 ⟨⟨v, rfl⟩, h2, h3⟩
 have H2 := Box'.mk h2
 have H3 := Box'.mk h3
 clear h2 h3 c0
 go_wp2_with fail
 exact bodyPost_end (results_none rfl _ _) rfl ⟨⟨_, rfl⟩, H2.out, H3.out⟩
theorem do1_okD (x y : Sn) (vg vt vm vl : Value) (k : Nat) (d0 : Value) (w : World) (hl : Li w.heap.size w x vg vt vm vl) (hb : Bo x) (hN : mayN x = true) (hk : ∀ args w, (callFunc k args).run Tryz.prog w = .ok (.enter k args) w)
  (D : ∀ wx p vg vt vm vl, Below w.heap.size w wx → Bd (w.heap.size + 2) wx p x vg vt vm vl → w.heap.size + 2 ≤ p → (∃ b3, vt = .slice (some ⟨b3, 0, none⟩) x.tabs.length x.tabs.length) → Calls Tryz.prog k #[.pointer (some ⟨p, 0, none⟩), d0] wx fun e w' => (∃ v, e = .returned v) ∧ (∃ vg' vt' vm' vl', Bd (w.heap.size + 2) w' p y vg' vt' vm' vl') ∧ Below (w.heap.size + 2) wx w') :
  Calls Tryz.prog 67 #[.agg (snA x vg vt vm vl), .func (.func k) #[] #[d0]] w fun e w' => (∃ vg' vt' vm' vl', e = .returned (.tuple #[.agg (snA y vg' vt' vm' vl'), .int .i64 0]) ∧ OwnL w.heap.size w' y vg' vt' vm' vl') ∧ Below w.heap.size w w' := by
 refine (do1_okT (w.heap.size + 2) x y vg vt vm vl k d0 w hl hb hN hk D).mono ?_
 rintro e w' ⟨⟨vg', vt', vm', vl', h1, h2⟩, h3⟩
 exact ⟨⟨vg', vt', vm', vl', h1, h2.down (Nat.le_add_right _ 2)⟩, h3⟩
theorem Tab_no (x : Sn) (vg vt vm vl : Value) (n : Int) (w : World) (hl : Li w.heap.size w x vg vt vm vl) (hb : Bo x) (hN : mayN x = false) :
  Calls Tryz.prog 31 #[.agg (snA x vg vt vm vl), .int .i64 n] w fun e w' => e = .returned sErr ∧ Below w.heap.size w w' := by
 have DO : Box' (∀ wx, Below w.heap.size w wx → Calls Tryz.prog 67 #[.agg (snA x vg vt vm vl), .func (.func 93) #[] #[.pointer (some ⟨w.heap.size + 1, 0, none⟩)]] wx fun e w' => e = .returned sErr ∧ Below wx.heap.size wx w') := ⟨fun wx hbe => do1_no x vg vt vm vl 93 (.pointer (some ⟨w.heap.size + 1, 0, none⟩)) wx (hl.at hbe) hb hN⟩
 have F := Box'.mk (Wr1.begin w (snA x vg vt vm vl) 3 (.int .i64 n))
 have U32 := Box'.mk Tryz.underlying32
 have S32 := Box'.mk s32
 clear hl hb hN
 go_enter Tryz.func31, Tryz.ntmps31
 go_upto_region 1 with (fail)
 generalize (((w.alloc (.cells (snA x vg vt vm vl) 32)).alloc (.cells #[.int .i64 n] 3)).alloc (.cells z32 32)) = w1 at *
 have hz := F.out.sz
 go_wp2_with (first
  | (refine wpList_load_row rfl 32 (.tmp 2) rfl w.heap.size rfl 32 (snA x vg vt vm vl) F.out.r _ U32.out rfl 44 S32.out rfl ?_))
 refine (DO.out _ F.out.be).mono ?_
 rintro e w2 ⟨rfl, hb⟩
 have RR := Box'.mk (F.out.rr.below hb (by omega))
 have BE : Box' (Below w.heap.size w w2) := ⟨F.out.be.trans (hb.mono F.out.be.size)⟩
 have OO := Box'.mk (snA_one zN none none none none 0 0 0 0 0 0 0 0)
 clear hb F DO
 unfold sErr
 go_wp2_with (first
  | (refine wpList_store_row rfl 32 (.tmp 4) (.tmp 9) rfl (w.heap.size + 2) rfl (snA zN (.slice none 0 0) (.slice none 0 0) (.slice none 0 0) (.slice none 0 0)) rfl 32 44 RR.out S32.out rfl OO.out ?_))
 exact bodyPost_ret (results_sn rfl _ (w.heap.size + 2) rfl _ rfl _ _ (RR.out.setRow _) rfl) rfl ⟨rfl, below_setRow BE.out (by omega) _⟩
theorem Tab_ok (x : Sn) (vg vt vm vl : Value) (n : Int) (w : World) (hl : Li w.heap.size w x vg vt vm vl) (hb : Bo x) (hN : mayN x = true) :
  Calls Tryz.prog 31 #[.agg (snA x vg vt vm vl), .int .i64 n] w fun e w' => ScR w.heap.size w' e (tgF x n) ∧ Below w.heap.size w w' := by
 have DO : Box' (∀ wx, Below w.heap.size w wx → w.heap.size + 3 ≤ wx.heap.size → Row wx (w.heap.size + 1) 3 #[.int .i64 n] → Calls Tryz.prog 67 #[.agg (snA x vg vt vm vl), .func (.func 93) #[] #[.pointer (some ⟨w.heap.size + 1, 0, none⟩)]] wx fun e w' => (∃ vg' vt' vm' vl', e = .returned (.tuple #[.agg (snA (tgF x n) vg' vt' vm' vl'), .int .i64 0]) ∧ OwnL wx.heap.size w' (tgF x n) vg' vt' vm' vl') ∧ Below wx.heap.size wx w') := ⟨fun wx hbe hsz r0 => do1_okD x (tgF x n) vg vt vm vl 93 (.pointer (some ⟨w.heap.size + 1, 0, none⟩)) wx (hl.at hbe) hb hN (fun args w => by simp [go_sem]) (fun wy p vg vt vm vl hby bd hp ht => by
  have r0 := r0.below hby (by omega)
  refine (tab1_any (wx.heap.size + 2) wy p x vg vt vm vl bd hN ht (w.heap.size + 1) n r0).mono ?_
  rintro e w' ⟨h1, ⟨vt', h2⟩, h3⟩
  exact ⟨h1, ⟨_, _, _, _, h2⟩, h3⟩)⟩
 have F := Box'.mk (Wr1.begin w (snA x vg vt vm vl) 3 (.int .i64 n))
 have U32 := Box'.mk Tryz.underlying32
 have S32 := Box'.mk s32
 clear hl hb hN
 go_enter Tryz.func31, Tryz.ntmps31
 go_upto_region 1 with (fail)
 generalize (((w.alloc (.cells (snA x vg vt vm vl) 32)).alloc (.cells #[.int .i64 n] 3)).alloc (.cells z32 32)) = w1 at *
 have hz := F.out.sz
 go_wp2_with (first
  | (refine wpList_load_row rfl 32 (.tmp 2) rfl w.heap.size rfl 32 (snA x vg vt vm vl) F.out.r _ U32.out rfl 44 S32.out rfl ?_))
 refine (DO.out _ F.out.be (by omega) F.out.c0).mono ?_
 rintro e w2 ⟨⟨vg', vt', vm', vl', rfl, ow⟩, hb⟩
 have OW := Box'.mk (OwnL.down ow (show w.heap.size ≤ w1.heap.size by omega))
 have RR := Box'.mk (F.out.rr.below hb (by omega))
 have BE : Box' (Below w.heap.size w w2) := ⟨F.out.be.trans (hb.mono F.out.be.size)⟩
 have OO := Box'.mk (snA_oneV (tgF x n) vg' vt' vm' vl' (own_sl ow.g) (own_sl ow.t) (own_sl ow.m) (own_sl ow.l))
 clear hb ow F DO
 generalize hY : (tgF x n) = Y at *
 go_wp2_with (first
  | (refine wpList_store_row rfl 32 (.tmp 4) (.tmp 9) rfl (w.heap.size + 2) rfl (snA Y vg' vt' vm' vl') rfl 32 44 RR.out S32.out rfl OO.out ?_))
 exact bodyPost_ret (results_sn rfl _ (w.heap.size + 2) rfl _ rfl _ _ (RR.out.setRow _) rfl) rfl ⟨by rw [hY]; exact ⟨_, _, _, _, rfl, OW.out.setRow _ 32 _ RR.out (by decide) (by decide) (by decide)⟩, below_setRow BE.out (by omega) _⟩
end Go.Proofs.YtlekleeckcdcgaaGreat
