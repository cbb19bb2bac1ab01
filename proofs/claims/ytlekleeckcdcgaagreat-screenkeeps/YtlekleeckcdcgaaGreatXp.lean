/- Cells are laid into a board. What stands while a changed grid is made. Rows are rolled. Rows are rolled; Scroll. A row's cells are blanked. -/
import Derived.Test.YtlekleeckcdcgaaGreatXm
namespace Go.Proofs.YtlekleeckcdcgaaGreat
open Go.RowKit Go.BigFrame
set_option linter.unusedVariables false
set_option linter.unusedSimpArgs false
set_option maxRecDepth 100000
set_option maxHeartbeats 8000000
theorem ownsRow_tc {N e k : Nat} {w w' : World} {v : Value} {n : Nat} {xs : List Value} {b : Nat} (h : w.ownsRow N e k v n xs) (t : Tc b w w') (hne : ¬ v.ownBlock = some b) : w'.ownsRow N e k v n xs := by
 refine ⟨h.1, ?_⟩
 rcases h.2 with h2 | ⟨g, cap, cur, e1, e2, e3, e4⟩
 ·exact .inl h2
 ·have hg : g ≠ b := by
   intro ee
   subst ee
   exact hne (by rw [e1]; rfl)
  exact .inr ⟨g, cap, cur, e1, e2, by rw [t.block g (Array.getElem?_eq_some_iff.1 e3).1 hg]; exact e3, e4⟩
theorem ownsRow_other {N e k : Nat} {w : World} {v : Value} {n : Nat} {xs : List Value} {b t : Nat} {d : Array Value} (h : w.ownsRow N e k v n xs) (hr : Row w b t d) (hne : e ≠ t) : ¬ v.ownBlock = some b := by
 intro hv
 rcases h.2 with h2 | ⟨g, cap, cur, e1, e2, e3, e4⟩
 ·rw [h2.1] at hv; cases hv
 ·rw [e1] at hv
  have hg : g = b := by injection hv
  subst hg
  have hd' : w.heap[g]? = some (.cells d t (0, 0)) := hr
  rw [e3] at hd'
  simp at hd'
  exact hne hd'.2
/-- The board's cells are others now. -/
def clS (x : Sn) (c : List Cl) : Sn := { x with g := { x.g with c := c } }
theorem Bd.cells {N : Nat} {w w' : World} {p : Nat} {x : Sn} {b n c : Nat} {vt vm vl : Value} (h : Bd N w p x (.slice (some ⟨b, 0, none⟩) n c) vt vm vl) (t : Tc b w w') (l : List Cl) (sp : List Value) (h0 : RC w b x.g.c sp) (h1 : RC w' b l sp) (hl : l.length = x.g.c.length) : Bd N w' p (clS x l) (.slice (some ⟨b, 0, none⟩) n c) vt vm vl := by
 have hpb : p ≠ b := by
  intro ee
  subst ee
  have q1 : w.heap[p]? = _ := h.box
  have q2 : w.heap[p]? = _ := h0
  rw [q1] at q2
  simp at q2
 refine ⟨t.row h.box hpb, h.hp, ?_, ownsRow_tc h.own.m t (h.own.gm b rfl), h.own.gm, ownsRow_tc h.own.t t (ownsRow_other h.own.t h0 (by decide)), ownsRow_tc h.own.l t (ownsRow_other h.own.l h0 (by decide))⟩
 refine ⟨cLs_len l, ?_⟩
 rcases h.own.g.2 with h2 | ⟨g, cap, cur, e1, e2, e3, e4, e5, e6, e7⟩
 ·cases h2.1
 ·injection e1 with q1 q2 q3
  injection q1 with q1
  injection q1 with q1
  subst q1; subst q3
  have hcur : w.heap[b]? = some (.cells (cLs x.g.c ++ sp).toArray 56 (0, 0)) := h0
  rw [e3] at hcur
  simp at hcur
  refine .inr ⟨b, c, (cLs l ++ sp).toArray, by rw [q2]; show _ = Value.slice _ l.length _; rw [hl], e2, h1, by rw [show (clS x l).g.c.length = l.length from rfl, hl]; exact e4, e5, ?_, ?_⟩
  ·rw [← e6, hcur]
   simp [cLs_len, hl]
  ·show (cLs l ++ sp).toArray.toList.take (l.length * 15) = cLs l
   rw [List.toList_toArray, List.take_append_of_le_length (by rw [cLs_len]; omega), List.take_of_length_le (by rw [cLs_len]; omega)]
theorem sLay_any (w : World) (b lo k : Nat) (l m : List Cl) (sp : List Value) (hr : RC w b l sp) (g : Nat) (hm : RC w g m []) (hk : m.length = k) (hfit : lo + k ≤ l.length) (co ro co' ro' : Int) :
  Calls Tryz.prog 172 #[.agg (gA co ro (.slice (some ⟨b, lo * 15, none⟩) k k)), .agg (gA co' ro' (.slice (some ⟨g, 0, none⟩) k k))] w fun e w' => (∃ v, e = .returned v) ∧ RC w' b (lay l lo m) sp ∧ Tc b w w' := by
 have W1 : Box' (Below w.heap.size w ((w.alloc (.cells (gA co ro (.slice (some ⟨b, lo * 15, none⟩) k k)) 24)).alloc (.cells (gA co' ro' (.slice (some ⟨g, 0, none⟩) k k)) 24))) := ⟨((Below.refl w.heap.size w).alloc (Nat.le_refl _) _).alloc (by simp) _⟩
 have R1 := Box'.mk ((Row.new w 24 (gA co ro (.slice (some ⟨b, lo * 15, none⟩) k k))).alloc (.cells (gA co' ro' (.slice (some ⟨g, 0, none⟩) k k)) 24))
 have R2 : Box' (Row ((w.alloc (.cells (gA co ro (.slice (some ⟨b, lo * 15, none⟩) k k)) 24)).alloc (.cells (gA co' ro' (.slice (some ⟨g, 0, none⟩) k k)) 24)) (w.heap.size + 1) 24 (gA co' ro' (.slice (some ⟨g, 0, none⟩) k k))) := ⟨Row.made _ _ _ _ _ rfl (by simp)⟩
 have HR := Box'.mk hr
 have HM := Box'.mk hm
 have SR : Box' (∀ wx, RC wx g m [] → ∀ j v, (cLs m)[j]? = some v → wx.cell? ((⟨g, 0, none⟩ : Addr).add j) = some v) := ⟨fun wx h => by
  have q := h.src 0 m (fun k hk => by rw [Nat.zero_add]) (by omega)
  simpa using q⟩
 have HK : Box' (m.length = Nat.min k k) := ⟨by rw [hk]; exact (Nat.min_self k).symm⟩
 have HF : Box' (lo + m.length ≤ l.length) := ⟨by omega⟩
 clear hr hm hk hfit
 go_enter Tryz.func172, Tryz.ntmps172
 go_upto_region 1 with (fail)
 generalize ((w.alloc (.cells (gA co ro (.slice (some ⟨b, lo * 15, none⟩) k k)) 24)).alloc (.cells (gA co' ro' (.slice (some ⟨g, 0, none⟩) k k)) 24)) = w1 at *
 have c0 : w1.cell? ⟨w.heap.size, 2, none⟩ = some (.slice (some ⟨b, lo * 15, none⟩) k k) := R1.out.cell 2
 have c1 : w1.cell? ⟨w.heap.size + 1, 2, none⟩ = some (.slice (some ⟨g, 0, none⟩) k k) := R2.out.cell 2
 have A1 := Box'.mk (HR.out.below W1.out HR.out.lt)
 have A2 := Box'.mk (HM.out.below W1.out HM.out.lt)
 go_wp2_with (first
  | (refine wpList_copyG rfl (.tmp 5) (.tmp 7) rfl b (lo * 15) lo k k ⟨g, 0, none⟩ k k l m sp rfl rfl A1.out HK.out (.inr rfl) (SR.out _ A2.out) HF.out ?_))
 exact bodyPost_end (results_none rfl _ _) rfl ⟨⟨_, rfl⟩, by rw [show lay l lo m = List.take lo l ++ (m ++ List.drop (lo + m.length) l) from List.append_assoc _ _ _]; exact A1.out.setRow _ _, ((Tc.of W1.out).setRow _)⟩
theorem wp_callR {op : Oper} {a : Act} {w : World} {K : Act → World → Prop} {Q : Exit → Act → World → Prop} (f : FuncId) (args : Array Value) (hrun : (execOp a.eval op).run Tryz.prog w = .ok (.enter f args) w) (R : Value → World → Prop)
  (hc : Calls Tryz.prog f args w (fun e w'' => ∃ v, e = .returned v ∧ R v w'')) (h : ∀ v w'', R v w'' → K (a.put op.dst v) w'') : op.wp Tryz.prog a w K Q := by
 unfold Oper.wp
 rw [hrun]
 exact hc.mono fun e w'' hh => by obtain ⟨v, rfl, hR⟩ := hh; exact h v w'' hR
theorem gOk_inj {co ro : Int} {n g g' : Nat} (h : gOk co ro (.slice (some ⟨g, 0, none⟩) n n) = gOk co ro (.slice (some ⟨g', 0, none⟩) n n)) : g = g' := by
 simpa [gOk, gA] using h
/-- What stands while the operations from c0 on make a grid: a call, its two answers, a box, the grid in it. -/
structure ChJ (w : World) (c0 : Nat) (co ro : Int) (n : Nat) (l : List Cl) (D : Nat → Bool) (f : Nat → Value) (wa : World) : Prop where
 be : Below w.heap.size w wa
 k0 : D c0 = true → ∃ g, f c0 = gOk co ro (.slice (some ⟨g, 0, none⟩) n n) ∧ w.heap.size ≤ g ∧ RC wa g l []
 k1 : D (c0 + 1) = true → D c0 = true ∧ f (c0 + 1) = f c0
 k2 : D (c0 + 2) = true → D c0 = true ∧ ∃ g, f c0 = gOk co ro (.slice (some ⟨g, 0, none⟩) n n) ∧ f (c0 + 2) = .agg (gA co ro (.slice (some ⟨g, 0, none⟩) n n))
 k3 : D (c0 + 3) = true → f (c0 + 3) = .int .i64 0
 k4 : D (c0 + 4) = true → ∃ q, f (c0 + 4) = .pointer (some ⟨q, 0, none⟩) ∧ w.heap.size ≤ q ∧ Room wa q 24 3
 k5 : D (c0 + 5) = true → D c0 = true ∧ D (c0 + 4) = true ∧ ∃ q g, f (c0 + 4) = .pointer (some ⟨q, 0, none⟩) ∧ f c0 = gOk co ro (.slice (some ⟨g, 0, none⟩) n n) ∧ Row wa q 24 (gA co ro (.slice (some ⟨g, 0, none⟩) n n))
 k6 : D (c0 + 6) = true → f (c0 + 6) = .int .i64 0
theorem ChJ.begin (w : World) (c0 : Nat) (co ro : Int) (n : Nat) (l : List Cl) (f : Nat → Value) : ChJ w c0 co ro n l (fun _ => false) f w.drew :=
 ⟨bR.drew, nofun, nofun, nofun, nofun, nofun, nofun, nofun⟩
theorem ChJ.other {w : World} {c0 : Nat} {co ro : Int} {n : Nat} {l : List Cl} {D : Nat → Bool} {f : Nat → Value} {wa : World} (j : ChJ w c0 co ro n l D f wa) (k : Nat) (v : Value) (hk : k < c0) : ChJ w c0 co ro n l (updB D k) (upd f k v) wa := by
 have h0 : ¬ c0 = k := by omega
 have h1 : ¬ c0 + 1 = k := by omega
 have h2 : ¬ c0 + 2 = k := by omega
 have h3 : ¬ c0 + 3 = k := by omega
 have h4 : ¬ c0 + 4 = k := by omega
 have h5 : ¬ c0 + 5 = k := by omega
 have h6 : ¬ c0 + 6 = k := by omega
 obtain ⟨a0, a1, a2, a3, a4, a5, a6, a7⟩ := j
 refine ⟨a0, ?_, ?_, ?_, ?_, ?_, ?_, ?_⟩ <;> simp only [updB, upd, if_neg h0, if_neg h1, if_neg h2, if_neg h3, if_neg h4, if_neg h5, if_neg h6] <;> assumption
theorem ChJ.grow {w : World} {c0 : Nat} {co ro : Int} {n : Nat} {l : List Cl} {D : Nat → Bool} {f : Nat → Value} {wa : World} {wb : World} (j : ChJ w c0 co ro n l D f wa) (hb : Below wa.heap.size wa wb) : ChJ w c0 co ro n l D f wb := by
 refine ⟨j.be.trans (hb.mono j.be.size), fun h => ?_, j.k1, j.k2, j.k3, fun h => ?_, fun h => ?_, j.k6⟩
 ·obtain ⟨g, e, e1, e2⟩ := j.k0 h; exact ⟨g, e, e1, e2.below hb e2.lt⟩
 ·obtain ⟨q, e, e1, e2⟩ := j.k4 h; exact ⟨q, e, e1, e2.below hb e2.lt⟩
 ·obtain ⟨d0, d1, q, g, e, e1, e2⟩ := j.k5 h; exact ⟨d0, d1, q, g, e, e1, e2.below hb e2.lt⟩
theorem ChJ.o0 {w : World} {c0 : Nat} {co ro : Int} {n : Nat} {l : List Cl} {D : Nat → Bool} {f : Nat → Value} {wa : World} (j : ChJ w c0 co ro n l D f wa) (hn : D c0 = false) (g : Nat) (hg : w.heap.size ≤ g) (hr : RC wa g l []) : ChJ w c0 co ro n l (updB D c0) (upd f c0 (gOk co ro (.slice (some ⟨g, 0, none⟩) n n))) wa := by
 obtain ⟨a0, a1, a2, a3, a4, a5, a6, a7⟩ := j
 refine ⟨a0, fun _ => ⟨g, by simp [updB, upd], hg, hr⟩, ?_, ?_, ?_, ?_, ?_, ?_⟩
 ·intro h; have h : D (c0 + 1) = true := by simpa [updB] using h
  exact absurd (a2 h).1 (by rw [hn]; decide)
 ·intro h; have h : D (c0 + 2) = true := by simpa [updB] using h
  exact absurd (a3 h).1 (by rw [hn]; decide)
 ·simpa [updB, upd] using a4
 ·simpa [updB, upd] using a5
 ·intro h; have h : D (c0 + 5) = true := by simpa [updB] using h
  exact absurd (a6 h).1 (by rw [hn]; decide)
 ·simpa [updB, upd] using a7
theorem ChJ.o1 {w : World} {c0 : Nat} {co ro : Int} {n : Nat} {l : List Cl} {D : Nat → Bool} {f : Nat → Value} {wa : World} (j : ChJ w c0 co ro n l D f wa) (hn : D (c0 + 1) = false) (d0 : D c0 = true) : ChJ w c0 co ro n l (updB D (c0 + 1)) (upd f (c0 + 1) (f c0)) wa := by
 obtain ⟨a0, a1, a2, a3, a4, a5, a6, a7⟩ := j
 refine ⟨a0, by simpa [updB, upd] using a1, fun _ => ⟨by simpa [updB] using d0, by simp [updB, upd]⟩, by simpa [updB, upd] using a3, by simpa [updB, upd] using a4, by simpa [updB, upd] using a5, by simpa [updB, upd] using a6, by simpa [updB, upd] using a7⟩
theorem ChJ.o2 {w : World} {c0 : Nat} {co ro : Int} {n : Nat} {l : List Cl} {D : Nat → Bool} {f : Nat → Value} {wa : World} (j : ChJ w c0 co ro n l D f wa) (hn : D (c0 + 2) = false) (d0 : D c0 = true) (g : Nat) (e : f c0 = gOk co ro (.slice (some ⟨g, 0, none⟩) n n)) : ChJ w c0 co ro n l (updB D (c0 + 2)) (upd f (c0 + 2) (.agg (gA co ro (.slice (some ⟨g, 0, none⟩) n n)))) wa := by
 obtain ⟨a0, a1, a2, a3, a4, a5, a6, a7⟩ := j
 refine ⟨a0, by simpa [updB, upd] using a1, by simpa [updB, upd] using a2, fun _ => ⟨by simpa [updB] using d0, g, by simpa [upd] using e, by simp [updB, upd]⟩, by simpa [updB, upd] using a4, by simpa [updB, upd] using a5, by simpa [updB, upd] using a6, by simpa [updB, upd] using a7⟩
theorem ChJ.o3 {w : World} {c0 : Nat} {co ro : Int} {n : Nat} {l : List Cl} {D : Nat → Bool} {f : Nat → Value} {wa : World} (j : ChJ w c0 co ro n l D f wa) (hn : D (c0 + 3) = false)  : ChJ w c0 co ro n l (updB D (c0 + 3)) (upd f (c0 + 3) (.int .i64 0)) wa := by
 obtain ⟨a0, a1, a2, a3, a4, a5, a6, a7⟩ := j
 refine ⟨a0, by simpa [updB, upd] using a1, by simpa [updB, upd] using a2, by simpa [updB, upd] using a3, fun _ => by simp [updB, upd], by simpa [updB, upd] using a5, by simpa [updB, upd] using a6, by simpa [updB, upd] using a7⟩
theorem ChJ.o4 {w : World} {c0 : Nat} {co ro : Int} {n : Nat} {l : List Cl} {D : Nat → Bool} {f : Nat → Value} {wa : World} (j : ChJ w c0 co ro n l D f wa) (hn : D (c0 + 4) = false) (q : Nat) (hq : w.heap.size ≤ q) (hr : Room wa q 24 3) : ChJ w c0 co ro n l (updB D (c0 + 4)) (upd f (c0 + 4) (.pointer (some ⟨q, 0, none⟩))) wa := by
 obtain ⟨a0, a1, a2, a3, a4, a5, a6, a7⟩ := j
 refine ⟨a0, by simpa [updB, upd] using a1, by simpa [updB, upd] using a2, by simpa [updB, upd] using a3, by simpa [updB, upd] using a4, fun _ => ⟨q, by simp [updB, upd], hq, hr⟩, ?_, by simpa [updB, upd] using a7⟩
 intro h; have h : D (c0 + 5) = true := by simpa [updB] using h
 exact absurd (a6 h).2.1 (by rw [hn]; decide)
theorem ChJ.o5 {w : World} {c0 : Nat} {co ro : Int} {n : Nat} {l : List Cl} {D : Nat → Bool} {f : Nat → Value} {wa : World} (j : ChJ w c0 co ro n l D f wa) (hn : D (c0 + 5) = false) (d0 : D c0 = true) (d4 : D (c0 + 4) = true) (g q : Nat) (e0 : f c0 = gOk co ro (.slice (some ⟨g, 0, none⟩) n n)) (e4 : f (c0 + 4) = .pointer (some ⟨q, 0, none⟩)) (v : Value) : ChJ w c0 co ro n l (updB D (c0 + 5)) (upd f (c0 + 5) (v)) (wa.setRow q (gA co ro (.slice (some ⟨g, 0, none⟩) n n))) := by
 obtain ⟨a0, a1, a2, a3, a4, a5, a6, a7⟩ := j
 obtain ⟨q', x1, x2, x3⟩ := a5 d4
 obtain rfl : q = q' := by rw [e4] at x1; simpa using x1
 obtain ⟨g', y1, y2, y3⟩ := a1 d0
 obtain rfl : g = g' := gOk_inj (e0.symm.trans y1)
 have hgq : g ≠ q := by
  intro ee
  subst ee
  obtain ⟨d, hd, _⟩ := x3
  have q1 : wa.heap[g]? = _ := hd
  have q2 : wa.heap[g]? = _ := y3
  rw [q1] at q2
  simp at q2
 refine ⟨below_setRow a0 x2 _, fun _ => ⟨g, by simpa [upd] using e0, y2, Row.setRowOther y3 _ _ hgq⟩, by simpa [updB, upd] using a2, by simpa [updB, upd] using a3, by simpa [updB, upd] using a4, fun _ => ⟨q, by simpa [upd] using e4, x2, (x3.setRow _).room rfl⟩, fun _ => ⟨by simpa [updB] using d0, by simpa [updB] using d4, q, g, by simpa [upd] using e4, by simpa [upd] using e0, x3.setRow _⟩, by simpa [updB, upd] using a7⟩
theorem ChJ.o6 {w : World} {c0 : Nat} {co ro : Int} {n : Nat} {l : List Cl} {D : Nat → Bool} {f : Nat → Value} {wa : World} (j : ChJ w c0 co ro n l D f wa) (hn : D (c0 + 6) = false)  : ChJ w c0 co ro n l (updB D (c0 + 6)) (upd f (c0 + 6) (.int .i64 0)) wa := by
 obtain ⟨a0, a1, a2, a3, a4, a5, a6, a7⟩ := j
 refine ⟨a0, by simpa [updB, upd] using a1, by simpa [updB, upd] using a2, by simpa [updB, upd] using a3, by simpa [updB, upd] using a4, by simpa [updB, upd] using a5, by simpa [updB, upd] using a6, fun _ => by simp [updB, upd]⟩
theorem ChJ.fin {w : World} {c0 : Nat} {co ro : Int} {n : Nat} {l : List Cl} {D : Nat → Bool} {f : Nat → Value} {wa : World} (j : ChJ w c0 co ro n l D f wa) (m : Nat) (hm : c0 + 7 ≤ m) (hD : ∀ k, k < m → D k = true) : ∃ g q, f c0 = gOk co ro (.slice (some ⟨g, 0, none⟩) n n) ∧ f (c0 + 1) = gOk co ro (.slice (some ⟨g, 0, none⟩) n n) ∧ f (c0 + 2) = .agg (gA co ro (.slice (some ⟨g, 0, none⟩) n n)) ∧ f (c0 + 3) = .int .i64 0 ∧ f (c0 + 4) = .pointer (some ⟨q, 0, none⟩) ∧ f (c0 + 6) = .int .i64 0 ∧ w.heap.size ≤ g ∧ w.heap.size ≤ q ∧ RC wa g l [] ∧ Row wa q 24 (gA co ro (.slice (some ⟨g, 0, none⟩) n n)) := by
 obtain ⟨g, y1, y2, y3⟩ := j.k0 (hD _ (by omega))
 obtain ⟨_, z1⟩ := j.k1 (hD _ (by omega))
 obtain ⟨_, g2, z2, z3⟩ := j.k2 (hD _ (by omega))
 obtain rfl : g = g2 := gOk_inj (y1.symm.trans z2)
 obtain ⟨q, x1, x2, x3⟩ := j.k4 (hD _ (by omega))
 obtain ⟨_, _, q5, g5, u1, u2, u3⟩ := j.k5 (hD _ (by omega))
 obtain rfl : g = g5 := gOk_inj (y1.symm.trans u2)
 obtain rfl : q = q5 := by rw [x1] at u1; simpa using u1
 exact ⟨g, q, y1, z1.trans y1, z3, j.k3 (hD _ (by omega)), x1, j.k6 (hD _ (by omega)), y2, x2, y3, u3⟩
theorem wp_mid {op : Oper} {a : Act} {w : World} {K : Act → World → Prop} {Q : Exit → Act → World → Prop} (ty : TypeId) (x : Operand) (ho : op.op = .load ty x) (b o : Nat) (c : Array Value) (d : TypeDesc) (hu : Tryz.prog.underlying ty = some d) (hd : d.isRow = true) (hi : (Tryz.prog.info? ty).map (·.size) = some c.toList.length) (hx : a.eval x = .pointer (some ⟨b, o, none⟩)) (hc : w.rangeAt b o c.toList) (hk : K (a.put op.dst (.agg c)) w) : op.wp Tryz.prog a w K Q :=
 wp_val _ (by
  unfold execOp
  simp only [ho, hx, Instr.loadAt, Instr.sureAddr, Sem.run_bind, Sem.run_pure, Result.andThen_ok, run_loadVar_mid w b o ty c.toList d hc hu hd hi]) hk
theorem below_tc {N b : Nat} {w w1 w2 : World} (h : Below w.heap.size w w1) (k : Tc b w1 w2) (hb : N ≤ b) (hN : N ≤ w.heap.size) : Below N w w2 :=
 (h.mono hN).trans (k.below hb (Nat.le_trans hN h.size))
theorem bRoll_walk (N : Nat) (w : World) (p : Nat) (x : Sn) (b cap : Nat) (vt vm vl : Value) (hb : Bd N w p x (.slice (some ⟨b, 0, none⟩) x.g.c.length cap) vt vm vl) (sp : List Value) (hrc : RC w b x.g.c sp) (hNb : N ≤ b) (cols top h lo n : Nat) (by0 : Int) (l : List Cl) (hlen : l.length = n) (hfit : lo + n ≤ x.g.c.length)
  (RW : Calls Tryz.prog 166 #[.pointer (some ⟨p, 0, none⟩), .int .i64 (top : Int), .int .i64 ((top + h : Nat) : Int)] w fun e w' => e = .returned (.agg (gA (cols : Int) ((h + 1 : Nat) : Int) (.slice (some ⟨b, lo * 15, none⟩) n n))) ∧ Below w.heap.size w w')
  (HC0 : ∀ wa, RC wa b x.g.c sp → Calls Tryz.prog 173 #[.agg (gA (cols : Int) ((h + 1 : Nat) : Int) (.slice (some ⟨b, lo * 15, none⟩) n n)), .int .i64 0, .int .i64 (h : Int), .int .i64 by0, .agg (sA x.cur.st)] wa fun e w' => ∃ v, e = .returned v ∧ ∃ g, v = gOk (cols : Int) ((h + 1 : Nat) : Int) (.slice (some ⟨g, 0, none⟩) n n) ∧ wa.heap.size ≤ g ∧ RC w' g l [] ∧ Below wa.heap.size wa w')
  (htop : top ≤ 600) (hh : h ≤ 600) :
  Calls Tryz.prog 136 #[.pointer (some ⟨p, 0, none⟩), .int .i64 (top : Int), .int .i64 ((top + h : Nat) : Int), .int .i64 by0] w fun e w' => (∃ v, e = .returned v) ∧ Bd N w' p (clS x (lay x.g.c lo l)) (.slice (some ⟨b, 0, none⟩) x.g.c.length cap) vt vm vl ∧ Below N w w' := by
 have EH : Box' (((top + h : Nat) : Int) - (top : Int) = (h : Int)) := ⟨by omega⟩
 have HL := Box'.mk hlen
 have HF := Box'.mk hfit
 have NB := Box'.mk hNb
 have NW : Box' (N ≤ w.heap.size) := ⟨Nat.le_trans hb.hp (Nat.le_of_lt hb.lt)⟩
 have S24 := Box'.mk s24g
 have I26 : Box' ((Tryz.prog.info? 26).map (·.size) = some (sA x.cur.st).toList.length) := ⟨by kernel_rfl⟩
 have Z24 : Box' ((Tryz.prog.info? 24).map (fun i => (i.zero, i.size)) = some (some (.agg #[.int .i64 0, .int .i64 0, .slice none 0 0]), 3)) := ⟨by kernel_rfl⟩
 have O := Box'.mk (gA_one (cols : Int) ((h + 1 : Nat) : Int) (some ⟨b, lo * 15, none⟩) n n)
 have BB := Box'.mk hb
 have HB := Box'.mk hrc
 have RWB := Box'.mk RW
 have HCB := Box'.mk HC0
 clear hb hrc RW HC0 hlen hfit hNb
 go_enter Tryz.func136, Tryz.ntmps136
 go_wp2_with fail
 refine RWB.out.mono ?_
 rintro e w2 ⟨rfl, hbe⟩
 have RM := Box'.mk ((Row.new w2 24 #[.int .i64 0, .int .i64 0, .slice none 0 0]).room (n := 3) rfl)
 have BE : Box' (Below w.heap.size w ((w2.alloc (.cells #[.int .i64 0, .int .i64 0, .slice none 0 0] 24)).setRow w2.heap.size (gA (cols : Int) ((h + 1 : Nat) : Int) (.slice (some ⟨b, lo * 15, none⟩) n n)))) := ⟨below_setRow (hbe.alloc hbe.size _) hbe.size _⟩
 have R8 : Box' (Row ((w2.alloc (.cells #[.int .i64 0, .int .i64 0, .slice none 0 0] 24)).setRow w2.heap.size (gA (cols : Int) ((h + 1 : Nat) : Int) (.slice (some ⟨b, lo * 15, none⟩) n n))) w2.heap.size 24 (gA (cols : Int) ((h + 1 : Nat) : Int) (.slice (some ⟨b, lo * 15, none⟩) n n))) := ⟨RM.out.setRow _⟩
 have B3 := Box'.mk (BB.out.below BE.out)
 have HB3 := Box'.mk (HB.out.below BE.out HB.out.lt)
 have BSZ := Box'.mk BE.out.size
 clear hbe BB HB RWB
 go_upto_region 1 with (first
  | (refine wpList_store_row rfl 24 (.tmp 8) (.tmp 14) rfl w2.heap.size rfl (gA (cols : Int) ((h + 1 : Nat) : Int) (.slice (some ⟨b, lo * 15, none⟩) n n)) rfl 24 3 RM.out S24.out rfl O.out ?_))
 clear RM
 generalize ((w2.alloc (.cells #[.int .i64 0, .int .i64 0, .slice none 0 0] 24)).setRow w2.heap.size (gA (cols : Int) ((h + 1 : Nat) : Int) (.slice (some ⟨b, lo * 15, none⟩) n n))) = w3 at *
 generalize w2.heap.size = q8 at *
 have HC : Box' (∀ wa, Below w3.heap.size w3 wa → Calls Tryz.prog 173 #[.agg (gA (cols : Int) ((h + 1 : Nat) : Int) (.slice (some ⟨b, lo * 15, none⟩) n n)), .int .i64 0, .int .i64 (h : Int), .int .i64 by0, .agg (sA x.cur.st)] wa fun e w' => ∃ v, e = .returned v ∧ ∃ g, v = gOk (cols : Int) ((h + 1 : Nat) : Int) (.slice (some ⟨g, 0, none⟩) n n) ∧ wa.heap.size ≤ g ∧ RC w' g l [] ∧ Below wa.heap.size wa w') := ⟨fun wa hw => HCB.out wa (HB3.out.below hw HB3.out.lt)⟩
 refine wp_region_walk 16 (by kernel_rfl) (by kernel_rfl) (fun D f wa => (ChJ w3 9 (cols : Int) ((h + 1 : Nat) : Int) n l D f wa) ∧ ∀ i, D i = true → (fun kc => kc == 9 || kc == 10 || kc == 11 || kc == 12 || kc == 13 || kc == 14 || kc == 15) i = false → f i = (fun kc => match kc with
   | 0 => .agg (gA (cols : Int) ((h + 1 : Nat) : Int) (.slice (some ⟨b, lo * 15, none⟩) n n))
   | 1 => .int .i64 ((top + h : Nat) : Int)
   | 2 => .int .i64 (top : Int)
   | 3 => .int .i64 (h : Int)
   | 4 => .int .i64 by0
   | 5 => .pointer (some ⟨p, 0, none⟩)
   | 6 => .pointer (some ⟨p, 0, none⟩)
   | 7 => .pointer (some ⟨p, 6, none⟩)
   | 8 => .agg (sA x.cur.st)
   | _ => undef) i) ?_ ?_ ?_
 ·exact fun f => ⟨ChJ.begin _ _ _ _ _ _ _, fun i h => by cases h⟩
 ·refine ⟨?a0, ?a1, ?a2, ?a3, ?a4, ?a5, ?a6, ?a7, ?a8, ?a9, ?a10, ?a11, ?a12, ?a13, ?a14, ?a15, trivial⟩
  all_goals intro D f wq hJ hD hd KK hK
  all_goals have G := fun j h h2 => hJ.2 j (hd j h) h2
  all_goals simp (disch := decide +kernel) only [tkS, tkZ, setAll, siB, stS, stZ, Nat.zero_add, Nat.reduceAdd, G] at hK ⊢
  case a0 =>
   exact wp_load_row 24 (.tmp 8) rfl q8 rfl 24 _ (R8.out.below hJ.1.be R8.out.lt) _ Tryz.underlying24 rfl 3 s24g rfl (hK _ _ ⟨(hJ.1.other 0 _ (by decide)), vals_upd hJ.2 (.inr rfl)⟩)
  case a3 =>
   refine wp_of_quiet rfl ?_
   go_big_quiet_step (fail)
   exact wpQuiet_nil (hK _ _ ⟨hJ.1.other 3 _ (by decide), vals_upd hJ.2 (.inr (congrArg (Value.int .i64) EH.out))⟩)
  case a8 =>
   exact wp_mid 26 (.tmp 23) rfl p 6 (sA x.cur.st) _ Tryz.underlying26 rfl I26.out rfl (sn_style (B3.out.below hJ.1.be).box) (hK _ _ ⟨(hJ.1.other 8 _ (by decide)), vals_upd hJ.2 (.inr rfl)⟩)
  case a9 =>
   refine wp_callR 173 #[.agg (gA (cols : Int) ((h + 1 : Nat) : Int) (.slice (some ⟨b, lo * 15, none⟩) n n)), .int .i64 0, .int .i64 (h : Int), .int .i64 by0, .agg (sA x.cur.st)] (by simp [go_sem]) _ (HC.out wq hJ.1.be) ?_
   rintro v w'' ⟨g, rfl, hg, hrc, hb⟩
   exact hK _ _ ⟨(hJ.1.grow hb).o0 hD g (Nat.le_trans hJ.1.be.size hg) hrc, vals_upd hJ.2 (.inl rfl)⟩
  case a10 =>
   exact wp_val (f 9) (by simp [go_sem]) (hK _ _ ⟨hJ.1.o1 hD (hd 9 (by kernel_rfl)), vals_upd hJ.2 (.inl rfl)⟩)
  case a11 =>
   obtain ⟨d0, e1⟩ := hJ.1.k1 (hd 10 (by kernel_rfl))
   obtain ⟨g, e0, hg, hrc⟩ := hJ.1.k0 d0
   have e1 : f 10 = gOk (cols : Int) ((h + 1 : Nat) : Int) (.slice (some ⟨g, 0, none⟩) n n) := e1.trans e0
   simp only [e1] at hK ⊢
   exact wp_val (.agg (gA (cols : Int) ((h + 1 : Nat) : Int) (.slice (some ⟨g, 0, none⟩) n n))) (by simp [go_sem, gOk]) (hK _ _ ⟨hJ.1.o2 hD d0 g e0, vals_upd hJ.2 (.inl rfl)⟩)
  case a12 =>
   obtain ⟨d0, e1⟩ := hJ.1.k1 (hd 10 (by kernel_rfl))
   obtain ⟨g, e0, hg, hrc⟩ := hJ.1.k0 d0
   have e1 : f 10 = gOk (cols : Int) ((h + 1 : Nat) : Int) (.slice (some ⟨g, 0, none⟩) n n) := e1.trans e0
   simp only [e1] at hK ⊢
   exact wp_val (.int .i64 0) (by simp [go_sem, gOk]) (hK _ _ ⟨hJ.1.o3 hD, vals_upd hJ.2 (.inl rfl)⟩)
  case a13 =>
   exact wp_alloc_row 24 rfl #[.int .i64 0, .int .i64 0, .slice none 0 0] 3 Z24.out (hK _ _ ⟨(hJ.1.grow (bR.alloc (Nat.le_refl _) _)).o4 hD wq.heap.size hJ.1.be.size ((Row.new wq 24 _).room rfl), vals_upd hJ.2 (.inl rfl)⟩)
  case a14 =>
   obtain ⟨d0, g, e0, e2⟩ := hJ.1.k2 (hd 11 (by kernel_rfl))
   obtain ⟨q, e4, hq, hrm⟩ := hJ.1.k4 (hd 13 (by kernel_rfl))
   have e2 : f 11 = .agg (gA (cols : Int) ((h + 1 : Nat) : Int) (.slice (some ⟨g, 0, none⟩) n n)) := e2
   have e4 : f 13 = .pointer (some ⟨q, 0, none⟩) := e4
   have e4' := Box'.mk e4
   simp only [e2, e4] at hK ⊢
   exact wp_store_row 24 (.tmp 9) (.tmp 26) rfl q rfl (gA (cols : Int) ((h + 1 : Nat) : Int) (.slice (some ⟨g, 0, none⟩) n n)) rfl 24 3 hrm S24.out rfl (gA_one _ _ _ _ _) (hK _ _ ⟨hJ.1.o5 hD d0 (hd 13 (by kernel_rfl)) g q e0 e4'.out _, vals_upd hJ.2 (.inl rfl)⟩)
  case a15 =>
   have e3 : f 12 = .int .i64 0 := hJ.1.k3 (hd 12 (by kernel_rfl))
   simp only [e3] at hK ⊢
   exact wp_val (.int .i64 0) (by simp [go_sem]) (hK _ _ ⟨hJ.1.o6 hD, vals_upd hJ.2 (.inl rfl)⟩)
  all_goals (refine wp_of_quiet rfl ?_; go_big_quiet_step (fail); exact wpQuiet_nil (hK _ _ ⟨(hJ.1.other _ _ (by decide)), vals_upd hJ.2 (.inr rfl)⟩))
 ·intro D f wz hD hJ
  have hW := hJ.1
  have P := fun j h h2 => hJ.2 j (hD j h) h2
  obtain ⟨g, q, e0, e1, e2, e3, e4, e6, hg, hq, hrc, hrow⟩ := hW.fin 16 (by decide) hD
  have e0 : f 9 = _ := e0
  have e1 : f 10 = _ := e1
  have e2 : f 11 = _ := e2
  have e3 : f 12 = _ := e3
  have e4 : f 13 = _ := e4
  have e6 : f 15 = _ := e6
  have HBE := Box'.mk hW.be
  have HRC := Box'.mk hrc
  have HRW := Box'.mk hrow
  clear hW hrc hrow
  clear hJ hD
  simp (disch := decide) only [tkS, tkZ, List.drop_succ_cons, List.drop_zero, setAll, siB, stS, stZ, Nat.zero_add, Nat.reduceAdd, P, e0, e1, e2, e3, e4, e6]
  clear P e0 e1 e2 e3 e4 e6
  have A1 := Box'.mk (HB3.out.below HBE.out HB3.out.lt)
  have R9 := Box'.mk (R8.out.below HBE.out R8.out.lt)
  have LY := Box'.mk (sLay_any wz b lo n x.g.c l sp A1.out g HRC.out HL.out HF.out (cols : Int) ((h + 1 : Nat) : Int) (cols : Int) ((h + 1 : Nat) : Int))
  go_wp2_with (first
   | (refine wpList_load_row rfl 24 (.tmp 8) rfl q8 rfl 24 _ R9.out _ Tryz.underlying24 rfl 3 s24g rfl ?_)
   | (refine wpList_load_row rfl 24 (.tmp 9) rfl q rfl 24 _ HRW.out _ Tryz.underlying24 rfl 3 s24g rfl ?_))
  refine LY.out.mono ?_
  rintro e w5 ⟨⟨v, rfl⟩, k2, k3⟩
  have K2 := Box'.mk (Bd.cells (B3.out.below HBE.out) k3 _ _ A1.out k2 (lay_len _ _ _ (by rw [HL.out]; exact HF.out)))
  have K3 : Box' (Below N w w5) := ⟨below_tc (BE.out.trans (HBE.out.mono BSZ.out)) k3 NB.out NW.out⟩
  clear k2 k3 LY
  go_wp2_with fail
  exact bodyPost_end (results_none rfl _ _) rfl ⟨⟨_, rfl⟩, K2.out, K3.out⟩
/-- The cells of h + 1 rows from top on. -/
def subR (c : List Cl) (cols top h : Nat) : List Cl := (c.drop (top * cols)).take ((h + 1) * cols)
theorem sub_fit {cols rows top h : Nat} (h1 : top + h < rows) : top * cols + (h + 1) * cols ≤ cols * rows := by
 rw [← Nat.add_mul, Nat.mul_comm]
 exact Nat.mul_le_mul_left _ (by omega)
theorem subR_len (c : List Cl) (cols rows top h : Nat) (hl : c.length = cols * rows) (h1 : top + h < rows) : (subR c cols top h).length = (h + 1) * cols := by
 have := sub_fit (cols := cols) h1
 unfold subR
 rw [List.length_take, List.length_drop, hl]
 omega
theorem subR_row (c : List Cl) (cols top h n : Nat) (hn : n < h + 1) : rowF (subR c cols top h) cols n = rowF c cols (top + n) := by
 have h2 : (n + 1) * cols ≤ (h + 1) * cols := Nat.mul_le_mul_right _ hn
 have h3 : (n + 1) * cols = n * cols + cols := by rw [Nat.add_mul, Nat.one_mul]
 unfold rowF subR
 rw [List.drop_take, List.take_take, List.drop_drop, Nat.min_eq_left (by omega), Nat.add_mul]
theorem mayG_sub (c : List Cl) (cols rows top h : Nat) (hG : mayG (cols : Int) (rows : Int) c = true) (h1 : top + h < rows) : mayG (cols : Int) ((h + 1 : Nat) : Int) (subR c cols top h) = true := by
 obtain ⟨cols', rows', ec, er, p1, p2, p3, p4, hl⟩ := mayG_dest hG
 obtain rfl : cols = cols' := by omega
 obtain rfl : rows = rows' := by omega
 rw [may_whole cols rows c p1 p2 p3 p4 hl, Bool.and_eq_true, List.all_eq_true, List.all_eq_true] at hG
 rw [may_whole cols (h + 1) _ p1 p2 (by omega) (by omega) (by rw [subR_len c cols rows top h hl h1, Nat.mul_comm]), Bool.and_eq_true, List.all_eq_true, List.all_eq_true]
 refine ⟨fun v hv => hG.1 v (List.mem_of_mem_drop (List.mem_of_mem_take hv)), fun n hn => ?_⟩
 have hn := List.mem_range.1 hn
 rw [subR_row c cols top h n hn]
 exact hG.2 (top + n) (List.mem_range.2 (by omega))
/-- The rows from top to bot are rolled. -/
def rlF (x : Sn) (top bot by0 : Int) : Sn := clS x (lay x.g.c (top.toNat * x.g.co.toNat) (scF (subR x.g.c x.g.co.toNat top.toNat (bot - top).toNat) x.g.co.toNat ((bot - top).toNat + 1) 0 (bot - top).toNat by0 x.cur.st))
theorem bRoll_any (N : Nat) (w : World) (p : Nat) (x : Sn) (vg vt vm vl : Value) (h : Bd N w p x vg vt vm vl) (hG : mayG x.g.co x.g.ro x.g.c = true) (hS : mayS x.cur.st = true) (top bot by0 : Int) (h1 : 0 ≤ top) (h2 : top ≤ bot) (h3 : bot < x.g.ro) :
  Calls Tryz.prog 136 #[.pointer (some ⟨p, 0, none⟩), .int .i64 top, .int .i64 bot, .int .i64 by0] w fun e w' => (∃ v, e = .returned v) ∧ Bd N w' p (rlF x top bot by0) vg vt vm vl ∧ Below N w w' := by
 obtain ⟨cols, rows, ec, er, p1, p2, p3, p4, hl⟩ := mayG_dest hG
 obtain ⟨T, rfl⟩ := Int.eq_ofNat_of_zero_le h1
 obtain ⟨k, hk⟩ := Int.eq_ofNat_of_zero_le (show 0 ≤ bot - (T : Int) by omega)
 obtain rfl : bot = ((T + k : Nat) : Int) := by omega
 have hTk : T + k < rows := by omega
 have hpos : 0 < x.g.c.length := by rw [hl]; exact Nat.mul_pos p1 p3
 obtain ⟨b, cap, sp, rfl, hNb, hcap, hrc⟩ := h.own.g.row hpos
 have hfit := sub_fit (cols := cols) hTk
 have hsl := subR_len x.g.c cols rows T k hl hTk
 rw [ec, er] at hG
 have hGs := mayG_sub x.g.c cols rows T k hG hTk
 have hm : (T + k + 1) * cols = T * cols + (k + 1) * cols := by rw [← Nat.add_mul, Nat.add_assoc]
 have RW := bRows_any N w p x b 0 x.g.c.length cap vt vm vl h cols T (T + k) ec p1 p2 (by omega) (by omega) (by rw [hm]; omega)
 rw [hm, Nat.add_sub_cancel_left, Nat.zero_add, show ((T + k : Nat) : Int) - (T : Int) + 1 = ((k + 1 : Nat) : Int) by omega] at RW
 have hsc : (scF (subR x.g.c cols T k) cols (k + 1) 0 k by0 x.cur.st).length = (k + 1) * cols := by rw [scF_len _ cols (k + 1) 0 k by0 x.cur.st (by rw [hsl, Nat.mul_comm]) (by omega), Nat.mul_comm]
 have WK := bRoll_walk N w p x b cap vt vm vl h sp hrc hNb cols T k (T * cols) ((k + 1) * cols) by0 (scF (subR x.g.c cols T k) cols (k + 1) 0 k by0 x.cur.st) hsc (by rw [hl]; exact hfit) RW (fun wa ha => by
  have hv := ha.cls (T * cols) ((k + 1) * cols) ((k + 1) * cols) (by rw [hl]; exact hfit) (Nat.le_refl _)
  refine (scroll_ok cols (k + 1) _ (subR x.g.c cols T k) 0 k by0 x.cur.st wa hv hGs hS (Nat.zero_le _) (by omega)).mono ?_
  rintro e w' ⟨g, rfl, hg, hr, hb⟩
  rw [hsl]
  exact ⟨_, rfl, g, rfl, hg, hr, hb⟩) (by omega) (by omega)
 have E : rlF x (T : Int) ((T + k : Nat) : Int) by0 = clS x (lay x.g.c (T * cols) (scF (subR x.g.c cols T k) cols (k + 1) 0 k by0 x.cur.st)) := by
  unfold rlF
  rw [show ((T + k : Nat) : Int) - (T : Int) = (k : Int) by omega, ec]
  rfl
 rw [E]
 exact WK
/-- No line is pending. -/
def npF (x : Sn) : Sn := { x with cur := { x.cur with pend := false } }
def slF (x : Sn) (n : Int) : Sn := npF (rlF x x.top x.bot n)
theorem may_G {x : Sn} (h : mayN x = true) : mayG x.g.co x.g.ro x.g.c = true := by
 unfold mayN at h
 simp only [Bool.and_eq_true] at h
 exact h.2.2.2.2.2.2.2.1
theorem bScroll_any (N : Nat) (w : World) (p : Nat) (x : Sn) (vg vt vm vl : Value) (h : Bd N w p x vg vt vm vl) (m : Mm x) (hG : mayG x.g.co x.g.ro x.g.c = true) (hS : mayS x.cur.st = true) (n : Int) :
  Calls Tryz.prog 87 #[.pointer (some ⟨p, 0, none⟩), .int .i64 n] w fun e w' => (∃ v, e = .returned v) ∧ Bd N w' p (npF (rlF x x.top x.bot n)) vg vt vm vl ∧ Below N w w' := by
 have RL : Box' (∀ wq, Bd N wq p x vg vt vm vl → Calls Tryz.prog 136 #[.pointer (some ⟨p, 0, none⟩), .int .i64 x.top, .int .i64 x.bot, .int .i64 n] wq fun e w' => (∃ v, e = .returned v) ∧ Bd N w' p (rlF x x.top x.bot n) vg vt vm vl ∧ Below N wq w') := ⟨fun wq hb => bRoll_any N wq p x vg vt vm vl hb hG hS x.top x.bot n m.t1 m.t2 m.b2⟩
 have BB := Box'.mk h
 clear h
 go_enter Tryz.func87, Tryz.ntmps87
 go_wp2_with fail
 refine wp_region_walk 11 (by kernel_rfl) (by kernel_rfl) (fun D f wa => (Bd N wa p (bif (D 10) then rlF x x.top x.bot n else x) vg vt vm vl ∧ Below N w wa) ∧ ∀ i, D i = true → (fun kc => kc == 10) i = false → f i = (fun kc => match kc with
   | 0 => .pointer (some ⟨p, 0, none⟩)
   | 1 => .pointer (some ⟨p, 0, none⟩)
   | 2 => .pointer (some ⟨p, 0, none⟩)
   | 3 => .pointer (some ⟨p, 16, none⟩)
   | 4 => .int .i64 x.top
   | 5 => .pointer (some ⟨p, 0, none⟩)
   | 6 => .pointer (some ⟨p, 0, none⟩)
   | 7 => .pointer (some ⟨p, 17, none⟩)
   | 8 => .int .i64 x.bot
   | 9 => .int .i64 n
   | _ => undef) i) ?_ ?_ ?_
 ·exact fun f => ⟨⟨BB.out.below (bR.drew), bR.drew⟩, fun i h => by cases h⟩
 ·refine ⟨?a0, ?a1, ?a2, ?a3, ?a4, ?a5, ?a6, ?a7, ?a8, ?a9, ?a10, trivial⟩
  all_goals intro D f wq hJ hD hd KK hK
  all_goals have G := fun j h h2 => hJ.2 j (hd j h) h2
  all_goals have cq0 : wq.cell? ⟨p, 16, none⟩ = some (.int .i64 x.top) := (hJ.1.1.box.cell 16).trans (by cases D 10 <;> rfl)
  all_goals have cq1 : wq.cell? ⟨p, 17, none⟩ = some (.int .i64 x.bot) := (hJ.1.1.box.cell 17).trans (by cases D 10 <;> rfl)
  all_goals simp (disch := decide +kernel) only [tkS, tkZ, setAll, siB, stS, stZ, Nat.zero_add, Nat.reduceAdd, G] at hK ⊢
  case a10 =>
   have hn : D 10 = false := hD
   have hb := hJ.1.1
   rw [hn] at hb
   refine wp_callR 136 #[.pointer (some ⟨p, 0, none⟩), .int .i64 x.top, .int .i64 x.bot, .int .i64 n] (by simp [go_sem]) (fun v w'' => Bd N w'' p (rlF x x.top x.bot n) vg vt vm vl ∧ Below N wq w'') ((RL.out wq hb).mono ?_) ?_
   ·rintro e w'' ⟨⟨v, rfl⟩, k1, k2⟩
    exact ⟨v, rfl, k1, k2⟩
   ·rintro v w'' ⟨k1, k2⟩
    exact hK _ _ ⟨⟨k1, hJ.1.2.trans k2⟩, vals_upd hJ.2 (.inl rfl)⟩
  all_goals (refine wp_of_quiet rfl ?_; go_big_quiet_step (fail); exact wpQuiet_nil (hK _ _ ⟨hJ.1, vals_upd hJ.2 (.inr rfl)⟩))
 ·intro D f wz hD hJ
  have hW := hJ.1
  rw [hD 10 (by decide)] at hW
  have P := fun j h h2 => hJ.2 j (hD j h) h2
  clear hJ hD
  simp (disch := decide) only [tkS, tkZ, List.drop_succ_cons, List.drop_zero, setAll, siB, stS, stZ, Nat.zero_add, Nat.reduceAdd, P]
  clear P
  have B3 := Box'.mk hW.1
  have T3 := Box'.mk hW.2
  clear hW
  have cc : wz.cell? ⟨p, 5, none⟩ = some (.bool x.cur.pend) := B3.out.box.cell 5
  have ff := B3.out.box.frozen 5
  have B4 : Box' (Bd N (wz.setCell ⟨p, 5, none⟩ (.bool false)) p (npF (rlF x x.top x.bot n)) vg vt vm vl) := ⟨B3.out.setCell _ 5 _ rfl rfl rfl rfl rfl⟩
  have T4 : Box' (Below N w (wz.setCell ⟨p, 5, none⟩ (.bool false))) := ⟨T3.out.trans (((Tc.refl p wz).setCell 5 _).below B3.out.hp (Nat.le_trans B3.out.hp (Nat.le_of_lt B3.out.lt)))⟩
  clear B3 T3
  go_wp2_with fail
  exact bodyPost_end (results_none rfl _ _) rfl ⟨⟨_, rfl⟩, B4.out, T4.out⟩
theorem may_S {x : Sn} (h : mayN x = true) : mayS x.cur.st = true := by
 unfold mayN at h
 simp only [Bool.and_eq_true] at h
 have h0 := h.1
 unfold curF at h0
 simp only [Bool.and_eq_true] at h0
 exact h0.2.2.2
theorem scroll1_any (N : Nat) (w : World) (p : Nat) (x : Sn) (vg vt vm vl : Value) (h : Bd N w p x vg vt vm vl) (hN : mayN x = true) (c : Nat) (n : Int) (hr : Row w c 3 #[.int .i64 n]) :
  Calls Tryz.prog 86 #[.pointer (some ⟨p, 0, none⟩), .pointer (some ⟨c, 0, none⟩)] w fun e w' => (∃ v, e = .returned v) ∧ Bd N w' p (slF x n) vg vt vm vl ∧ Below N w w' := by
 have c0 : w.cell? ⟨c, 0, none⟩ = some (.int .i64 n) := hr.cell 0
 have PL := Box'.mk (bScroll_any N w p x vg vt vm vl h (may_Mm hN) (may_G hN) (may_S hN) n)
 clear h hr hN
 go_enter Tryz.func86, Tryz.ntmps86
 go_wp2_with fail
 refine PL.out.mono ?_
 rintro e w2 ⟨⟨v, rfl⟩, h2, h3⟩
 have H2 := Box'.mk h2
 have H3 := Box'.mk h3
 clear h2 h3 c0
 go_wp2_with fail
 exact bodyPost_end (results_none rfl _ _) rfl ⟨⟨_, rfl⟩, H2.out, H3.out⟩
theorem Scroll_dr (x : Sn) (vg vt vm vl : Value) (n : Int) (w : World) (hl : Li w.heap.size w x vg vt vm vl) (hb : Bo x) :
  Calls Tryz.prog 28 #[.agg (snA x vg vt vm vl), .int .i64 n] w fun e w' => DR w.heap.size w' e (if mayN x then some (slF x n) else none) ∧ Below w.heap.size w w' := by
 have DO : Box' (∀ wx, Below w.heap.size w wx → w.heap.size + 3 ≤ wx.heap.size → Row wx (w.heap.size + 1) 3 #[.int .i64 n] → Calls Tryz.prog 67 #[.agg (snA x vg vt vm vl), .func (.func 86) #[] #[.pointer (some ⟨w.heap.size + 1, 0, none⟩)]] wx fun e w' => DR wx.heap.size w' e (if mayN x then some (slF x n) else none) ∧ Below wx.heap.size wx w') := ⟨fun wx hbe hsz r0 => by
  cases hN : mayN x with
  | false => exact do1_no x vg vt vm vl 86 (.pointer (some ⟨w.heap.size + 1, 0, none⟩)) wx (hl.at hbe) hb hN
  | true =>
   exact do1_ok x (slF x n) vg vt vm vl 86 (.pointer (some ⟨w.heap.size + 1, 0, none⟩)) wx (hl.at hbe) hb hN (fun _ _ => rfl) (fun wy p vg vt vm vl hby bd hp => by
   have r0 := r0.below hby (by omega)
   refine (scroll1_any (wx.heap.size + 2) wy p x vg vt vm vl bd hN (w.heap.size + 1) n r0).mono ?_
   rintro e w' ⟨h1, h2, h3⟩
   exact ⟨h1, ⟨_, _, _, _, h2⟩, h3⟩)⟩
 have F := Box'.mk (Wr1.begin w (snA x vg vt vm vl) 3 (.int .i64 n))
 have U32 := Box'.mk Tryz.underlying32
 have S32 := Box'.mk s32
 clear hl hb
 generalize (if mayN x then some (slF x n) else none) = r at *
 go_enter Tryz.func28, Tryz.ntmps28
 go_upto_region 1 with (fail)
 generalize (((w.alloc (.cells (snA x vg vt vm vl) 32)).alloc (.cells #[.int .i64 n] 3)).alloc (.cells z32 32)) = w1 at *
 have hz := F.out.sz
 go_wp2_with (first
  | (refine wpList_load_row rfl 32 (.tmp 2) rfl w.heap.size rfl 32 (snA x vg vt vm vl) F.out.r _ U32.out rfl 44 S32.out rfl ?_))
 refine (DO.out _ F.out.be (by omega) F.out.c0).mono ?_
 rintro e w2 ⟨hd, hb⟩
 obtain ⟨y, yg, yt, ym, yl, er, rfl, ho, hs⟩ := (hd.dn (show w.heap.size ≤ w1.heap.size by omega)).out
 have RR := Box'.mk (F.out.rr.below hb (by omega))
 have BE : Box' (Below w.heap.size w w2) := ⟨F.out.be.trans (hb.mono F.out.be.size)⟩
 have OO := Box'.mk ho
 have HS := Box'.mk hs
 clear hd hb ho hs F DO
 go_wp2_with (first
  | (refine wpList_store_row rfl 32 (.tmp 4) (.tmp 9) rfl (w.heap.size + 2) rfl (snA y yg yt ym yl) rfl 32 44 RR.out S32.out rfl OO.out ?_))
 exact bodyPost_ret (results_sn rfl _ (w.heap.size + 2) rfl _ rfl _ _ (RR.out.setRow _) rfl) rfl ⟨HS.out _ _ RR.out, below_setRow BE.out (by omega) _⟩
theorem Scroll_no (x : Sn) (vg vt vm vl : Value) (n : Int) (w : World) (hl : Li w.heap.size w x vg vt vm vl) (hb : Bo x) (hN : mayN x = false) :
  Calls Tryz.prog 28 #[.agg (snA x vg vt vm vl), .int .i64 n] w fun e w' => e = .returned sErr ∧ Below w.heap.size w w' := (Scroll_dr x vg vt vm vl n w hl hb).mono fun e w' q => by
 rw [hN] at q; exact q
theorem Scroll_ok (x : Sn) (vg vt vm vl : Value) (n : Int) (w : World) (hl : Li w.heap.size w x vg vt vm vl) (hb : Bo x) (hN : mayN x = true) :
  Calls Tryz.prog 28 #[.agg (snA x vg vt vm vl), .int .i64 n] w fun e w' => ScR w.heap.size w' e (slF x n) ∧ Below w.heap.size w w' := (Scroll_dr x vg vt vm vl n w hl hb).mono fun e w' q => by
 rw [hN] at q; exact q
theorem bBlank_walk (N : Nat) (w : World) (p : Nat) (x : Sn) (b cap : Nat) (vt vm vl : Value) (hb : Bd N w p x (.slice (some ⟨b, 0, none⟩) x.g.c.length cap) vt vm vl) (sp : List Value) (hrc : RC w b x.g.c sp) (hNb : N ≤ b) (cols top lo n : Nat) (fr to : Nat) (l : List Cl) (hlen : l.length = n) (hfit : lo + n ≤ x.g.c.length)
  (RW : Calls Tryz.prog 166 #[.pointer (some ⟨p, 0, none⟩), .int .i64 (top : Int), .int .i64 (top : Int)] w fun e w' => e = .returned (.agg (gA (cols : Int) 1 (.slice (some ⟨b, lo * 15, none⟩) n n))) ∧ Below w.heap.size w w')
  (HC0 : ∀ wa, RC wa b x.g.c sp → Calls Tryz.prog 171 #[.agg (gA (cols : Int) 1 (.slice (some ⟨b, lo * 15, none⟩) n n)), .int .i64 0, .int .i64 (fr : Int), .int .i64 (to : Int), .agg (sA x.cur.st)] wa fun e w' => ∃ v, e = .returned v ∧ ∃ g, v = gOk (cols : Int) 1 (.slice (some ⟨g, 0, none⟩) n n) ∧ wa.heap.size ≤ g ∧ RC w' g l [] ∧ Below wa.heap.size wa w')
  :
  Calls Tryz.prog 135 #[.pointer (some ⟨p, 0, none⟩), .int .i64 (top : Int), .int .i64 (fr : Int), .int .i64 (to : Int)] w fun e w' => (∃ v, e = .returned v) ∧ Bd N w' p (clS x (lay x.g.c lo l)) (.slice (some ⟨b, 0, none⟩) x.g.c.length cap) vt vm vl ∧ Below N w w' := by
 have HL := Box'.mk hlen
 have HF := Box'.mk hfit
 have NB := Box'.mk hNb
 have NW : Box' (N ≤ w.heap.size) := ⟨Nat.le_trans hb.hp (Nat.le_of_lt hb.lt)⟩
 have S24 := Box'.mk s24g
 have I26 : Box' ((Tryz.prog.info? 26).map (·.size) = some (sA x.cur.st).toList.length) := ⟨by kernel_rfl⟩
 have Z24 : Box' ((Tryz.prog.info? 24).map (fun i => (i.zero, i.size)) = some (some (.agg #[.int .i64 0, .int .i64 0, .slice none 0 0]), 3)) := ⟨by kernel_rfl⟩
 have O := Box'.mk (gA_one (cols : Int) 1 (some ⟨b, lo * 15, none⟩) n n)
 have BB := Box'.mk hb
 have HB := Box'.mk hrc
 have RWB := Box'.mk RW
 have HCB := Box'.mk HC0
 clear hb hrc RW HC0 hlen hfit hNb
 go_enter Tryz.func135, Tryz.ntmps135
 go_wp2_with fail
 refine RWB.out.mono ?_
 rintro e w2 ⟨rfl, hbe⟩
 have RM := Box'.mk ((Row.new w2 24 #[.int .i64 0, .int .i64 0, .slice none 0 0]).room (n := 3) rfl)
 have BE : Box' (Below w.heap.size w ((w2.alloc (.cells #[.int .i64 0, .int .i64 0, .slice none 0 0] 24)).setRow w2.heap.size (gA (cols : Int) 1 (.slice (some ⟨b, lo * 15, none⟩) n n)))) := ⟨below_setRow (hbe.alloc hbe.size _) hbe.size _⟩
 have R8 : Box' (Row ((w2.alloc (.cells #[.int .i64 0, .int .i64 0, .slice none 0 0] 24)).setRow w2.heap.size (gA (cols : Int) 1 (.slice (some ⟨b, lo * 15, none⟩) n n))) w2.heap.size 24 (gA (cols : Int) 1 (.slice (some ⟨b, lo * 15, none⟩) n n))) := ⟨RM.out.setRow _⟩
 have B3 := Box'.mk (BB.out.below BE.out)
 have HB3 := Box'.mk (HB.out.below BE.out HB.out.lt)
 have BSZ := Box'.mk BE.out.size
 clear hbe BB HB RWB
 go_upto_region 1 with (first
  | (refine wpList_store_row rfl 24 (.tmp 8) (.tmp 14) rfl w2.heap.size rfl (gA (cols : Int) 1 (.slice (some ⟨b, lo * 15, none⟩) n n)) rfl 24 3 RM.out S24.out rfl O.out ?_))
 clear RM
 generalize ((w2.alloc (.cells #[.int .i64 0, .int .i64 0, .slice none 0 0] 24)).setRow w2.heap.size (gA (cols : Int) 1 (.slice (some ⟨b, lo * 15, none⟩) n n))) = w3 at *
 generalize w2.heap.size = q8 at *
 have HC : Box' (∀ wa, Below w3.heap.size w3 wa → Calls Tryz.prog 171 #[.agg (gA (cols : Int) 1 (.slice (some ⟨b, lo * 15, none⟩) n n)), .int .i64 0, .int .i64 (fr : Int), .int .i64 (to : Int), .agg (sA x.cur.st)] wa fun e w' => ∃ v, e = .returned v ∧ ∃ g, v = gOk (cols : Int) 1 (.slice (some ⟨g, 0, none⟩) n n) ∧ wa.heap.size ≤ g ∧ RC w' g l [] ∧ Below wa.heap.size wa w') := ⟨fun wa hw => HCB.out wa (HB3.out.below hw HB3.out.lt)⟩
 refine wp_region_walk 14 (by kernel_rfl) (by kernel_rfl) (fun D f wa => (ChJ w3 7 (cols : Int) 1 n l D f wa) ∧ ∀ i, D i = true → (fun kc => kc == 7 || kc == 8 || kc == 9 || kc == 10 || kc == 11 || kc == 12 || kc == 13) i = false → f i = (fun kc => match kc with
   | 0 => .agg (gA (cols : Int) 1 (.slice (some ⟨b, lo * 15, none⟩) n n))
   | 1 => .int .i64 (fr : Int)
   | 2 => .int .i64 (to : Int)
   | 3 => .pointer (some ⟨p, 0, none⟩)
   | 4 => .pointer (some ⟨p, 0, none⟩)
   | 5 => .pointer (some ⟨p, 6, none⟩)
   | 6 => .agg (sA x.cur.st)
   | _ => undef) i) ?_ ?_ ?_
 ·exact fun f => ⟨ChJ.begin _ _ _ _ _ _ _, fun i h => by cases h⟩
 ·refine ⟨?a0, ?a1, ?a2, ?a3, ?a4, ?a5, ?a6, ?a7, ?a8, ?a9, ?a10, ?a11, ?a12, ?a13, trivial⟩
  all_goals intro D f wq hJ hD hd KK hK
  all_goals have G := fun j h h2 => hJ.2 j (hd j h) h2
  all_goals simp (disch := decide +kernel) only [tkS, tkZ, setAll, siB, stS, stZ, Nat.zero_add, Nat.reduceAdd, G] at hK ⊢
  case a0 =>
   exact wp_load_row 24 (.tmp 8) rfl q8 rfl 24 _ (R8.out.below hJ.1.be R8.out.lt) _ Tryz.underlying24 rfl 3 s24g rfl (hK _ _ ⟨(hJ.1.other 0 _ (by decide)), vals_upd hJ.2 (.inr rfl)⟩)
  case a6 =>
   exact wp_mid 26 (.tmp 21) rfl p 6 (sA x.cur.st) _ Tryz.underlying26 rfl I26.out rfl (sn_style (B3.out.below hJ.1.be).box) (hK _ _ ⟨(hJ.1.other 6 _ (by decide)), vals_upd hJ.2 (.inr rfl)⟩)
  case a7 =>
   refine wp_callR 171 #[.agg (gA (cols : Int) 1 (.slice (some ⟨b, lo * 15, none⟩) n n)), .int .i64 0, .int .i64 (fr : Int), .int .i64 (to : Int), .agg (sA x.cur.st)] (by simp [go_sem]) _ (HC.out wq hJ.1.be) ?_
   rintro v w'' ⟨g, rfl, hg, hrc, hb⟩
   exact hK _ _ ⟨(hJ.1.grow hb).o0 hD g (Nat.le_trans hJ.1.be.size hg) hrc, vals_upd hJ.2 (.inl rfl)⟩
  case a8 =>
   exact wp_val (f 7) (by simp [go_sem]) (hK _ _ ⟨hJ.1.o1 hD (hd 7 (by kernel_rfl)), vals_upd hJ.2 (.inl rfl)⟩)
  case a9 =>
   obtain ⟨d0, e1⟩ := hJ.1.k1 (hd 8 (by kernel_rfl))
   obtain ⟨g, e0, hg, hrc⟩ := hJ.1.k0 d0
   have e1 : f 8 = gOk (cols : Int) 1 (.slice (some ⟨g, 0, none⟩) n n) := e1.trans e0
   simp only [e1] at hK ⊢
   exact wp_val (.agg (gA (cols : Int) 1 (.slice (some ⟨g, 0, none⟩) n n))) (by simp [go_sem, gOk]) (hK _ _ ⟨hJ.1.o2 hD d0 g e0, vals_upd hJ.2 (.inl rfl)⟩)
  case a10 =>
   obtain ⟨d0, e1⟩ := hJ.1.k1 (hd 8 (by kernel_rfl))
   obtain ⟨g, e0, hg, hrc⟩ := hJ.1.k0 d0
   have e1 : f 8 = gOk (cols : Int) 1 (.slice (some ⟨g, 0, none⟩) n n) := e1.trans e0
   simp only [e1] at hK ⊢
   exact wp_val (.int .i64 0) (by simp [go_sem, gOk]) (hK _ _ ⟨hJ.1.o3 hD, vals_upd hJ.2 (.inl rfl)⟩)
  case a11 =>
   exact wp_alloc_row 24 rfl #[.int .i64 0, .int .i64 0, .slice none 0 0] 3 Z24.out (hK _ _ ⟨(hJ.1.grow (bR.alloc (Nat.le_refl _) _)).o4 hD wq.heap.size hJ.1.be.size ((Row.new wq 24 _).room rfl), vals_upd hJ.2 (.inl rfl)⟩)
  case a12 =>
   obtain ⟨d0, g, e0, e2⟩ := hJ.1.k2 (hd 9 (by kernel_rfl))
   obtain ⟨q, e4, hq, hrm⟩ := hJ.1.k4 (hd 11 (by kernel_rfl))
   have e2 : f 9 = .agg (gA (cols : Int) 1 (.slice (some ⟨g, 0, none⟩) n n)) := e2
   have e4 : f 11 = .pointer (some ⟨q, 0, none⟩) := e4
   have e4' := Box'.mk e4
   simp only [e2, e4] at hK ⊢
   exact wp_store_row 24 (.tmp 9) (.tmp 24) rfl q rfl (gA (cols : Int) 1 (.slice (some ⟨g, 0, none⟩) n n)) rfl 24 3 hrm S24.out rfl (gA_one _ _ _ _ _) (hK _ _ ⟨hJ.1.o5 hD d0 (hd 11 (by kernel_rfl)) g q e0 e4'.out _, vals_upd hJ.2 (.inl rfl)⟩)
  case a13 =>
   have e3 : f 10 = .int .i64 0 := hJ.1.k3 (hd 10 (by kernel_rfl))
   simp only [e3] at hK ⊢
   exact wp_val (.int .i64 0) (by simp [go_sem]) (hK _ _ ⟨hJ.1.o6 hD, vals_upd hJ.2 (.inl rfl)⟩)
  all_goals (refine wp_of_quiet rfl ?_; go_big_quiet_step (fail); exact wpQuiet_nil (hK _ _ ⟨(hJ.1.other _ _ (by decide)), vals_upd hJ.2 (.inr rfl)⟩))
 ·intro D f wz hD hJ
  have hW := hJ.1
  have P := fun j h h2 => hJ.2 j (hD j h) h2
  obtain ⟨g, q, e0, e1, e2, e3, e4, e6, hg, hq, hrc, hrow⟩ := hW.fin 14 (by decide) hD
  have e0 : f 7 = _ := e0
  have e1 : f 8 = _ := e1
  have e2 : f 9 = _ := e2
  have e3 : f 10 = _ := e3
  have e4 : f 11 = _ := e4
  have e6 : f 13 = _ := e6
  have HBE := Box'.mk hW.be
  have HRC := Box'.mk hrc
  have HRW := Box'.mk hrow
  clear hW hrc hrow
  clear hJ hD
  simp (disch := decide) only [tkS, tkZ, List.drop_succ_cons, List.drop_zero, setAll, siB, stS, stZ, Nat.zero_add, Nat.reduceAdd, P, e0, e1, e2, e3, e4, e6]
  clear P e0 e1 e2 e3 e4 e6
  have A1 := Box'.mk (HB3.out.below HBE.out HB3.out.lt)
  have R9 := Box'.mk (R8.out.below HBE.out R8.out.lt)
  have LY := Box'.mk (sLay_any wz b lo n x.g.c l sp A1.out g HRC.out HL.out HF.out (cols : Int) 1 (cols : Int) 1)
  go_wp2_with (first
   | (refine wpList_load_row rfl 24 (.tmp 8) rfl q8 rfl 24 _ R9.out _ Tryz.underlying24 rfl 3 s24g rfl ?_)
   | (refine wpList_load_row rfl 24 (.tmp 9) rfl q rfl 24 _ HRW.out _ Tryz.underlying24 rfl 3 s24g rfl ?_))
  refine LY.out.mono ?_
  rintro e w5 ⟨⟨v, rfl⟩, k2, k3⟩
  have K2 := Box'.mk (Bd.cells (B3.out.below HBE.out) k3 _ _ A1.out k2 (lay_len _ _ _ (by rw [HL.out]; exact HF.out)))
  have K3 : Box' (Below N w w5) := ⟨below_tc (BE.out.trans (HBE.out.mono BSZ.out)) k3 NB.out NW.out⟩
  clear k2 k3 LY
  go_wp2_with fail
  exact bodyPost_end (results_none rfl _ _) rfl ⟨⟨_, rfl⟩, K2.out, K3.out⟩
end Go.Proofs.YtlekleeckcdcgaaGreat
