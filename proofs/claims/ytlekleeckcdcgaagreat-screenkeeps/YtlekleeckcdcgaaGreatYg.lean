/- A grid of a struct is made anew by a call; the other grid is shown. -/
import Derived.Test.YtlekleeckcdcgaaGreatYc
namespace Go.Proofs.YtlekleeckcdcgaaGreat
open Go.RowKit Go.BigFrame
set_option linter.unusedVariables false
set_option linter.unusedSimpArgs false
set_option maxHeartbeats 8000000
set_option maxRecDepth 100000
/-- What stands while the operations from c on (a call, its two answers) make a grid, which m stores into the row p. -/
structure StJ (w0 : World) (c m p : Nat) (C : Nat → Array Value) (co ro : Int) (n : Nat) (l : List Cl) (D : Nat → Bool) (f : Nat → Value) (wa : World) : Prop where
 d : D m = true → ∀ j, j < c + 3 → D j = true
 a : D m = false → Below w0.heap.size w0 wa
 k0 : D c = true → ∃ g, f c = gOk co ro (.slice (some ⟨g, 0, none⟩) n n) ∧ w0.heap.size ≤ g ∧ RC wa g l []
 k1 : D (c + 1) = true → D c = true ∧ f (c + 1) = f c
 k2 : D (c + 2) = true → D c = true ∧ ∃ g, f c = gOk co ro (.slice (some ⟨g, 0, none⟩) n n) ∧ f (c + 2) = .agg (gA co ro (.slice (some ⟨g, 0, none⟩) n n))
 z : D m = true → ∃ wb g, f c = gOk co ro (.slice (some ⟨g, 0, none⟩) n n) ∧ Below w0.heap.size w0 wb ∧ wa = wb.setRow p (C g)
theorem StJ.begin (w0 : World) (c m p : Nat) (C : Nat → Array Value) (co ro : Int) (n : Nat) (l : List Cl) (f : Nat → Value) : StJ w0 c m p C co ro n l (fun _ => false) f w0.drew :=
 ⟨nofun, fun _ => bR.drew, nofun, nofun, nofun, nofun⟩
theorem StJ.idle {w0 : World} {c m p : Nat} {C : Nat → Array Value} {co ro : Int} {n : Nat} {l : List Cl} {D : Nat → Bool} {f : Nat → Value} {wa : World} (j : StJ w0 c m p C co ro n l D f wa) (i : Nat) (hi : i < c + 3) (hD : D i = false) : D m = false := by
 cases h : D m with
 | false => rfl
 | true => have := j.d h i hi; rw [hD] at this; cases this
theorem StJ.be {w0 : World} {c m p : Nat} {C : Nat → Array Value} {co ro : Int} {n : Nat} {l : List Cl} {D : Nat → Bool} {f : Nat → Value} {wa : World} (j : StJ w0 c m p C co ro n l D f wa) (i : Nat) (hi : i < c + 3) (hD : D i = false) : Below w0.heap.size w0 wa := j.a (j.idle i hi hD)
theorem StJ.other {w0 : World} {c m p : Nat} {C : Nat → Array Value} {co ro : Int} {n : Nat} {l : List Cl} {D : Nat → Bool} {f : Nat → Value} {wa : World} (j : StJ w0 c m p C co ro n l D f wa) (k : Nat) (v : Value) (h0 : k ≠ c) (h1 : k ≠ c + 1) (h2 : k ≠ c + 2) (h3 : k ≠ m) : StJ w0 c m p C co ro n l (updB D k) (upd f k v) wa := by
 have h0 : ¬ c = k := fun e => h0 e.symm
 have h1 : ¬ c + 1 = k := fun e => h1 e.symm
 have h2 : ¬ c + 2 = k := fun e => h2 e.symm
 have h3 : ¬ m = k := fun e => h3 e.symm
 obtain ⟨a0, a1, a2, a3, a4, a5⟩ := j
 refine ⟨?_, ?_, ?_, ?_, ?_, ?_⟩ <;> simp only [updB, upd, if_neg h0, if_neg h1, if_neg h2, if_neg h3]
 ·intro h jj hj
  split
  ·rfl
  ·exact a0 h jj hj
 all_goals assumption
theorem StJ.o0 {w0 : World} {c m p : Nat} {C : Nat → Array Value} {co ro : Int} {n : Nat} {l : List Cl} {D : Nat → Bool} {f : Nat → Value} {wa : World} (j : StJ w0 c m p C co ro n l D f wa) (hm : c < m) (hn : D c = false) (g : Nat) (w2 : World) (hb : Below wa.heap.size wa w2) (hg : wa.heap.size ≤ g) (hr : RC w2 g l []) : StJ w0 c m p C co ro n l (updB D c) (upd f c (gOk co ro (.slice (some ⟨g, 0, none⟩) n n))) w2 := by
 have q := j.idle c (by omega) hn
 have b := j.a q
 have hne : ¬ m = c := by omega
 obtain ⟨a0, a1, a2, a3, a4, a5⟩ := j
 refine ⟨fun h => ?_, fun _ => b.trans (hb.mono b.size), fun _ => ⟨g, by simp [upd], Nat.le_trans b.size hg, hr⟩, fun h => ?_, fun h => ?_, fun h => ?_⟩
 ·simp only [updB, if_neg hne] at h; rw [q] at h; cases h
 ·have h : D (c + 1) = true := by simpa [updB] using h
  exact absurd (a3 h).1 (by rw [hn]; decide)
 ·have h : D (c + 2) = true := by simpa [updB] using h
  exact absurd (a4 h).1 (by rw [hn]; decide)
 ·simp only [updB, if_neg hne] at h; rw [q] at h; cases h
theorem StJ.o1 {w0 : World} {c m p : Nat} {C : Nat → Array Value} {co ro : Int} {n : Nat} {l : List Cl} {D : Nat → Bool} {f : Nat → Value} {wa : World} (j : StJ w0 c m p C co ro n l D f wa) (hm : c + 3 ≤ m) (hn : D (c + 1) = false) (d0 : D c = true) : StJ w0 c m p C co ro n l (updB D (c + 1)) (upd f (c + 1) (f c)) wa := by
 have hne : ¬ m = c + 1 := by omega
 obtain ⟨a0, a1, a2, a3, a4, a5⟩ := j
 refine ⟨fun h jj hj => ?_, by simpa [updB, hne] using a1, by simpa [updB, upd] using a2, fun _ => ⟨by simpa [updB] using d0, by simp [upd]⟩, by simpa [updB, upd] using a4, by simpa [updB, upd, hne] using a5⟩
 simp only [updB, if_neg hne] at h ⊢
 split
 ·rfl
 ·exact a0 h jj hj
theorem StJ.o2 {w0 : World} {c m p : Nat} {C : Nat → Array Value} {co ro : Int} {n : Nat} {l : List Cl} {D : Nat → Bool} {f : Nat → Value} {wa : World} (j : StJ w0 c m p C co ro n l D f wa) (hm : c + 3 ≤ m) (hn : D (c + 2) = false) (d0 : D c = true) (g : Nat) (e : f c = gOk co ro (.slice (some ⟨g, 0, none⟩) n n)) : StJ w0 c m p C co ro n l (updB D (c + 2)) (upd f (c + 2) (.agg (gA co ro (.slice (some ⟨g, 0, none⟩) n n)))) wa := by
 have hne : ¬ m = c + 2 := by omega
 obtain ⟨a0, a1, a2, a3, a4, a5⟩ := j
 refine ⟨fun h jj hj => ?_, by simpa [updB, hne] using a1, by simpa [updB, upd] using a2, by simpa [updB, upd] using a3, fun _ => ⟨by simpa [updB] using d0, g, by simpa [upd] using e, by simp [upd]⟩, by simpa [updB, upd, hne] using a5⟩
 simp only [updB, if_neg hne] at h ⊢
 split
 ·rfl
 ·exact a0 h jj hj
theorem StJ.om {w0 : World} {c m p : Nat} {C : Nat → Array Value} {co ro : Int} {n : Nat} {l : List Cl} {D : Nat → Bool} {f : Nat → Value} {wa : World} (j : StJ w0 c m p C co ro n l D f wa) (hm : c + 3 ≤ m) (hn : D m = false) (hall : ∀ j, j < c + 3 → D j = true) (hp : p < w0.heap.size) (g : Nat) (e : f c = gOk co ro (.slice (some ⟨g, 0, none⟩) n n)) (v : Value) : StJ w0 c m p C co ro n l (updB D m) (upd f m v) (wa.setRow p (C g)) := by
 have b := j.a hn
 obtain ⟨g', e1, hg, hr⟩ := j.k0 (hall c (by omega))
 obtain rfl : g = g' := gOk_inj (e.symm.trans e1)
 have h0 : ¬ c = m := by omega
 have h1 : ¬ c + 1 = m := by omega
 have h2 : ¬ c + 2 = m := by omega
 obtain ⟨a0, a1, a2, a3, a4, a5⟩ := j
 refine ⟨fun _ jj hj => ?_, fun h => ?_, fun _ => ⟨g, by simpa [upd, h0] using e, hg, Row.setRowOther hr _ _ (by omega)⟩, by simpa [updB, upd, h0, h1] using a3, by simpa [updB, upd, h0, h1, h2] using a4, fun _ => ⟨wa, g, by simpa [upd, h0] using e, b, rfl⟩⟩
 ·simp only [updB]
  split
  ·rfl
  ·exact hall jj hj
 ·simp [updB] at h
theorem StJ.fin {w0 : World} {c m p : Nat} {C : Nat → Array Value} {co ro : Int} {n : Nat} {l : List Cl} {D : Nat → Bool} {f : Nat → Value} {wa : World} (j : StJ w0 c m p C co ro n l D f wa) (hm : c + 3 ≤ m) (hD : ∀ k, k < m + 1 → D k = true) : ∃ wb g, f c = gOk co ro (.slice (some ⟨g, 0, none⟩) n n) ∧ f (c + 1) = gOk co ro (.slice (some ⟨g, 0, none⟩) n n) ∧ f (c + 2) = .agg (gA co ro (.slice (some ⟨g, 0, none⟩) n n)) ∧ w0.heap.size ≤ g ∧ Below w0.heap.size w0 wb ∧ RC wa g l [] ∧ wa = wb.setRow p (C g) := by
 obtain ⟨g, y1, y2, y3⟩ := j.k0 (hD _ (by omega))
 obtain ⟨_, z1⟩ := j.k1 (hD _ (by omega))
 obtain ⟨_, g2, z2, z3⟩ := j.k2 (hD _ (by omega))
 obtain rfl : g = g2 := gOk_inj (y1.symm.trans z2)
 obtain ⟨wb, g5, u1, u2, u3⟩ := j.z (hD _ (by omega))
 obtain rfl : g = g5 := gOk_inj (y1.symm.trans u1)
 exact ⟨wb, g, y1, z1.trans y1, z3, y2, u2, y3, u3⟩
/-- The board when its grid is a new one, its former grid or another one its main grid. -/
theorem al_bd {N : Nat} {w1 wb : World} {p : Nat} {x : Sn} {vg vt vm vl : Value} (O1 : OwnL N w1 x vg vt vm vl) {c1 : Array Value} (R1 : Row w1 p 116 c1) (hp : N ≤ p) (hc1 : c1.size = 44) (hb : Below w1.heap.size w1 wb) (g n : Nat) (hg : w1.heap.size ≤ g) (hN : N ≤ w1.heap.size) (y : Sn) (hr : RC (wb.setRow p (snA y (.slice (some ⟨g, 0, none⟩) n n) vt vg vl)) g y.g.c []) (hn : y.g.c.length = n) (hn2 : n ≤ 1000000) (e2 : y.mn.c = x.g.c) (e3 : y.tabs = x.tabs) (e4 : y.title = x.title) :
  Bd N (wb.setRow p (snA y (.slice (some ⟨g, 0, none⟩) n n) vt vg vl)) p y (.slice (some ⟨g, 0, none⟩) n n) vt vg vl := by
 have R2 := R1.below hb R1.lt
 have O3 := (O1.below hb).setRow p 116 (snA y (.slice (some ⟨g, 0, none⟩) n n) vt vg vl) (R2.room (n := 44) hc1) (by decide) (by decide) (by decide)
 refine ⟨R2.setRow _, hp, ?_, by rw [e2]; exact O3.g, ?_, by rw [e3]; exact O3.t, by rw [e4]; exact O3.l⟩
 ·have := RC.own hr (show N ≤ g by omega) (by omega)
  rw [hn] at this
  exact this
 ·intro b h1 h2
  simp only [Value.ownBlock, Option.some.injEq] at h1
  have := (OwnC.lt O1.g b h2).2
  omega
theorem bAlt_on (N : Nat) (w : World) (p : Nat) (x : Sn) (ga : Option Addr) (gn gc : Nat) (vt vm vl : Value) (h : Bd N w p x (.slice ga gn gc) vt vm vl) (hA : x.alt = false) (cols rows n : Nat) (hco : x.g.co = (cols : Int)) (hro : x.g.ro = (rows : Int)) (hn : n ≤ 1000000) (l : List Cl) (hl : l.length = n)
  (HC0 : ∀ wa, Calls Tryz.prog 61 #[.int .i64 (cols : Int), .int .i64 (rows : Int), .agg (sA x.cur.st)] wa fun e w' => ∃ v, e = .returned v ∧ ∃ g, v = gOk (cols : Int) (rows : Int) (.slice (some ⟨g, 0, none⟩) n n) ∧ wa.heap.size ≤ g ∧ RC w' g l [] ∧ Below wa.heap.size wa w') :
  Calls Tryz.prog 139 #[.pointer (some ⟨p, 0, none⟩), .bool true] w fun e w' => (∃ v, e = .returned v) ∧ (∃ vg' vm', Bd N w' p { x with mn := x.g, g := ⟨(cols : Int), (rows : Int), l⟩, alt := true } vg' vt vm' vl) ∧ Below N w w' := by
 have S24 := Box'.mk s24g
 have I26 : Box' ((Tryz.prog.info? 26).map (·.size) = some (sA x.cur.st).toList.length) := ⟨by kernel_rfl⟩
 have O := Box'.mk (gA_one x.g.co x.g.ro ga gn gc)
 have EC := Box'.mk hco
 have ER := Box'.mk hro
 have HL := Box'.mk hl
 have HL2 := Box'.mk hn
 have HB := Box'.mk h
 have c39 : w.cell? ⟨p, 39, none⟩ = some (.bool false) := by rw [← hA]; exact h.box.cell 39
 have R1 : Box' (Row (w.setRow p (snA { x with mn := x.g } (.slice ga gn gc) vt (.slice ga gn gc) vl)) p 116 (snA { x with mn := x.g } (.slice ga gn gc) vt (.slice ga gn gc) vl)) := ⟨h.box.setRow _⟩
 have O1 : Box' (OwnL N (w.setRow p (snA { x with mn := x.g } (.slice ga gn gc) vt (.slice ga gn gc) vl)) x (.slice ga gn gc) vt vm vl) := ⟨h.own.setRow p 116 _ (h.box.room (n := 44) rfl) (by decide) (by decide) (by decide)⟩
 have HNP := Box'.mk h.hp
 have hsz : (w.setRow p (snA { x with mn := x.g } (.slice ga gn gc) vt (.slice ga gn gc) vl)).heap.size = w.heap.size := by simp [World.setRow]
 have HNW : Box' (N ≤ (w.setRow p (snA { x with mn := x.g } (.slice ga gn gc) vt (.slice ga gn gc) vl)).heap.size) := ⟨by rw [hsz]; exact Nat.le_trans h.hp (Nat.le_of_lt h.lt)⟩
 have HP : Box' (p < (w.setRow p (snA { x with mn := x.g } (.slice ga gn gc) vt (.slice ga gn gc) vl)).heap.size) := ⟨by rw [hsz]; exact h.lt⟩
 have T1 : Box' (Below N w (w.setRow p (snA { x with mn := x.g } (.slice ga gn gc) vt (.slice ga gn gc) vl))) := ⟨below_setRow bR h.hp _⟩
 have HC' := Box'.mk HC0
 clear h hco hro hn hl hA HC0 hsz
 go_enter Tryz.func139, Tryz.ntmps139
 go_upto_region 2 with (first
  | (refine wpList_load_gridM rfl (.tmp 16) rfl p 0 x.g.co x.g.ro (.slice ga gn gc) rfl (sn_grid HB.out.box) ?_)
  | (refine wpList_store_part rfl 24 (.tmp 19) (.tmp 17) rfl p 116 40 (snA x (.slice ga gn gc) vt vm vl) (gA x.g.co x.g.ro (.slice ga gn gc)) (snA { x with mn := x.g } (.slice ga gn gc) vt (.slice ga gn gc) vl) rfl rfl HB.out.box S24.out (show 40 + 3 ≤ 44 by omega) O.out rfl ?_))
 clear HB c39
 generalize (w.setRow p (snA { x with mn := x.g } (.slice ga gn gc) vt (.slice ga gn gc) vl)) = w1 at *
 have HC : Box' (∀ wa, Below w1.heap.size w1 wa → Calls Tryz.prog 61 #[.int .i64 (cols : Int), .int .i64 (rows : Int), .agg (sA x.cur.st)] wa fun e w' => ∃ v, e = .returned v ∧ ∃ g, v = gOk (cols : Int) (rows : Int) (.slice (some ⟨g, 0, none⟩) n n) ∧ wa.heap.size ≤ g ∧ RC w' g l [] ∧ Below wa.heap.size wa w') := ⟨fun wa _ => HC'.out wa⟩
 clear HC'
 refine wp_region_walk 22 (by kernel_rfl) (by kernel_rfl) (fun D f wa => (StJ w1 15 21 p (fun g => snA { x with mn := x.g, g := ⟨(cols : Int), (rows : Int), l⟩ } (.slice (some ⟨g, 0, none⟩) n n) vt (.slice ga gn gc) vl) (cols : Int) (rows : Int) n l D f wa) ∧ ∀ i, D i = true → (fun kc => kc == 15 || kc == 16 || kc == 17 || kc == 21) i = false → f i = (fun kc => match kc with
   | 0 => .pointer (some ⟨p, 0, none⟩)
   | 1 => .pointer (some ⟨p, 0, none⟩)
   | 2 => .pointer (some ⟨p, 0, none⟩)
   | 3 => .pointer (some ⟨p, 40, none⟩)
   | 4 => .pointer (some ⟨p, 40, none⟩)
   | 5 => .int .i64 (cols : Int)
   | 6 => .pointer (some ⟨p, 0, none⟩)
   | 7 => .pointer (some ⟨p, 0, none⟩)
   | 8 => .pointer (some ⟨p, 40, none⟩)
   | 9 => .pointer (some ⟨p, 41, none⟩)
   | 10 => .int .i64 (rows : Int)
   | 11 => .pointer (some ⟨p, 0, none⟩)
   | 12 => .pointer (some ⟨p, 0, none⟩)
   | 13 => .pointer (some ⟨p, 6, none⟩)
   | 14 => .agg (sA x.cur.st)
   | 18 => .int .i64 0
   | 19 => .pointer (some ⟨p, 0, none⟩)
   | 20 => .pointer (some ⟨p, 0, none⟩)
   | _ => undef) i) ?_ ?_ ?_
 ·exact fun f => ⟨StJ.begin _ _ _ _ _ _ _ _ _ _, fun i h => by cases h⟩
 ·refine ⟨?a0, ?a1, ?a2, ?a3, ?a4, ?a5, ?a6, ?a7, ?a8, ?a9, ?a10, ?a11, ?a12, ?a13, ?a14, ?a15, ?a16, ?a17, ?a18, ?a19, ?a20, ?a21, trivial⟩
  all_goals intro D f wq hJ hD hd KK hK
  all_goals have G := fun j h h2 => hJ.2 j (hd j h) h2
  all_goals simp (disch := decide +kernel) only [tkS, tkZ, setAll, siB, stS, stZ, Nat.zero_add, Nat.reduceAdd, G] at hK ⊢
  case a5 =>
   have cx : wq.cell? ⟨p, 40, none⟩ = some (.int .i64 (cols : Int)) := by rw [← EC.out]; exact (R1.out.below (hJ.1.be 5 (by decide) hD) R1.out.lt).cell 40
   (refine wp_of_quiet rfl ?_; go_big_quiet_step (fail); exact wpQuiet_nil (hK _ _ ⟨(hJ.1.other 5 _ (by decide) (by decide) (by decide) (by decide)), vals_upd hJ.2 (.inr rfl)⟩))
  case a10 =>
   have cx : wq.cell? ⟨p, 41, none⟩ = some (.int .i64 (rows : Int)) := by rw [← ER.out]; exact (R1.out.below (hJ.1.be 10 (by decide) hD) R1.out.lt).cell 41
   (refine wp_of_quiet rfl ?_; go_big_quiet_step (fail); exact wpQuiet_nil (hK _ _ ⟨(hJ.1.other 10 _ (by decide) (by decide) (by decide) (by decide)), vals_upd hJ.2 (.inr rfl)⟩))
  case a14 =>
   exact wp_mid 26 (.tmp 34) rfl p 6 (sA x.cur.st) _ Tryz.underlying26 rfl I26.out rfl (sn_style (x := { x with mn := x.g }) (R1.out.below (hJ.1.be 14 (by decide) hD) R1.out.lt)) (hK _ _ ⟨(hJ.1.other 14 _ (by decide) (by decide) (by decide) (by decide)), vals_upd hJ.2 (.inr rfl)⟩)
  case a15 =>
   refine wp_callR 61 #[.int .i64 (cols : Int), .int .i64 (rows : Int), .agg (sA x.cur.st)] (by simp [go_sem]) _ (HC.out wq (hJ.1.be 15 (by decide) hD)) ?_
   rintro v w'' ⟨g, rfl, hg, hrc, hb⟩
   exact hK _ _ ⟨hJ.1.o0 (by decide) hD g w'' hb hg hrc, vals_upd hJ.2 (.inl rfl)⟩
  case a16 =>
   exact wp_val (f 15) (by simp [go_sem]) (hK _ _ ⟨hJ.1.o1 (by decide) hD (hd 15 (by kernel_rfl)), vals_upd hJ.2 (.inl rfl)⟩)
  case a17 =>
   obtain ⟨d0, e1⟩ := hJ.1.k1 (hd 16 (by kernel_rfl))
   obtain ⟨g, e0, hg, hrc⟩ := hJ.1.k0 d0
   have e1 : f 16 = gOk (cols : Int) (rows : Int) (.slice (some ⟨g, 0, none⟩) n n) := e1.trans e0
   simp only [e1] at hK ⊢
   exact wp_val (.agg (gA (cols : Int) (rows : Int) (.slice (some ⟨g, 0, none⟩) n n))) (by simp [go_sem, gOk]) (hK _ _ ⟨hJ.1.o2 (by decide) hD d0 g e0, vals_upd hJ.2 (.inl rfl)⟩)
  case a18 =>
   obtain ⟨d0, e1⟩ := hJ.1.k1 (hd 16 (by kernel_rfl))
   obtain ⟨g, e0, hg, hrc⟩ := hJ.1.k0 d0
   have e1 : f 16 = gOk (cols : Int) (rows : Int) (.slice (some ⟨g, 0, none⟩) n n) := e1.trans e0
   simp only [e1] at hK ⊢
   exact wp_val (.int .i64 0) (by simp [go_sem, gOk]) (hK _ _ ⟨(hJ.1.other 18 _ (by decide) (by decide) (by decide) (by decide)), vals_upd hJ.2 (.inr rfl)⟩)
  case a21 =>
   obtain ⟨d0, g, e0, e2⟩ := hJ.1.k2 (hd 17 (by kernel_rfl))
   have e2 : f 17 = .agg (gA (cols : Int) (rows : Int) (.slice (some ⟨g, 0, none⟩) n n)) := e2
   have hall : ∀ jj, jj < 18 → D jj = true := by
    intro jj hj
    rcases (show jj = 0 ∨ jj = 1 ∨ jj = 2 ∨ jj = 3 ∨ jj = 4 ∨ jj = 5 ∨ jj = 6 ∨ jj = 7 ∨ jj = 8 ∨ jj = 9 ∨ jj = 10 ∨ jj = 11 ∨ jj = 12 ∨ jj = 13 ∨ jj = 14 ∨ jj = 15 ∨ jj = 16 ∨ jj = 17 by omega) with rfl | rfl | rfl | rfl | rfl | rfl | rfl | rfl | rfl | rfl | rfl | rfl | rfl | rfl | rfl | rfl | rfl | rfl <;> exact hd _ (by kernel_rfl)
   have hbe := hJ.1.a hD
   simp only [e2] at hK ⊢
   exact wp_store_part 24 (.tmp 40) (.tmp 37) rfl p 116 0 (snA { x with mn := x.g } (.slice ga gn gc) vt (.slice ga gn gc) vl) (gA (cols : Int) (rows : Int) (.slice (some ⟨g, 0, none⟩) n n)) (snA { x with mn := x.g, g := ⟨(cols : Int), (rows : Int), l⟩ } (.slice (some ⟨g, 0, none⟩) n n) vt (.slice ga gn gc) vl) rfl rfl (R1.out.below hbe R1.out.lt) S24.out (show 0 + 3 ≤ 44 by omega) (gA_one _ _ _ _ _) rfl (hK _ _ ⟨hJ.1.om (by decide) hD hall HP.out g e0 _, vals_upd hJ.2 (.inl rfl)⟩)
  all_goals (refine wp_of_quiet rfl ?_; go_big_quiet_step (fail); exact wpQuiet_nil (hK _ _ ⟨(hJ.1.other _ _ (by decide) (by decide) (by decide) (by decide)), vals_upd hJ.2 (.inr rfl)⟩))
 ·intro D f wz hD hJ
  have hW := hJ.1
  have P := fun j h h2 => hJ.2 j (hD j h) h2
  obtain ⟨wb, g, e0, e1, e2, hg, hbb, hrc, hw⟩ := hW.fin (by decide) hD
  have e0 : f 15 = _ := e0
  have e1 : f 16 = _ := e1
  have e2 : f 17 = _ := e2
  have HBB := Box'.mk hbb
  have HRC := Box'.mk hrc
  have HWZ := Box'.mk hw
  have HG := Box'.mk hg
  clear hW hrc hw hbb hg
  clear hJ hD
  simp (disch := decide) only [tkS, tkZ, List.drop_succ_cons, List.drop_zero, setAll, siB, stS, stZ, Nat.zero_add, Nat.reduceAdd, P, e0, e1, e2]
  clear P e0 e1 e2
  have BZ : Box' (Bd N wz p { x with mn := x.g, g := ⟨(cols : Int), (rows : Int), l⟩ } (.slice (some ⟨g, 0, none⟩) n n) vt (.slice ga gn gc) vl) := ⟨by
   have hr := HRC.out
   rw [HWZ.out] at hr ⊢
   exact al_bd O1.out R1.out HNP.out rfl HBB.out g n HG.out HNW.out { x with mn := x.g, g := ⟨(cols : Int), (rows : Int), l⟩ } hr HL.out HL2.out rfl rfl rfl⟩
  have TZ : Box' (Below N w wz) := ⟨by rw [HWZ.out]; exact below_setRow (T1.out.trans (HBB.out.mono HNW.out)) HNP.out _⟩
  have cz : wz.cell? ⟨p, 39, none⟩ = some (.bool x.alt) := BZ.out.box.cell 39
  have fz := BZ.out.box.frozen 39
  have B9 : Box' (Bd N (wz.setCell ⟨p, 39, none⟩ (.bool true)) p { x with mn := x.g, g := ⟨(cols : Int), (rows : Int), l⟩, alt := true } (.slice (some ⟨g, 0, none⟩) n n) vt (.slice ga gn gc) vl) := ⟨BZ.out.setCell _ 39 _ rfl rfl rfl rfl rfl⟩
  have T9 : Box' (Below N w (wz.setCell ⟨p, 39, none⟩ (.bool true))) := ⟨TZ.out.trans (((Tc.refl p wz).setCell 39 _).below BZ.out.hp (Nat.le_trans BZ.out.hp (Nat.le_of_lt BZ.out.lt)))⟩
  clear BZ TZ HRC HWZ HBB HG HC
  go_wp2_with fail
  exact bodyPost_end (results_none rfl _ _) rfl ⟨⟨_, rfl⟩, ⟨_, _, B9.out⟩, T9.out⟩
theorem bAlt_off (N : Nat) (w : World) (p : Nat) (x : Sn) (vg vt : Value) (ma : Option Addr) (mn0 mc : Nat) (vl : Value) (h : Bd N w p x vg vt (.slice ma mn0 mc) vl) (hA : x.alt = true) :
  Calls Tryz.prog 139 #[.pointer (some ⟨p, 0, none⟩), .bool false] w fun e w' => (∃ v, e = .returned v) ∧ (∃ vg' vm', Bd N w' p { x with g := x.mn, mn := ⟨0, 0, []⟩, alt := false } vg' vt vm' vl) ∧ Below N w w' := by
 have S24 := Box'.mk s24g
 have O := Box'.mk (gA_one x.mn.co x.mn.ro ma mn0 mc)
 have OZ : Box' ((#[.int .i64 0, .int .i64 0, .slice none 0 0] : Array Value).all (·.oneCell') = true) := ⟨gA_one 0 0 none 0 0⟩
 have HB := Box'.mk h
 have c39 : w.cell? ⟨p, 39, none⟩ = some (.bool true) := by rw [← hA]; exact h.box.cell 39
 have R1 : Box' (Row (w.setRow p (snA { x with g := x.mn } (.slice ma mn0 mc) vt (.slice ma mn0 mc) vl)) p 116 (snA { x with g := x.mn } (.slice ma mn0 mc) vt (.slice ma mn0 mc) vl)) := ⟨h.box.setRow _⟩
 have R2 : Box' (Row ((w.setRow p (snA { x with g := x.mn } (.slice ma mn0 mc) vt (.slice ma mn0 mc) vl)).setRow p (snA { x with g := x.mn, mn := ⟨0, 0, []⟩ } (.slice ma mn0 mc) vt (.slice none 0 0) vl)) p 116 (snA { x with g := x.mn, mn := ⟨0, 0, []⟩ } (.slice ma mn0 mc) vt (.slice none 0 0) vl)) := ⟨R1.out.setRow _⟩
 have O2 : Box' (OwnL N ((w.setRow p (snA { x with g := x.mn } (.slice ma mn0 mc) vt (.slice ma mn0 mc) vl)).setRow p (snA { x with g := x.mn, mn := ⟨0, 0, []⟩ } (.slice ma mn0 mc) vt (.slice none 0 0) vl)) x vg vt (.slice ma mn0 mc) vl) := ⟨(h.own.setRow p 116 _ (h.box.room (n := 44) rfl) (by decide) (by decide) (by decide)).setRow p 116 _ (R1.out.room (n := 44) rfl) (by decide) (by decide) (by decide)⟩
 have BZ : Box' (Bd N ((w.setRow p (snA { x with g := x.mn } (.slice ma mn0 mc) vt (.slice ma mn0 mc) vl)).setRow p (snA { x with g := x.mn, mn := ⟨0, 0, []⟩ } (.slice ma mn0 mc) vt (.slice none 0 0) vl)) p { x with g := x.mn, mn := ⟨0, 0, []⟩ } (.slice ma mn0 mc) vt (.slice none 0 0) vl) := ⟨⟨R2.out, h.hp, O2.out.m, OwnC.nil _ _, (fun b h1 h2 => by simp [Value.ownBlock] at h2), O2.out.t, O2.out.l⟩⟩
 have TZ : Box' (Below N w ((w.setRow p (snA { x with g := x.mn } (.slice ma mn0 mc) vt (.slice ma mn0 mc) vl)).setRow p (snA { x with g := x.mn, mn := ⟨0, 0, []⟩ } (.slice ma mn0 mc) vt (.slice none 0 0) vl))) := ⟨below_setRow (below_setRow bR h.hp _) h.hp _⟩
 clear h O2 R2 hA
 go_enter Tryz.func139, Tryz.ntmps139
 go_upto_region 5 with (first
  | (refine wpList_load_gridM rfl (.tmp 54) rfl p 40 x.mn.co x.mn.ro (.slice ma mn0 mc) rfl (sn_main HB.out.box) ?_)
  | (refine wpList_store_part rfl 24 (.tmp 58) (.tmp 55) rfl p 116 0 (snA x vg vt (.slice ma mn0 mc) vl) (gA x.mn.co x.mn.ro (.slice ma mn0 mc)) (snA { x with g := x.mn } (.slice ma mn0 mc) vt (.slice ma mn0 mc) vl) rfl rfl HB.out.box S24.out (show 0 + 3 ≤ 44 by omega) O.out rfl ?_)
  | (refine wpList_store_part rfl 24 (.tmp 60) (.tmp 56) rfl p 116 40 (snA { x with g := x.mn } (.slice ma mn0 mc) vt (.slice ma mn0 mc) vl) #[.int .i64 0, .int .i64 0, .slice none 0 0] (snA { x with g := x.mn, mn := ⟨0, 0, []⟩ } (.slice ma mn0 mc) vt (.slice none 0 0) vl) rfl rfl R1.out S24.out (show 40 + 3 ≤ 44 by omega) OZ.out rfl ?_))
 clear HB c39 R1
 generalize ((w.setRow p (snA { x with g := x.mn } (.slice ma mn0 mc) vt (.slice ma mn0 mc) vl)).setRow p (snA { x with g := x.mn, mn := ⟨0, 0, []⟩ } (.slice ma mn0 mc) vt (.slice none 0 0) vl)) = wz at *
 have cz : wz.cell? ⟨p, 39, none⟩ = some (.bool x.alt) := BZ.out.box.cell 39
 have fz := BZ.out.box.frozen 39
 have B9 : Box' (Bd N (wz.setCell ⟨p, 39, none⟩ (.bool false)) p { x with g := x.mn, mn := ⟨0, 0, []⟩, alt := false } (.slice ma mn0 mc) vt (.slice none 0 0) vl) := ⟨BZ.out.setCell _ 39 _ rfl rfl rfl rfl rfl⟩
 have T9 : Box' (Below N w (wz.setCell ⟨p, 39, none⟩ (.bool false))) := ⟨TZ.out.trans (((Tc.refl p wz).setCell 39 _).below BZ.out.hp (Nat.le_trans BZ.out.hp (Nat.le_of_lt BZ.out.lt)))⟩
 clear BZ TZ
 go_wp2_with fail
 exact bodyPost_end (results_none rfl _ _) rfl ⟨⟨_, rfl⟩, ⟨_, _, B9.out⟩, T9.out⟩
theorem bAlt_same (N : Nat) (w : World) (p : Nat) (x : Sn) (vg vt vm vl : Value) (h : Bd N w p x vg vt vm vl) :
  Calls Tryz.prog 139 #[.pointer (some ⟨p, 0, none⟩), .bool x.alt] w fun e w' => (∃ v, e = .returned v) ∧ (∃ vg' vm', Bd N w' p x vg' vt vm' vl) ∧ Below N w w' := by
 have c39 : w.cell? ⟨p, 39, none⟩ = some (.bool x.alt) := h.box.cell 39
 have fz := h.box.frozen 39
 have B9 : Box' (Bd N (w.setCell ⟨p, 39, none⟩ (.bool x.alt)) p x vg vt vm vl) := ⟨h.setCell _ 39 _ rfl rfl rfl rfl rfl⟩
 have T9 : Box' (Below N w (w.setCell ⟨p, 39, none⟩ (.bool x.alt))) := ⟨((Tc.refl p w).setCell 39 _).below h.hp (Nat.le_trans h.hp (Nat.le_of_lt h.lt))⟩
 clear h
 generalize x.alt = a at *
 cases a with
 | true =>
  go_enter Tryz.func139, Tryz.ntmps139
  go_wp2_with fail
  exact bodyPost_end (results_none rfl _ _) rfl ⟨⟨_, rfl⟩, ⟨_, _, B9.out⟩, T9.out⟩
 | false =>
  go_enter Tryz.func139, Tryz.ntmps139
  go_wp2_with fail
  exact bodyPost_end (results_none rfl _ _) rfl ⟨⟨_, rfl⟩, ⟨_, _, B9.out⟩, T9.out⟩
theorem bAlt_any (N : Nat) (w : World) (p : Nat) (x : Sn) (vg vt vm vl : Value) (h : Bd N w p x vg vt vm vl) (hG : mayG x.g.co x.g.ro x.g.c = true) (hS : mayS x.cur.st = true) (on : Bool) :
  Calls Tryz.prog 139 #[.pointer (some ⟨p, 0, none⟩), .bool on] w fun e w' => (∃ v, e = .returned v) ∧ (∃ vg' vm', Bd N w' p (alF x on) vg' vt vm' vl) ∧ Below N w w' := by
 obtain ⟨ga, gn, gc, rfl⟩ := own_sl h.own.g
 obtain ⟨ma, mn0, mc, rfl⟩ := own_sl h.own.m
 obtain ⟨cols, rows, g⟩ := gd_of hG
 have sm := bAlt_same N w p x _ _ _ _ h
 have hle : cols * rows ≤ 512 * 512 := Nat.mul_le_mul g.c2 g.r2
 unfold alF
 cases hA : x.alt with
 | true =>
  rw [hA] at sm
  cases on with
  | true => exact sm
  | false => exact bAlt_off N w p x _ _ ma mn0 mc _ h hA
 | false =>
  rw [hA] at sm
  cases on with
  | false => exact sm
  | true =>
   have := bAlt_on N w p x ga gn gc _ _ _ h hA cols rows (cols * rows) g.ec g.er (by omega) (List.replicate (cols * rows) (bl x.cur.st)) (by simp) (fun wa => (new_ok cols rows x.cur.st wa g.c1 g.c2 g.r1 g.r2 hS).mono (by
    rintro e w' ⟨b, rfl, h1, h2, h3⟩
    exact ⟨_, rfl, b, rfl, h1, h2, h3⟩))
   refine this.mono ?_
   rintro e w' ⟨h1, ⟨vg', vm', h2⟩, h3⟩
   refine ⟨h1, ⟨vg', vm', ?_⟩, h3⟩
   rw [if_neg (by decide), if_pos rfl, g.ec, g.er, Int.toNat_natCast, Int.toNat_natCast]
   exact h2
end Go.Proofs.YtlekleeckcdcgaaGreat
