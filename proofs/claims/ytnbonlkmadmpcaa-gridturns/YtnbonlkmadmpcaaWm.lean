/- A region that draws its order, of which one operation writes into what is one's own. The reference's New. The reference's Resize. -/
import Derived.Test.YtnbonlkmadmpcaaGu
import Derived.Test.YtnbonlkmadmpcaaWk
namespace Go.Proofs.Ytnbonlkmadmpcaa
open Go.RowKit
section
variable {P : Program} {Q : Exit → Act → World → Prop}
/-- What each operation of the head must do, but the j-th, which writes. -/
def GrowsBut (P : Program) (Q : Exit → Act → World → Prop) (j : Nat) (G : World → World → Prop) (C : World → Prop) (V : Nat → World → Value → Prop) (l0 : List Oper) (t : Array Value) (df : List Deferred) : List Oper → Nat → Prop
 | [], _ => True
 | o :: r, k => (k ≠ j → ∀ f w, C w → (∀ i, behind o i = true → V i w (f i)) → ∀ K : Act → World → Prop, (∀ v w', V k w' v → G w w' → K ((⟨setAll l0 0 f t, df⟩ : Act).put o.dst v) w') → o.wp P ⟨setAll l0 0 f t, df⟩ w K Q) ∧ GrowsBut P Q j G C V l0 t df r (k + 1)
def Jo (n j : Nat) (C A : World → Prop) (V : Nat → World → Value → Prop) (D : Nat → Bool) (f : Nat → Value) (w : World) : Prop := C w ∧ (D j = false → A w) ∧ ∀ k, k < n → D k = true → V k w (f k)
theorem growsBut_walks {n j : Nat} {G G' : World → World → Prop} {C A : World → Prop} {V : Nat → World → Value → Prop} {l0 : List Oper} {t : Array Value} {df : List Deferred}
  (hC : ∀ w w', G w w' → C w → C w') (hA : ∀ w w', C w → G w w' → A w → A w') (hV : ∀ k v w w', C w → G w w' → V k w v → V k w' v)
  (hC' : ∀ w w', G' w w' → C w → A w → C w') (hV' : ∀ k v w w', k ≠ j → C w → A w → G' w w' → V k w v → V k w' v) :
  ∀ (l : List Oper) (k : Nat), GrowsBut P Q j G C V l0 t df l k → (∀ (i : Nat) (o : Oper), l[i]? = some o → ∀ q, behind o q = true → q < n) →
   (∀ (i : Nat) (o : Oper), l[i]? = some o → k + i = j → ∀ f w, C w → A w → (∀ i, behind o i = true → V i w (f i)) → ∀ K : Act → World → Prop, (∀ v w', V j w' v → G' w w' → K ((⟨setAll l0 0 f t, df⟩ : Act).put o.dst v) w') → o.wp P ⟨setAll l0 0 f t, df⟩ w K Q) →
   Walks P Q (Jo n j C A V) l0 t df l k := by
 intro l
 induction l with
 | nil => intro k _ _ _; trivial
 | cons o r ih =>
  intro k hg hb hw
  refine ⟨fun D f w hJ hD hbD K hK => ?_, ih (k + 1) hg.2 (fun i o' h q hq => hb (i + 1) o' (by simpa using h) q hq) (fun i o' h e => hw (i + 1) o' (by simpa using h) (by omega))⟩
  obtain ⟨h1, h2, h3⟩ := hJ
  have hbv : ∀ i, behind o i = true → V i w (f i) := fun i hi => h3 i (hb 0 o rfl i hi) (hbD i hi)
  by_cases e : k = j
  ·subst e
   refine hw 0 o rfl (by omega) f w h1 (h2 hD) hbv K fun v w' hv hG => hK v w' ⟨hC' _ _ hG h1 (h2 hD), fun h => by simp [updB] at h, fun q hq hd => ?_⟩
   by_cases e2 : q = k
   ·subst e2; simpa [upd] using hv
   ·simp only [upd, if_neg e2]
    simp only [updB, if_neg e2] at hd
    exact hV' q _ _ _ e2 h1 (h2 hD) hG (h3 q hq hd)
  ·refine hg.1 e f w h1 hbv K fun v w' hv hG => hK v w' ⟨hC _ _ hG h1, fun h => ?_, fun q hq hd => ?_⟩
   ·simp only [updB, if_neg (fun (h : j = k) => e h.symm)] at h
    exact hA _ _ h1 hG (h2 h)
   ·by_cases e2 : q = k
    ·subst e2; simpa [upd] using hv
    ·simp only [upd, if_neg e2]
     simp only [updB, if_neg e2] at hd
     exact hV q _ _ _ h1 hG (h3 q hq hd)
/-- A region that draws its order, of which one operation writes into what is one's own. -/
theorem wp_region_once {id : Nat} {t : Array Value} {df : List Deferred} {w : World} {l : List Oper} (n j : Nat) (hm : P.follows .mixedOrders = true) (hB : growB l n = true) (ow : Oper) (how : (l.take n)[j]? = some ow)
  (G G' : World → World → Prop) (C A : World → Prop) (V : Nat → World → Value → Prop)
  (hC : ∀ w w', G w w' → C w → C w') (hA : ∀ w w', C w → G w w' → A w → A w') (hV : ∀ k v w w', C w → G w w' → V k w v → V k w' v)
  (hC' : ∀ w w', G' w w' → C w → A w → C w') (hV' : ∀ k v w w', k ≠ j → C w → A w → G' w w' → V k w v → V k w' v)
  (h0 : C w.drew) (hA0 : A w.drew)
  (hops : GrowsBut P Q j G C V (l.take n) t df (l.take n) 0)
  (hwr : ∀ f w, C w → A w → (∀ i, behind ow i = true → V i w (f i)) → ∀ K : Act → World → Prop, (∀ v w', V j w' v → G' w w' → K ((⟨setAll (l.take n) 0 f t, df⟩ : Act).put ow.dst v) w') → ow.wp P ⟨setAll (l.take n) 0 f t, df⟩ w K Q)
  (hend : ∀ f w', C w' → (∀ k, k < n → V k w' (f k)) → wpList P l.toArray Q (l.drop n) ⟨setAll (l.take n) 0 f t, df⟩ w') :
  (Code.region id l.toArray true).wp P Q ⟨t, df⟩ w := by
 refine wp_region_walk n hm hB (Jo n j C A V) (fun f => ⟨h0, fun _ => hA0, fun k _ h => by cases h⟩) (growsBut_walks hC hA hV hC' hV' _ 0 hops ?_ ?_) (fun D f w' hD hJ => hend f w' hJ.1 fun k hk => hJ.2.2 k hk (hD k hk))
 ·intro i o ho q hq
  simp only [growB, Bool.and_eq_true, List.all_eq_true, List.mem_range, decide_eq_true_eq] at hB
  obtain ⟨⟨⟨_, hB2⟩, _⟩, hn⟩ := hB
  have hin : i < n := by
   rcases Nat.lt_or_ge i n with h | h
   ·exact h
   ·rw [List.getElem?_take, if_neg (by omega)] at ho; cases ho
  rw [List.getElem?_take, if_pos hin] at ho
  have h2 := hB2 i (by omega)
  rw [ho] at h2
  simp only [Option.map_some, Option.getD_some, List.all_eq_true, Bool.or_eq_true, Bool.not_eq_true', decide_eq_true_eq] at h2
  unfold behind at hq
  rw [List.any_eq_true] at hq
  obtain ⟨e, he, hh⟩ := hq
  simp only [Bool.and_eq_true, beq_iff_eq] at hh
  have h3 := (h2 e he).resolve_left (by rw [hh.2]; simp)
  rw [hh.1] at h3
  omega
 ·intro i o ho e f w hc ha hb K hK
  have e' : i = j := by omega
  subst e'
  rw [how] at ho
  cases ho
  exact hwr f w hc ha hb K hK
end
end Go.Proofs.Ytnbonlkmadmpcaa
namespace Go.Proofs.Ytnbonlkmadmpcaa
open Go.RowKit Go.BigFrame
set_option linter.unusedVariables false
set_option linter.unusedSimpArgs false
/-- What stands while a grid is made: the style, the room of the answer. -/
structure FrN (w : World) (s : St) (wr : World) : Prop where
 rs : Row wr w.heap.size 26 (sA s)
 rr : Room wr (w.heap.size + 1) 24 3
 be : Below w.heap.size w wr
 sz : w.heap.size + 2 ≤ wr.heap.size
theorem FrN.begin (w : World) (s : St) : FrN w s ((w.alloc (.cells (sA s) 26)).alloc (.cells #[.int .i64 0, .int .i64 0, .slice none 0 0] 24)) :=
 ⟨(Row.new _ _ _).alloc _, Room.made _ _ _ _ _ rfl (by simp), ((Below.refl w.heap.size w).alloc (Nat.le_refl _) _).alloc (by simp) _, by simp⟩
theorem FrN.under {w : World} {s : St} {wr w' : World} {M : Nat} (h : FrN w s wr) (hb : Below M wr w') (hM : w.heap.size + 2 ≤ M) : FrN w s w' :=
 ⟨h.rs.below hb (by omega), h.rr.below hb (by omega), h.be.trans (hb.mono (by omega)), Nat.le_trans h.sz hb.size⟩
theorem FrN.below {w : World} {s : St} {wr w' : World} (h : FrN w s wr) (hb : Below wr.heap.size wr w') : FrN w s w' := h.under hb h.sz
theorem FrN.set {w : World} {s : St} {wr : World} (h : FrN w s wr) (q k : Nat) (v : Value) (hq : w.heap.size + 2 ≤ q) : FrN w s (wr.setCell ⟨q, k, none⟩ v) :=
 ⟨h.rs.setOther _ _ (by show w.heap.size ≠ q; omega), h.rr.setOther _ _ (by show w.heap.size + 1 ≠ q; omega), h.be.setCell (p := ⟨q, k, none⟩) (by show w.heap.size ≤ q; omega) _, Nat.le_trans h.sz ((Below.refl 0 wr).setCell (p := ⟨q, k, none⟩) (Nat.zero_le _) v).size⟩
set_option maxRecDepth 100000 in
theorem run_mk1 (w : World) (x : Cl) : (Instr.buildSlice 22 1 #[(0, .agg (cA x))]).run Try.prog w = .ok (.slice (some ⟨w.heap.size, 0, none⟩) 1 1) (w.alloc (.cells (cA x) 49)) := by
 simp [go_sem, cA]
theorem wp_mk1 {op : Oper} {a : Act} {w : World} {K : Act → World → Prop} {Q : Exit → Act → World → Prop} (p : Operand) (x : Cl) (ho : op.op = .buildSlice 22 1 #[(0, p)]) (hp : a.eval p = .agg (cA x))
  (h : K (a.put op.dst (.slice (some ⟨w.heap.size, 0, none⟩) 1 1)) (w.alloc (.cells (cA x) 49))) : op.wp Try.prog a w K Q := by
 unfold Oper.wp execOp
 simp only [ho, Sem.run_bind, List.map_toArray, List.map_cons, List.map_nil, hp, run_mk1, Result.andThen_ok, Sem.run_pure]
 exact h
theorem wp_appC1 {o : Oper} {a : Act} {w : World} {K : Act → World → Prop} {Q : Exit → Act → World → Prop} (s x : Operand)
  (ho : o.op = .call { callee := .builtin .append, args := #[s, x], argTypes := #[22, 22] }) (N : Nat) (hN : N ≤ w.heap.size)
  (v : Value) (d : List Cl) (hs : a.eval s = v) (hown : OwnC N w v d) (p : Nat) (y : Cl) (hx : a.eval x = .slice (some ⟨p, 0, none⟩) 1 1) (hin : RC w p [y] []) (hmax : (d.length + 1) * 48 ≤ 140737488355328)
  (h : ∀ v' w', OwnC N w' v' (d ++ [y]) → w.grownBy w' v.ownBlock → Below N w w' → K (a.put o.dst v') w') : o.wp Try.prog a w K Q := by
 obtain ⟨i, z, h1, h2, h3, h4, h5⟩ := info26'
 have hc : ∀ j u, (cLs [y])[j]? = some u → w.cell? ((⟨p, 0, none⟩ : Addr).add j) = some u := fun j u hu => by
  have hj : j < 15 := by have := (List.getElem?_eq_some_iff.1 hu).1; rw [cLs_len] at this; simpa using this
  have := hin.cell 0 j (by simp) hj
  rw [Addr.add_mid, Nat.zero_add]
  rw [Nat.zero_mul, Nat.zero_add] at this
  rw [this]
  simpa [cLs] using hu
 obtain ⟨v', w', hr, g2, g3, _⟩ := run_append_own (P := Try.prog) w N 22 o.type 49 i z 15 48 Try.underlying22 h1 h2 h3 h4 h5 (by decide) v d.length _ hown ⟨p, 0, none⟩ 1 1 (cLs [y]) (cLs_len [y]) hc (cLs_oneCell [y]) (by unfold maxLen; omega) hmax hN
 have g2' : OwnC N w' v' (d ++ [y]) := by unfold OwnC; rw [List.length_append, cLs_app]; exact g2
 have hbl : Below N w w' := ⟨g3.os, g3.tape, g3.output, g3.size, fun k hk => g3.block k (by omega) (fun e => by have := (hown.lt k e.symm).1; omega)⟩
 unfold Oper.wp execOp
 simp only [ho, resolve, invoke, builtin, Sem.run_bind, Sem.run_pure, Result.andThen_ok, List.map_toArray, List.map_cons, List.map_nil, hs, hx, hr]
 exact h v' w' g2' g3 hbl
theorem grown_row {w w' : World} {o : Option Nat} (h : w.grownBy w' o) {b : Nat} {t : TypeId} {c : Array Value} (hr : Row w b t c) (hne : ∀ g, o = some g → g ≠ b) : Row w' b t c := by
 show w'.heap[b]? = _
 rw [h.block b hr.lt (fun e => hne b e.symm rfl)]
 exact hr
set_option maxRecDepth 100000 in
set_option maxHeartbeats 8000000 in
theorem rnew_no0 (co ro : Int) (s : St) (w : World) (h1 : sideF co = false) :
  Calls Try.prog 8 #[.int .i64 co, .int .i64 ro, .agg (sA s)] w fun e w' => e = .returned gErr ∧ Below w.heap.size w w' := by
 have S1 := Box'.mk (side_any co)
 have S2 := Box'.mk (side_any ro)
 have MS := Box'.mk (refMayStyle_any s)
 rw [h1] at S1
 clear h1
 have F := Box'.mk (FrN.begin w s)
 have U24 := Box'.mk Try.underlying24
 have S24 := Box'.mk s24g
 have O := Box'.mk (gA_one 0 0 none 0 0)
 go_enter Try.func8, Try.ntmps8
 go_upto_region 1 with (fail)
 generalize ((w.alloc (.cells (sA s) 26)).alloc (.cells #[.int .i64 0, .int .i64 0, .slice none 0 0] 24)) = w1 at *
 go_wp2_with fail
 refine (S1.out _).mono ?_
 rintro e w2 ⟨rfl, rfl⟩
 go_wp2_with (first
  | (refine wpList_store_row rfl 24 (.tmp 6) (.tmp 23) rfl (w.heap.size + 1) rfl (gA 0 0 (.slice none 0 0)) rfl 24 3 F.out.rr S24.out rfl O.out ?_))
 exact bodyPost_ret (results_two rfl _ (w.heap.size + 1) rfl _ rfl _ _ (F.out.rr.setRow _) rfl) rfl ⟨rfl, below_setRow F.out.be (by omega) _⟩
set_option maxRecDepth 100000 in
set_option maxHeartbeats 8000000 in
theorem rnew_no1 (co ro : Int) (s : St) (w : World) (h1 : sideF co = true) (h2 : sideF ro = false) :
  Calls Try.prog 8 #[.int .i64 co, .int .i64 ro, .agg (sA s)] w fun e w' => e = .returned gErr ∧ Below w.heap.size w w' := by
 have S1 := Box'.mk (side_any co)
 have S2 := Box'.mk (side_any ro)
 have MS := Box'.mk (refMayStyle_any s)
 rw [h1] at S1
 rw [h2] at S2
 clear h1 h2
 have F := Box'.mk (FrN.begin w s)
 have U24 := Box'.mk Try.underlying24
 have S24 := Box'.mk s24g
 have O := Box'.mk (gA_one 0 0 none 0 0)
 go_enter Try.func8, Try.ntmps8
 go_upto_region 1 with (fail)
 generalize ((w.alloc (.cells (sA s) 26)).alloc (.cells #[.int .i64 0, .int .i64 0, .slice none 0 0] 24)) = w1 at *
 go_wp2_with fail
 refine (S1.out _).mono ?_
 rintro e w2 ⟨rfl, rfl⟩
 go_wp2_with fail
 refine (S2.out _).mono ?_
 rintro e w2 ⟨rfl, rfl⟩
 go_wp2_with (first
  | (refine wpList_store_row rfl 24 (.tmp 6) (.tmp 23) rfl (w.heap.size + 1) rfl (gA 0 0 (.slice none 0 0)) rfl 24 3 F.out.rr S24.out rfl O.out ?_))
 exact bodyPost_ret (results_two rfl _ (w.heap.size + 1) rfl _ rfl _ _ (F.out.rr.setRow _) rfl) rfl ⟨rfl, below_setRow F.out.be (by omega) _⟩
set_option maxRecDepth 100000 in
set_option maxHeartbeats 8000000 in
theorem rnew_no2 (co ro : Int) (s : St) (w : World) (h1 : sideF co = true) (h2 : sideF ro = true) (h3 : mayS s = false) :
  Calls Try.prog 8 #[.int .i64 co, .int .i64 ro, .agg (sA s)] w fun e w' => e = .returned gErr ∧ Below w.heap.size w w' := by
 have S1 := Box'.mk (side_any co)
 have S2 := Box'.mk (side_any ro)
 have MS := Box'.mk (refMayStyle_any s)
 rw [h1] at S1
 rw [h2] at S2
 rw [h3] at MS
 clear h1 h2 h3
 have F := Box'.mk (FrN.begin w s)
 have U24 := Box'.mk Try.underlying24
 have S24 := Box'.mk s24g
 have O := Box'.mk (gA_one 0 0 none 0 0)
 go_enter Try.func8, Try.ntmps8
 go_upto_region 1 with (fail)
 generalize ((w.alloc (.cells (sA s) 26)).alloc (.cells #[.int .i64 0, .int .i64 0, .slice none 0 0] 24)) = w1 at *
 go_wp2_with fail
 refine (S1.out _).mono ?_
 rintro e w2 ⟨rfl, rfl⟩
 go_wp2_with fail
 refine (S2.out _).mono ?_
 rintro e w2 ⟨rfl, rfl⟩
 have cs0 : w2.cell? ⟨w.heap.size, 0, none⟩ = some (.int .i64 s.fg) := F.out.rs.cell 0
 have cs1 : w2.cell? ⟨w.heap.size, 1, none⟩ = some (.int .i64 s.bg) := F.out.rs.cell 1
 have cs2 : w2.cell? ⟨w.heap.size, 2, none⟩ = some (.bool s.b1) := F.out.rs.cell 2
 have cs3 : w2.cell? ⟨w.heap.size, 3, none⟩ = some (.bool s.b2) := F.out.rs.cell 3
 have cs4 : w2.cell? ⟨w.heap.size, 4, none⟩ = some (.bool s.b3) := F.out.rs.cell 4
 have cs5 : w2.cell? ⟨w.heap.size, 5, none⟩ = some (.bool s.b4) := F.out.rs.cell 5
 have cs6 : w2.cell? ⟨w.heap.size, 6, none⟩ = some (.bool s.b5) := F.out.rs.cell 6
 have cs7 : w2.cell? ⟨w.heap.size, 7, none⟩ = some (.bool s.b7) := F.out.rs.cell 7
 have cs8 : w2.cell? ⟨w.heap.size, 8, none⟩ = some (.bool s.b8) := F.out.rs.cell 8
 have cs9 : w2.cell? ⟨w.heap.size, 9, none⟩ = some (.bool s.b9) := F.out.rs.cell 9
 go_wp2_with fail
 refine (MS.out _).mono ?_
 rintro e w3 ⟨rfl, hb⟩
 replace F := Box'.mk (F.out.below hb)
 clear hb cs0 cs1 cs2 cs3 cs4 cs5 cs6 cs7 cs8 cs9
 go_wp2_with (first
  | (refine wpList_store_row rfl 24 (.tmp 6) (.tmp 23) rfl (w.heap.size + 1) rfl (gA 0 0 (.slice none 0 0)) rfl 24 3 F.out.rr S24.out rfl O.out ?_))
 exact bodyPost_ret (results_two rfl _ (w.heap.size + 1) rfl _ rfl _ _ (F.out.rr.setRow _) rfl) rfl ⟨rfl, below_setRow F.out.be (by omega) _⟩
set_option maxRecDepth 100000 in
set_option maxHeartbeats 16000000 in
theorem rnew_ok (cols rows : Nat) (s : St) (w : World) (h1 : 1 ≤ cols) (h2 : cols ≤ 512) (h3 : 1 ≤ rows) (h4 : rows ≤ 512) (hS : mayS s = true) :
  Calls Try.prog 8 #[.int .i64 (cols : Int), .int .i64 (rows : Int), .agg (sA s)] w fun e w' => ∃ b cap sp, e = .returned (gOk (cols : Int) (rows : Int) (.slice (some ⟨b, 0, none⟩) (cols * rows) cap)) ∧ w.heap.size ≤ b ∧ cols * rows ≤ cap ∧ RC w' b (List.replicate (cols * rows) (bl s)) sp ∧ Below w.heap.size w w' := by
 have S1 := Box'.mk (side_any (cols : Int))
 rw [show sideF (cols : Int) = true by unfold sideF; simp; omega] at S1
 have S2 := Box'.mk (side_any (rows : Int))
 rw [show sideF (rows : Int) = true by unfold sideF; simp; omega] at S2
 have MS := Box'.mk (refMayStyle_any s)
 rw [hS] at MS
 have SB := Box'.mk (refBlank_any s)
 have F := Box'.mk (FrN.begin w s)
 have U24 := Box'.mk Try.underlying24
 have S24 := Box'.mk s24g
 have U26 := Box'.mk Try.underlying26
 have S26 := Box'.mk s24
 have O := Box'.mk (gA_one (cols : Int) (rows : Int) none 0 0)
 have hm : (cols : Int) * (rows : Int) = ((cols * rows : Nat) : Int) := (Int.natCast_mul cols rows).symm
 have hle : cols * rows ≤ 512 * 512 := Nat.mul_le_mul h2 h4
 have hpos : 1 * 1 ≤ cols * rows := Nat.mul_le_mul h1 h3
 have m1 : (cols : Int) * (rows : Int) ≤ 262144 := by rw [hm]; omega
 have m0 : 0 ≤ (cols : Int) * (rows : Int) := by rw [hm]; omega
 have HM := Box'.mk hm
 clear hm hS
 go_enter Try.func8, Try.ntmps8
 go_upto_region 1 with (fail)
 generalize ((w.alloc (.cells (sA s) 26)).alloc (.cells #[.int .i64 0, .int .i64 0, .slice none 0 0] 24)) = w1 at *
 go_wp2_with fail
 refine (S1.out _).mono ?_
 rintro e w2 ⟨rfl, rfl⟩
 go_wp2_with fail
 refine (S2.out _).mono ?_
 rintro e w2 ⟨rfl, rfl⟩
 have cs0 : w2.cell? ⟨w.heap.size, 0, none⟩ = some (.int .i64 s.fg) := F.out.rs.cell 0
 have cs1 : w2.cell? ⟨w.heap.size, 1, none⟩ = some (.int .i64 s.bg) := F.out.rs.cell 1
 have cs2 : w2.cell? ⟨w.heap.size, 2, none⟩ = some (.bool s.b1) := F.out.rs.cell 2
 have cs3 : w2.cell? ⟨w.heap.size, 3, none⟩ = some (.bool s.b2) := F.out.rs.cell 3
 have cs4 : w2.cell? ⟨w.heap.size, 4, none⟩ = some (.bool s.b3) := F.out.rs.cell 4
 have cs5 : w2.cell? ⟨w.heap.size, 5, none⟩ = some (.bool s.b4) := F.out.rs.cell 5
 have cs6 : w2.cell? ⟨w.heap.size, 6, none⟩ = some (.bool s.b5) := F.out.rs.cell 6
 have cs7 : w2.cell? ⟨w.heap.size, 7, none⟩ = some (.bool s.b7) := F.out.rs.cell 7
 have cs8 : w2.cell? ⟨w.heap.size, 8, none⟩ = some (.bool s.b8) := F.out.rs.cell 8
 have cs9 : w2.cell? ⟨w.heap.size, 9, none⟩ = some (.bool s.b9) := F.out.rs.cell 9
 go_wp2_with fail
 refine (MS.out _).mono ?_
 rintro e w3 ⟨rfl, hb⟩
 replace F := Box'.mk (F.out.below hb)
 clear hb cs0 cs1 cs2 cs3 cs4 cs5 cs6 cs7 cs8 cs9
 have RMq : Box' (Room (w3.alloc (.cells #[.int .i64 0, .int .i64 0, .slice none 0 0] 24)) w3.heap.size 24 3) := ⟨Room.new _ _ _ _ rfl⟩
 have BQ : Box' (Below w3.heap.size w3 ((w3.alloc (.cells #[.int .i64 0, .int .i64 0, .slice none 0 0] 24)).setRow w3.heap.size (gA (cols : Int) (rows : Int) (.slice none 0 0)))) := ⟨below_setRow (bR.alloc (Nat.le_refl _) _) (Nat.le_refl _) _⟩
 have RI : Box' (Row ((w3.alloc (.cells #[.int .i64 0, .int .i64 0, .slice none 0 0] 24)).setRow w3.heap.size (gA (cols : Int) (rows : Int) (.slice none 0 0))) w3.heap.size 24 (gA (cols : Int) (rows : Int) (.slice none 0 0))) := ⟨RMq.out.setRow _⟩
 go_upto_region 4 with (first
  | (refine wpList_store_row rfl 24 (.tmp 8) (.tmp 26) rfl w3.heap.size rfl (gA (cols : Int) (rows : Int) (.slice none 0 0)) rfl 24 3 RMq.out S24.out rfl O.out ?_))
 generalize ((w3.alloc (.cells #[.int .i64 0, .int .i64 0, .slice none 0 0] 24)).setRow w3.heap.size (gA (cols : Int) (rows : Int) (.slice none 0 0))) = w4 at *
 have FI := Box'.mk (F.out.below BQ.out)
 have hq2 : w.heap.size + 2 ≤ w3.heap.size := F.out.sz
 clear RMq BQ F S1 S2 MS
 generalize w3.heap.size = q at *
 go_wp2_with fail
 go_loopw [9] (fun u wr => ∃ (k : Nat) (a : Option Addr) (cp : Nat), u = .int .i64 (k : Int) ∧ k ≤ cols * rows ∧ Box' (FrN w s wr) ∧ Box' (Row wr q 24 (gA (cols : Int) (rows : Int) (.slice a k cp))) ∧ Box' (OwnC (q + 1) wr (.slice a k cp) (List.replicate k (bl s)))) (fun u _ => cols * rows - (intOf u).toNat)
 case atStart => exact ⟨0, none, 0, rfl, by omega, FI, RI, ⟨OwnC.nil _ _⟩⟩
 case round =>
  clear FI RI
  obtain ⟨k, a, cp, rfl, hk, FI, RI, OI⟩ := hrel
  by_cases hlt : k < cols * rows
  case pos =>
   have hlt2 : (k : Int) < (cols : Int) * (rows : Int) := by rw [HM.out]; omega
   have HO : Box' (∀ g, (Value.slice a k cp).ownBlock = some g → g < wr.heap.size) := ⟨fun g e => (OI.out.lt g e).2⟩
   go_upto_region 7 with (fail)
   refine wp_region_once 7 5 (by kernel_rfl) (by kernel_rfl) _ rfl (fun wa wb => Below wa.heap.size wa wb) (fun wa wb => wa.grownBy wb (Value.slice a k cp).ownBlock ∧ Below (q + 1) wa wb) (fun wa => FrN w s wa ∧ Row wa q 24 (gA (cols : Int) (rows : Int) (.slice a k cp)) ∧ wr.heap.size ≤ wa.heap.size) (fun wa => OwnC (q + 1) wa (.slice a k cp) (List.replicate k (bl s))) (fun kc wa v => match kc with
    | 0 => v = .pointer (some ⟨q, 2, none⟩)
    | 1 => v = .slice a k cp
    | 2 => v = .agg (sA s)
    | 3 => v = .agg (cA (bl s))
    | 4 => ∃ p4, v = .slice (some ⟨p4, 0, none⟩) 1 1 ∧ wr.heap.size ≤ p4 ∧ RC wa p4 [bl s] []
    | 5 => OwnC (q + 1) wa v (List.replicate k (bl s) ++ [bl s])
    | 6 => v = .pointer (some ⟨q, 2, none⟩)
    | _ => True) ?_ ?_ ?_ ?_ ?_ ?_ ?_ ?_ ?_ ?_
   ·rintro wa wb hb ⟨a1, a2, a3⟩; exact ⟨a1.below hb, a2.below hb a2.lt, Nat.le_trans a3 hb.size⟩
   ·intro wa wb _ hb h; exact h.below hb
   ·intro kc v wa wb hC1 hb h
    match kc, h with
    | 0, h => exact h
    | 1, h => exact h
    | 2, h => exact h
    | 3, h => exact h
    | 4, h => exact Exists.elim h fun p hp => ⟨p, hp.1, hp.2.1, hp.2.2.below hb hp.2.2.lt⟩
    | 5, h => exact h.below hb
    | 6, h => exact h
    | kc + 7, h => trivial
   ·rintro wa wb ⟨_, hb⟩ ⟨a1, a2, a3⟩ _; exact ⟨a1.under hb (by omega), a2.below hb (by omega), Nat.le_trans a3 hb.size⟩
   ·intro kc v wa wb hne hC1 hA1 hb h
    match kc, hne, h with
    | 0, _, h => exact h
    | 1, _, h => exact h
    | 2, _, h => exact h
    | 3, _, h => exact h
    | 4, _, h => exact Exists.elim h fun p hp => ⟨p, hp.1, hp.2.1, grown_row hb.1 hp.2.2 (fun g e => by have := HO.out g e; omega)⟩
    | 5, hne, _ => exact absurd rfl hne
    | 6, _, h => exact h
    | kc + 7, _, h => trivial
   ·exact ⟨FI.out.below (bR.drew), RI.out.below (bR.drew) RI.out.lt, ((Below.refl wr.heap.size wr).drew).size⟩
   ·exact OI.out.below (bR.drew)
   ·refine ⟨?_, ?_, ?_, ?_, ?_, ?_, ?_, trivial⟩
    ·intro _ f wq hC hd KK hK
     clear hd
     simp only [tkS, tkZ, setAll, siB, stS, stZ, Nat.zero_add, Nat.reduceAdd] at hK ⊢
     refine wp_of_quiet rfl ?_
     go_big_quiet_step (fail)
     exact wpQuiet_nil (hK _ _ (rfl) bR)
    ·intro _ f wq hC hd KK hK
     have g0 : f 0 = .pointer (some ⟨q, 2, none⟩) := hd 0 (by kernel_rfl)
     clear hd
     have c2 : wq.cell? ⟨q, 2, none⟩ = some (.slice a k cp) := hC.2.1.cell 2
     clear hC
     simp only [tkS, tkZ, setAll, siB, stS, stZ, Nat.zero_add, Nat.reduceAdd, g0] at hK ⊢
     refine wp_of_quiet rfl ?_
     go_big_quiet_step (fail)
     exact wpQuiet_nil (hK _ _ (rfl) bR)
    ·intro _ f wq hC hd KK hK
     clear hd
     simp only [tkS, tkZ, setAll, siB, stS, stZ, Nat.zero_add, Nat.reduceAdd] at hK ⊢
     exact wp_load_row 26 (.tmp 5) rfl w.heap.size rfl 26 (sA s) hC.1.rs _ U26.out rfl 10 S26.out rfl (hK _ _ rfl bR)
    ·intro _ f wq hC hd KK hK
     have g2 : f 2 = .agg (sA s) := hd 2 (by kernel_rfl)
     clear hd
     simp only [tkS, tkZ, setAll, siB, stS, stZ, Nat.zero_add, Nat.reduceAdd, g2] at hK ⊢
     exact wp_call 31 #[.agg (sA s)] (by simp [go_sem]) _ _ (SB.out wq) (fun w' hb => hK _ _ rfl hb)
    ·intro _ f wq hC hd KK hK
     have g3 : f 3 = .agg (cA (bl s)) := hd 3 (by kernel_rfl)
     clear hd
     simp only [tkS, tkZ, setAll, siB, stS, stZ, Nat.zero_add, Nat.reduceAdd, g3] at hK ⊢
     exact wp_mk1 (.tmp 37) (bl s) rfl rfl (hK _ _ ⟨_, rfl, hC.2.2, rc_one (Row.new _ _ _)⟩ (bR.alloc (Nat.le_refl _) _))
    ·intro hh; exact (hh rfl).elim
    ·intro _ f wq hC hd KK hK
     clear hd
     simp only [tkS, tkZ, setAll, siB, stS, stZ, Nat.zero_add, Nat.reduceAdd] at hK ⊢
     refine wp_of_quiet rfl ?_
     go_big_quiet_step (fail)
     exact wpQuiet_nil (hK _ _ (rfl) bR)
   ·intro f wq hC hA hd KK hK
    have g1 : f 1 = .slice a k cp := hd 1 (by kernel_rfl)
    obtain ⟨p4, g4, hp4, r4⟩ := hd 4 (by kernel_rfl)
    clear hd
    simp only [tkS, tkZ, setAll, siB, stS, stZ, Nat.zero_add, Nat.reduceAdd, g1, g4] at hK ⊢
    exact wp_appC1 (.tmp 35) (.tmp 38) rfl (q + 1) (by have := hC.2.1.lt; omega) (.slice a k cp) _ rfl hA p4 (bl s) rfl r4 (by rw [List.length_replicate]; omega) fun v' w' h1 h2 h3 => hK _ _ h1 ⟨h2, h3⟩
   ·intro f wz hC hv
    have p0 : f 0 = .pointer (some ⟨q, 2, none⟩) := hv 0 (by decide)
    have p1 : f 1 = .slice a k cp := hv 1 (by decide)
    have p2 : f 2 = .agg (sA s) := hv 2 (by decide)
    have p3 : f 3 = .agg (cA (bl s)) := hv 3 (by decide)
    have p4 : ∃ p4, (f 4) = .slice (some ⟨p4, 0, none⟩) 1 1 ∧ wr.heap.size ≤ p4 ∧ RC wz p4 [bl s] [] := hv 4 (by decide)
    have p5 : OwnC (q + 1) wz (f 5) (List.replicate k (bl s) ++ [bl s]) := hv 5 (by decide)
    have p6 : f 6 = .pointer (some ⟨q, 2, none⟩) := hv 6 (by decide)
    simp only [tkS, tkZ, List.drop_succ_cons, List.drop_zero, setAll, siB, stS, stZ, Nat.zero_add, Nat.reduceAdd, p0, p1, p2, p3, p6]
    clear hv p0 p1 p2 p3 p6
    clear p4
    generalize f 4 = v4 at *
    generalize f 5 = v5 at *
    obtain ⟨a5, c5, rfl, hc5⟩ := p5.slice
    rw [List.length_append, List.length_replicate, List.length_singleton] at *
    have E : List.replicate k (bl s) ++ [bl s] = List.replicate (k + 1) (bl s) := (List.replicate_succ').symm
    rw [E] at p5
    have cc : wz.cell? ⟨q, 2, none⟩ = some (.slice a k cp) := hC.2.1.cell 2
    have ff := hC.2.1.frozen 2
    have F8 := Box'.mk (hC.1.set q 2 (.slice a5 (k + 1) c5) hq2)
    have R8 : Box' (Row (wz.setCell ⟨q, 2, none⟩ (.slice a5 (k + 1) c5)) q 24 (gA (cols : Int) (rows : Int) (.slice a5 (k + 1) c5))) := ⟨hC.2.1.setCell 2 _⟩
    have O8 : Box' (OwnC (q + 1) (wz.setCell ⟨q, 2, none⟩ (.slice a5 (k + 1) c5)) (.slice a5 (k + 1) c5) (List.replicate (k + 1) (bl s))) := ⟨p5.setBelow _ _ (by show q < q + 1; omega)⟩
    clear hC p5 E FI RI OI
    go_wp2_with fail
    exact ⟨⟨k + 1, a5, c5, by go_num, by omega, F8, R8, O8⟩, by simp [intOf]; omega⟩
  case neg =>
   have hlt2 : ¬ (k : Int) < (cols : Int) * (rows : Int) := by rw [HM.out]; omega
   obtain ⟨gg, cap, sp, ee, hg, hcap, hrc⟩ := OI.out.row (by rw [List.length_replicate]; omega)
   rw [List.length_replicate] at ee hcap
   cases ee
   have C9 := Box'.mk hrc
   have O9 := Box'.mk (gA_one (cols : Int) (rows : Int) (some ⟨gg, 0, none⟩) k cp)
   clear hrc OI
   go_wp2_with (first
    | (refine wpList_load_row rfl 24 (.tmp 8) rfl q rfl 24 (gA (cols : Int) (rows : Int) (.slice (some ⟨gg, 0, none⟩) k cp)) RI.out _ U24.out rfl 3 S24.out rfl ?_)
    | (refine wpList_store_row rfl 24 (.tmp 6) (.tmp 41) rfl (w.heap.size + 1) rfl (gA (cols : Int) (rows : Int) (.slice (some ⟨gg, 0, none⟩) k cp)) rfl 24 3 FI.out.rr S24.out rfl O9.out ?_))
   have hkk : k = cols * rows := by omega
   exact bodyPost_ret (results_two rfl _ (w.heap.size + 1) rfl _ rfl _ _ (FI.out.rr.setRow _) rfl) rfl ⟨gg, cp, by rw [← hkk]; rfl, by omega, by omega, ⟨sp, by rw [← hkk]; exact Row.setRowOther C9.out _ _ (by omega)⟩, below_setRow FI.out.be (by omega) _⟩
end Go.Proofs.Ytnbonlkmadmpcaa
namespace Go.Proofs.Ytnbonlkmadmpcaa
open Go.RowKit Go.BigFrame
set_option linter.unusedVariables false
set_option linter.unusedSimpArgs false
theorem rnew_no (co ro : Int) (s : St) (w : World) (h : (sideF co && sideF ro && mayS s) = false) :
  Calls Try.prog 8 #[.int .i64 co, .int .i64 ro, .agg (sA s)] w fun e w' => e = .returned gErr ∧ Below w.heap.size w w' := by
 cases h1 : sideF co with
 | false => exact rnew_no0 co ro s w h1
 | true =>
  cases h2 : sideF ro with
  | false => exact rnew_no1 co ro s w h1 h2
  | true => exact rnew_no2 co ro s w h1 h2 (by rw [h1, h2] at h; exact h)
set_option maxRecDepth 100000 in
set_option maxHeartbeats 8000000 in
theorem rresize_no0 (co ro : Int) (v : Value) (c : List Cl) (cols rows : Int) (s : St) (w : World) (hv : Cls w.heap.size w v c) (hG : mayG co ro c = false) :
  Calls Try.prog 19 #[.agg (gA co ro v), .int .i64 cols, .int .i64 rows, .agg (sA s)] w fun e w' => e = .returned gErr ∧ Below w.heap.size w w' := by
 have MG : Box' (∀ wx, Below w.heap.size w wx → Calls Try.prog 21 #[.agg (gA co ro v)] wx fun e w' => e = .returned (.bool (mayG co ro c)) ∧ Below wx.heap.size wx w') := ⟨fun wx hb => rmayg_any co ro v c wx ((hv.below hb (Nat.le_refl _)).up hb.size)⟩
 rw [hG] at MG
 have F := Box'.mk (FrG.begin w (gA co ro v) s)
 have U24 := Box'.mk Try.underlying24
 have S24 := Box'.mk s24g
 have O := Box'.mk (gA_one 0 0 none 0 0)
 clear hG hv
 go_enter Try.func19, Try.ntmps19
 go_upto_region 1 with (fail)
 generalize (((w.alloc (.cells (gA co ro v) 24)).alloc (.cells (sA s) 26)).alloc (.cells #[.int .i64 0, .int .i64 0, .slice none 0 0] 24)) = w1 at *
 go_wp2_with (first
  | (refine wpList_load_row rfl 24 (.tmp 4) rfl w.heap.size rfl 24 (gA co ro v) F.out.rg _ U24.out rfl 3 S24.out rfl ?_))
 refine (MG.out _ F.out.be).mono ?_
 rintro e w2 ⟨rfl, hb⟩
 replace F := Box'.mk (F.out.below hb)
 clear hb
 go_wp2_with (first
  | (refine wpList_store_row rfl 24 (.tmp 8) (.tmp 16) rfl (w.heap.size + 2) rfl (gA 0 0 (.slice none 0 0)) rfl 24 3 F.out.rr S24.out rfl O.out ?_))
 exact bodyPost_ret (results_two rfl _ (w.heap.size + 2) rfl _ rfl _ _ (F.out.rr.setRow _) rfl) rfl ⟨rfl, below_setRow F.out.be (by omega) _⟩
set_option maxRecDepth 100000 in
set_option maxHeartbeats 8000000 in
theorem rresize_no1 (co ro : Int) (v : Value) (c : List Cl) (cols rows : Int) (s : St) (w : World) (hv : Cls w.heap.size w v c) (hG : mayG co ro c = true) (hN : (sideF cols && sideF rows && mayS s) = false) :
  Calls Try.prog 19 #[.agg (gA co ro v), .int .i64 cols, .int .i64 rows, .agg (sA s)] w fun e w' => e = .returned gErr ∧ Below w.heap.size w w' := by
 have MG : Box' (∀ wx, Below w.heap.size w wx → Calls Try.prog 21 #[.agg (gA co ro v)] wx fun e w' => e = .returned (.bool (mayG co ro c)) ∧ Below wx.heap.size wx w') := ⟨fun wx hb => rmayg_any co ro v c wx ((hv.below hb (Nat.le_refl _)).up hb.size)⟩
 rw [hG] at MG
 have F := Box'.mk (FrG.begin w (gA co ro v) s)
 have NW := Box'.mk (fun wx => rnew_no cols rows s wx hN)
 have U24 := Box'.mk Try.underlying24
 have S24 := Box'.mk s24g
 have O := Box'.mk (gA_one 0 0 none 0 0)
 clear hG hv
 go_enter Try.func19, Try.ntmps19
 go_upto_region 1 with (fail)
 generalize (((w.alloc (.cells (gA co ro v) 24)).alloc (.cells (sA s) 26)).alloc (.cells #[.int .i64 0, .int .i64 0, .slice none 0 0] 24)) = w1 at *
 go_wp2_with (first
  | (refine wpList_load_row rfl 24 (.tmp 4) rfl w.heap.size rfl 24 (gA co ro v) F.out.rg _ U24.out rfl 3 S24.out rfl ?_))
 refine (MG.out _ F.out.be).mono ?_
 rintro e w2 ⟨rfl, hb⟩
 replace F := Box'.mk (F.out.below hb)
 clear hb
 have cs0 : w2.cell? ⟨w.heap.size + 1, 0, none⟩ = some (.int .i64 s.fg) := F.out.rs.cell 0
 have cs1 : w2.cell? ⟨w.heap.size + 1, 1, none⟩ = some (.int .i64 s.bg) := F.out.rs.cell 1
 have cs2 : w2.cell? ⟨w.heap.size + 1, 2, none⟩ = some (.bool s.b1) := F.out.rs.cell 2
 have cs3 : w2.cell? ⟨w.heap.size + 1, 3, none⟩ = some (.bool s.b2) := F.out.rs.cell 3
 have cs4 : w2.cell? ⟨w.heap.size + 1, 4, none⟩ = some (.bool s.b3) := F.out.rs.cell 4
 have cs5 : w2.cell? ⟨w.heap.size + 1, 5, none⟩ = some (.bool s.b4) := F.out.rs.cell 5
 have cs6 : w2.cell? ⟨w.heap.size + 1, 6, none⟩ = some (.bool s.b5) := F.out.rs.cell 6
 have cs7 : w2.cell? ⟨w.heap.size + 1, 7, none⟩ = some (.bool s.b7) := F.out.rs.cell 7
 have cs8 : w2.cell? ⟨w.heap.size + 1, 8, none⟩ = some (.bool s.b8) := F.out.rs.cell 8
 have cs9 : w2.cell? ⟨w.heap.size + 1, 9, none⟩ = some (.bool s.b9) := F.out.rs.cell 9
 go_wp2_with fail
 refine (NW.out _).mono ?_
 rintro e w3 ⟨rfl, hb⟩
 replace F := Box'.mk (F.out.below hb)
 clear hb cs0 cs1 cs2 cs3 cs4 cs5 cs6 cs7 cs8 cs9
 have RM : Box' (Room (w3.alloc (.cells #[.int .i64 0, .int .i64 0, .slice none 0 0] 24)) w3.heap.size 24 3) := ⟨Room.new _ _ _ _ rfl⟩
 have F4 : Box' (FrG w (gA co ro v) s ((w3.alloc (.cells #[.int .i64 0, .int .i64 0, .slice none 0 0] 24)).setRow w3.heap.size (gA 0 0 (.slice none 0 0)))) := ⟨F.out.below (below_setRow (bR.alloc (Nat.le_refl _) _) (Nat.le_refl _) _)⟩
 unfold gErr
 go_upto_region 4 with (first
  | (refine wpList_store_row rfl 24 (.tmp 10) (.tmp 22) rfl w3.heap.size rfl (gA 0 0 (.slice none 0 0)) rfl 24 3 RM.out S24.out rfl O.out ?_))
 generalize ((w3.alloc (.cells #[.int .i64 0, .int .i64 0, .slice none 0 0] 24)).setRow w3.heap.size (gA 0 0 (.slice none 0 0))) = w4 at *
 clear F RM
 have F := F4
 clear F4
 go_wp2_with (first
  | (refine wpList_store_row rfl 24 (.tmp 8) (.tmp 26) rfl (w.heap.size + 2) rfl (gA 0 0 (.slice none 0 0)) rfl 24 3 F.out.rr S24.out rfl O.out ?_))
 exact bodyPost_ret (results_two rfl _ (w.heap.size + 2) rfl _ rfl _ _ (F.out.rr.setRow _) rfl) rfl ⟨rfl, below_setRow F.out.be (by omega) _⟩
set_option maxRecDepth 100000 in
set_option maxHeartbeats 16000000 in
theorem rresize_le (cols rows : Nat) (v : Value) (c : List Cl) (co ro : Nat) (s : St) (w : World) (hv : Cls w.heap.size w v c) (hG : mayG (cols : Int) (rows : Int) c = true) (hS : mayS s = true) (k1 : 1 ≤ co) (k2 : co ≤ 512) (k3 : 1 ≤ ro) (k4 : ro ≤ 512) (hmin : ro ≤ rows) :
  Calls Try.prog 19 #[.agg (gA (cols : Int) (rows : Int) v), .int .i64 (co : Int), .int .i64 (ro : Int), .agg (sA s)] w fun e w' => ∃ b cap sp, e = .returned (gOk (co : Int) (ro : Int) (.slice (some ⟨b, 0, none⟩) (co * ro) cap)) ∧ w.heap.size ≤ b ∧ co * ro ≤ cap ∧ RC w' b (rzF c cols rows co ro s) sp ∧ Below w.heap.size w w' := by
 obtain ⟨cols', rows', ec, er, p1, p2, p3, p4, hl⟩ := mayG_dest hG
 obtain rfl : cols = cols' := by omega
 obtain rfl : rows = rows' := by omega
 have hle : cols * rows ≤ 512 * 512 := Nat.mul_le_mul p2 p4
 have hpos : 0 < c.length := by rw [hl]; exact Nat.mul_pos (by omega) (by omega)
 have hle2 : co * ro ≤ 512 * 512 := Nat.mul_le_mul k2 k4
 have MG : Box' (∀ wx, Below w.heap.size w wx → Calls Try.prog 21 #[.agg (gA (cols : Int) (rows : Int) v)] wx fun e w' => e = .returned (.bool (mayG (cols : Int) (rows : Int) c)) ∧ Below wx.heap.size wx w') := ⟨fun wx hb => rmayg_any (cols : Int) (rows : Int) v c wx ((hv.below hb (Nat.le_refl _)).up hb.size)⟩
 rw [hG] at MG
 have NW := Box'.mk (fun wx => rnew_ok co ro s wx k1 k2 k3 k4 hS)
 rw [← rzK_0 c cols rows co ro s k1 hl] at NW
 obtain ⟨gb, go', gc, rfl, hgb, hgc, HC0⟩ : ∃ b o cp, v = .slice (some ⟨b, o, none⟩) c.length cp ∧ b < w.heap.size ∧ c.length ≤ cp ∧ ∀ k, k < c.length → ∀ j, j < 15 → w.cell? ⟨b, o + k * 15 + j, none⟩ = (cA (cat c k))[j]? := by
  obtain ⟨a, cp, rfl, hcp, h3⟩ := hv
  rcases h3 with rfl | ⟨b, o, rfl, h5, h6⟩
  ·simp at hpos
  ·exact ⟨b, o, cp, rfl, h5, hcp, h6⟩
 have RG : Box' (∀ k wx, k < rows → Calls Try.prog 39 #[.agg (gA (cols : Int) (rows : Int) (.slice (some ⟨gb, go', none⟩) c.length gc)), .int .i64 (k : Int)] wx fun e w' => e = .returned (.slice (some ⟨gb, go' + cols * k * 15, none⟩) cols (gc - cols * k)) ∧ Below wx.heap.size wx w') := ⟨fun k wx hk => refRow_any cols k gb go' c.length gc (rows : Int) p1 p2 (by omega) (by have := Nat.mul_le_mul_left cols (show k + 1 ≤ rows by omega); omega) wx⟩
 have SRC : Box' (∀ k wx, k < rows → Below w.heap.size w wx → Cls w.heap.size wx (.slice (some ⟨gb, go' + cols * k * 15, none⟩) cols (gc - cols * k)) (rowF c cols k)) := ⟨fun k wx hk hbe => by
  have hft := fits (cols := cols) hk
  have hrl := rowF_len c cols k (by omega)
  refine ⟨_, _, by rw [hrl], by rw [Nat.mul_comm cols k]; omega, .inr ⟨gb, go' + cols * k * 15, rfl, hgb, fun j hj i hi => ?_⟩⟩
  rw [hrl] at hj
  have e : (rowF c cols k).getD j (hf pl) = cat c (k * cols + j) := cat_row c cols k j hj
  rw [hbe.cell (p := ⟨gb, go' + cols * k * 15 + j * 15 + i, none⟩) hgb, e, show go' + cols * k * 15 + j * 15 + i = go' + (k * cols + j) * 15 + i by rw [Nat.add_mul, Nat.mul_comm k cols]; omega]
  exact HC0 (k * cols + j) (by omega) i hi⟩
 have ML : Box' (∀ k, k < ro → k < rows → co * k + ((rowF c cols k).take co).length ≤ (rzK c cols rows co ro s k).length) := ⟨fun k h1 h2 => by
  rw [rzK_len c cols rows co ro s k hl, List.length_take]
  have := fits (cols := co) h1
  rw [Nat.mul_comm co k]
  omega⟩
 have LM : Box' (∀ k, k < ro → k < rows → lay (rzK c cols rows co ro s k) (co * k) ((rowF c cols k).take co) = lay (rzK c cols rows co ro s k) (co * k) (rzM c cols co s k)) := ⟨fun k h1 h2 => rzM_lay c cols rows co ro s k1 hl k h1 h2⟩
 have ME : Box' (∀ b cap sp k wx, co * ro ≤ cap → k < ro → k < rows → RC wx b (lay (rzK c cols rows co ro s k) (co * k) (rzM c cols co s k)) sp → Calls Try.prog 40 #[.slice (some ⟨b, co * k * 15, none⟩) co (cap - co * k)] wx fun e w' => (∃ v, e = .returned v) ∧ RC w' b (rzK c cols rows co ro s (k + 1)) sp ∧ Tc b wx w') := ⟨fun b cap sp k wx hcap h1 h2 h => by
  rw [← rzK_step c cols rows co ro s k1 hl k h1]
  have e : rzR c cols rows co s k = mnd (rzM c cols co s k) := by unfold rzR; rw [if_pos h2]; rfl
  rw [e]
  have := fits (cols := co) h1
  exact rmend_any b (co * k) co (cap - co * k) _ sp _ wx k1 (by omega) (by rw [Nat.mul_comm co k]; omega) (rzM_len c cols rows co s k hl h2) (by rw [rzK_len c cols rows co ro s k hl, Nat.mul_comm co k]; exact this) h⟩
 have EN := Box'.mk (rzK_end c cols rows co ro s k1 hl ro (by first | exact .inl rfl | exact .inr rfl))
 have F := Box'.mk (FrG.begin w (gA (cols : Int) (rows : Int) (.slice (some ⟨gb, go', none⟩) c.length gc)) s)
 have U24 := Box'.mk Try.underlying24
 have S24 := Box'.mk s24g
 have FT : Box' (∀ k, k < ro → co * k + co ≤ co * ro) := ⟨fun k hk => by rw [Nat.mul_comm co k]; exact fits hk⟩
 generalize hRZ : rzK c cols rows co ro s = rz at *
 generalize rzF c cols rows co ro s = X at *
 generalize rzM c cols co s = rm at *
 generalize hRF : rowF c cols = rf at *
 generalize c.length = n at *
 clear hG hS hv ec er hl hle hpos HC0 hRZ hRF hgc
 have hmin2 : (ro : Int) ≤ (rows : Int) := by omega
 go_enter Try.func19, Try.ntmps19
 go_upto_region 1 with (fail)
 generalize (((w.alloc (.cells (gA (cols : Int) (rows : Int) (.slice (some ⟨gb, go', none⟩) n gc)) 24)).alloc (.cells (sA s) 26)).alloc (.cells #[.int .i64 0, .int .i64 0, .slice none 0 0] 24)) = w1 at *
 go_wp2_with (first
  | (refine wpList_load_row rfl 24 (.tmp 4) rfl w.heap.size rfl 24 (gA (cols : Int) (rows : Int) (.slice (some ⟨gb, go', none⟩) n gc)) F.out.rg _ U24.out rfl 3 S24.out rfl ?_))
 refine (MG.out _ F.out.be).mono ?_
 rintro e w2 ⟨rfl, hb⟩
 replace F := Box'.mk (F.out.below hb)
 clear hb
 have cs0 : w2.cell? ⟨w.heap.size + 1, 0, none⟩ = some (.int .i64 s.fg) := F.out.rs.cell 0
 have cs1 : w2.cell? ⟨w.heap.size + 1, 1, none⟩ = some (.int .i64 s.bg) := F.out.rs.cell 1
 have cs2 : w2.cell? ⟨w.heap.size + 1, 2, none⟩ = some (.bool s.b1) := F.out.rs.cell 2
 have cs3 : w2.cell? ⟨w.heap.size + 1, 3, none⟩ = some (.bool s.b2) := F.out.rs.cell 3
 have cs4 : w2.cell? ⟨w.heap.size + 1, 4, none⟩ = some (.bool s.b3) := F.out.rs.cell 4
 have cs5 : w2.cell? ⟨w.heap.size + 1, 5, none⟩ = some (.bool s.b4) := F.out.rs.cell 5
 have cs6 : w2.cell? ⟨w.heap.size + 1, 6, none⟩ = some (.bool s.b5) := F.out.rs.cell 6
 have cs7 : w2.cell? ⟨w.heap.size + 1, 7, none⟩ = some (.bool s.b7) := F.out.rs.cell 7
 have cs8 : w2.cell? ⟨w.heap.size + 1, 8, none⟩ = some (.bool s.b8) := F.out.rs.cell 8
 have cs9 : w2.cell? ⟨w.heap.size + 1, 9, none⟩ = some (.bool s.b9) := F.out.rs.cell 9
 go_wp2_with fail
 refine (NW.out _).mono ?_
 rintro e w4 ⟨b, cap, sp, rfl, hb0, hcap, hrc, hb⟩
 have hb3 : w.heap.size + 3 ≤ b := Nat.le_trans F.out.sz hb0
 replace F := Box'.mk (F.out.below hb)
 have CC := Box'.mk hrc
 have hblt := hrc.lt
 clear hb hrc hb0 MG NW cs0 cs1 cs2 cs3 cs4 cs5 cs6 cs7 cs8 cs9
 have RK : Box' (∀ k wx, k < ro → Calls Try.prog 39 #[.agg (gA (co : Int) (ro : Int) (.slice (some ⟨b, 0, none⟩) (co * ro) cap)), .int .i64 (k : Int)] wx fun e w' => e = .returned (.slice (some ⟨b, co * k * 15, none⟩) co (cap - co * k)) ∧ Below wx.heap.size wx w') := ⟨fun k wx hk => by
  have := refRow_any co k b 0 (co * ro) cap (ro : Int) k1 k2 (by omega) (by rw [Nat.mul_add, Nat.mul_one]; have := FT.out k hk; omega) wx
  rwa [Nat.zero_add] at this⟩
 have RM : Box' (Room (w4.alloc (.cells #[.int .i64 0, .int .i64 0, .slice none 0 0] 24)) w4.heap.size 24 3) := ⟨Room.new _ _ _ _ rfl⟩
 have G4 : Box' (Row ((w4.alloc (.cells #[.int .i64 0, .int .i64 0, .slice none 0 0] 24)).setRow w4.heap.size (gA (co : Int) (ro : Int) (.slice (some ⟨b, 0, none⟩) (co * ro) cap))) w4.heap.size 24 (gA (co : Int) (ro : Int) (.slice (some ⟨b, 0, none⟩) (co * ro) cap))) := ⟨RM.out.setRow _⟩
 have C4 : Box' (RC ((w4.alloc (.cells #[.int .i64 0, .int .i64 0, .slice none 0 0] 24)).setRow w4.heap.size (gA (co : Int) (ro : Int) (.slice (some ⟨b, 0, none⟩) (co * ro) cap))) b (rz 0) sp) := ⟨Row.setRowOther (Row.alloc CC.out _) _ _ (by omega)⟩
 have F4 : Box' (FrG w (gA (cols : Int) (rows : Int) (.slice (some ⟨gb, go', none⟩) n gc)) s ((w4.alloc (.cells #[.int .i64 0, .int .i64 0, .slice none 0 0] 24)).setRow w4.heap.size (gA (co : Int) (ro : Int) (.slice (some ⟨b, 0, none⟩) (co * ro) cap)))) := ⟨F.out.below (below_setRow (bR.alloc (Nat.le_refl _) _) (Nat.le_refl _) _)⟩
 have O := Box'.mk (gA_one (co : Int) (ro : Int) (some ⟨b, 0, none⟩) (co * ro) cap)
 have hsz4 := F.out.sz
 unfold gOk
 go_upto_region 4 with (first
  | (refine wpList_store_row rfl 24 (.tmp 10) (.tmp 22) rfl w4.heap.size rfl (gA (co : Int) (ro : Int) (.slice (some ⟨b, 0, none⟩) (co * ro) cap)) rfl 24 3 RM.out S24.out rfl O.out ?_))
 generalize ((w4.alloc (.cells #[.int .i64 0, .int .i64 0, .slice none 0 0] 24)).setRow w4.heap.size (gA (co : Int) (ro : Int) (.slice (some ⟨b, 0, none⟩) (co * ro) cap))) = w5 at *
 clear RM CC F
 have hqb : w4.heap.size ≠ b := by omega
 have hq3 : w.heap.size + 3 ≤ w4.heap.size := by omega
 generalize w4.heap.size = q at *
 generalize hNN : co * ro = N at *
 have HNN := Box'.mk hNN
 clear hNN
 go_wp2_with fail
 go_loopw [12] (fun i wr => ∃ k : Nat, k ≤ ro ∧ i = .int .i64 (k : Int) ∧ Box' (FrG w (gA (cols : Int) (rows : Int) (.slice (some ⟨gb, go', none⟩) n gc)) s wr) ∧ Box' (Row wr q 24 (gA (co : Int) (ro : Int) (.slice (some ⟨b, 0, none⟩) N cap))) ∧ Box' (RC wr b (rz k) sp)) (fun i _ => ro - (intOf i).toNat)
 case atStart => exact ⟨0, by omega, rfl, F4, G4, C4⟩
 case round =>
  obtain ⟨k, hk, rfl, FF, GG, CC⟩ := hrel
  clear F4 G4 C4
  have c1 : wr.cell? ⟨w.heap.size, 1, none⟩ = some (.int .i64 (rows : Int)) := FF.out.rg.cell 1
  by_cases hlt : k < ro
  case neg =>
   rw [show k = ro by omega, EN.out] at CC
   clear RK RG SRC ML LM ME
   go_wp2_with (first
    | (refine wpList_load_row rfl 24 (.tmp 10) rfl q rfl 24 (gA (co : Int) (ro : Int) (.slice (some ⟨b, 0, none⟩) N cap)) GG.out _ U24.out rfl 3 S24.out rfl ?_)
    | (refine wpList_store_row rfl 24 (.tmp 8) (.tmp 47) rfl (w.heap.size + 2) rfl (gA (co : Int) (ro : Int) (.slice (some ⟨b, 0, none⟩) N cap)) rfl 24 3 FF.out.rr S24.out rfl O.out ?_))
   exact bodyPost_ret (results_two rfl _ (w.heap.size + 2) rfl _ rfl _ _ (FF.out.rr.setRow _) rfl) rfl ⟨b, cap, sp, by rw [HNN.out]; rfl, by omega, by rw [HNN.out]; exact hcap, Row.setRowOther CC.out _ _ (by omega), below_setRow FF.out.be (by omega) _⟩
  case pos =>
   have hkr : k < ro := by omega
   have hks : k < rows := by omega
   have RK1 := Box'.mk (fun wx => RK.out k wx hkr)
   have RG1 := Box'.mk (fun wx => RG.out k wx hks)
   have ME1 := Box'.mk (fun wx => ME.out b cap sp k wx hcap hkr hks)
   have SR1 := Box'.mk (fun wx => SRC.out k wx hks)
   have ML1 := Box'.mk (ML.out k hkr hks)
   have LM1 := Box'.mk (LM.out k hkr hks)
   clear RK RG ME SRC ML LM
   go_upto_region 9 with (fail)
   clear c1
   refine wp_region_growg 6 (by kernel_rfl) 48 rfl (by kernel_rfl) (fun wa wb => Below wa.heap.size wa wb) (fun wa => FrG w (gA (cols : Int) (rows : Int) (.slice (some ⟨gb, go', none⟩) n gc)) s wa ∧ Row wa q 24 (gA (co : Int) (ro : Int) (.slice (some ⟨b, 0, none⟩) N cap)) ∧ RC wa b (rz k) sp) (fun kc wa v => match kc with
    | 0 => v = .agg (gA (co : Int) (ro : Int) (.slice (some ⟨b, 0, none⟩) N cap))
    | 1 => v = .int .i64 (k : Int)
    | 2 => v = .slice (some ⟨b, co * k * 15, none⟩) co (cap - co * k)
    | 3 => v = .agg (gA (cols : Int) (rows : Int) (.slice (some ⟨gb, go', none⟩) n gc))
    | 4 => v = .int .i64 (k : Int)
    | 5 => v = (.slice (some ⟨gb, go' + cols * k * 15, none⟩) cols (gc - cols * k))
    | _ => True) ?_ ?_ ?_ ?_ ?_ ?_
   ·intro i o' j b' hi hg wa v hC hV
    have hlt : i < 6 := by rcases Nat.lt_or_ge i 6 with q | q; exact q; rw [List.getElem?_eq_none (by simpa using q)] at hi; cases hi
    revert hi hg hV
    rcases (show i = 0 ∨ i = 1 ∨ i = 2 ∨ i = 3 ∨ i = 4 ∨ i = 5 by omega) with rfl | rfl | rfl | rfl | rfl | rfl <;>
     (intro hi hg hV; simp only [tkS, List.getElem?_cons_zero, List.getElem?_cons_succ, Option.some.injEq] at hi; subst hi; first | (cases hg; exact hV) | (cases hg))
   ·rintro wa wb hb ⟨a1, a2, a3⟩; exact ⟨a1.below hb, a2.below hb a2.lt, Row.below a3 hb (Row.lt a3)⟩
   ·intro kc v wa wb hC1 hb h
    match kc, h with
    | 0, h => exact h
    | 1, h => exact h
    | 2, h => exact h
    | 3, h => exact h
    | 4, h => exact h
    | 5, h => exact h
    | kc + 6, h => trivial
   ·exact ⟨FF.out.drew, GG.out.below (bR.drew) GG.out.lt, Row.below CC.out (bR.drew) (Row.lt CC.out)⟩
   ·refine ⟨?_, ?_, ?_, ?_, ?_, ?_, trivial⟩
    ·intro f wq hC hd KK hK
     clear hd
     simp only [tkS, tkZ, setAll, siB, stS, stZ, Nat.zero_add, Nat.reduceAdd] at hK ⊢
     exact wp_load_row 24 (.tmp 10) rfl q rfl 24 (gA (co : Int) (ro : Int) (.slice (some ⟨b, 0, none⟩) N cap)) hC.2.1 _ U24.out rfl 3 S24.out rfl (hK _ _ rfl bR)
    ·intro f wq hC hd KK hK
     clear hd
     simp only [tkS, tkZ, setAll, siB, stS, stZ, Nat.zero_add, Nat.reduceAdd] at hK ⊢
     refine wp_of_quiet rfl ?_
     go_big_quiet_step (fail)
     exact wpQuiet_nil (hK _ _ (rfl) bR)
    ·intro f wq hC hd KK hK
     have g0 : f 0 = .agg (gA (co : Int) (ro : Int) (.slice (some ⟨b, 0, none⟩) N cap)) := hd 0 (by kernel_rfl)
     have g1 : f 1 = .int .i64 (k : Int) := hd 1 (by kernel_rfl)
     clear hd
     simp only [tkS, tkZ, setAll, siB, stS, stZ, Nat.zero_add, Nat.reduceAdd, g0, g1] at hK ⊢
     exact wp_call 39 #[.agg (gA (co : Int) (ro : Int) (.slice (some ⟨b, 0, none⟩) N cap)), .int .i64 (k : Int)] (by simp [go_sem]) _ _ (RK1.out wq) (fun w' hb => hK _ _ rfl hb)
    ·intro f wq hC hd KK hK
     clear hd
     simp only [tkS, tkZ, setAll, siB, stS, stZ, Nat.zero_add, Nat.reduceAdd] at hK ⊢
     exact wp_load_row 24 (.tmp 4) rfl w.heap.size rfl 24 (gA (cols : Int) (rows : Int) (.slice (some ⟨gb, go', none⟩) n gc)) hC.1.rg _ U24.out rfl 3 S24.out rfl (hK _ _ rfl bR)
    ·intro f wq hC hd KK hK
     clear hd
     simp only [tkS, tkZ, setAll, siB, stS, stZ, Nat.zero_add, Nat.reduceAdd] at hK ⊢
     refine wp_of_quiet rfl ?_
     go_big_quiet_step (fail)
     exact wpQuiet_nil (hK _ _ (rfl) bR)
    ·intro f wq hC hd KK hK
     have g3 : f 3 = .agg (gA (cols : Int) (rows : Int) (.slice (some ⟨gb, go', none⟩) n gc)) := hd 3 (by kernel_rfl)
     have g4 : f 4 = .int .i64 (k : Int) := hd 4 (by kernel_rfl)
     clear hd
     simp only [tkS, tkZ, setAll, siB, stS, stZ, Nat.zero_add, Nat.reduceAdd, g3, g4] at hK ⊢
     exact wp_call 39 #[.agg (gA (cols : Int) (rows : Int) (.slice (some ⟨gb, go', none⟩) n gc)), .int .i64 (k : Int)] (by simp [go_sem]) _ _ (RG1.out wq) (fun w' hb => hK _ _ rfl hb)
   ·intro f wz hC hv
    have p0 : f 0 = .agg (gA (co : Int) (ro : Int) (.slice (some ⟨b, 0, none⟩) N cap)) := hv 0 (by decide)
    have p1 : f 1 = .int .i64 (k : Int) := hv 1 (by decide)
    have p2 : f 2 = .slice (some ⟨b, co * k * 15, none⟩) co (cap - co * k) := hv 2 (by decide)
    have p3 : f 3 = .agg (gA (cols : Int) (rows : Int) (.slice (some ⟨gb, go', none⟩) n gc)) := hv 3 (by decide)
    have p4 : f 4 = .int .i64 (k : Int) := hv 4 (by decide)
    have p5 : f 5 = (.slice (some ⟨gb, go' + cols * k * 15, none⟩) cols (gc - cols * k)) := hv 5 (by decide)
    simp only [tkS, tkZ, List.drop_succ_cons, List.drop_zero, setAll, siB, stS, stZ, Nat.zero_add, Nat.reduceAdd, p0, p1, p2, p3, p4, p5]
    clear hv p0 p1 p2 p3 p4 p5
    have F7 := Box'.mk hC.1
    have G7 := Box'.mk hC.2.1
    have C7 := Box'.mk hC.2.2
    have SR2 := Box'.mk (SR1.out _ hC.1.be)
    clear hC FF GG CC
    go_upto_region 10 with (first
     | (refine wpList_copyA rfl (.tmp 38) (.tmp 41) rfl b (co * k * 15) (co * k) co (cap - co * k) (.slice (some ⟨gb, go' + cols * k * 15, none⟩) cols (gc - cols * k)) w.heap.size (rz k) (rf k) ((rf k).take co) sp rfl rfl SR2.out C7.out rfl (.inr rfl) ML1.out ?_; intro u8 w8 W8))
    rw [LM1.out] at W8
    have C8 := Box'.mk W8.out.1
    have F8 := Box'.mk (F7.out.tc W8.out.2 hb3)
    have G8 := Box'.mk (W8.out.2.row G7.out hqb)
    clear W8 F7 G7 C7 SR2 SR1 ML1 LM1 RG1
    go_wp2_with (first
     | (refine wpList_load_row rfl 24 (.tmp 10) rfl q rfl 24 (gA (co : Int) (ro : Int) (.slice (some ⟨b, 0, none⟩) N cap)) G8.out _ U24.out rfl 3 S24.out rfl ?_))
    refine (RK1.out _).mono ?_
    rintro e w9 ⟨rfl, hb⟩
    have F9 := Box'.mk (F8.out.below hb)
    have G9 := Box'.mk (G8.out.below hb G8.out.lt)
    have C9 := Box'.mk (Row.below C8.out hb (Row.lt C8.out))
    clear hb F8 G8 C8
    go_wp2_with fail
    refine (ME1.out _ C9.out).mono ?_
    rintro e wa ⟨⟨va, rfl⟩, hra, hta⟩
    have CA := Box'.mk hra
    have FA := Box'.mk (F9.out.tc hta hb3)
    have GA := Box'.mk (hta.row G9.out hqb)
    clear hra hta F9 G9 C9
    go_wp2_with fail
    exact ⟨⟨k + 1, by omega, by go_num, FA, GA, CA⟩, by simp [intOf]; omega⟩
set_option maxRecDepth 100000 in
set_option maxHeartbeats 16000000 in
theorem rresize_gt (cols rows : Nat) (v : Value) (c : List Cl) (co ro : Nat) (s : St) (w : World) (hv : Cls w.heap.size w v c) (hG : mayG (cols : Int) (rows : Int) c = true) (hS : mayS s = true) (k1 : 1 ≤ co) (k2 : co ≤ 512) (k3 : 1 ≤ ro) (k4 : ro ≤ 512) (hmin : rows < ro) :
  Calls Try.prog 19 #[.agg (gA (cols : Int) (rows : Int) v), .int .i64 (co : Int), .int .i64 (ro : Int), .agg (sA s)] w fun e w' => ∃ b cap sp, e = .returned (gOk (co : Int) (ro : Int) (.slice (some ⟨b, 0, none⟩) (co * ro) cap)) ∧ w.heap.size ≤ b ∧ co * ro ≤ cap ∧ RC w' b (rzF c cols rows co ro s) sp ∧ Below w.heap.size w w' := by
 obtain ⟨cols', rows', ec, er, p1, p2, p3, p4, hl⟩ := mayG_dest hG
 obtain rfl : cols = cols' := by omega
 obtain rfl : rows = rows' := by omega
 have hle : cols * rows ≤ 512 * 512 := Nat.mul_le_mul p2 p4
 have hpos : 0 < c.length := by rw [hl]; exact Nat.mul_pos (by omega) (by omega)
 have hle2 : co * ro ≤ 512 * 512 := Nat.mul_le_mul k2 k4
 have MG : Box' (∀ wx, Below w.heap.size w wx → Calls Try.prog 21 #[.agg (gA (cols : Int) (rows : Int) v)] wx fun e w' => e = .returned (.bool (mayG (cols : Int) (rows : Int) c)) ∧ Below wx.heap.size wx w') := ⟨fun wx hb => rmayg_any (cols : Int) (rows : Int) v c wx ((hv.below hb (Nat.le_refl _)).up hb.size)⟩
 rw [hG] at MG
 have NW := Box'.mk (fun wx => rnew_ok co ro s wx k1 k2 k3 k4 hS)
 rw [← rzK_0 c cols rows co ro s k1 hl] at NW
 obtain ⟨gb, go', gc, rfl, hgb, hgc, HC0⟩ : ∃ b o cp, v = .slice (some ⟨b, o, none⟩) c.length cp ∧ b < w.heap.size ∧ c.length ≤ cp ∧ ∀ k, k < c.length → ∀ j, j < 15 → w.cell? ⟨b, o + k * 15 + j, none⟩ = (cA (cat c k))[j]? := by
  obtain ⟨a, cp, rfl, hcp, h3⟩ := hv
  rcases h3 with rfl | ⟨b, o, rfl, h5, h6⟩
  ·simp at hpos
  ·exact ⟨b, o, cp, rfl, h5, hcp, h6⟩
 have RG : Box' (∀ k wx, k < rows → Calls Try.prog 39 #[.agg (gA (cols : Int) (rows : Int) (.slice (some ⟨gb, go', none⟩) c.length gc)), .int .i64 (k : Int)] wx fun e w' => e = .returned (.slice (some ⟨gb, go' + cols * k * 15, none⟩) cols (gc - cols * k)) ∧ Below wx.heap.size wx w') := ⟨fun k wx hk => refRow_any cols k gb go' c.length gc (rows : Int) p1 p2 (by omega) (by have := Nat.mul_le_mul_left cols (show k + 1 ≤ rows by omega); omega) wx⟩
 have SRC : Box' (∀ k wx, k < rows → Below w.heap.size w wx → Cls w.heap.size wx (.slice (some ⟨gb, go' + cols * k * 15, none⟩) cols (gc - cols * k)) (rowF c cols k)) := ⟨fun k wx hk hbe => by
  have hft := fits (cols := cols) hk
  have hrl := rowF_len c cols k (by omega)
  refine ⟨_, _, by rw [hrl], by rw [Nat.mul_comm cols k]; omega, .inr ⟨gb, go' + cols * k * 15, rfl, hgb, fun j hj i hi => ?_⟩⟩
  rw [hrl] at hj
  have e : (rowF c cols k).getD j (hf pl) = cat c (k * cols + j) := cat_row c cols k j hj
  rw [hbe.cell (p := ⟨gb, go' + cols * k * 15 + j * 15 + i, none⟩) hgb, e, show go' + cols * k * 15 + j * 15 + i = go' + (k * cols + j) * 15 + i by rw [Nat.add_mul, Nat.mul_comm k cols]; omega]
  exact HC0 (k * cols + j) (by omega) i hi⟩
 have ML : Box' (∀ k, k < ro → k < rows → co * k + ((rowF c cols k).take co).length ≤ (rzK c cols rows co ro s k).length) := ⟨fun k h1 h2 => by
  rw [rzK_len c cols rows co ro s k hl, List.length_take]
  have := fits (cols := co) h1
  rw [Nat.mul_comm co k]
  omega⟩
 have LM : Box' (∀ k, k < ro → k < rows → lay (rzK c cols rows co ro s k) (co * k) ((rowF c cols k).take co) = lay (rzK c cols rows co ro s k) (co * k) (rzM c cols co s k)) := ⟨fun k h1 h2 => rzM_lay c cols rows co ro s k1 hl k h1 h2⟩
 have ME : Box' (∀ b cap sp k wx, co * ro ≤ cap → k < ro → k < rows → RC wx b (lay (rzK c cols rows co ro s k) (co * k) (rzM c cols co s k)) sp → Calls Try.prog 40 #[.slice (some ⟨b, co * k * 15, none⟩) co (cap - co * k)] wx fun e w' => (∃ v, e = .returned v) ∧ RC w' b (rzK c cols rows co ro s (k + 1)) sp ∧ Tc b wx w') := ⟨fun b cap sp k wx hcap h1 h2 h => by
  rw [← rzK_step c cols rows co ro s k1 hl k h1]
  have e : rzR c cols rows co s k = mnd (rzM c cols co s k) := by unfold rzR; rw [if_pos h2]; rfl
  rw [e]
  have := fits (cols := co) h1
  exact rmend_any b (co * k) co (cap - co * k) _ sp _ wx k1 (by omega) (by rw [Nat.mul_comm co k]; omega) (rzM_len c cols rows co s k hl h2) (by rw [rzK_len c cols rows co ro s k hl, Nat.mul_comm co k]; exact this) h⟩
 have EN := Box'.mk (rzK_end c cols rows co ro s k1 hl rows (by first | exact .inl rfl | exact .inr rfl))
 have F := Box'.mk (FrG.begin w (gA (cols : Int) (rows : Int) (.slice (some ⟨gb, go', none⟩) c.length gc)) s)
 have U24 := Box'.mk Try.underlying24
 have S24 := Box'.mk s24g
 have FT : Box' (∀ k, k < ro → co * k + co ≤ co * ro) := ⟨fun k hk => by rw [Nat.mul_comm co k]; exact fits hk⟩
 generalize hRZ : rzK c cols rows co ro s = rz at *
 generalize rzF c cols rows co ro s = X at *
 generalize rzM c cols co s = rm at *
 generalize hRF : rowF c cols = rf at *
 generalize c.length = n at *
 clear hG hS hv ec er hl hle hpos HC0 hRZ hRF hgc
 have hmin2 : (rows : Int) < (ro : Int) := by omega
 go_enter Try.func19, Try.ntmps19
 go_upto_region 1 with (fail)
 generalize (((w.alloc (.cells (gA (cols : Int) (rows : Int) (.slice (some ⟨gb, go', none⟩) n gc)) 24)).alloc (.cells (sA s) 26)).alloc (.cells #[.int .i64 0, .int .i64 0, .slice none 0 0] 24)) = w1 at *
 go_wp2_with (first
  | (refine wpList_load_row rfl 24 (.tmp 4) rfl w.heap.size rfl 24 (gA (cols : Int) (rows : Int) (.slice (some ⟨gb, go', none⟩) n gc)) F.out.rg _ U24.out rfl 3 S24.out rfl ?_))
 refine (MG.out _ F.out.be).mono ?_
 rintro e w2 ⟨rfl, hb⟩
 replace F := Box'.mk (F.out.below hb)
 clear hb
 have cs0 : w2.cell? ⟨w.heap.size + 1, 0, none⟩ = some (.int .i64 s.fg) := F.out.rs.cell 0
 have cs1 : w2.cell? ⟨w.heap.size + 1, 1, none⟩ = some (.int .i64 s.bg) := F.out.rs.cell 1
 have cs2 : w2.cell? ⟨w.heap.size + 1, 2, none⟩ = some (.bool s.b1) := F.out.rs.cell 2
 have cs3 : w2.cell? ⟨w.heap.size + 1, 3, none⟩ = some (.bool s.b2) := F.out.rs.cell 3
 have cs4 : w2.cell? ⟨w.heap.size + 1, 4, none⟩ = some (.bool s.b3) := F.out.rs.cell 4
 have cs5 : w2.cell? ⟨w.heap.size + 1, 5, none⟩ = some (.bool s.b4) := F.out.rs.cell 5
 have cs6 : w2.cell? ⟨w.heap.size + 1, 6, none⟩ = some (.bool s.b5) := F.out.rs.cell 6
 have cs7 : w2.cell? ⟨w.heap.size + 1, 7, none⟩ = some (.bool s.b7) := F.out.rs.cell 7
 have cs8 : w2.cell? ⟨w.heap.size + 1, 8, none⟩ = some (.bool s.b8) := F.out.rs.cell 8
 have cs9 : w2.cell? ⟨w.heap.size + 1, 9, none⟩ = some (.bool s.b9) := F.out.rs.cell 9
 go_wp2_with fail
 refine (NW.out _).mono ?_
 rintro e w4 ⟨b, cap, sp, rfl, hb0, hcap, hrc, hb⟩
 have hb3 : w.heap.size + 3 ≤ b := Nat.le_trans F.out.sz hb0
 replace F := Box'.mk (F.out.below hb)
 have CC := Box'.mk hrc
 have hblt := hrc.lt
 clear hb hrc hb0 MG NW cs0 cs1 cs2 cs3 cs4 cs5 cs6 cs7 cs8 cs9
 have RK : Box' (∀ k wx, k < ro → Calls Try.prog 39 #[.agg (gA (co : Int) (ro : Int) (.slice (some ⟨b, 0, none⟩) (co * ro) cap)), .int .i64 (k : Int)] wx fun e w' => e = .returned (.slice (some ⟨b, co * k * 15, none⟩) co (cap - co * k)) ∧ Below wx.heap.size wx w') := ⟨fun k wx hk => by
  have := refRow_any co k b 0 (co * ro) cap (ro : Int) k1 k2 (by omega) (by rw [Nat.mul_add, Nat.mul_one]; have := FT.out k hk; omega) wx
  rwa [Nat.zero_add] at this⟩
 have RM : Box' (Room (w4.alloc (.cells #[.int .i64 0, .int .i64 0, .slice none 0 0] 24)) w4.heap.size 24 3) := ⟨Room.new _ _ _ _ rfl⟩
 have G4 : Box' (Row ((w4.alloc (.cells #[.int .i64 0, .int .i64 0, .slice none 0 0] 24)).setRow w4.heap.size (gA (co : Int) (ro : Int) (.slice (some ⟨b, 0, none⟩) (co * ro) cap))) w4.heap.size 24 (gA (co : Int) (ro : Int) (.slice (some ⟨b, 0, none⟩) (co * ro) cap))) := ⟨RM.out.setRow _⟩
 have C4 : Box' (RC ((w4.alloc (.cells #[.int .i64 0, .int .i64 0, .slice none 0 0] 24)).setRow w4.heap.size (gA (co : Int) (ro : Int) (.slice (some ⟨b, 0, none⟩) (co * ro) cap))) b (rz 0) sp) := ⟨Row.setRowOther (Row.alloc CC.out _) _ _ (by omega)⟩
 have F4 : Box' (FrG w (gA (cols : Int) (rows : Int) (.slice (some ⟨gb, go', none⟩) n gc)) s ((w4.alloc (.cells #[.int .i64 0, .int .i64 0, .slice none 0 0] 24)).setRow w4.heap.size (gA (co : Int) (ro : Int) (.slice (some ⟨b, 0, none⟩) (co * ro) cap)))) := ⟨F.out.below (below_setRow (bR.alloc (Nat.le_refl _) _) (Nat.le_refl _) _)⟩
 have O := Box'.mk (gA_one (co : Int) (ro : Int) (some ⟨b, 0, none⟩) (co * ro) cap)
 have hsz4 := F.out.sz
 unfold gOk
 go_upto_region 4 with (first
  | (refine wpList_store_row rfl 24 (.tmp 10) (.tmp 22) rfl w4.heap.size rfl (gA (co : Int) (ro : Int) (.slice (some ⟨b, 0, none⟩) (co * ro) cap)) rfl 24 3 RM.out S24.out rfl O.out ?_))
 generalize ((w4.alloc (.cells #[.int .i64 0, .int .i64 0, .slice none 0 0] 24)).setRow w4.heap.size (gA (co : Int) (ro : Int) (.slice (some ⟨b, 0, none⟩) (co * ro) cap))) = w5 at *
 clear RM CC F
 have hqb : w4.heap.size ≠ b := by omega
 have hq3 : w.heap.size + 3 ≤ w4.heap.size := by omega
 generalize w4.heap.size = q at *
 generalize hNN : co * ro = N at *
 have HNN := Box'.mk hNN
 clear hNN
 go_wp2_with fail
 go_loopw [12] (fun i wr => ∃ k : Nat, k ≤ rows ∧ i = .int .i64 (k : Int) ∧ Box' (FrG w (gA (cols : Int) (rows : Int) (.slice (some ⟨gb, go', none⟩) n gc)) s wr) ∧ Box' (Row wr q 24 (gA (co : Int) (ro : Int) (.slice (some ⟨b, 0, none⟩) N cap))) ∧ Box' (RC wr b (rz k) sp)) (fun i _ => rows - (intOf i).toNat)
 case atStart => exact ⟨0, by omega, rfl, F4, G4, C4⟩
 case round =>
  obtain ⟨k, hk, rfl, FF, GG, CC⟩ := hrel
  clear F4 G4 C4
  have c1 : wr.cell? ⟨w.heap.size, 1, none⟩ = some (.int .i64 (rows : Int)) := FF.out.rg.cell 1
  by_cases hlt : k < rows
  case neg =>
   rw [show k = rows by omega, EN.out] at CC
   clear RK RG SRC ML LM ME
   go_wp2_with (first
    | (refine wpList_load_row rfl 24 (.tmp 10) rfl q rfl 24 (gA (co : Int) (ro : Int) (.slice (some ⟨b, 0, none⟩) N cap)) GG.out _ U24.out rfl 3 S24.out rfl ?_)
    | (refine wpList_store_row rfl 24 (.tmp 8) (.tmp 47) rfl (w.heap.size + 2) rfl (gA (co : Int) (ro : Int) (.slice (some ⟨b, 0, none⟩) N cap)) rfl 24 3 FF.out.rr S24.out rfl O.out ?_))
   exact bodyPost_ret (results_two rfl _ (w.heap.size + 2) rfl _ rfl _ _ (FF.out.rr.setRow _) rfl) rfl ⟨b, cap, sp, by rw [HNN.out]; rfl, by omega, by rw [HNN.out]; exact hcap, Row.setRowOther CC.out _ _ (by omega), below_setRow FF.out.be (by omega) _⟩
  case pos =>
   have hkr : k < ro := by omega
   have hks : k < rows := by omega
   have RK1 := Box'.mk (fun wx => RK.out k wx hkr)
   have RG1 := Box'.mk (fun wx => RG.out k wx hks)
   have ME1 := Box'.mk (fun wx => ME.out b cap sp k wx hcap hkr hks)
   have SR1 := Box'.mk (fun wx => SRC.out k wx hks)
   have ML1 := Box'.mk (ML.out k hkr hks)
   have LM1 := Box'.mk (LM.out k hkr hks)
   clear RK RG ME SRC ML LM
   go_upto_region 9 with (fail)
   clear c1
   refine wp_region_growg 6 (by kernel_rfl) 48 rfl (by kernel_rfl) (fun wa wb => Below wa.heap.size wa wb) (fun wa => FrG w (gA (cols : Int) (rows : Int) (.slice (some ⟨gb, go', none⟩) n gc)) s wa ∧ Row wa q 24 (gA (co : Int) (ro : Int) (.slice (some ⟨b, 0, none⟩) N cap)) ∧ RC wa b (rz k) sp) (fun kc wa v => match kc with
    | 0 => v = .agg (gA (co : Int) (ro : Int) (.slice (some ⟨b, 0, none⟩) N cap))
    | 1 => v = .int .i64 (k : Int)
    | 2 => v = .slice (some ⟨b, co * k * 15, none⟩) co (cap - co * k)
    | 3 => v = .agg (gA (cols : Int) (rows : Int) (.slice (some ⟨gb, go', none⟩) n gc))
    | 4 => v = .int .i64 (k : Int)
    | 5 => v = (.slice (some ⟨gb, go' + cols * k * 15, none⟩) cols (gc - cols * k))
    | _ => True) ?_ ?_ ?_ ?_ ?_ ?_
   ·intro i o' j b' hi hg wa v hC hV
    have hlt : i < 6 := by rcases Nat.lt_or_ge i 6 with q | q; exact q; rw [List.getElem?_eq_none (by simpa using q)] at hi; cases hi
    revert hi hg hV
    rcases (show i = 0 ∨ i = 1 ∨ i = 2 ∨ i = 3 ∨ i = 4 ∨ i = 5 by omega) with rfl | rfl | rfl | rfl | rfl | rfl <;>
     (intro hi hg hV; simp only [tkS, List.getElem?_cons_zero, List.getElem?_cons_succ, Option.some.injEq] at hi; subst hi; first | (cases hg; exact hV) | (cases hg))
   ·rintro wa wb hb ⟨a1, a2, a3⟩; exact ⟨a1.below hb, a2.below hb a2.lt, Row.below a3 hb (Row.lt a3)⟩
   ·intro kc v wa wb hC1 hb h
    match kc, h with
    | 0, h => exact h
    | 1, h => exact h
    | 2, h => exact h
    | 3, h => exact h
    | 4, h => exact h
    | 5, h => exact h
    | kc + 6, h => trivial
   ·exact ⟨FF.out.drew, GG.out.below (bR.drew) GG.out.lt, Row.below CC.out (bR.drew) (Row.lt CC.out)⟩
   ·refine ⟨?_, ?_, ?_, ?_, ?_, ?_, trivial⟩
    ·intro f wq hC hd KK hK
     clear hd
     simp only [tkS, tkZ, setAll, siB, stS, stZ, Nat.zero_add, Nat.reduceAdd] at hK ⊢
     exact wp_load_row 24 (.tmp 10) rfl q rfl 24 (gA (co : Int) (ro : Int) (.slice (some ⟨b, 0, none⟩) N cap)) hC.2.1 _ U24.out rfl 3 S24.out rfl (hK _ _ rfl bR)
    ·intro f wq hC hd KK hK
     clear hd
     simp only [tkS, tkZ, setAll, siB, stS, stZ, Nat.zero_add, Nat.reduceAdd] at hK ⊢
     refine wp_of_quiet rfl ?_
     go_big_quiet_step (fail)
     exact wpQuiet_nil (hK _ _ (rfl) bR)
    ·intro f wq hC hd KK hK
     have g0 : f 0 = .agg (gA (co : Int) (ro : Int) (.slice (some ⟨b, 0, none⟩) N cap)) := hd 0 (by kernel_rfl)
     have g1 : f 1 = .int .i64 (k : Int) := hd 1 (by kernel_rfl)
     clear hd
     simp only [tkS, tkZ, setAll, siB, stS, stZ, Nat.zero_add, Nat.reduceAdd, g0, g1] at hK ⊢
     exact wp_call 39 #[.agg (gA (co : Int) (ro : Int) (.slice (some ⟨b, 0, none⟩) N cap)), .int .i64 (k : Int)] (by simp [go_sem]) _ _ (RK1.out wq) (fun w' hb => hK _ _ rfl hb)
    ·intro f wq hC hd KK hK
     clear hd
     simp only [tkS, tkZ, setAll, siB, stS, stZ, Nat.zero_add, Nat.reduceAdd] at hK ⊢
     exact wp_load_row 24 (.tmp 4) rfl w.heap.size rfl 24 (gA (cols : Int) (rows : Int) (.slice (some ⟨gb, go', none⟩) n gc)) hC.1.rg _ U24.out rfl 3 S24.out rfl (hK _ _ rfl bR)
    ·intro f wq hC hd KK hK
     clear hd
     simp only [tkS, tkZ, setAll, siB, stS, stZ, Nat.zero_add, Nat.reduceAdd] at hK ⊢
     refine wp_of_quiet rfl ?_
     go_big_quiet_step (fail)
     exact wpQuiet_nil (hK _ _ (rfl) bR)
    ·intro f wq hC hd KK hK
     have g3 : f 3 = .agg (gA (cols : Int) (rows : Int) (.slice (some ⟨gb, go', none⟩) n gc)) := hd 3 (by kernel_rfl)
     have g4 : f 4 = .int .i64 (k : Int) := hd 4 (by kernel_rfl)
     clear hd
     simp only [tkS, tkZ, setAll, siB, stS, stZ, Nat.zero_add, Nat.reduceAdd, g3, g4] at hK ⊢
     exact wp_call 39 #[.agg (gA (cols : Int) (rows : Int) (.slice (some ⟨gb, go', none⟩) n gc)), .int .i64 (k : Int)] (by simp [go_sem]) _ _ (RG1.out wq) (fun w' hb => hK _ _ rfl hb)
   ·intro f wz hC hv
    have p0 : f 0 = .agg (gA (co : Int) (ro : Int) (.slice (some ⟨b, 0, none⟩) N cap)) := hv 0 (by decide)
    have p1 : f 1 = .int .i64 (k : Int) := hv 1 (by decide)
    have p2 : f 2 = .slice (some ⟨b, co * k * 15, none⟩) co (cap - co * k) := hv 2 (by decide)
    have p3 : f 3 = .agg (gA (cols : Int) (rows : Int) (.slice (some ⟨gb, go', none⟩) n gc)) := hv 3 (by decide)
    have p4 : f 4 = .int .i64 (k : Int) := hv 4 (by decide)
    have p5 : f 5 = (.slice (some ⟨gb, go' + cols * k * 15, none⟩) cols (gc - cols * k)) := hv 5 (by decide)
    simp only [tkS, tkZ, List.drop_succ_cons, List.drop_zero, setAll, siB, stS, stZ, Nat.zero_add, Nat.reduceAdd, p0, p1, p2, p3, p4, p5]
    clear hv p0 p1 p2 p3 p4 p5
    have F7 := Box'.mk hC.1
    have G7 := Box'.mk hC.2.1
    have C7 := Box'.mk hC.2.2
    have SR2 := Box'.mk (SR1.out _ hC.1.be)
    clear hC FF GG CC
    go_upto_region 10 with (first
     | (refine wpList_copyA rfl (.tmp 38) (.tmp 41) rfl b (co * k * 15) (co * k) co (cap - co * k) (.slice (some ⟨gb, go' + cols * k * 15, none⟩) cols (gc - cols * k)) w.heap.size (rz k) (rf k) ((rf k).take co) sp rfl rfl SR2.out C7.out rfl (.inr rfl) ML1.out ?_; intro u8 w8 W8))
    rw [LM1.out] at W8
    have C8 := Box'.mk W8.out.1
    have F8 := Box'.mk (F7.out.tc W8.out.2 hb3)
    have G8 := Box'.mk (W8.out.2.row G7.out hqb)
    clear W8 F7 G7 C7 SR2 SR1 ML1 LM1 RG1
    go_wp2_with (first
     | (refine wpList_load_row rfl 24 (.tmp 10) rfl q rfl 24 (gA (co : Int) (ro : Int) (.slice (some ⟨b, 0, none⟩) N cap)) G8.out _ U24.out rfl 3 S24.out rfl ?_))
    refine (RK1.out _).mono ?_
    rintro e w9 ⟨rfl, hb⟩
    have F9 := Box'.mk (F8.out.below hb)
    have G9 := Box'.mk (G8.out.below hb G8.out.lt)
    have C9 := Box'.mk (Row.below C8.out hb (Row.lt C8.out))
    clear hb F8 G8 C8
    go_wp2_with fail
    refine (ME1.out _ C9.out).mono ?_
    rintro e wa ⟨⟨va, rfl⟩, hra, hta⟩
    have CA := Box'.mk hra
    have FA := Box'.mk (F9.out.tc hta hb3)
    have GA := Box'.mk (hta.row G9.out hqb)
    clear hra hta F9 G9 C9
    go_wp2_with fail
    exact ⟨⟨k + 1, by omega, by go_num, FA, GA, CA⟩, by simp [intOf]; omega⟩
theorem rresize_ok (cols rows : Nat) (v : Value) (c : List Cl) (co ro : Nat) (s : St) (w : World) (hv : Cls w.heap.size w v c) (hG : mayG (cols : Int) (rows : Int) c = true) (hS : mayS s = true) (k1 : 1 ≤ co) (k2 : co ≤ 512) (k3 : 1 ≤ ro) (k4 : ro ≤ 512) :
  Calls Try.prog 19 #[.agg (gA (cols : Int) (rows : Int) v), .int .i64 (co : Int), .int .i64 (ro : Int), .agg (sA s)] w fun e w' => ∃ b cap sp, e = .returned (gOk (co : Int) (ro : Int) (.slice (some ⟨b, 0, none⟩) (co * ro) cap)) ∧ w.heap.size ≤ b ∧ co * ro ≤ cap ∧ RC w' b (rzF c cols rows co ro s) sp ∧ Below w.heap.size w w' := by
 rcases Nat.lt_or_ge rows ro with h | h
 ·exact rresize_gt cols rows v c co ro s w hv hG hS k1 k2 k3 k4 h
 ·exact rresize_le cols rows v c co ro s w hv hG hS k1 k2 k3 k4 h
end Go.Proofs.Ytnbonlkmadmpcaa
