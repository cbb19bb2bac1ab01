/- The trial of a grid, walked; GridBack, walked. -/
import Derived.Test.YtnbonlkmadmpcaaNm
import Derived.Test.YtnbonlkmadmpcaaNo
import Derived.Test.YtnbonlkmadmpcaaRd
import Derived.Test.YtnbonlkmadmpcaaGy
import Derived.Test.YtnbonlkmadmpcaaGu
import Derived.Test.YtnbonlkmadmpcaaNl
namespace Go.Proofs.Ytnbonlkmadmpcaa
open Go.RowKit Go.BigFrame
set_option linter.unusedVariables false
set_option linter.unusedSimpArgs false
/-- A call whose answer is known up to what it stands for. -/
theorem wp_callE {P : Program} {Q : Exit → Act → World → Prop} {op : Oper} {a : Act} {w : World} {K : Act → World → Prop} (f : FuncId) (args : Array Value) (hrun : (execOp a.eval op).run P w = .ok (.enter f args) w) (R : Value → World → Prop)
  (hc : Calls P f args w (fun e w'' => ∃ v, e = .returned v ∧ R v w'')) (h : ∀ v w'', R v w'' → K (a.put op.dst v) w'') : op.wp P a w K Q := by
 unfold Oper.wp
 rw [hrun]
 exact hc.mono fun e w'' hh => by obtain ⟨v, rfl, hR⟩ := hh; exact h v w'' hR
def xa : Cl := ⟨97, 0, 0, 0, 1, pl⟩
def xb : Cl := ⟨98, 0, 0, 0, 1, pl⟩
def xw : Cl := ⟨20013, 0, 0, 0, 2, pl⟩
theorem of_97 : ofF 97 = 1 := by decide +kernel
theorem of_98 : ofF 98 = 1 := by decide +kernel
theorem of_w : ofF 20013 = 2 := by decide +kernel
def an0 : List Cl := [bl pl, bl pl, bl pl, bl pl]
def an1 : List Cl := [bl pl, xa, xb, bl pl]
theorem an0_may : mayG ((4 : Nat) : Int) ((1 : Nat) : Int) an0 = true := by kernel_rfl
theorem an1_may : mayG ((4 : Nat) : Int) ((1 : Nat) : Int) an1 = true := by kernel_rfl
theorem an_1 : putRow an0 4 0 (mnd (wrF (rowF an0 4 0) 1 [xa, xb])) = an1 := by kernel_rfl
theorem an_2 : putRow an1 4 0 (mnd (wrF (rowF an1 4 0) 3 [xw, hf pl])) = an1 := by kernel_rfl
theorem pl_may : mayS pl = true := by decide
theorem ab_may : [xa, xb].all mayC = true := by kernel_rfl
theorem w_may : [xw, hf pl].all mayC = true := by kernel_rfl
/-- What stands while a grid is tried. -/
structure AnM (w : World) (p q : Nat) (gv : Array Value) (b : Nat) (c : List Cl) (wr : World) : Prop where
 rp : Row wr p 26 (sA pl)
 rg : Row wr q 24 gv
 rc : RC wr b c []
 be : Below w.heap.size w wr
theorem AnM.below {w : World} {p q : Nat} {gv : Array Value} {b : Nat} {c : List Cl} {wr w' : World} (h : AnM w p q gv b c wr) (hb : Below wr.heap.size wr w') : AnM w p q gv b c w' :=
 ⟨h.rp.below hb h.rp.lt, h.rg.below hb h.rg.lt, h.rc.below hb h.rc.lt, h.be.trans (hb.mono h.be.size)⟩
theorem AnM.drew {w : World} {p q : Nat} {gv : Array Value} {b : Nat} {c : List Cl} {wr : World} (h : AnM w p q gv b c wr) : AnM w p q gv b c wr.drew := h.below (bR.drew)
theorem RC.whole {w : World} {g : Nat} {l : List Cl} {sp : List Value} (h : RC w g l sp) (n : Nat) (hn : l.length = n) : Cls w.heap.size w (.slice (some ⟨g, 0, none⟩) n n) l := by
 have := h.cls 0 n n (by omega) (Nat.le_refl _)
 rw [List.drop_zero, List.take_of_length_le (by omega), Nat.zero_mul] at this
 exact this
theorem rc_one {w : World} {g : Nat} {x : Cl} (h : Row w g 49 (cA x)) : RC w g [x] [] := by
 unfold RC
 rw [List.append_nil, cLs_one]
 exact h
theorem rc_two {w : World} {g : Nat} {x y : Cl} (h : Row w g 49 (cA x ++ cA y)) : RC w g [x, y] [] := by
 have e : (cLs [x, y] ++ []).toArray = cA x ++ cA y := by
  rw [List.append_nil, cLs, cLs_one]
  apply Array.ext'
  simp
 unfold RC
 rw [e]
 exact h
set_option maxRecDepth 100000 in
theorem run_mk2 (w : World) (x y : Cl) : (Instr.buildSlice 22 2 #[(0, .agg (cA x)), (1, .agg (cA y))]).run Try.prog w = .ok (.slice (some ⟨w.heap.size, 0, none⟩) 2 2) (w.alloc (.cells (cA x ++ cA y) 49)) := by
 simp [go_sem, cA]
theorem wp_mk2 {op : Oper} {a : Act} {w : World} {K : Act → World → Prop} {Q : Exit → Act → World → Prop} (p q : Operand) (x y : Cl) (ho : op.op = .buildSlice 22 2 #[(0, p), (1, q)]) (hp : a.eval p = .agg (cA x)) (hq : a.eval q = .agg (cA y))
  (h : K (a.put op.dst (.slice (some ⟨w.heap.size, 0, none⟩) 2 2)) (w.alloc (.cells (cA x ++ cA y) 49))) : op.wp Try.prog a w K Q := by
 unfold Oper.wp execOp
 simp only [ho, Sem.run_bind, List.map_toArray, List.map_cons, List.map_nil, hp, hq, run_mk2, Result.andThen_ok, Sem.run_pure]
 exact h
/-- A struct was written into the block q. -/
def Wq (q : Nat) (wa wb : World) : Prop := ∃ c, wb = wa.setRow q c ∧ c.size = 3
theorem Wq.row {q : Nat} {wa wb : World} (h : Wq q wa wb) {k : Nat} {t : TypeId} {c : Array Value} (hr : Row wa k t c) (hne : k ≠ q) : Row wb k t c := by
 obtain ⟨c', rfl, _⟩ := h
 exact hr.setRowOther _ _ hne
theorem Wq.rc {q : Nat} {wa wb : World} (h : Wq q wa wb) {g : Nat} {l : List Cl} {sp : List Value} (hr : RC wa g l sp) (hne : g ≠ q) : RC wb g l sp := Wq.row h hr hne
theorem Wq.below {q : Nat} {wa wb : World} (h : Wq q wa wb) {N : Nat} {w : World} (hb : Below N w wa) (hN : N ≤ q) : Below N w wb := by
 obtain ⟨c', rfl, _⟩ := h
 exact below_setRow hb hN _
theorem Wq.room {q : Nat} {wa wb : World} (h : Wq q wa wb) {r : Nat} (hr : Room wa r 24 3) : Room wb r 24 3 := by
 obtain ⟨c', rfl, hs⟩ := h
 by_cases e : r = q
 ·subst e; exact ⟨c', hr.setRow _, hs⟩
 ·exact hr.setRowOther _ _ e
theorem row_ne {w : World} {a b : Nat} {t u : TypeId} {c d : Array Value} (h1 : Row w a t c) (h2 : Row w b u d) (hne : t ≠ u) : a ≠ b := by
 intro e
 subst e
 unfold Row at h1 h2
 rw [h1] at h2
 cases h2
 exact hne rfl
theorem row_ne_room {w : World} {a b n : Nat} {t u : TypeId} {c : Array Value} (h1 : Row w a t c) (h2 : Room w b u n) (hne : t ≠ u) : a ≠ b := by
 obtain ⟨d, h3, _⟩ := h2
 exact row_ne h1 h3 hne
theorem Room.lt {w : World} {b n : Nat} {t : TypeId} (h : Room w b t n) : b < w.heap.size := by
 obtain ⟨d, h3, _⟩ := h
 exact h3.lt
/-- What stands while a grid is tried, with room for another one. -/
structure AnL (w : World) (p q : Nat) (b : Nat) (c : List Cl) (wr : World) : Prop where
 rp : Row wr p 26 (sA pl)
 rm : Room wr q 24 3
 rc : RC wr b c []
 be : Below w.heap.size w wr
theorem AnL.below {w : World} {p q : Nat} {b : Nat} {c : List Cl} {wr w' : World} (h : AnL w p q b c wr) (hb : Below wr.heap.size wr w') : AnL w p q b c w' :=
 ⟨h.rp.below hb h.rp.lt, h.rm.below hb h.rm.lt, h.rc.below hb h.rc.lt, h.be.trans (hb.mono h.be.size)⟩
theorem AnL.wq {w : World} {p q : Nat} {b : Nat} {c : List Cl} {wr w' : World} (h : AnL w p q b c wr) (hb : Wq q wr w') (hqz : w.heap.size ≤ q) : AnL w p q b c w' :=
 ⟨hb.row h.rp (row_ne_room h.rp h.rm (by decide)), hb.room h.rm, hb.rc h.rc (row_ne_room h.rc h.rm (by decide)), hb.below h.be hqz⟩
/-- A struct was written into a new block. -/
def Wn (N : Nat) (wa wb : World) : Prop := ∃ r, Wq r wa wb ∧ N ≤ r ∧ Room wa r 24 3
theorem Wn.rc {N : Nat} {wa wb : World} (h : Wn N wa wb) {g : Nat} {l : List Cl} {sp : List Value} (hr : RC wa g l sp) : RC wb g l sp := by
 obtain ⟨r, h1, h2, h3⟩ := h
 exact h1.rc hr (row_ne_room hr h3 (by decide))
theorem Wn.room {N : Nat} {wa wb : World} (h : Wn N wa wb) {r : Nat} (hr : Room wa r 24 3) : Room wb r 24 3 := by
 obtain ⟨r', h1, h2, h3⟩ := h
 exact h1.room hr
theorem Wn.an {N : Nat} {wa wb w : World} {p q : Nat} {gv : Array Value} {b : Nat} {c : List Cl} (h : Wn N wa wb) (ha : AnM w p q gv b c wa) (hp : p < N) (hq : q < N) (hb : b < N) (hw : w.heap.size ≤ N) : AnM w p q gv b c wb := by
 obtain ⟨r, h1, h2, h3⟩ := h
 exact ⟨h1.row ha.rp (by omega), h1.row ha.rg (by omega), h1.rc ha.rc (by omega), h1.below ha.be (by omega)⟩
theorem Wn.size {N : Nat} {wa wb : World} (h : Wn N wa wb) : wb.heap.size = wa.heap.size := by
 obtain ⟨r, ⟨c, rfl, _⟩, _⟩ := h
 exact setRow_size _ _ _
end Go.Proofs.Ytnbonlkmadmpcaa
namespace Go.Proofs.Ytnbonlkmadmpcaa
open Go.RowKit Go.BigFrame
set_option linter.unusedVariables false
set_option linter.unusedSimpArgs false
set_option maxRecDepth 100000 in
set_option maxHeartbeats 16000000 in
theorem anch_any (w : World) : Calls Try.prog 23 #[] w fun e w' => e = .returned (.bool true) ∧ Below w.heap.size w w' := by
 have PL := Box'.mk refPlain_any
 have NW : Box' (∀ wx, Calls Try.prog 7 #[.int .i64 4, .int .i64 1, .agg (sA pl)] wx fun e w' => ∃ b, e = .returned (.tuple #[.agg (gA 4 1 (.slice (some ⟨b, 0, none⟩) 4 4)), .int .i64 0]) ∧ wx.heap.size ≤ b ∧ RC w' b an0 [] ∧ Below wx.heap.size wx w') := ⟨fun wx => new_ok 4 1 pl wx (by decide) (by decide) (by decide) (by decide) pl_may⟩
 have W1 : Box' (∀ wx v vl, Cls wx.heap.size wx v an0 → Cls wx.heap.size wx vl [xa, xb] → Calls Try.prog 10 #[.agg (gA 4 1 v), .int .i64 0, .int .i64 1, .agg (sA pl), vl] wx fun e w' => ∃ b, e = .returned (.tuple #[.agg (gA 4 1 (.slice (some ⟨b, 0, none⟩) 4 4)), .int .i64 0]) ∧ wx.heap.size ≤ b ∧ RC w' b an1 [] ∧ Below wx.heap.size wx w') := ⟨fun wx v vl hv hl => by
  have := write_ok 4 1 v an0 0 1 pl vl [xa, xb] wx hv an0_may pl_may (by decide) hl ab_may (by decide) (by decide)
  rw [an_1] at this
  exact this⟩
 have W2 : Box' (∀ wx v vl, Cls wx.heap.size wx v an1 → Cls wx.heap.size wx vl [xw, hf pl] → Calls Try.prog 10 #[.agg (gA 4 1 v), .int .i64 0, .int .i64 3, .agg (sA pl), vl] wx fun e w' => ∃ b, e = .returned (.tuple #[.agg (gA 4 1 (.slice (some ⟨b, 0, none⟩) 4 4)), .int .i64 0]) ∧ wx.heap.size ≤ b ∧ RC w' b an1 [] ∧ Below wx.heap.size wx w') := ⟨fun wx v vl hv hl => by
  have := write_ok 4 1 v an1 0 3 pl vl [xw, hf pl] wx hv an1_may pl_may (by decide) hl w_may (by decide) (by decide)
  rw [an_2] at this
  exact this⟩
 have BL := Box'.mk (refBlank_any pl)
 have U24 := Box'.mk Try.underlying24
 have S24 := Box'.mk s24g
 have U26 := Box'.mk Try.underlying26
 have S26 := Box'.mk s24
 have O1 := Box'.mk (one10 pl)
 have O2 := Box'.mk (fun g => gA_one 4 1 (some ⟨g, 0, none⟩) 4 4)
 go_enter Try.func23, Try.ntmps23
 go_wp2_with fail
 refine (PL.out _).mono ?_
 rintro e w1 ⟨rfl, hb1⟩
 have RM : Box' (Room (w1.alloc (.cells #[.int .i64 0, .int .i64 0, .bool false, .bool false, .bool false, .bool false, .bool false, .bool false, .bool false, .bool false] 26)) w1.heap.size 26 10) := ⟨Room.new _ _ _ _ rfl⟩
 have R2 : Box' (Row ((w1.alloc (.cells #[.int .i64 0, .int .i64 0, .bool false, .bool false, .bool false, .bool false, .bool false, .bool false, .bool false, .bool false] 26)).setRow w1.heap.size (sA pl)) w1.heap.size 26 (sA pl)) := ⟨RM.out.setRow _⟩
 have B2 : Box' (Below w.heap.size w ((w1.alloc (.cells #[.int .i64 0, .int .i64 0, .bool false, .bool false, .bool false, .bool false, .bool false, .bool false, .bool false, .bool false] 26)).setRow w1.heap.size (sA pl))) := ⟨below_setRow (hb1.alloc hb1.size _) hb1.size _⟩
 clear hb1
 go_upto_region 2 with (first
  | (refine wpList_store_row rfl 26 (.tmp 1) (.tmp 9) rfl w1.heap.size rfl (sA pl) rfl 26 10 RM.out S26.out rfl O1.out ?_))
 generalize ((w1.alloc (.cells #[.int .i64 0, .int .i64 0, .bool false, .bool false, .bool false, .bool false, .bool false, .bool false, .bool false, .bool false] 26)).setRow w1.heap.size (sA pl)) = w2 at *
 clear RM
 generalize w1.heap.size = p at *
 go_wp2_with (first
  | (refine wpList_load_row rfl 26 (.tmp 1) rfl p rfl 26 (sA pl) R2.out _ U26.out rfl 10 S26.out rfl ?_))
 refine (NW.out _).mono ?_
 rintro e w3 ⟨b, rfl, hb0, hrc, hb⟩
 have RM : Box' (Room (w3.alloc (.cells #[.int .i64 0, .int .i64 0, .slice none 0 0] 24)) w3.heap.size 24 3) := ⟨Room.new _ _ _ _ rfl⟩
 have A4 : Box' (AnM w p w3.heap.size (gA 4 1 (.slice (some ⟨b, 0, none⟩) 4 4)) b an0 ((w3.alloc (.cells #[.int .i64 0, .int .i64 0, .slice none 0 0] 24)).setRow w3.heap.size (gA 4 1 (.slice (some ⟨b, 0, none⟩) 4 4)))) := ⟨⟨Row.setRowOther ((R2.out.below hb R2.out.lt).alloc _) _ _ (by have := (R2.out.below hb R2.out.lt).lt; omega), RM.out.setRow _, Row.setRowOther (Row.alloc hrc _) _ _ (by have := hrc.lt; omega), below_setRow ((B2.out.trans (hb.mono B2.out.size)).alloc (B2.out.trans (hb.mono B2.out.size)).size _) (B2.out.trans (hb.mono B2.out.size)).size _⟩⟩
 have Z3 : w.heap.size ≤ w3.heap.size := (B2.out.trans (hb.mono B2.out.size)).size
 clear hb hrc hb0 R2 B2 NW PL
 go_upto_region 3 with (first
  | (refine wpList_store_row rfl 24 (.tmp 2) (.tmp 13) rfl w3.heap.size rfl (gA 4 1 (.slice (some ⟨b, 0, none⟩) 4 4)) rfl 24 3 RM.out S24.out rfl (O2.out b) ?_))
 generalize ((w3.alloc (.cells #[.int .i64 0, .int .i64 0, .slice none 0 0] 24)).setRow w3.heap.size (gA 4 1 (.slice (some ⟨b, 0, none⟩) 4 4))) = w4 at *
 clear RM
 generalize w3.heap.size = q at *
 refine wp_region_growg 4 (by kernel_rfl) 73 rfl (by kernel_rfl) (fun wa wb => Below wa.heap.size wa wb) (fun wa => AnM w p q (gA 4 1 (.slice (some ⟨b, 0, none⟩) 4 4)) b an0 wa) (fun kc wa v => match kc with
  | 0 => v = .agg (sA pl)
  | 1 => ∃ g, v = .slice (some ⟨g, 0, none⟩) 1 1 ∧ Row wa g 49 (cA xa)
  | 2 => v = .agg (sA pl)
  | 3 => ∃ g, v = .slice (some ⟨g, 0, none⟩) 1 1 ∧ Row wa g 49 (cA xb)
  | _ => True) ?_ ?_ ?_ ?_ ?_ ?_
 ·intro i o' j b' hi hg wa v hC hV
  have hlt : i < 4 := by rcases Nat.lt_or_ge i 4 with q | q; exact q; rw [List.getElem?_eq_none (by simpa using q)] at hi; cases hi
  revert hi hg hV
  rcases (show i = 0 ∨ i = 1 ∨ i = 2 ∨ i = 3 by omega) with rfl | rfl | rfl | rfl <;>
   (intro hi hg hV; simp only [tkS, List.getElem?_cons_zero, List.getElem?_cons_succ, Option.some.injEq] at hi; subst hi; first | (cases hg; exact hV) | (cases hg))
 ·intro wa wb hb q; exact q.below hb
 ·intro kc v wa wb hC1 hb h
  match kc, h with
  | 0, h => exact h
  | 1, h => exact (by obtain ⟨g, h1, h2⟩ := h; exact ⟨g, h1, h2.below hb h2.lt⟩)
  | 2, h => exact h
  | 3, h => exact (by obtain ⟨g, h1, h2⟩ := h; exact ⟨g, h1, h2.below hb h2.lt⟩)
  | kc + 4, h => trivial
 ·exact A4.out.drew
 ·refine ⟨?_, ?_, ?_, ?_, trivial⟩
  ·intro f wq hC hd KK hK
   clear hd
   simp only [tkS, tkZ, setAll, siB, stS, stZ, Nat.zero_add, Nat.reduceAdd] at hK ⊢
   exact wp_load_row 26 (.tmp 1) rfl p rfl 26 (sA pl) hC.rp _ U26.out rfl 10 S26.out rfl (hK _ _ rfl bR)
  ·intro f wq hC hd KK hK
   have g0 : f 0 = .agg (sA pl) := hd 0 (by kernel_rfl)
   clear hd
   simp only [tkS, tkZ, setAll, siB, stS, stZ, Nat.zero_add, Nat.reduceAdd, g0] at hK ⊢
   exact wp_callE 48 #[.int .i32 97, .agg (sA pl)] (by simp [go_sem]) (fun v w'' => (∃ g, v = .slice (some ⟨g, 0, none⟩) 1 1 ∧ Row w'' g 49 (cA xa)) ∧ Below wq.heap.size wq w'') ((refPut_1 97 pl of_97 wq).mono (fun e w' h => by obtain ⟨g, rfl, hr, hb⟩ := h; exact ⟨_, rfl, ⟨g, rfl, hr⟩, hb⟩)) (fun v w'' h => hK _ _ h.1 h.2)
  ·intro f wq hC hd KK hK
   clear hd
   simp only [tkS, tkZ, setAll, siB, stS, stZ, Nat.zero_add, Nat.reduceAdd] at hK ⊢
   exact wp_load_row 26 (.tmp 1) rfl p rfl 26 (sA pl) hC.rp _ U26.out rfl 10 S26.out rfl (hK _ _ rfl bR)
  ·intro f wq hC hd KK hK
   have g2 : f 2 = .agg (sA pl) := hd 2 (by kernel_rfl)
   clear hd
   simp only [tkS, tkZ, setAll, siB, stS, stZ, Nat.zero_add, Nat.reduceAdd, g2] at hK ⊢
   exact wp_callE 48 #[.int .i32 98, .agg (sA pl)] (by simp [go_sem]) (fun v w'' => (∃ g, v = .slice (some ⟨g, 0, none⟩) 1 1 ∧ Row w'' g 49 (cA xb)) ∧ Below wq.heap.size wq w'') ((refPut_1 98 pl of_98 wq).mono (fun e w' h => by obtain ⟨g, rfl, hr, hb⟩ := h; exact ⟨_, rfl, ⟨g, rfl, hr⟩, hb⟩)) (fun v w'' h => hK _ _ h.1 h.2)
 ·intro f wz hC hv
  have p0 : f 0 = .agg (sA pl) := hv 0 (by decide)
  have p1 : ∃ g, (f 1) = .slice (some ⟨g, 0, none⟩) 1 1 ∧ Row wz g 49 (cA xa) := hv 1 (by decide)
  have p2 : f 2 = .agg (sA pl) := hv 2 (by decide)
  have p3 : ∃ g, (f 3) = .slice (some ⟨g, 0, none⟩) 1 1 ∧ Row wz g 49 (cA xb) := hv 3 (by decide)
  simp only [tkS, tkZ, List.drop_succ_cons, List.drop_zero, setAll, siB, stS, stZ, Nat.zero_add, Nat.reduceAdd, p0, p2]
  clear hv p0 p2
  have A5 := Box'.mk hC
  obtain ⟨ga, ea, ra⟩ := p1
  obtain ⟨gb, eb, rb⟩ := p3
  rw [ea, eb]
  have RA := Box'.mk (rc_one ra)
  have RB := Box'.mk (rc_one rb)
  clear hC ra rb ea eb A4
  have hqz : w.heap.size ≤ q := Z3
  go_wp2_with fail
  refine wp_region_late 14 13 (by kernel_rfl) (by kernel_rfl) _ rfl (by kernel_rfl) (by kernel_rfl) (fun wa wb => Below wa.heap.size wa wb) (fun wa wb => Wq q wa wb) (fun wa => AnL w p q b an0 wa ∧ RC wa ga [xa] [] ∧ RC wa gb [xb] []) (fun wa => Row wa q 24 (gA 4 1 (.slice (some ⟨b, 0, none⟩) 4 4))) (fun kc wa v => match kc with
   | 0 => v = .agg (gA 4 1 (.slice (some ⟨b, 0, none⟩) 4 4))
   | 1 => v = .agg (sA pl)
   | 2 => v = .slice (some ⟨ga, 0, none⟩) 1 1
   | 3 => v = .pointer (some ⟨ga, 0, none⟩)
   | 4 => v = .agg (cA xa)
   | 5 => v = .slice (some ⟨gb, 0, none⟩) 1 1
   | 6 => v = .pointer (some ⟨gb, 0, none⟩)
   | 7 => v = .agg (cA xb)
   | 8 => ∃ g, v = .slice (some ⟨g, 0, none⟩) 2 2 ∧ RC wa g [xa, xb] [] ∧ g ≠ q
   | 9 => ∃ g, v = .tuple #[.agg (gA 4 1 (.slice (some ⟨g, 0, none⟩) 4 4)), .int .i64 0] ∧ RC wa g an1 [] ∧ g ≠ q
   | 10 => ∃ g, v = .tuple #[.agg (gA 4 1 (.slice (some ⟨g, 0, none⟩) 4 4)), .int .i64 0] ∧ RC wa g an1 [] ∧ g ≠ q
   | 11 => ∃ g, v = .agg (gA 4 1 (.slice (some ⟨g, 0, none⟩) 4 4)) ∧ RC wa g an1 [] ∧ g ≠ q
   | 12 => v = .int .i64 0
   | 13 => True
   | _ => True) (fun _ wa => ∃ g, Row wa q 24 (gA 4 1 (.slice (some ⟨g, 0, none⟩) 4 4)) ∧ RC wa g an1 [] ∧ g ≠ q) ?_ ?_ ?_ ?_ ?_ ?_ ?_ ?_ ?_ ?_ ?_ ?_
  ·rintro wa wb hb ⟨q1, q2, q3⟩; exact ⟨q1.below hb, q2.below hb q2.lt, q3.below hb q3.lt⟩
  ·intro wa wb hb hC1 h; exact h.below hb h.lt
  ·intro kc v wa wb hC1 hb h
   match kc, h with
   | 0, h => exact h
   | 1, h => exact h
   | 2, h => exact h
   | 3, h => exact h
   | 4, h => exact h
   | 5, h => exact h
   | 6, h => exact h
   | 7, h => exact h
   | 8, h => exact (by obtain ⟨g, h1, h2, h3⟩ := h; exact ⟨g, h1, h2.below hb h2.lt, h3⟩)
   | 9, h => exact (by obtain ⟨g, h1, h2, h3⟩ := h; exact ⟨g, h1, h2.below hb h2.lt, h3⟩)
   | 10, h => exact (by obtain ⟨g, h1, h2, h3⟩ := h; exact ⟨g, h1, h2.below hb h2.lt, h3⟩)
   | 11, h => exact (by obtain ⟨g, h1, h2, h3⟩ := h; exact ⟨g, h1, h2.below hb h2.lt, h3⟩)
   | 12, h => exact h
   | 13, h => exact h
   | kc + 14, h => trivial
  ·rintro f wa wb hC1 hb ⟨g, h1, h2, h3⟩; exact ⟨g, h1.below hb h1.lt, h2.below hb h2.lt, h3⟩
  ·rintro wa wb hb ⟨q1, q2, q3⟩; exact ⟨q1.wq hb hqz, hb.rc q2 (row_ne_room q2 q1.rm (by decide)), hb.rc q3 (row_ne_room q3 q1.rm (by decide))⟩
  ·intro kc v wa wb hne hC1 hb h
   match kc, hne, h with
   | 0, _, h => exact h
   | 1, _, h => exact h
   | 2, _, h => exact h
   | 3, _, h => exact h
   | 4, _, h => exact h
   | 5, _, h => exact h
   | 6, _, h => exact h
   | 7, _, h => exact h
   | 8, _, h => exact (by obtain ⟨g, h1, h2, h3⟩ := h; exact ⟨g, h1, hb.rc h2 h3, h3⟩)
   | 9, _, h => exact (by obtain ⟨g, h1, h2, h3⟩ := h; exact ⟨g, h1, hb.rc h2 h3, h3⟩)
   | 10, _, h => exact (by obtain ⟨g, h1, h2, h3⟩ := h; exact ⟨g, h1, hb.rc h2 h3, h3⟩)
   | 11, _, h => exact (by obtain ⟨g, h1, h2, h3⟩ := h; exact ⟨g, h1, hb.rc h2 h3, h3⟩)
   | 12, _, h => exact h
   | 13, _, h => exact h
   | kc + 14, _, h => trivial
  ·intro f kc v wa _ h; exact h
  ·exact ⟨⟨A5.out.drew.rp, A5.out.drew.rg.room rfl, A5.out.drew.rc, A5.out.drew.be⟩, RA.out.drew, RB.out.drew⟩
  ·exact A5.out.drew.rg
  ·refine ⟨?_, ?_, ?_, ?_, ?_, ?_, ?_, ?_, ?_, ?_, ?_, ?_, ?_, ?_, trivial⟩
   ·intro _ f wq hC hc0 hd KK hK
    have hr := hc0 (by kernel_rfl)
    simp only [tkS, tkZ, setAll, siB, stS, stZ, Nat.zero_add, Nat.reduceAdd] at hK ⊢
    exact wp_load_row 24 (.tmp 2) rfl q rfl 24 (gA 4 1 (.slice (some ⟨b, 0, none⟩) 4 4)) hr _ U24.out rfl 3 S24.out rfl (hK _ _ rfl bR)
   ·intro _ f wq hC hc0 hd KK hK
    clear hd
    simp only [tkS, tkZ, setAll, siB, stS, stZ, Nat.zero_add, Nat.reduceAdd] at hK ⊢
    exact wp_load_row 26 (.tmp 1) rfl p rfl 26 (sA pl) hC.1.rp _ U26.out rfl 10 S26.out rfl (hK _ _ rfl bR)
   ·intro _ f wq hC hc0 hd KK hK
    clear hd
    simp only [tkS, tkZ, setAll, siB, stS, stZ, Nat.zero_add, Nat.reduceAdd] at hK ⊢
    refine wp_of_quiet rfl ?_
    go_big_quiet_step (fail)
    exact wpQuiet_nil (hK _ _ (rfl) bR)
   ·intro _ f wq hC hc0 hd KK hK
    have g2 : f 2 = .slice (some ⟨ga, 0, none⟩) 1 1 := hd 2 (by kernel_rfl)
    clear hd
    simp only [tkS, tkZ, setAll, siB, stS, stZ, Nat.zero_add, Nat.reduceAdd, g2] at hK ⊢
    refine wp_of_quiet rfl ?_
    go_big_quiet_step (fail)
    exact wpQuiet_nil (hK _ _ (rfl) bR)
   ·intro _ f wq hC hc0 hd KK hK
    have g3 : f 3 = .pointer (some ⟨ga, 0, none⟩) := hd 3 (by kernel_rfl)
    clear hd
    simp only [tkS, tkZ, setAll, siB, stS, stZ, Nat.zero_add, Nat.reduceAdd, g3] at hK ⊢
    exact wp_load_cell (.tmp 23) rfl ga 0 xa rfl (rangeAt_cell (k := 0) hC.2.1 (by decide)) (hK _ _ rfl bR)
   ·intro _ f wq hC hc0 hd KK hK
    clear hd
    simp only [tkS, tkZ, setAll, siB, stS, stZ, Nat.zero_add, Nat.reduceAdd] at hK ⊢
    refine wp_of_quiet rfl ?_
    go_big_quiet_step (fail)
    exact wpQuiet_nil (hK _ _ (rfl) bR)
   ·intro _ f wq hC hc0 hd KK hK
    have g5 : f 5 = .slice (some ⟨gb, 0, none⟩) 1 1 := hd 5 (by kernel_rfl)
    clear hd
    simp only [tkS, tkZ, setAll, siB, stS, stZ, Nat.zero_add, Nat.reduceAdd, g5] at hK ⊢
    refine wp_of_quiet rfl ?_
    go_big_quiet_step (fail)
    exact wpQuiet_nil (hK _ _ (rfl) bR)
   ·intro _ f wq hC hc0 hd KK hK
    have g6 : f 6 = .pointer (some ⟨gb, 0, none⟩) := hd 6 (by kernel_rfl)
    clear hd
    simp only [tkS, tkZ, setAll, siB, stS, stZ, Nat.zero_add, Nat.reduceAdd, g6] at hK ⊢
    exact wp_load_cell (.tmp 26) rfl gb 0 xb rfl (rangeAt_cell (k := 0) hC.2.2 (by decide)) (hK _ _ rfl bR)
   ·intro _ f wq hC hc0 hd KK hK
    have g4 : f 4 = .agg (cA xa) := hd 4 (by kernel_rfl)
    have g7 : f 7 = .agg (cA xb) := hd 7 (by kernel_rfl)
    clear hd
    simp only [tkS, tkZ, setAll, siB, stS, stZ, Nat.zero_add, Nat.reduceAdd, g4, g7] at hK ⊢
    exact wp_mk2 (.tmp 24) (.tmp 27) xa xb rfl rfl rfl (hK _ _ ⟨wq.heap.size, rfl, rc_two (Row.new _ _ _), by have := hC.1.rm.lt; omega⟩ (bR.alloc (Nat.le_refl _) _))
   ·intro _ f wq hC hc0 hd KK hK
    have g0 : f 0 = .agg (gA 4 1 (.slice (some ⟨b, 0, none⟩) 4 4)) := hd 0 (by kernel_rfl)
    have g1 : f 1 = .agg (sA pl) := hd 1 (by kernel_rfl)
    have hh : ∃ g, f 8 = .slice (some ⟨g, 0, none⟩) 2 2 ∧ RC wq g [xa, xb] [] ∧ g ≠ q := hd 8 (by kernel_rfl)
  
    simp only [tkS, tkZ, setAll, siB, stS, stZ, Nat.zero_add, Nat.reduceAdd, g0, g1] at hK ⊢
    obtain ⟨g8, e8, r8, n8⟩ := hh
    rw [e8] at hK ⊢
    clear hd
    exact wp_callE 10 #[.agg (gA 4 1 (.slice (some ⟨b, 0, none⟩) 4 4)), .int .i64 0, .int .i64 1, .agg (sA pl), .slice (some ⟨g8, 0, none⟩) 2 2] (by simp [go_sem]) (fun v w'' => (∃ g, v = .tuple #[.agg (gA 4 1 (.slice (some ⟨g, 0, none⟩) 4 4)), .int .i64 0] ∧ RC w'' g an1 [] ∧ g ≠ q) ∧ Below wq.heap.size wq w'') ((W1.out wq _ _ (hC.1.rc.whole 4 rfl) (r8.whole 2 rfl)).mono (fun e w' h => by obtain ⟨g, rfl, hg, hr, hb⟩ := h; exact ⟨_, rfl, ⟨g, rfl, hr, by have := hC.1.rm.lt; omega⟩, hb⟩)) (fun v w'' h => hK _ _ h.1 h.2)
   ·intro _ f wq hC hc0 hd KK hK
    have hh : ∃ g, f 9 = .tuple #[.agg (gA 4 1 (.slice (some ⟨g, 0, none⟩) 4 4)), .int .i64 0] ∧ RC wq g an1 [] ∧ g ≠ q := hd 9 (by kernel_rfl)
    simp only [tkS, tkZ, setAll, siB, stS, stZ, Nat.zero_add, Nat.reduceAdd] at hK ⊢
    obtain ⟨g, e2, r2, n2⟩ := hh
    rw [e2] at hK ⊢
    clear hd
    refine wp_of_quiet rfl ?_
    go_big_quiet_step (fail)
    exact wpQuiet_nil (hK _ _ ⟨g, rfl, r2, n2⟩ bR)
   ·intro _ f wq hC hc0 hd KK hK
    have hh : ∃ g, f 10 = .tuple #[.agg (gA 4 1 (.slice (some ⟨g, 0, none⟩) 4 4)), .int .i64 0] ∧ RC wq g an1 [] ∧ g ≠ q := hd 10 (by kernel_rfl)
    simp only [tkS, tkZ, setAll, siB, stS, stZ, Nat.zero_add, Nat.reduceAdd] at hK ⊢
    obtain ⟨g, e2, r2, n2⟩ := hh
    rw [e2] at hK ⊢
    clear hd
    refine wp_of_quiet rfl ?_
    go_big_quiet_step (fail)
    exact wpQuiet_nil (hK _ _ ⟨g, rfl, r2, n2⟩ bR)
   ·intro _ f wq hC hc0 hd KK hK
    have hh : ∃ g, f 10 = .tuple #[.agg (gA 4 1 (.slice (some ⟨g, 0, none⟩) 4 4)), .int .i64 0] ∧ RC wq g an1 [] ∧ g ≠ q := hd 10 (by kernel_rfl)
    simp only [tkS, tkZ, setAll, siB, stS, stZ, Nat.zero_add, Nat.reduceAdd] at hK ⊢
    obtain ⟨g, e2, r2, n2⟩ := hh
    rw [e2] at hK ⊢
    clear hd
    refine wp_of_quiet rfl ?_
    go_big_quiet_step (fail)
    exact wpQuiet_nil (hK _ _ rfl bR)
   ·intro hh; exact (hh rfl).elim
  ·intro f wq hC hc0 hd KK hK
   have hh : ∃ g, f 11 = .agg (gA 4 1 (.slice (some ⟨g, 0, none⟩) 4 4)) ∧ RC wq g an1 [] ∧ g ≠ q := hd 11 (by kernel_rfl)
   simp only [tkS, tkZ, setAll, siB, stS, stZ, Nat.zero_add, Nat.reduceAdd] at hK ⊢
   obtain ⟨g, e2, r2, n2⟩ := hh
   rw [e2] at hK ⊢
   clear hd
   exact wp_store_row 24 (.tmp 2) (.tmp 30) rfl q rfl (gA 4 1 (.slice (some ⟨g, 0, none⟩) 4 4)) rfl 24 3 hC.1.rm S24.out rfl (O2.out g) (hK _ _ ⟨g, hC.1.rm.setRow _, Row.setRowOther r2 _ _ n2, n2⟩ ⟨_, rfl, rfl⟩)
  ·intro f wz hC hR hv
   have p0 : f 0 = .agg (gA 4 1 (.slice (some ⟨b, 0, none⟩) 4 4)) := hv 0 (by decide) (by decide)
   have p1 : f 1 = .agg (sA pl) := hv 1 (by decide) (by decide)
   have p2 : f 2 = .slice (some ⟨ga, 0, none⟩) 1 1 := hv 2 (by decide) (by decide)
   have p3 : f 3 = .pointer (some ⟨ga, 0, none⟩) := hv 3 (by decide) (by decide)
   have p4 : f 4 = .agg (cA xa) := hv 4 (by decide) (by decide)
   have p5 : f 5 = .slice (some ⟨gb, 0, none⟩) 1 1 := hv 5 (by decide) (by decide)
   have p6 : f 6 = .pointer (some ⟨gb, 0, none⟩) := hv 6 (by decide) (by decide)
   have p7 : f 7 = .agg (cA xb) := hv 7 (by decide) (by decide)
   have p8 : ∃ g, (f 8) = .slice (some ⟨g, 0, none⟩) 2 2 ∧ RC wz g [xa, xb] [] ∧ g ≠ q := hv 8 (by decide) (by decide)
   have p9 : ∃ g, (f 9) = .tuple #[.agg (gA 4 1 (.slice (some ⟨g, 0, none⟩) 4 4)), .int .i64 0] ∧ RC wz g an1 [] ∧ g ≠ q := hv 9 (by decide) (by decide)
   have p10 : ∃ g, (f 10) = .tuple #[.agg (gA 4 1 (.slice (some ⟨g, 0, none⟩) 4 4)), .int .i64 0] ∧ RC wz g an1 [] ∧ g ≠ q := hv 10 (by decide) (by decide)
   have p11 : ∃ g, (f 11) = .agg (gA 4 1 (.slice (some ⟨g, 0, none⟩) 4 4)) ∧ RC wz g an1 [] ∧ g ≠ q := hv 11 (by decide) (by decide)
   have p12 : f 12 = .int .i64 0 := hv 12 (by decide) (by decide)
   simp only [tkS, tkZ, List.drop_succ_cons, List.drop_zero, setAll, siB, stS, stZ, Nat.zero_add, Nat.reduceAdd, p0, p1, p2, p3, p4, p5, p6, p7, p12]
   clear hv p0 p1 p2 p3 p4 p5 p6 p7 p12
   obtain ⟨b2, rg2, rc2, n2⟩ := hR
   have A8 : Box' (AnM w p q (gA 4 1 (.slice (some ⟨b2, 0, none⟩) 4 4)) b2 an1 wz) := ⟨⟨hC.1.rp, rg2, rc2, hC.1.be⟩⟩
   clear hC rg2 rc2 n2 p8 p9 p10 p11 RA RB A5
   go_upto_region 5 with (fail)
   have hpN : p < wz.heap.size := A8.out.rp.lt
   have hqN : q < wz.heap.size := A8.out.rg.lt
   have hbN : b2 < wz.heap.size := A8.out.rc.lt
   have hwN : w.heap.size ≤ wz.heap.size := A8.out.be.size
   generalize hN0 : wz.heap.size = N0 at *
   refine wp_region_late 10 9 (by kernel_rfl) (by kernel_rfl) _ rfl (by kernel_rfl) (by kernel_rfl) (fun wa wb => Below wa.heap.size wa wb) (fun wa wb => Wn N0 wa wb) (fun wa => AnM w p q (gA 4 1 (.slice (some ⟨b2, 0, none⟩) 4 4)) b2 an1 wa ∧ N0 ≤ wa.heap.size) (fun _ => True) (fun kc wa v => match kc with
    | 0 => v = .agg (gA 4 1 (.slice (some ⟨b2, 0, none⟩) 4 4))
    | 1 => v = .agg (sA pl)
    | 2 => v = .agg (sA pl)
    | 3 => ∃ g, v = .slice (some ⟨g, 0, none⟩) 2 2 ∧ RC wa g [xw, hf pl] []
    | 4 => ∃ g, v = .tuple #[.agg (gA 4 1 (.slice (some ⟨g, 0, none⟩) 4 4)), .int .i64 0] ∧ RC wa g an1 []
    | 5 => ∃ g, v = .tuple #[.agg (gA 4 1 (.slice (some ⟨g, 0, none⟩) 4 4)), .int .i64 0] ∧ RC wa g an1 []
    | 6 => ∃ g, v = .agg (gA 4 1 (.slice (some ⟨g, 0, none⟩) 4 4)) ∧ RC wa g an1 []
    | 7 => v = .int .i64 0
    | 8 => ∃ r, v = .pointer (some ⟨r, 0, none⟩) ∧ Room wa r 24 3 ∧ N0 ≤ r
    | 9 => True
    | _ => True) (fun f wa => ∃ r g, f 8 = .pointer (some ⟨r, 0, none⟩) ∧ Row wa r 24 (gA 4 1 (.slice (some ⟨g, 0, none⟩) 4 4)) ∧ RC wa g an1 [] ∧ N0 ≤ r) ?_ ?_ ?_ ?_ ?_ ?_ ?_ ?_ ?_ ?_ ?_ ?_
   ·rintro wa wb hb ⟨q1, q2⟩; exact ⟨q1.below hb, Nat.le_trans q2 hb.size⟩
   ·intro wa wb hb hC1 h; trivial
   ·intro kc v wa wb hC1 hb h
    match kc, h with
    | 0, h => exact h
    | 1, h => exact h
    | 2, h => exact h
    | 3, h => exact (by obtain ⟨g, h1, h2⟩ := h; exact ⟨g, h1, h2.below hb h2.lt⟩)
    | 4, h => exact (by obtain ⟨g, h1, h2⟩ := h; exact ⟨g, h1, h2.below hb h2.lt⟩)
    | 5, h => exact (by obtain ⟨g, h1, h2⟩ := h; exact ⟨g, h1, h2.below hb h2.lt⟩)
    | 6, h => exact (by obtain ⟨g, h1, h2⟩ := h; exact ⟨g, h1, h2.below hb h2.lt⟩)
    | 7, h => exact h
    | 8, h => exact (by obtain ⟨r, h1, h2, h3⟩ := h; exact ⟨r, h1, h2.below hb h2.lt, h3⟩)
    | 9, h => exact h
    | kc + 10, h => trivial
   ·rintro f wa wb hC1 hb ⟨r, g, h1, h2, h3, h4⟩; exact ⟨r, g, h1, h2.below hb h2.lt, h3.below hb h3.lt, h4⟩
   ·rintro wa wb hb ⟨q1, q2⟩; exact ⟨hb.an q1 hpN hqN hbN hwN, by rw [hb.size]; exact q2⟩
   ·intro kc v wa wb hne hC1 hb h
    match kc, hne, h with
    | 0, _, h => exact h
    | 1, _, h => exact h
    | 2, _, h => exact h
    | 3, _, h => exact (by obtain ⟨g, h1, h2⟩ := h; exact ⟨g, h1, hb.rc h2⟩)
    | 4, _, h => exact (by obtain ⟨g, h1, h2⟩ := h; exact ⟨g, h1, hb.rc h2⟩)
    | 5, _, h => exact (by obtain ⟨g, h1, h2⟩ := h; exact ⟨g, h1, hb.rc h2⟩)
    | 6, _, h => exact (by obtain ⟨g, h1, h2⟩ := h; exact ⟨g, h1, hb.rc h2⟩)
    | 7, _, h => exact h
    | 8, _, h => exact (by obtain ⟨r, h1, h2, h3⟩ := h; exact ⟨r, h1, hb.room h2, h3⟩)
    | 9, _, h => exact h
    | kc + 10, _, h => trivial
   ·rintro f kc v wa hk ⟨r, g, h1, h2⟩; refine ⟨r, g, ?_, h2⟩; unfold upd; split; (rename_i e; subst e; exact ((Bool.eq_false_iff.1 hk) (by kernel_rfl)).elim); exact h1
   ·exact ⟨A8.out.drew, by show N0 ≤ wz.heap.size; omega⟩
   ·trivial
   ·refine ⟨?_, ?_, ?_, ?_, ?_, ?_, ?_, ?_, ?_, ?_, trivial⟩
    ·intro _ f wq hC hc0 hd KK hK
     clear hd
     simp only [tkS, tkZ, setAll, siB, stS, stZ, Nat.zero_add, Nat.reduceAdd] at hK ⊢
     exact wp_load_row 24 (.tmp 2) rfl q rfl 24 (gA 4 1 (.slice (some ⟨b2, 0, none⟩) 4 4)) hC.1.rg _ U24.out rfl 3 S24.out rfl (hK _ _ rfl bR)
    ·intro _ f wq hC hc0 hd KK hK
     clear hd
     simp only [tkS, tkZ, setAll, siB, stS, stZ, Nat.zero_add, Nat.reduceAdd] at hK ⊢
     exact wp_load_row 26 (.tmp 1) rfl p rfl 26 (sA pl) hC.1.rp _ U26.out rfl 10 S26.out rfl (hK _ _ rfl bR)
    ·intro _ f wq hC hc0 hd KK hK
     clear hd
     simp only [tkS, tkZ, setAll, siB, stS, stZ, Nat.zero_add, Nat.reduceAdd] at hK ⊢
     exact wp_load_row 26 (.tmp 1) rfl p rfl 26 (sA pl) hC.1.rp _ U26.out rfl 10 S26.out rfl (hK _ _ rfl bR)
    ·intro _ f wq hC hc0 hd KK hK
     have g2 : f 2 = .agg (sA pl) := hd 2 (by kernel_rfl)
     clear hd
     simp only [tkS, tkZ, setAll, siB, stS, stZ, Nat.zero_add, Nat.reduceAdd, g2] at hK ⊢
     exact wp_callE 48 #[.int .i32 20013, .agg (sA pl)] (by simp [go_sem]) (fun v w'' => (∃ g, v = .slice (some ⟨g, 0, none⟩) 2 2 ∧ RC w'' g [xw, hf pl] []) ∧ Below wq.heap.size wq w'') ((refPut_2 20013 pl of_w wq).mono (fun e w' h => by obtain ⟨g, rfl, hr, hb⟩ := h; exact ⟨_, rfl, ⟨g, rfl, rc_two hr⟩, hb⟩)) (fun v w'' h => hK _ _ h.1 h.2)
    ·intro _ f wq hC hc0 hd KK hK
     have g0 : f 0 = .agg (gA 4 1 (.slice (some ⟨b2, 0, none⟩) 4 4)) := hd 0 (by kernel_rfl)
     have g1 : f 1 = .agg (sA pl) := hd 1 (by kernel_rfl)
     have hh : ∃ g, f 3 = .slice (some ⟨g, 0, none⟩) 2 2 ∧ RC wq g [xw, hf pl] [] := hd 3 (by kernel_rfl)
     simp only [tkS, tkZ, setAll, siB, stS, stZ, Nat.zero_add, Nat.reduceAdd, g0, g1] at hK ⊢
     obtain ⟨g8, e8, r8⟩ := hh
     rw [e8] at hK ⊢
     clear hd
     exact wp_callE 10 #[.agg (gA 4 1 (.slice (some ⟨b2, 0, none⟩) 4 4)), .int .i64 0, .int .i64 3, .agg (sA pl), .slice (some ⟨g8, 0, none⟩) 2 2] (by simp [go_sem]) (fun v w'' => (∃ g, v = .tuple #[.agg (gA 4 1 (.slice (some ⟨g, 0, none⟩) 4 4)), .int .i64 0] ∧ RC w'' g an1 []) ∧ Below wq.heap.size wq w'') ((W2.out wq _ _ (hC.1.rc.whole 4 rfl) (r8.whole 2 rfl)).mono (fun e w' h => by obtain ⟨g, rfl, hg, hr, hb⟩ := h; exact ⟨_, rfl, ⟨g, rfl, hr⟩, hb⟩)) (fun v w'' h => hK _ _ h.1 h.2)
    ·intro _ f wq hC hc0 hd KK hK
     have hh : ∃ g, f 4 = .tuple #[.agg (gA 4 1 (.slice (some ⟨g, 0, none⟩) 4 4)), .int .i64 0] ∧ RC wq g an1 [] := hd 4 (by kernel_rfl)
     simp only [tkS, tkZ, setAll, siB, stS, stZ, Nat.zero_add, Nat.reduceAdd] at hK ⊢
     obtain ⟨g, e2, r2⟩ := hh
     rw [e2] at hK ⊢
     clear hd
     refine wp_of_quiet rfl ?_
     go_big_quiet_step (fail)
     exact wpQuiet_nil (hK _ _ ⟨g, rfl, r2⟩ bR)
    ·intro _ f wq hC hc0 hd KK hK
     have hh : ∃ g, f 5 = .tuple #[.agg (gA 4 1 (.slice (some ⟨g, 0, none⟩) 4 4)), .int .i64 0] ∧ RC wq g an1 [] := hd 5 (by kernel_rfl)
     simp only [tkS, tkZ, setAll, siB, stS, stZ, Nat.zero_add, Nat.reduceAdd] at hK ⊢
     obtain ⟨g, e2, r2⟩ := hh
     rw [e2] at hK ⊢
     clear hd
     refine wp_of_quiet rfl ?_
     go_big_quiet_step (fail)
     exact wpQuiet_nil (hK _ _ ⟨g, rfl, r2⟩ bR)
    ·intro _ f wq hC hc0 hd KK hK
     have hh : ∃ g, f 5 = .tuple #[.agg (gA 4 1 (.slice (some ⟨g, 0, none⟩) 4 4)), .int .i64 0] ∧ RC wq g an1 [] := hd 5 (by kernel_rfl)
     simp only [tkS, tkZ, setAll, siB, stS, stZ, Nat.zero_add, Nat.reduceAdd] at hK ⊢
     obtain ⟨g, e2, r2⟩ := hh
     rw [e2] at hK ⊢
     clear hd
     refine wp_of_quiet rfl ?_
     go_big_quiet_step (fail)
     exact wpQuiet_nil (hK _ _ rfl bR)
    ·intro _ f wq hC hc0 hd KK hK
     simp only [tkS, tkZ, setAll, siB, stS, stZ, Nat.zero_add, Nat.reduceAdd] at hK ⊢
     exact wp_alloc_row 24 rfl #[.int .i64 0, .int .i64 0, .slice none 0 0] 3 (by kernel_rfl) (hK _ _ ⟨wq.heap.size, rfl, Room.new _ _ _ _ rfl, hC.2⟩ (bR.alloc (Nat.le_refl _) _))
    ·intro hh; exact (hh rfl).elim
   ·intro f wq hC hc0 hd KK hK
    have hh : ∃ g, f 6 = .agg (gA 4 1 (.slice (some ⟨g, 0, none⟩) 4 4)) ∧ RC wq g an1 [] := hd 6 (by kernel_rfl)
    have hi : ∃ r, f 8 = .pointer (some ⟨r, 0, none⟩) ∧ Room wq r 24 3 ∧ N0 ≤ r := hd 8 (by kernel_rfl)
    simp only [tkS, tkZ, setAll, siB, stS, stZ, Nat.zero_add, Nat.reduceAdd] at hK ⊢
    obtain ⟨g, e2, r2⟩ := hh
    obtain ⟨r, e3, r3, n3⟩ := hi
    rw [e2, e3] at hK ⊢
    clear hd
    exact wp_store_row 24 (.tmp 7) (.tmp 38) rfl r rfl (gA 4 1 (.slice (some ⟨g, 0, none⟩) 4 4)) rfl 24 3 r3 S24.out rfl (O2.out g) (hK _ _ ⟨r, g, rfl, r3.setRow _, Row.setRowOther r2 _ _ (row_ne_room r2 r3 (by decide)), n3⟩ ⟨r, ⟨_, rfl, rfl⟩, n3, r3⟩)
   ·intro f wz hC hR hv
    have p0 : f 0 = .agg (gA 4 1 (.slice (some ⟨b2, 0, none⟩) 4 4)) := hv 0 (by decide) (by decide)
    have p1 : f 1 = .agg (sA pl) := hv 1 (by decide) (by decide)
    have p2 : f 2 = .agg (sA pl) := hv 2 (by decide) (by decide)
    have p3 : ∃ g, (f 3) = .slice (some ⟨g, 0, none⟩) 2 2 ∧ RC wz g [xw, hf pl] [] := hv 3 (by decide) (by decide)
    have p4 : ∃ g, (f 4) = .tuple #[.agg (gA 4 1 (.slice (some ⟨g, 0, none⟩) 4 4)), .int .i64 0] ∧ RC wz g an1 [] := hv 4 (by decide) (by decide)
    have p5 : ∃ g, (f 5) = .tuple #[.agg (gA 4 1 (.slice (some ⟨g, 0, none⟩) 4 4)), .int .i64 0] ∧ RC wz g an1 [] := hv 5 (by decide) (by decide)
    have p6 : ∃ g, (f 6) = .agg (gA 4 1 (.slice (some ⟨g, 0, none⟩) 4 4)) ∧ RC wz g an1 [] := hv 6 (by decide) (by decide)
    have p7 : f 7 = .int .i64 0 := hv 7 (by decide) (by decide)
    have p8 : ∃ r, (f 8) = .pointer (some ⟨r, 0, none⟩) ∧ Room wz r 24 3 ∧ N0 ≤ r := hv 8 (by decide) (by decide)
    simp only [tkS, tkZ, List.drop_succ_cons, List.drop_zero, setAll, siB, stS, stZ, Nat.zero_add, Nat.reduceAdd, p0, p1, p2, p7]
    clear hv p0 p1 p2 p7
    obtain ⟨r, b3, e8, rg3, rc3, n3⟩ := hR
    rw [e8]
    have A11 : Box' (AnM w p r (gA 4 1 (.slice (some ⟨b3, 0, none⟩) 4 4)) b3 an1 wz) := ⟨⟨hC.1.rp, rg3, rc3, hC.1.be⟩⟩
    clear hC rg3 rc3 e8 p3 p4 p5 p6 p8 A8
    go_upto_region 6 with (fail)
    refine wp_region_growg 33 (by kernel_rfl) 73 rfl (by kernel_rfl) (fun wa wb => Below wa.heap.size wa wb) (fun wa => AnM w p r (gA 4 1 (.slice (some ⟨b3, 0, none⟩) 4 4)) b3 an1 wa) (fun kc wa v => match kc with
     | 0 => v = .int .i64 0
     | 1 => v = .bool true
     | 2 => v = .bool true
     | 3 => v = .int .i64 0
     | 4 => v = .bool true
     | 5 => v = .bool true
     | 6 => v = .bool true
     | 7 => v = .int .i64 0
     | 8 => v = .bool true
     | 9 => v = .bool true
     | 10 => v = .bool true
     | 11 => v = .pointer (some ⟨r, 2, none⟩)
     | 12 => v = .slice (some ⟨b3, 0, none⟩) 4 4
     | 13 => v = .int .i64 4
     | 14 => v = .bool true
     | 15 => v = .bool true
     | 16 => v = .bool true
     | 17 => v = .pointer (some ⟨r, 2, none⟩)
     | 18 => v = .slice (some ⟨b3, 0, none⟩) 4 4
     | 19 => v = .pointer (some ⟨b3, 15, none⟩)
     | 20 => v = .pointer (some ⟨b3, 15, none⟩)
     | 21 => v = .int .i32 97
     | 22 => v = .bool true
     | 23 => v = .bool true
     | 24 => v = .bool true
     | 25 => v = .pointer (some ⟨r, 2, none⟩)
     | 26 => v = .slice (some ⟨b3, 0, none⟩) 4 4
     | 27 => v = .pointer (some ⟨b3, 45, none⟩)
     | 28 => v = .agg (cA (bl pl))
     | 29 => v = .agg (sA pl)
     | 30 => v = .agg (cA (bl pl))
     | 31 => v = .bool true
     | 32 => v = .bool true
     | _ => True) ?_ ?_ ?_ ?_ ?_ ?_
    ·intro i o' j b' hi hg wa v hC hV
     have hlt : i < 33 := by rcases Nat.lt_or_ge i 33 with q | q; exact q; rw [List.getElem?_eq_none (by simpa using q)] at hi; cases hi
     revert hi hg hV
     rcases (show i = 0 ∨ i = 1 ∨ i = 2 ∨ i = 3 ∨ i = 4 ∨ i = 5 ∨ i = 6 ∨ i = 7 ∨ i = 8 ∨ i = 9 ∨ i = 10 ∨ i = 11 ∨ i = 12 ∨ i = 13 ∨ i = 14 ∨ i = 15 ∨ i = 16 ∨ i = 17 ∨ i = 18 ∨ i = 19 ∨ i = 20 ∨ i = 21 ∨ i = 22 ∨ i = 23 ∨ i = 24 ∨ i = 25 ∨ i = 26 ∨ i = 27 ∨ i = 28 ∨ i = 29 ∨ i = 30 ∨ i = 31 ∨ i = 32 by omega) with rfl | rfl | rfl | rfl | rfl | rfl | rfl | rfl | rfl | rfl | rfl | rfl | rfl | rfl | rfl | rfl | rfl | rfl | rfl | rfl | rfl | rfl | rfl | rfl | rfl | rfl | rfl | rfl | rfl | rfl | rfl | rfl | rfl <;>
      (intro hi hg hV; simp only [tkS, List.getElem?_cons_zero, List.getElem?_cons_succ, Option.some.injEq] at hi; subst hi; first | (cases hg; exact hV) | (cases hg))
    ·intro wa wb hb q; exact q.below hb
    ·intro kc v wa wb hC1 hb h
     match kc, h with
     | 0, h => exact h
     | 1, h => exact h
     | 2, h => exact h
     | 3, h => exact h
     | 4, h => exact h
     | 5, h => exact h
     | 6, h => exact h
     | 7, h => exact h
     | 8, h => exact h
     | 9, h => exact h
     | 10, h => exact h
     | 11, h => exact h
     | 12, h => exact h
     | 13, h => exact h
     | 14, h => exact h
     | 15, h => exact h
     | 16, h => exact h
     | 17, h => exact h
     | 18, h => exact h
     | 19, h => exact h
     | 20, h => exact h
     | 21, h => exact h
     | 22, h => exact h
     | 23, h => exact h
     | 24, h => exact h
     | 25, h => exact h
     | 26, h => exact h
     | 27, h => exact h
     | 28, h => exact h
     | 29, h => exact h
     | 30, h => exact h
     | 31, h => exact h
     | 32, h => exact h
     | kc + 33, h => trivial
    ·exact A11.out.drew
    ·refine ⟨?_, ?_, ?_, ?_, ?_, ?_, ?_, ?_, ?_, ?_, ?_, ?_, ?_, ?_, ?_, ?_, ?_, ?_, ?_, ?_, ?_, ?_, ?_, ?_, ?_, ?_, ?_, ?_, ?_, ?_, ?_, ?_, ?_, trivial⟩
     ·intro f wq hC hd KK hK
      clear hd
      simp only [tkS, tkZ, setAll, siB, stS, stZ, Nat.zero_add, Nat.reduceAdd] at hK ⊢
      refine wp_of_quiet rfl ?_
      go_big_quiet_step (fail)
      exact wpQuiet_nil (hK _ _ (rfl) bR)
     ·intro f wq hC hd KK hK
      have g0 : f 0 = .int .i64 0 := hd 0 (by kernel_rfl)
      clear hd
      simp only [tkS, tkZ, setAll, siB, stS, stZ, Nat.zero_add, Nat.reduceAdd, g0] at hK ⊢
      refine wp_of_quiet rfl ?_
      go_big_quiet_step (fail)
      exact wpQuiet_nil (hK _ _ (by first | rfl | simp) bR)
     ·intro f wq hC hd KK hK
      have g1 : f 1 = .bool true := hd 1 (by kernel_rfl)
      clear hd
      simp only [tkS, tkZ, setAll, siB, stS, stZ, Nat.zero_add, Nat.reduceAdd, g1] at hK ⊢
      refine wp_of_quiet rfl ?_
      go_big_quiet_step (fail)
      exact wpQuiet_nil (hK _ _ (rfl) bR)
     ·intro f wq hC hd KK hK
      clear hd
      simp only [tkS, tkZ, setAll, siB, stS, stZ, Nat.zero_add, Nat.reduceAdd] at hK ⊢
      refine wp_unguard ?_
      refine wp_of_quiet rfl ?_
      go_big_quiet_step (fail)
      exact wpQuiet_nil (hK _ _ (rfl) bR)
     ·intro f wq hC hd KK hK
      have g3 : f 3 = .int .i64 0 := hd 3 (by kernel_rfl)
      clear hd
      simp only [tkS, tkZ, setAll, siB, stS, stZ, Nat.zero_add, Nat.reduceAdd, g3] at hK ⊢
      refine wp_unguard ?_
      refine wp_of_quiet rfl ?_
      go_big_quiet_step (fail)
      exact wpQuiet_nil (hK _ _ (by first | rfl | simp) bR)
     ·intro f wq hC hd KK hK
      have g2 : f 2 = .bool true := hd 2 (by kernel_rfl)
      have g4 : f 4 = .bool true := hd 4 (by kernel_rfl)
      clear hd
      simp only [tkS, tkZ, setAll, siB, stS, stZ, Nat.zero_add, Nat.reduceAdd, g2, g4] at hK ⊢
      refine wp_of_quiet rfl ?_
      go_big_quiet_step (fail)
      exact wpQuiet_nil (hK _ _ (rfl) bR)
     ·intro f wq hC hd KK hK
      have g5 : f 5 = .bool true := hd 5 (by kernel_rfl)
      clear hd
      simp only [tkS, tkZ, setAll, siB, stS, stZ, Nat.zero_add, Nat.reduceAdd, g5] at hK ⊢
      refine wp_of_quiet rfl ?_
      go_big_quiet_step (fail)
      exact wpQuiet_nil (hK _ _ (rfl) bR)
     ·intro f wq hC hd KK hK
      clear hd
      simp only [tkS, tkZ, setAll, siB, stS, stZ, Nat.zero_add, Nat.reduceAdd] at hK ⊢
      refine wp_unguard ?_
      refine wp_of_quiet rfl ?_
      go_big_quiet_step (fail)
      exact wpQuiet_nil (hK _ _ (rfl) bR)
     ·intro f wq hC hd KK hK
      have g7 : f 7 = .int .i64 0 := hd 7 (by kernel_rfl)
      clear hd
      simp only [tkS, tkZ, setAll, siB, stS, stZ, Nat.zero_add, Nat.reduceAdd, g7] at hK ⊢
      refine wp_unguard ?_
      refine wp_of_quiet rfl ?_
      go_big_quiet_step (fail)
      exact wpQuiet_nil (hK _ _ (by first | rfl | simp) bR)
     ·intro f wq hC hd KK hK
      have g6 : f 6 = .bool true := hd 6 (by kernel_rfl)
      have g8 : f 8 = .bool true := hd 8 (by kernel_rfl)
      clear hd
      simp only [tkS, tkZ, setAll, siB, stS, stZ, Nat.zero_add, Nat.reduceAdd, g6, g8] at hK ⊢
      refine wp_of_quiet rfl ?_
      go_big_quiet_step (fail)
      exact wpQuiet_nil (hK _ _ (rfl) bR)
     ·intro f wq hC hd KK hK
      have g9 : f 9 = .bool true := hd 9 (by kernel_rfl)
      clear hd
      simp only [tkS, tkZ, setAll, siB, stS, stZ, Nat.zero_add, Nat.reduceAdd, g9] at hK ⊢
      refine wp_of_quiet rfl ?_
      go_big_quiet_step (fail)
      exact wpQuiet_nil (hK _ _ (rfl) bR)
     ·intro f wq hC hd KK hK
      clear hd
      simp only [tkS, tkZ, setAll, siB, stS, stZ, Nat.zero_add, Nat.reduceAdd] at hK ⊢
      refine wp_unguard ?_
      refine wp_of_quiet rfl ?_
      go_big_quiet_step (fail)
      exact wpQuiet_nil (hK _ _ (rfl) bR)
     ·intro f wq hC hd KK hK
      have g11 : f 11 = .pointer (some ⟨r, 2, none⟩) := hd 11 (by kernel_rfl)
      clear hd
      have c2 : wq.cell? ⟨r, 2, none⟩ = some (.slice (some ⟨b3, 0, none⟩) 4 4) := hC.rg.cell 2
      clear hC
      simp only [tkS, tkZ, setAll, siB, stS, stZ, Nat.zero_add, Nat.reduceAdd, g11] at hK ⊢
      refine wp_unguard ?_
      refine wp_of_quiet rfl ?_
      go_big_quiet_step (fail)
      exact wpQuiet_nil (hK _ _ (rfl) bR)
     ·intro f wq hC hd KK hK
      have g12 : f 12 = .slice (some ⟨b3, 0, none⟩) 4 4 := hd 12 (by kernel_rfl)
      clear hd
      simp only [tkS, tkZ, setAll, siB, stS, stZ, Nat.zero_add, Nat.reduceAdd, g12] at hK ⊢
      refine wp_unguard ?_
      refine wp_of_quiet rfl ?_
      go_big_quiet_step (fail)
      exact wpQuiet_nil (hK _ _ (by first | rfl | simp) bR)
     ·intro f wq hC hd KK hK
      have g13 : f 13 = .int .i64 4 := hd 13 (by kernel_rfl)
      clear hd
      simp only [tkS, tkZ, setAll, siB, stS, stZ, Nat.zero_add, Nat.reduceAdd, g13] at hK ⊢
      refine wp_unguard ?_
      refine wp_of_quiet rfl ?_
      go_big_quiet_step (fail)
      exact wpQuiet_nil (hK _ _ (by first | rfl | simp) bR)
     ·intro f wq hC hd KK hK
      have g10 : f 10 = .bool true := hd 10 (by kernel_rfl)
      have g14 : f 14 = .bool true := hd 14 (by kernel_rfl)
      clear hd
      simp only [tkS, tkZ, setAll, siB, stS, stZ, Nat.zero_add, Nat.reduceAdd, g10, g14] at hK ⊢
      refine wp_of_quiet rfl ?_
      go_big_quiet_step (fail)
      exact wpQuiet_nil (hK _ _ (rfl) bR)
     ·intro f wq hC hd KK hK
      have g15 : f 15 = .bool true := hd 15 (by kernel_rfl)
      clear hd
      simp only [tkS, tkZ, setAll, siB, stS, stZ, Nat.zero_add, Nat.reduceAdd, g15] at hK ⊢
      refine wp_of_quiet rfl ?_
      go_big_quiet_step (fail)
      exact wpQuiet_nil (hK _ _ (rfl) bR)
     ·intro f wq hC hd KK hK
      clear hd
      simp only [tkS, tkZ, setAll, siB, stS, stZ, Nat.zero_add, Nat.reduceAdd] at hK ⊢
      refine wp_unguard ?_
      refine wp_of_quiet rfl ?_
      go_big_quiet_step (fail)
      exact wpQuiet_nil (hK _ _ (rfl) bR)
     ·intro f wq hC hd KK hK
      have g17 : f 17 = .pointer (some ⟨r, 2, none⟩) := hd 17 (by kernel_rfl)
      clear hd
      have c2 : wq.cell? ⟨r, 2, none⟩ = some (.slice (some ⟨b3, 0, none⟩) 4 4) := hC.rg.cell 2
      clear hC
      simp only [tkS, tkZ, setAll, siB, stS, stZ, Nat.zero_add, Nat.reduceAdd, g17] at hK ⊢
      refine wp_unguard ?_
      refine wp_of_quiet rfl ?_
      go_big_quiet_step (fail)
      exact wpQuiet_nil (hK _ _ (rfl) bR)
     ·intro f wq hC hd KK hK
      have g18 : f 18 = .slice (some ⟨b3, 0, none⟩) 4 4 := hd 18 (by kernel_rfl)
      clear hd
      simp only [tkS, tkZ, setAll, siB, stS, stZ, Nat.zero_add, Nat.reduceAdd, g18] at hK ⊢
      refine wp_unguard ?_
      refine wp_of_quiet rfl ?_
      go_big_quiet_step (fail)
      exact wpQuiet_nil (hK _ _ (rfl) bR)
     ·intro f wq hC hd KK hK
      have g19 : f 19 = .pointer (some ⟨b3, 15, none⟩) := hd 19 (by kernel_rfl)
      clear hd
      simp only [tkS, tkZ, setAll, siB, stS, stZ, Nat.zero_add, Nat.reduceAdd, g19] at hK ⊢
      refine wp_unguard ?_
      refine wp_of_quiet rfl ?_
      go_big_quiet_step (fail)
      exact wpQuiet_nil (hK _ _ (rfl) bR)
     ·intro f wq hC hd KK hK
      have g20 : f 20 = .pointer (some ⟨b3, 15, none⟩) := hd 20 (by kernel_rfl)
      clear hd
      have c15 : wq.cell? ⟨b3, 15, none⟩ = some (.int .i32 97) := hC.rc.cell 1 0 (by decide) (by decide)
      clear hC
      simp only [tkS, tkZ, setAll, siB, stS, stZ, Nat.zero_add, Nat.reduceAdd, g20] at hK ⊢
      refine wp_unguard ?_
      refine wp_of_quiet rfl ?_
      go_big_quiet_step (fail)
      exact wpQuiet_nil (hK _ _ (rfl) bR)
     ·intro f wq hC hd KK hK
      have g21 : f 21 = .int .i32 97 := hd 21 (by kernel_rfl)
      clear hd
      simp only [tkS, tkZ, setAll, siB, stS, stZ, Nat.zero_add, Nat.reduceAdd, g21] at hK ⊢
      refine wp_unguard ?_
      refine wp_of_quiet rfl ?_
      go_big_quiet_step (fail)
      exact wpQuiet_nil (hK _ _ (by first | rfl | simp) bR)
     ·intro f wq hC hd KK hK
      have g16 : f 16 = .bool true := hd 16 (by kernel_rfl)
      have g22 : f 22 = .bool true := hd 22 (by kernel_rfl)
      clear hd
      simp only [tkS, tkZ, setAll, siB, stS, stZ, Nat.zero_add, Nat.reduceAdd, g16, g22] at hK ⊢
      refine wp_of_quiet rfl ?_
      go_big_quiet_step (fail)
      exact wpQuiet_nil (hK _ _ (rfl) bR)
     ·intro f wq hC hd KK hK
      have g23 : f 23 = .bool true := hd 23 (by kernel_rfl)
      clear hd
      simp only [tkS, tkZ, setAll, siB, stS, stZ, Nat.zero_add, Nat.reduceAdd, g23] at hK ⊢
      refine wp_of_quiet rfl ?_
      go_big_quiet_step (fail)
      exact wpQuiet_nil (hK _ _ (rfl) bR)
     ·intro f wq hC hd KK hK
      clear hd
      simp only [tkS, tkZ, setAll, siB, stS, stZ, Nat.zero_add, Nat.reduceAdd] at hK ⊢
      refine wp_unguard ?_
      refine wp_of_quiet rfl ?_
      go_big_quiet_step (fail)
      exact wpQuiet_nil (hK _ _ (rfl) bR)
     ·intro f wq hC hd KK hK
      have g25 : f 25 = .pointer (some ⟨r, 2, none⟩) := hd 25 (by kernel_rfl)
      clear hd
      have c2 : wq.cell? ⟨r, 2, none⟩ = some (.slice (some ⟨b3, 0, none⟩) 4 4) := hC.rg.cell 2
      clear hC
      simp only [tkS, tkZ, setAll, siB, stS, stZ, Nat.zero_add, Nat.reduceAdd, g25] at hK ⊢
      refine wp_unguard ?_
      refine wp_of_quiet rfl ?_
      go_big_quiet_step (fail)
      exact wpQuiet_nil (hK _ _ (rfl) bR)
     ·intro f wq hC hd KK hK
      have g26 : f 26 = .slice (some ⟨b3, 0, none⟩) 4 4 := hd 26 (by kernel_rfl)
      clear hd
      simp only [tkS, tkZ, setAll, siB, stS, stZ, Nat.zero_add, Nat.reduceAdd, g26] at hK ⊢
      refine wp_unguard ?_
      refine wp_of_quiet rfl ?_
      go_big_quiet_step (fail)
      exact wpQuiet_nil (hK _ _ (rfl) bR)
     ·intro f wq hC hd KK hK
      have g27 : f 27 = .pointer (some ⟨b3, 45, none⟩) := hd 27 (by kernel_rfl)
      clear hd
      simp only [tkS, tkZ, setAll, siB, stS, stZ, Nat.zero_add, Nat.reduceAdd, g27] at hK ⊢
      refine wp_unguard ?_
      exact wp_load_cell (.tmp 67) rfl b3 45 (bl pl) rfl (rangeAt_cell (k := 3) hC.rc (by decide)) (hK _ _ rfl bR)
     ·intro f wq hC hd KK hK
      clear hd
      simp only [tkS, tkZ, setAll, siB, stS, stZ, Nat.zero_add, Nat.reduceAdd] at hK ⊢
      refine wp_unguard ?_
      exact wp_load_row 26 (.tmp 1) rfl p rfl 26 (sA pl) hC.rp _ U26.out rfl 10 S26.out rfl (hK _ _ rfl bR)
     ·intro f wq hC hd KK hK
      have g29 : f 29 = .agg (sA pl) := hd 29 (by kernel_rfl)
      clear hd
      simp only [tkS, tkZ, setAll, siB, stS, stZ, Nat.zero_add, Nat.reduceAdd, g29] at hK ⊢
      refine wp_unguard ?_
      exact wp_call 31 #[.agg (sA pl)] (by simp [go_sem]) _ _ (BL.out wq) (fun w' hb => hK _ _ rfl hb)
     ·intro f wq hC hd KK hK
      have g28 : f 28 = .agg (cA (bl pl)) := hd 28 (by kernel_rfl)
      have g30 : f 30 = .agg (cA (bl pl)) := hd 30 (by kernel_rfl)
      clear hd
      simp only [tkS, tkZ, setAll, siB, stS, stZ, Nat.zero_add, Nat.reduceAdd, g28, g30] at hK ⊢
      refine wp_unguard ?_
      exact wp_val _ (run_eql_cell_op 49 (.tmp 68) (.tmp 70) rfl (bl pl) (bl pl) rfl rfl _ (clB_yes rfl) _) (hK _ _ rfl bR)
     ·intro f wq hC hd KK hK
      have g24 : f 24 = .bool true := hd 24 (by kernel_rfl)
      have g31 : f 31 = .bool true := hd 31 (by kernel_rfl)
      clear hd
      simp only [tkS, tkZ, setAll, siB, stS, stZ, Nat.zero_add, Nat.reduceAdd, g24, g31] at hK ⊢
      refine wp_of_quiet rfl ?_
      go_big_quiet_step (fail)
      exact wpQuiet_nil (hK _ _ (rfl) bR)
    ·intro f wz hC hv
     have p0 : f 0 = .int .i64 0 := hv 0 (by decide)
     have p1 : f 1 = .bool true := hv 1 (by decide)
     have p2 : f 2 = .bool true := hv 2 (by decide)
     have p3 : f 3 = .int .i64 0 := hv 3 (by decide)
     have p4 : f 4 = .bool true := hv 4 (by decide)
     have p5 : f 5 = .bool true := hv 5 (by decide)
     have p6 : f 6 = .bool true := hv 6 (by decide)
     have p7 : f 7 = .int .i64 0 := hv 7 (by decide)
     have p8 : f 8 = .bool true := hv 8 (by decide)
     have p9 : f 9 = .bool true := hv 9 (by decide)
     have p10 : f 10 = .bool true := hv 10 (by decide)
     have p11 : f 11 = .pointer (some ⟨r, 2, none⟩) := hv 11 (by decide)
     have p12 : f 12 = .slice (some ⟨b3, 0, none⟩) 4 4 := hv 12 (by decide)
     have p13 : f 13 = .int .i64 4 := hv 13 (by decide)
     have p14 : f 14 = .bool true := hv 14 (by decide)
     have p15 : f 15 = .bool true := hv 15 (by decide)
     have p16 : f 16 = .bool true := hv 16 (by decide)
     have p17 : f 17 = .pointer (some ⟨r, 2, none⟩) := hv 17 (by decide)
     have p18 : f 18 = .slice (some ⟨b3, 0, none⟩) 4 4 := hv 18 (by decide)
     have p19 : f 19 = .pointer (some ⟨b3, 15, none⟩) := hv 19 (by decide)
     have p20 : f 20 = .pointer (some ⟨b3, 15, none⟩) := hv 20 (by decide)
     have p21 : f 21 = .int .i32 97 := hv 21 (by decide)
     have p22 : f 22 = .bool true := hv 22 (by decide)
     have p23 : f 23 = .bool true := hv 23 (by decide)
     have p24 : f 24 = .bool true := hv 24 (by decide)
     have p25 : f 25 = .pointer (some ⟨r, 2, none⟩) := hv 25 (by decide)
     have p26 : f 26 = .slice (some ⟨b3, 0, none⟩) 4 4 := hv 26 (by decide)
     have p27 : f 27 = .pointer (some ⟨b3, 45, none⟩) := hv 27 (by decide)
     have p28 : f 28 = .agg (cA (bl pl)) := hv 28 (by decide)
     have p29 : f 29 = .agg (sA pl) := hv 29 (by decide)
     have p30 : f 30 = .agg (cA (bl pl)) := hv 30 (by decide)
     have p31 : f 31 = .bool true := hv 31 (by decide)
     have p32 : f 32 = .bool true := hv 32 (by decide)
     simp only [tkS, tkZ, List.drop_succ_cons, List.drop_zero, setAll, siB, stS, stZ, Nat.zero_add, Nat.reduceAdd, p0, p1, p2, p3, p4, p5, p6, p7, p8, p9, p10, p11, p12, p13, p14, p15, p16, p17, p18, p19, p20, p21, p22, p23, p24, p25, p26, p27, p28, p29, p30, p31, p32]
     clear hv p0 p1 p2 p3 p4 p5 p6 p7 p8 p9 p10 p11 p12 p13 p14 p15 p16 p17 p18 p19 p20 p21 p22 p23 p24 p25 p26 p27 p28 p29 p30 p31 p32
     have B12 := Box'.mk hC.be
     clear hC A11
     go_wp2_with fail
     go_ret
     exact ⟨rfl, B12.out⟩
end Go.Proofs.Ytnbonlkmadmpcaa
namespace Go.Proofs.Ytnbonlkmadmpcaa
open Go.RowKit Go.BigFrame
set_option linter.unusedVariables false
set_option linter.unusedSimpArgs false
structure GbM (w : World) (g : Array Value) (p : Nat) (wr : World) : Prop where
 rg : Row wr w.heap.size 24 g
 rp : Row wr p 26 (sA pl)
 be : Below w.heap.size w wr
theorem GbM.below {w : World} {g : Array Value} {p : Nat} {wr w' : World} (h : GbM w g p wr) (hb : Below wr.heap.size wr w') : GbM w g p w' := ⟨h.rg.below hb h.rg.lt, h.rp.below hb h.rp.lt, h.be.trans (hb.mono h.be.size)⟩
end Go.Proofs.Ytnbonlkmadmpcaa
