/- What the trial of a grid stands on. -/
import Derived.Test.YtejnlogoidkloaaNm
import Derived.Test.YtejnlogoidkloaaNo
import Derived.Test.YtejnlogoidkloaaRd
import Derived.Test.YtejnlogoidkloaaGy
import Derived.Test.YtejnlogoidkloaaGz
namespace Go.Proofs.Ytejnlogoidkloaa
open Go.RowKit Go.BigFrame
set_option linter.unusedVariables false
set_option linter.unusedSimpArgs false

/-- A call whose answer is known up to what it stands for. -/
theorem wp_callE {P : Program} {Q : Exit → Act → World → Prop} {op : Oper} {a : Act} {w : World} {K : Act → World → Prop} (f : FuncId) (args : Array Value) (hrun : (execOp a.eval op).run P w = .ok (.enter f args) w) (R : Value → World → Prop)
    (hc : Calls P f args w (fun e w'' => ∃ v, e = .returned v ∧ R v w'')) (h : ∀ v w'', R v w'' → K (a.put op.dst v) w'') : op.wp P a w K Q := by
  unfold Oper.wp
  rw [hrun]
  exact hc.mono fun e w'' hh => by obtain ⟨v, rfl, hR⟩ := hh; exact h v w'' hR
def xa : Cl := ⟨97, 0, 0, 0, 1, pl⟩
def xb : Cl := ⟨98, 0, 0, 0, 1, pl⟩
def xw : Cl := ⟨20013, 0, 0, 0, 2, pl⟩
theorem of_97 : ofF 97 = 1 := by decide +kernel
theorem of_98 : ofF 98 = 1 := by decide +kernel
theorem of_w : ofF 20013 = 2 := by decide +kernel
def an0 : List Cl := [bl pl, bl pl, bl pl, bl pl]
def an1 : List Cl := [bl pl, xa, xb, bl pl]
theorem an0_may : mayG ((4 : Nat) : Int) ((1 : Nat) : Int) an0 = true := by kernel_rfl
theorem an1_may : mayG ((4 : Nat) : Int) ((1 : Nat) : Int) an1 = true := by kernel_rfl
theorem an_1 : putRow an0 4 0 (mnd (wrF (rowF an0 4 0) 1 [xa, xb])) = an1 := by kernel_rfl
theorem an_2 : putRow an1 4 0 (mnd (wrF (rowF an1 4 0) 3 [xw, hf pl])) = an1 := by kernel_rfl
theorem pl_may : mayS pl = true := by decide
theorem ab_may : [xa, xb].all mayC = true := by kernel_rfl
theorem w_may : [xw, hf pl].all mayC = true := by kernel_rfl
/-- What stands while a grid is tried. -/
structure AnM (w : World) (p q : Nat) (gv : Array Value) (b : Nat) (c : List Cl) (wr : World) : Prop where
  rp : Row wr p 26 (sA pl)
  rg : Row wr q 24 gv
  rc : RC wr b c []
  be : Below w.heap.size w wr
theorem AnM.below {w : World} {p q : Nat} {gv : Array Value} {b : Nat} {c : List Cl} {wr w' : World} (h : AnM w p q gv b c wr) (hb : Below wr.heap.size wr w') : AnM w p q gv b c w' :=
  ⟨h.rp.below hb h.rp.lt, h.rg.below hb h.rg.lt, h.rc.below hb h.rc.lt, h.be.trans (hb.mono h.be.size)⟩
theorem AnM.drew {w : World} {p q : Nat} {gv : Array Value} {b : Nat} {c : List Cl} {wr : World} (h : AnM w p q gv b c wr) : AnM w p q gv b c wr.drew := h.below ((Below.refl _ _).drew)
theorem RC.whole {w : World} {g : Nat} {l : List Cl} {sp : List Value} (h : RC w g l sp) (n : Nat) (hn : l.length = n) : Cls w.heap.size w (.slice (some ⟨g, 0, none⟩) n n) l := by
  have := h.cls 0 n n (by omega) (Nat.le_refl _)
  rw [List.drop_zero, List.take_of_length_le (by omega), Nat.zero_mul] at this
  exact this
theorem rc_one {w : World} {g : Nat} {x : Cl} (h : Row w g 49 (cA x)) : RC w g [x] [] := by
  unfold RC
  rw [List.append_nil, cLs_one]
  exact h
theorem rc_two {w : World} {g : Nat} {x y : Cl} (h : Row w g 49 (cA x ++ cA y)) : RC w g [x, y] [] := by
  have e : (cLs [x, y] ++ []).toArray = cA x ++ cA y := by
    rw [List.append_nil, cLs, cLs_one]
    apply Array.ext'
    simp
  unfold RC
  rw [e]
  exact h
set_option maxRecDepth 100000 in
theorem run_mk2 (w : World) (x y : Cl) : (Instr.buildSlice 22 2 #[(0, .agg (cA x)), (1, .agg (cA y))]).run Try.prog w = .ok (.slice (some ⟨w.heap.size, 0, none⟩) 2 2) (w.alloc (.cells (cA x ++ cA y) 49)) := by
  simp [go_sem, cA]
theorem wp_mk2 {op : Oper} {a : Act} {w : World} {K : Act → World → Prop} {Q : Exit → Act → World → Prop} (p q : Operand) (x y : Cl) (ho : op.op = .buildSlice 22 2 #[(0, p), (1, q)]) (hp : a.eval p = .agg (cA x)) (hq : a.eval q = .agg (cA y))
    (h : K (a.put op.dst (.slice (some ⟨w.heap.size, 0, none⟩) 2 2)) (w.alloc (.cells (cA x ++ cA y) 49))) : op.wp Try.prog a w K Q := by
  unfold Oper.wp execOp
  simp only [ho, Sem.run_bind, List.map_toArray, List.map_cons, List.map_nil, hp, hq, run_mk2, Result.andThen_ok, Sem.run_pure]
  exact h
/-- A struct was written into the block q. -/
def Wq (q : Nat) (wa wb : World) : Prop := ∃ c, wb = wa.setRow q c ∧ c.size = 3
theorem Wq.row {q : Nat} {wa wb : World} (h : Wq q wa wb) {k : Nat} {t : TypeId} {c : Array Value} (hr : Row wa k t c) (hne : k ≠ q) : Row wb k t c := by
  obtain ⟨c', rfl, _⟩ := h
  exact hr.setRowOther _ _ hne
theorem Wq.rc {q : Nat} {wa wb : World} (h : Wq q wa wb) {g : Nat} {l : List Cl} {sp : List Value} (hr : RC wa g l sp) (hne : g ≠ q) : RC wb g l sp := Wq.row h hr hne
theorem Wq.below {q : Nat} {wa wb : World} (h : Wq q wa wb) {N : Nat} {w : World} (hb : Below N w wa) (hN : N ≤ q) : Below N w wb := by
  obtain ⟨c', rfl, _⟩ := h
  exact below_setRow hb hN _
theorem Wq.room {q : Nat} {wa wb : World} (h : Wq q wa wb) {r : Nat} (hr : Room wa r 24 3) : Room wb r 24 3 := by
  obtain ⟨c', rfl, hs⟩ := h
  by_cases e : r = q
  · subst e; exact ⟨c', hr.setRow _, hs⟩
  · exact hr.setRowOther _ _ e
theorem row_ne {w : World} {a b : Nat} {t u : TypeId} {c d : Array Value} (h1 : Row w a t c) (h2 : Row w b u d) (hne : t ≠ u) : a ≠ b := by
  intro e
  subst e
  unfold Row at h1 h2
  rw [h1] at h2
  cases h2
  exact hne rfl
theorem row_ne_room {w : World} {a b n : Nat} {t u : TypeId} {c : Array Value} (h1 : Row w a t c) (h2 : Room w b u n) (hne : t ≠ u) : a ≠ b := by
  obtain ⟨d, h3, _⟩ := h2
  exact row_ne h1 h3 hne
theorem Room.lt {w : World} {b n : Nat} {t : TypeId} (h : Room w b t n) : b < w.heap.size := by
  obtain ⟨d, h3, _⟩ := h
  exact h3.lt
/-- What stands while a grid is tried, with room for another one. -/
structure AnL (w : World) (p q : Nat) (b : Nat) (c : List Cl) (wr : World) : Prop where
  rp : Row wr p 26 (sA pl)
  rm : Room wr q 24 3
  rc : RC wr b c []
  be : Below w.heap.size w wr
theorem AnL.below {w : World} {p q : Nat} {b : Nat} {c : List Cl} {wr w' : World} (h : AnL w p q b c wr) (hb : Below wr.heap.size wr w') : AnL w p q b c w' :=
  ⟨h.rp.below hb h.rp.lt, h.rm.below hb h.rm.lt, h.rc.below hb h.rc.lt, h.be.trans (hb.mono h.be.size)⟩
theorem AnL.wq {w : World} {p q : Nat} {b : Nat} {c : List Cl} {wr w' : World} (h : AnL w p q b c wr) (hb : Wq q wr w') (hqz : w.heap.size ≤ q) : AnL w p q b c w' :=
  ⟨hb.row h.rp (row_ne_room h.rp h.rm (by decide)), hb.room h.rm, hb.rc h.rc (row_ne_room h.rc h.rm (by decide)), hb.below h.be hqz⟩
/-- A struct was written into a new block. -/
def Wn (N : Nat) (wa wb : World) : Prop := ∃ r, Wq r wa wb ∧ N ≤ r ∧ Room wa r 24 3
theorem Wn.rc {N : Nat} {wa wb : World} (h : Wn N wa wb) {g : Nat} {l : List Cl} {sp : List Value} (hr : RC wa g l sp) : RC wb g l sp := by
  obtain ⟨r, h1, h2, h3⟩ := h
  exact h1.rc hr (row_ne_room hr h3 (by decide))
theorem Wn.room {N : Nat} {wa wb : World} (h : Wn N wa wb) {r : Nat} (hr : Room wa r 24 3) : Room wb r 24 3 := by
  obtain ⟨r', h1, h2, h3⟩ := h
  exact h1.room hr
theorem Wn.an {N : Nat} {wa wb w : World} {p q : Nat} {gv : Array Value} {b : Nat} {c : List Cl} (h : Wn N wa wb) (ha : AnM w p q gv b c wa) (hp : p < N) (hq : q < N) (hb : b < N) (hw : w.heap.size ≤ N) : AnM w p q gv b c wb := by
  obtain ⟨r, h1, h2, h3⟩ := h
  exact ⟨h1.row ha.rp (by omega), h1.row ha.rg (by omega), h1.rc ha.rc (by omega), h1.below ha.be (by omega)⟩
theorem Wn.size {N : Nat} {wa wb : World} (h : Wn N wa wb) : wb.heap.size = wa.heap.size := by
  obtain ⟨r, ⟨c, rfl, _⟩, _⟩ := h
  exact setRow_size _ _ _
end Go.Proofs.Ytejnlogoidkloaa
