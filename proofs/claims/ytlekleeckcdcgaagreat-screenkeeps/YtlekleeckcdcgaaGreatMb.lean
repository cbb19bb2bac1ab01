/- Rows of cells in memory: read, written, copied, appended. Rows of cells of one's own: append, copy. Slices of cells, cut. Which cells may be, of all cells: marks. The mathematics of grids: rows, mending, which grids may be. What is done to grids, as lists; what may be may be behind it. The grid's sm -/
import Derived.Test.YtlekleeckcdcgaaGreatSb
import Derived.Laws.CopyRow
import Derived.Laws.AppendOwn
import Derived.Laws.AppendOwnNone
import Derived.Test.YtlekleeckcdcgaaGreatCa
import Derived.Deep.Cut
namespace Go.Proofs.YtlekleeckcdcgaaGreat
open Go.RowKit Go.BigFrame
set_option linter.unusedVariables false
set_option linter.unusedSimpArgs false
set_option maxRecDepth 100000
set_option maxHeartbeats 8000000
/-- The cells of a list of cells, one behind the other. -/
def cLs : List Cl → List Value
 | [] => []
 | x :: l => (cA x).toList ++ cLs l
theorem cA_len (x : Cl) : (cA x).toList.length = 15 := rfl
theorem cLs_len : ∀ l : List Cl, (cLs l).length = l.length * 15
 | [] => rfl
 | x :: l => by rw [cLs, List.length_append, cA_len, cLs_len l, List.length_cons]; omega
theorem cLs_app : ∀ a b : List Cl, cLs (a ++ b) = cLs a ++ cLs b
 | [], b => rfl
 | x :: a, b => by rw [List.cons_append, cLs, cLs, cLs_app a b, List.append_assoc]
theorem cLs_one (x : Cl) : cLs [x] = (cA x).toList := by rw [cLs, cLs, List.append_nil]
theorem cLs_take : ∀ (l : List Cl) (k : Nat), (cLs l).take (k * 15) = cLs (l.take k)
 | [], k => by simp [cLs]
 | x :: l, 0 => by simp [cLs]
 | x :: l, k + 1 => by
  rw [tkS, cLs, cLs, List.take_append, cA_len, show (k + 1) * 15 - 15 = k * 15 by omega, cLs_take l k, List.take_of_length_le (by rw [cA_len]; omega)]
theorem cLs_drop : ∀ (l : List Cl) (k : Nat), (cLs l).drop (k * 15) = cLs (l.drop k)
 | [], k => by simp [cLs]
 | x :: l, 0 => by simp [cLs]
 | x :: l, k + 1 => by
  rw [List.drop_succ_cons, cLs, List.drop_append, cA_len, show (k + 1) * 15 - 15 = k * 15 by omega, cLs_drop l k, List.drop_of_length_le (by rw [cA_len]; omega), List.nil_append]
theorem cLs_get (l : List Cl) (k j : Nat) (hk : k < l.length) (hj : j < 15) : (cLs l)[k * 15 + j]? = (cA (l.getD k (hf pl)))[j]? := by
 rw [← List.getElem?_drop, cLs_drop, List.drop_eq_getElem_cons hk, cLs, List.getElem?_append_left (by rw [cA_len]; exact hj)]
 simp [hk]
theorem cLs_set (l : List Cl) (k : Nat) (y : Cl) (hk : k < l.length) : (cLs l).take (k * 15) ++ (cA y).toList ++ (cLs l).drop (k * 15 + 15) = cLs (l.set k y) := by
 rw [cLs_take, show k * 15 + 15 = (k + 1) * 15 by omega, cLs_drop, ← cLs_one, ← cLs_app, ← cLs_app, List.set_eq_take_append_cons_drop, if_pos hk]
 simp
theorem cLs_splice (l m : List Cl) (k : Nat) (h : k + m.length ≤ l.length) : (cLs l).take (k * 15) ++ cLs m ++ (cLs l).drop (k * 15 + m.length * 15) = cLs (l.take k ++ m ++ l.drop (k + m.length)) := by
 rw [cLs_take, ← Nat.add_mul, cLs_drop, cLs_app, cLs_app]
theorem cLs_oneCell : ∀ (l : List Cl), ∀ v ∈ cLs l, v.oneCell' = true
 | [], v, h => by simp [cLs] at h
 | x :: l, v, h => by
  rw [cLs, List.mem_append] at h
  rcases h with h | h
  ·exact (Array.all_eq_true_iff_forall_mem.1 (one15 x)) v (by simpa using h)
  ·exact cLs_oneCell l v h
/-- The block g holds the cells l, and others behind them. -/
def RC (w : World) (g : Nat) (l : List Cl) (sp : List Value) : Prop := Row w g 56 (cLs l ++ sp).toArray
theorem RC.lt {w : World} {g : Nat} {l : List Cl} {sp : List Value} (h : RC w g l sp) : g < w.heap.size := Row.lt h
theorem RC.below {N : Nat} {w w' : World} {g : Nat} {l : List Cl} {sp : List Value} (h : RC w g l sp) (hb : Below N w w') (hn : g < N) : RC w' g l sp := Row.below h hb hn
theorem RC.drew {w : World} {g : Nat} {l : List Cl} {sp : List Value} (h : RC w g l sp) : RC w.drew g l sp := h
theorem RC.cell {w : World} {g : Nat} {l : List Cl} {sp : List Value} (h : RC w g l sp) (k j : Nat) (hk : k < l.length) (hj : j < 15) : w.cell? ⟨g, k * 15 + j, none⟩ = (cA (l.getD k (hf pl)))[j]? := by
 rw [Row.cell h, List.getElem?_toArray, List.getElem?_append_left (by rw [cLs_len]; omega), cLs_get l k j hk hj]
/-- The slice of a part of it has that part. -/
theorem RC.cls {w : World} {g : Nat} {l : List Cl} {sp : List Value} (h : RC w g l sp) (o n c : Nat) (hn : o + n ≤ l.length) (hc : n ≤ c) : Cls w.heap.size w (.slice (some ⟨g, o * 15, none⟩) n c) ((l.drop o).take n) := by
 have hl : ((l.drop o).take n).length = n := by rw [List.length_take, List.length_drop]; omega
 refine ⟨_, _, by rw [hl], by rw [hl]; exact hc, .inr ⟨g, o * 15, rfl, h.lt, fun k hk j hj => ?_⟩⟩
 rw [hl] at hk
 rw [← Nat.add_mul, h.cell (o + k) j (by omega) hj]
 congr 2
 simp [List.getElem?_take_of_lt hk]
section
variable {ops : Array Oper} {rest : List Oper} {op : Oper} {a : Act} {w : World} {Q : Exit → Act → World → Prop}
/-- A cell is written into such a block. -/
theorem run_store_cell (w : World) (g : Nat) (l : List Cl) (sp : List Value) (k : Nat) (y : Cl) (hr : RC w g l sp) (hk : k < l.length) : (Instr.storeAt 56 (.pointer (some ⟨g, k * 15, none⟩)) (.agg (cA y))).run Tryz.prog w = .ok () (w.setRow g (cLs (l.set k y) ++ sp).toArray) := by
 have hst := run_storeCells_at Tryz.prog g (k * 15) 56 (cA y).toList 0 _ w hr (by rw [cA_len]; simp [cLs_len]; omega) (fun v hv => (Array.all_eq_true_iff_forall_mem.1 (one15 y)) v (by simpa using hv))
 have hs : (sizeOf 56).run Tryz.prog w = .ok 15 w := by
  have := s26
  cases hq : Tryz.prog.info? 56 with
  | none => simp [hq] at this
  | some i => simp [hq] at this; simp [sizeOf, typeInfo, hq, this]
 have e : (cLs l ++ sp).take (k * 15) ++ (cA y).toList ++ (cLs l ++ sp).drop (k * 15 + 15) = cLs (l.set k y) ++ sp := by
  rw [List.take_append_of_le_length (by rw [cLs_len]; omega), List.drop_append_of_le_length (by rw [cLs_len]; omega), ← cLs_set l k y hk, List.append_assoc, List.append_assoc, List.append_assoc]
 simp only [Nat.add_zero, cA_len, List.toList_toArray] at hst
 rw [e] at hst
 simp only [Instr.storeAt, Instr.sureAddr, Sem.run_bind, Sem.run_pure, Result.andThen_ok, storeVar, hs, Value.cells]
 have hz : (cA y).size = 15 := rfl
 simp [hz, hst]
theorem wp_store_cell {K : Act → World → Prop} (x z : Operand) (ho : op.op = .store 56 x z) (g : Nat) (l : List Cl) (sp : List Value) (k : Nat) (y : Cl) (hx : a.eval x = .pointer (some ⟨g, k * 15, none⟩)) (hz : a.eval z = .agg (cA y)) (hr : RC w g l sp) (hk : k < l.length)
  (h : K (a.put op.dst undef) (w.setRow g (cLs (l.set k y) ++ sp).toArray)) : op.wp Tryz.prog a w K Q := by
 unfold Oper.wp execOp
 simp only [ho, hx, hz, Sem.run_bind, run_store_cell w g l sp k y hr hk, Result.andThen_ok, Sem.run_pure]
 exact h
theorem wpList_store_cell (hgd : op.guard = none) (x z : Operand) (ho : op.op = .store 56 x z) (g : Nat) (l : List Cl) (sp : List Value) (k : Nat) (y : Cl) (hx : a.eval x = .pointer (some ⟨g, k * 15, none⟩)) (hz : a.eval z = .agg (cA y)) (hr : RC w g l sp) (hk : k < l.length)
  (h : wpList Tryz.prog ops Q rest (a.put op.dst undef) (w.setRow g (cLs (l.set k y) ++ sp).toArray)) : wpList Tryz.prog ops Q (op :: rest) a w :=
 wpList_plain hgd fun K hK => wp_store_cell x z ho g l sp k y hx hz hr hk (hK _ _ h)
/-- A cell is read out of it. -/
theorem rangeAt_cell {l : List Cl} {sp : List Value} {g k : Nat} (hr : RC w g l sp) (hk : k < l.length) : w.rangeAt g (k * 15) (cA (l.getD k (hf pl))).toList := fun j v hv => by
 have hj : j < 15 := by have := (List.getElem?_eq_some_iff.1 hv).1; rwa [cA_len] at this
 rw [hr.cell k j hk hj]
 simpa using hv
theorem rangeAt_cls {N : Nat} {v : Value} {l : List Cl} {b o k : Nat} (hc : ∀ j, j < 15 → w.cell? ⟨b, o + k * 15 + j, none⟩ = (cA (l.getD k (hf pl)))[j]?) : w.rangeAt b (o + k * 15) (cA (l.getD k (hf pl))).toList := fun j v hv => by
 have hj : j < 15 := by have := (List.getElem?_eq_some_iff.1 hv).1; rwa [cA_len] at this
 rw [hc j hj]
 simpa using hv
theorem wp_load_cell {K : Act → World → Prop} (x : Operand) (ho : op.op = .load 56 x) (b o : Nat) (y : Cl) (hx : a.eval x = .pointer (some ⟨b, o, none⟩)) (hc : w.rangeAt b o (cA y).toList) (h : K (a.put op.dst (.agg (cA y))) w) : op.wp Tryz.prog a w K Q :=
 wp_load_mid 56 x ho b o hx (cA y).toList _ hc Tryz.underlying56 rfl s26 h
theorem wpList_load_cell (hgd : op.guard = none) (x : Operand) (ho : op.op = .load 56 x) (b o : Nat) (y : Cl) (hx : a.eval x = .pointer (some ⟨b, o, none⟩)) (hc : w.rangeAt b o (cA y).toList)
  (h : wpList Tryz.prog ops Q rest (a.put op.dst (.agg (cA y))) w) : wpList Tryz.prog ops Q (op :: rest) a w :=
 wpList_plain hgd fun K hK => wp_load_cell x ho b o y hx hc (hK _ _ h)
end
theorem info26' : ∃ i z, Tryz.prog.info? 56 = some i ∧ i.zero = some z ∧ i.size = 15 ∧ i.bytes = 48 ∧ z.cells.size = 15 := ⟨_, _, rfl, rfl, rfl, rfl, rfl⟩
/-- A row of cells of one's own, that grows. -/
def OwnC (N : Nat) (w : World) (v : Value) (l : List Cl) : Prop := w.ownsRow N 56 15 v l.length (cLs l)
theorem OwnC.nil (N : Nat) (w : World) : OwnC N w (.slice none 0 0) [] := ⟨rfl, .inl ⟨rfl, rfl⟩⟩
theorem OwnC.lt {N : Nat} {w : World} {v : Value} {l : List Cl} (h : OwnC N w v l) : ∀ g, v.ownBlock = some g → N ≤ g ∧ g < w.heap.size := by
 intro k hk
 rcases h.2 with ⟨e, _⟩ | ⟨g, cap, cur, e1, e2, e3, _⟩
 ·rw [e] at hk; simp [Value.ownBlock] at hk
 ·rw [e1] at hk; simp [Value.ownBlock] at hk; subst hk; exact ⟨e2, (Array.getElem?_eq_some_iff.1 e3).1⟩
theorem OwnC.slice {N : Nat} {w : World} {v : Value} {l : List Cl} (h : OwnC N w v l) : ∃ a c, v = .slice a l.length c ∧ l.length ≤ c := by
 rcases h.2 with ⟨e, e0⟩ | ⟨g, cap, cur, e1, e2, e3, e4, _⟩
 ·exact ⟨none, 0, by rw [e, e0], by omega⟩
 ·exact ⟨_, cap, e1, e4⟩
/-- Such a row that has a cell lies in a block of its own. -/
theorem OwnC.row {N : Nat} {w : World} {v : Value} {l : List Cl} (h : OwnC N w v l) (hl : 0 < l.length) : ∃ g cap sp, v = .slice (some ⟨g, 0, none⟩) l.length cap ∧ N ≤ g ∧ l.length ≤ cap ∧ RC w g l sp := by
 rcases h.2 with ⟨_, e0⟩ | ⟨g, cap, cur, e1, e2, e3, e4, _, e6, e7⟩
 ·omega
 ·refine ⟨g, cap, cur.toList.drop (l.length * 15), e1, e2, e4, ?_⟩
  unfold RC
  rw [← e7, List.take_append_drop]
  exact e3
theorem OwnC.cls {N : Nat} {w : World} {v : Value} {l : List Cl} (h : OwnC N w v l) : Cls w.heap.size w v l := by
 by_cases hl : 0 < l.length
 ·obtain ⟨g, cap, sp, rfl, _, hc, hr⟩ := h.row hl
  have := hr.cls 0 l.length cap (by omega) hc
  simpa using this
 ·obtain ⟨a, c, e, hc⟩ := h.slice
  exact ⟨a, c, e, hc, .inl (List.eq_nil_of_length_eq_zero (by omega))⟩
/-- The flat cells behind a slice. -/
theorem Cls.flat {N : Nat} {w : World} {v : Value} {l : List Cl} (h : Cls N w v l) (hl : 0 < l.length) : ∃ b o c, v = .slice (some ⟨b, o, none⟩) l.length c ∧ b < N ∧ l.length ≤ c ∧ ∀ j u, (cLs l)[j]? = some u → w.cell? ((⟨b, o, none⟩ : Addr).add j) = some u := by
 obtain ⟨a, c, e, hc, h⟩ := h
 rcases h with rfl | ⟨b, o, rfl, h6, h7⟩
 ·simp at hl
 ·refine ⟨b, o, c, e, h6, hc, fun j u hu => ?_⟩
  have hj : j < l.length * 15 := by have := (List.getElem?_eq_some_iff.1 hu).1; rwa [cLs_len] at this
  have e1 : j = j / 15 * 15 + j % 15 := by omega
  rw [Addr.add_mid]
  rw [e1] at hu ⊢
  rw [cLs_get l (j / 15) (j % 15) (by omega) (by omega)] at hu
  rw [← Nat.add_assoc, h7 (j / 15) (by omega) (j % 15) (by omega)]
  exact hu
/-- Cells are copied into a block. -/
theorem run_copy15 (w : World) (ty : TypeId) (g o dLen dCap : Nat) (ad : Addr) (sLen sCap : Nat) (l m : List Cl) (sp : List Value) (hr : RC w g l sp) (hn : m.length = Nat.min sLen dLen)
  (hsrc : ∀ j v, (cLs m)[j]? = some v → w.cell? (ad.add j) = some v) (hfit : o + m.length ≤ l.length) :
  (Builtin.copy_ #[22, 22] ty #[.slice (some ⟨g, o * 15, none⟩) dLen dCap, .slice (some ad) sLen sCap]).run Tryz.prog w = .ok (goInt m.length) (w.setRow g (cLs (l.take o ++ m ++ l.drop (o + m.length)) ++ sp).toArray) := by
 obtain ⟨i, z, h1, h2, h3, h4, h5⟩ := info26'
 have hl := run_loadCells_list (P := Tryz.prog) w ad (cLs m) hsrc
 have hst := run_storeCells_at Tryz.prog g (o * 15) 56 (cLs m) 0 _ w hr (by rw [cLs_len]; simp [cLs_len]; omega) (cLs_oneCell m)
 have e : (cLs l ++ sp).take (o * 15) ++ cLs m ++ (cLs l ++ sp).drop (o * 15 + m.length * 15) = cLs (l.take o ++ m ++ l.drop (o + m.length)) ++ sp := by
  rw [List.take_append_of_le_length (by rw [cLs_len]; omega), List.drop_append_of_le_length (by rw [cLs_len]; omega), ← cLs_splice l m o hfit, List.append_assoc, List.append_assoc, List.append_assoc]
 simp only [Nat.add_zero, cLs_len, List.toList_toArray] at hst hl
 rw [e] at hst
 simp [Builtin.copy_, run_underlying Tryz.underlying22, Builtin.lenOf, Builtin.firstCells, sizeOf, typeInfo, h1, h3, ← hn, hl, hst]
theorem size26 (w : World) : (sizeOf 56).run Tryz.prog w = .ok 15 w := by
 have := s26
 cases hq : Tryz.prog.info? 56 with
 | none => simp [hq] at this
 | some i => simp [hq] at this; simp [sizeOf, typeInfo, hq, this]
/-- x[lo:hi:hi] -/
theorem run_cutC3 (b o n c lo hi mx : Nat) (h : lo ≤ hi) (h2 : hi ≤ mx) (h4 : mx ≤ c) (h3 : lo < mx) (w : World) : (Instr.sliceAt 22 (.slice (some ⟨b, o, none⟩) n c) (some (.int .i64 (lo : Int))) (some (.int .i64 (hi : Int))) (some (.int .i64 (mx : Int)))).run Tryz.prog w = .ok (.slice (some ⟨b, o + lo * 15, none⟩) (hi - lo) (mx - lo)) w := by
 have e : Tryz.prog.elem 22 = 56 := by kernel_rfl
 rw [run_sliceAt_slice w 22 _ _ _ _ (by kernel_rfl), run_slice_lhm w 22 _ n c (by kernel_rfl) _ _ _ _ _ _ (by omega) (by omega) (by omega) (by omega), e, size26]
 simp only [Result.andThen_ok, Int.toNat_natCast, sliced, if_neg (show ¬ mx = lo by omega), Option.map_some, Addr.add_mid]
/-- May the marks be, one having been 0 already or none? -/
def mmL : Bool → List Int → Bool
 | _, [] => true
 | e, m :: r => if m = 0 then mmL true r else if e = true then false else if ofF m = 0 then mmL false r else false
def rmL : List Int → Bool
 | [] => true
 | [m] => if m = 0 then true else decide (ofF m = 0)
 | m :: m' :: r => if m = 0 then (if m' = 0 then rmL (m' :: r) else false) else if ofF m = 0 then rmL (m' :: r) else false
theorem rm_mm (m0 m1 m2 : Int) : rmL [m0, m1, m2] = mmL false [m0, m1, m2] := by
 simp only [rmL, mmL]
 by_cases h0 : m0 = 0 <;> by_cases h1 : m1 = 0 <;> by_cases h2 : m2 = 0 <;> by_cases k0 : ofF m0 = 0 <;> by_cases k1 : ofF m1 = 0 <;> by_cases k2 : ofF m2 = 0 <;> simp [h0, h1, h2, k0, k1, k2]
/-- May a cell be? -/
def mayC (x : Cl) : Bool := if mayS x.st = false then false else if x.wd = 0 then decide (x.ch = 0 ∧ x.m0 = 0 ∧ x.m1 = 0 ∧ x.m2 = 0) else if 2 < x.wd then false else if ofF x.ch = (x.wd : Int) then mmL false [x.m0, x.m1, x.m2] else false
theorem mayMarksF_any (m0 m1 m2 : Int) (w : World) : Calls Tryz.prog 154 #[.agg #[.int .i32 m0, .int .i32 m1, .int .i32 m2]] w fun e w' => e = .returned (.bool (mmL false [m0, m1, m2])) ∧ Below w.heap.size w w' := by
 have OF := Box'.mk of_any
 have B1 := Box'.mk ((Below.refl w.heap.size w).alloc (Nat.le_refl _) (.cells #[.int .i32 m0, .int .i32 m1, .int .i32 m2] 54))
 obtain ⟨R, hR⟩ : ∃ R, mmL false [m0, m1, m2] = R := ⟨_, rfl⟩
 have HR := Box'.mk hR
 rw [hR]
 clear hR
 go_enter Tryz.func154, Tryz.ntmps154
 go_wp2_with fail
 generalize w.alloc (.cells #[.int .i32 m0, .int .i32 m1, .int .i32 m2] 54) = w1 at *
 go_loopw [3, 7] (fun d i wr => ∃ (k : Nat) (e : Bool), k ≤ 3 ∧ i = .int .i64 (k : Int) ∧ d = .bool e ∧ Box' (mmL e ([m0, m1, m2].drop k) = R) ∧ Box' (Below w.heap.size w wr)) (fun _ i _ => 3 - (intOf i).toNat)
 case atStart => exact ⟨0, false, by omega, rfl, rfl, HR, B1⟩
 case round =>
  obtain ⟨k, e, hk, rfl, rfl, HM, BB⟩ := hrel
  clear B1 HR
  obtain rfl | rfl | rfl | rfl : k = 0 ∨ k = 1 ∨ k = 2 ∨ k = 3 := by omega
  ·have HS : Box' (mmL e (m0 :: [m1, m2]) = R) := ⟨HM.out⟩
   have HE : Box' (mmL e (m0 :: [m1, m2]) = if m0 = 0 then mmL true [m1, m2] else if e = true then false else if ofF m0 = 0 then mmL false [m1, m2] else false) := ⟨rfl⟩
   clear HM
   by_cases hz : m0 = 0
   case pos =>
    have HN : Box' (mmL true [m1, m2] = R) := ⟨by rw [← HS.out, HE.out, if_pos hz]⟩
    subst hz
    clear HS HE OF
    go_wp2_with (first | (refine wpList_idx rfl (.tmp 6) (.tmp 7) rfl #[.int .i32 0, .int .i32 m1, .int .i32 m2] 0 (.int .i32 0) rfl rfl (by decide) rfl ?_))
    exact ⟨⟨1, true, by omega, rfl, rfl, HN, BB⟩, by simp [intOf]⟩
   case neg =>
    cases e with
    | true =>
     have HN : Box' (R = false) := ⟨by rw [← HS.out, HE.out, if_neg hz, if_pos rfl]⟩
     clear HS HE OF
     go_wp2_with (first | (refine wpList_idx rfl (.tmp 6) (.tmp 7) rfl #[.int .i32 m0, .int .i32 m1, .int .i32 m2] 0 (.int .i32 m0) rfl rfl (by decide) rfl ?_))
     go_ret
     exact ⟨by rw [HN.out]; rfl, BB.out⟩
    | false =>
     by_cases ho : ofF m0 = 0
     case pos =>
      have HN : Box' (mmL false [m1, m2] = R) := ⟨by rw [← HS.out, HE.out, if_neg hz, if_neg (by simp), if_pos ho]⟩
      have OM := Box'.mk (OF.out m0)
      rw [ho] at OM
      clear HS HE OF ho
      go_wp2_with (first | (refine wpList_idx rfl (.tmp 6) (.tmp 7) rfl #[.int .i32 m0, .int .i32 m1, .int .i32 m2] 0 (.int .i32 m0) rfl rfl (by decide) rfl ?_))
      refine (OM.out _).mono ?_
      rintro e w2 ⟨rfl, hb2⟩
      have B2 := Box'.mk (BB.out.trans (hb2.mono BB.out.size))
      clear hb2 BB
      go_wp2_with fail
      exact ⟨⟨1, false, by omega, rfl, rfl, HN, B2⟩, by simp [intOf]⟩
     case neg =>
      have HN : Box' (R = false) := ⟨by rw [← HS.out, HE.out, if_neg hz, if_neg (by simp), if_neg ho]⟩
      have OM := Box'.mk (OF.out m0)
      have ho' : (ofF m0 != 0) = true := by simpa using ho
      generalize ofF m0 = z at *
      clear HS HE OF
      go_wp2_with (first | (refine wpList_idx rfl (.tmp 6) (.tmp 7) rfl #[.int .i32 m0, .int .i32 m1, .int .i32 m2] 0 (.int .i32 m0) rfl rfl (by decide) rfl ?_))
      refine (OM.out _).mono ?_
      rintro e w2 ⟨rfl, hb2⟩
      have B2 := Box'.mk (BB.out.trans (hb2.mono BB.out.size))
      clear hb2 BB
      go_wp2_with fail
      go_ret
      exact ⟨by rw [HN.out]; rfl, B2.out⟩
  ·have HS : Box' (mmL e (m1 :: [m2]) = R) := ⟨HM.out⟩
   have HE : Box' (mmL e (m1 :: [m2]) = if m1 = 0 then mmL true [m2] else if e = true then false else if ofF m1 = 0 then mmL false [m2] else false) := ⟨rfl⟩
   clear HM
   by_cases hz : m1 = 0
   case pos =>
    have HN : Box' (mmL true [m2] = R) := ⟨by rw [← HS.out, HE.out, if_pos hz]⟩
    subst hz
    clear HS HE OF
    go_wp2_with (first | (refine wpList_idx rfl (.tmp 6) (.tmp 7) rfl #[.int .i32 m0, .int .i32 0, .int .i32 m2] 1 (.int .i32 0) rfl rfl (by decide) rfl ?_))
    exact ⟨⟨2, true, by omega, rfl, rfl, HN, BB⟩, by simp [intOf]⟩
   case neg =>
    cases e with
    | true =>
     have HN : Box' (R = false) := ⟨by rw [← HS.out, HE.out, if_neg hz, if_pos rfl]⟩
     clear HS HE OF
     go_wp2_with (first | (refine wpList_idx rfl (.tmp 6) (.tmp 7) rfl #[.int .i32 m0, .int .i32 m1, .int .i32 m2] 1 (.int .i32 m1) rfl rfl (by decide) rfl ?_))
     go_ret
     exact ⟨by rw [HN.out]; rfl, BB.out⟩
    | false =>
     by_cases ho : ofF m1 = 0
     case pos =>
      have HN : Box' (mmL false [m2] = R) := ⟨by rw [← HS.out, HE.out, if_neg hz, if_neg (by simp), if_pos ho]⟩
      have OM := Box'.mk (OF.out m1)
      rw [ho] at OM
      clear HS HE OF ho
      go_wp2_with (first | (refine wpList_idx rfl (.tmp 6) (.tmp 7) rfl #[.int .i32 m0, .int .i32 m1, .int .i32 m2] 1 (.int .i32 m1) rfl rfl (by decide) rfl ?_))
      refine (OM.out _).mono ?_
      rintro e w2 ⟨rfl, hb2⟩
      have B2 := Box'.mk (BB.out.trans (hb2.mono BB.out.size))
      clear hb2 BB
      go_wp2_with fail
      exact ⟨⟨2, false, by omega, rfl, rfl, HN, B2⟩, by simp [intOf]⟩
     case neg =>
      have HN : Box' (R = false) := ⟨by rw [← HS.out, HE.out, if_neg hz, if_neg (by simp), if_neg ho]⟩
      have OM := Box'.mk (OF.out m1)
      have ho' : (ofF m1 != 0) = true := by simpa using ho
      generalize ofF m1 = z at *
      clear HS HE OF
      go_wp2_with (first | (refine wpList_idx rfl (.tmp 6) (.tmp 7) rfl #[.int .i32 m0, .int .i32 m1, .int .i32 m2] 1 (.int .i32 m1) rfl rfl (by decide) rfl ?_))
      refine (OM.out _).mono ?_
      rintro e w2 ⟨rfl, hb2⟩
      have B2 := Box'.mk (BB.out.trans (hb2.mono BB.out.size))
      clear hb2 BB
      go_wp2_with fail
      go_ret
      exact ⟨by rw [HN.out]; rfl, B2.out⟩
  ·have HS : Box' (mmL e (m2 :: []) = R) := ⟨HM.out⟩
   have HE : Box' (mmL e (m2 :: []) = if m2 = 0 then mmL true [] else if e = true then false else if ofF m2 = 0 then mmL false [] else false) := ⟨rfl⟩
   clear HM
   by_cases hz : m2 = 0
   case pos =>
    have HN : Box' (mmL true [] = R) := ⟨by rw [← HS.out, HE.out, if_pos hz]⟩
    subst hz
    clear HS HE OF
    go_wp2_with (first | (refine wpList_idx rfl (.tmp 6) (.tmp 7) rfl #[.int .i32 m0, .int .i32 m1, .int .i32 0] 2 (.int .i32 0) rfl rfl (by decide) rfl ?_))
    exact ⟨⟨3, true, by omega, rfl, rfl, HN, BB⟩, by simp [intOf]⟩
   case neg =>
    cases e with
    | true =>
     have HN : Box' (R = false) := ⟨by rw [← HS.out, HE.out, if_neg hz, if_pos rfl]⟩
     clear HS HE OF
     go_wp2_with (first | (refine wpList_idx rfl (.tmp 6) (.tmp 7) rfl #[.int .i32 m0, .int .i32 m1, .int .i32 m2] 2 (.int .i32 m2) rfl rfl (by decide) rfl ?_))
     go_ret
     exact ⟨by rw [HN.out]; rfl, BB.out⟩
    | false =>
     by_cases ho : ofF m2 = 0
     case pos =>
      have HN : Box' (mmL false [] = R) := ⟨by rw [← HS.out, HE.out, if_neg hz, if_neg (by simp), if_pos ho]⟩
      have OM := Box'.mk (OF.out m2)
      rw [ho] at OM
      clear HS HE OF ho
      go_wp2_with (first | (refine wpList_idx rfl (.tmp 6) (.tmp 7) rfl #[.int .i32 m0, .int .i32 m1, .int .i32 m2] 2 (.int .i32 m2) rfl rfl (by decide) rfl ?_))
      refine (OM.out _).mono ?_
      rintro e w2 ⟨rfl, hb2⟩
      have B2 := Box'.mk (BB.out.trans (hb2.mono BB.out.size))
      clear hb2 BB
      go_wp2_with fail
      exact ⟨⟨3, false, by omega, rfl, rfl, HN, B2⟩, by simp [intOf]⟩
     case neg =>
      have HN : Box' (R = false) := ⟨by rw [← HS.out, HE.out, if_neg hz, if_neg (by simp), if_neg ho]⟩
      have OM := Box'.mk (OF.out m2)
      have ho' : (ofF m2 != 0) = true := by simpa using ho
      generalize ofF m2 = z at *
      clear HS HE OF
      go_wp2_with (first | (refine wpList_idx rfl (.tmp 6) (.tmp 7) rfl #[.int .i32 m0, .int .i32 m1, .int .i32 m2] 2 (.int .i32 m2) rfl rfl (by decide) rfl ?_))
      refine (OM.out _).mono ?_
      rintro e w2 ⟨rfl, hb2⟩
      have B2 := Box'.mk (BB.out.trans (hb2.mono BB.out.size))
      clear hb2 BB
      go_wp2_with fail
      go_ret
      exact ⟨by rw [HN.out]; rfl, B2.out⟩
  ·have HN : Box' (R = true) := ⟨HM.out.symm⟩
   clear HM OF
   go_wp2_with fail
   go_ret
   exact ⟨by rw [HN.out]; rfl, BB.out⟩
theorem stB_self (s : St) : stB s s = true := stB_yes rfl
/-- The cell at a place. -/
def cat (c : List Cl) (i : Nat) : Cl := c.getD i (hf pl)
def hfAt (cols : Nat) (c : List Cl) (i : Nat) : Bool := decide (0 < i % cols) && decide ((cat c (i - 1)).wd = 2)
/-- May the cell at a place stand there? -/
def okAt (cols : Nat) (c : List Cl) (i : Nat) : Bool :=
 mayC (cat c i) && (decide ((cat c i).wd = 0) == hfAt cols c i) && (!hfAt cols c i || stB (cat c i).st (cat c (i - 1)).st) && !(decide ((cat c i).wd = 2) && decide (i % cols = cols - 1))
def sideF (n : Int) : Bool := decide (1 ≤ n ∧ n ≤ 512)
/-- May a grid be? -/
def mayG (co ro : Int) (c : List Cl) : Bool := sideF co && sideF ro && decide ((c.length : Int) = co * ro) && (List.range c.length).all (okAt co.toNat c)
def rowF (c : List Cl) (cols n : Nat) : List Cl := (c.drop (n * cols)).take cols
def putRow (c : List Cl) (cols n : Nat) (r : List Cl) : List Cl := c.take (n * cols) ++ r ++ c.drop (n * cols + cols)
/-- Is a cell of a row to be mended? -/
def bad (r : List Cl) (i : Nat) : Bool :=
 (decide ((cat r i).wd = 2) && (decide (r.length ≤ i + 1) || decide (¬ (cat r (i + 1)).wd = 0) || !stB (cat r (i + 1)).st (cat r i).st)) ||
 (decide ((cat r i).wd = 0) && (decide (i = 0) || decide (¬ (cat r (i - 1)).wd = 2) || !stB (cat r (i - 1)).st (cat r i).st))
def mAt (r : List Cl) (i : Nat) : Cl := if bad r i then bl (cat r i).st else cat r i
def mnd (r : List Cl) : List Cl := (List.range r.length).map (mAt r)
theorem mnd_len (r : List Cl) : (mnd r).length = r.length := by simp [mnd]
theorem mnd_at (r : List Cl) (i : Nat) (h : i < r.length) : cat (mnd r) i = mAt r i := by simp [cat, mnd, h]
theorem mayC_st (x : Cl) (h : mayC x = true) : mayS x.st = true := by
 cases hs : mayS x.st with
 | true => rfl
 | false => unfold mayC at h; rw [if_pos hs] at h; cases h
theorem mayC_bl (s : St) (h : mayS s = true) : mayC (bl s) = true := by
 have h1 : mayS (bl s).st = true := by
  simp only [mayS, Bool.and_eq_true] at h ⊢
  exact ⟨rfl, h.2⟩
 have w1 : (bl s).wd = 1 := rfl
 unfold mayC
 rw [if_neg (by rw [h1]; simp), if_neg (by rw [w1]; decide), if_neg (by rw [w1]; decide), if_pos (show ofF (bl s).ch = ((bl s).wd : Int) from of_32)]
 rfl
theorem cat_mem {r : List Cl} {i : Nat} (h : i < r.length) : cat r i ∈ r := by
 unfold cat
 rw [List.getD_eq_getElem?_getD, List.getElem?_eq_getElem h]
 exact List.getElem_mem h
/-- A row whose cells may be, mended, may stand. -/
theorem mnd_ok (r : List Cl) (h : ∀ x ∈ r, mayC x = true) (i : Nat) (hi : i < r.length) : okAt r.length (mnd r) i = true := by
 have hm : i % r.length = i := Nat.mod_eq_of_lt hi
 have e0 := mnd_at r i hi
 have m0 := h _ (cat_mem hi)
 have mb := mayC_bl _ (mayC_st _ m0)
 have mm : mayC (mAt r i) = true := by unfold mAt; split <;> assumption
 unfold okAt hfAt
 rw [hm, e0, mm]
 simp only [Bool.true_and, Bool.and_eq_true, Bool.not_eq_true', Bool.or_eq_true, beq_iff_eq, Bool.and_eq_false_iff, decide_eq_false_iff_not, decide_eq_true_eq]
 by_cases h0 : i = 0
 ·subst h0
  refine ⟨⟨?_, .inl (.inl (by omega))⟩, ?_⟩
  ·have : ¬ (mAt r 0).wd = 0 := by
    unfold mAt
    split
    ·exact (show ¬ (1 : Nat) = 0 by decide)
    ·rename_i hb
     intro hw
     exact hb (by simp [bad, hw])
   simp [this]
  ·by_cases hw : (mAt r 0).wd = 2
   ·right
    intro h1
    unfold mAt at hw
    split at hw
    ·cases hw
    ·rename_i hb
     exact hb (by simp [bad, hw]; omega)
   ·exact .inl hw
 ·have hp : i - 1 < r.length := by omega
  have e1 := mnd_at r (i - 1) hp
  rw [e1]
  have hs : i - 1 + 1 = i := by omega
  have hlast : ¬ (mAt r i).wd = 2 ∨ ¬ i = r.length - 1 := by
   by_cases hw : (mAt r i).wd = 2
   ·right
    intro h1
    unfold mAt at hw
    split at hw
    ·cases hw
    ·rename_i hb
     exact hb (by simp [bad, hw]; omega)
   ·exact .inl hw
  by_cases hw : (mAt r i).wd = 0
  ·have hb : ¬ bad r i = true := by
    intro hb
    unfold mAt at hw
    rw [if_pos hb] at hw
    cases hw
   have ei : mAt r i = cat r i := if_neg hb
   rw [ei] at hw ⊢
   have hq : (cat r (i - 1)).wd = 2 ∧ (cat r (i - 1)).st = (cat r i).st := by
    by_cases q1 : (cat r (i - 1)).wd = 2
    ·by_cases q2 : (cat r (i - 1)).st = (cat r i).st
     ·exact ⟨q1, q2⟩
     ·exact absurd (by simp [bad, hw, stB_no q2]) hb
    ·exact absurd (by simp [bad, hw, q1]) hb
   have hb' : ¬ bad r (i - 1) = true := by
    simp [bad, hq.1, hs, hw, hq.2, stB_self]
    omega
   have ep : mAt r (i - 1) = cat r (i - 1) := if_neg hb'
   rw [ep]
   refine ⟨⟨?_, .inr (stB_yes hq.2.symm)⟩, ?_⟩
   ·simp [hw, hq.1]; omega
   ·left; rw [hw]; decide
  ·have hz : ¬ (mAt r (i - 1)).wd = 2 := by
    intro h2
    have hb' : ¬ bad r (i - 1) = true := by
     intro hb
     unfold mAt at h2
     rw [if_pos hb] at h2
     cases h2
    have ep : mAt r (i - 1) = cat r (i - 1) := if_neg hb'
    rw [ep] at h2
    have hq : (cat r i).wd = 0 ∧ (cat r i).st = (cat r (i - 1)).st := by
     by_cases q1 : (cat r i).wd = 0
     ·by_cases q2 : (cat r i).st = (cat r (i - 1)).st
      ·exact ⟨q1, q2⟩
      ·exact absurd (by simp [bad, h2, hs, stB_no q2]) hb'
     ·exact absurd (by simp [bad, h2, hs, q1]) hb'
    have hb : ¬ bad r i = true := by
     simp [bad, hq.1, h0, h2, hq.2, stB_self]
    have ei : mAt r i = cat r i := if_neg hb
    rw [ei] at hw
    exact hw hq.1
   refine ⟨⟨?_, .inl (.inr hz)⟩, hlast⟩
   simp [hw, hz]
/-- A place of a row, in the grid. -/
theorem cat_row (c : List Cl) (cols n j : Nat) (hj : j < cols) : cat (rowF c cols n) j = cat c (n * cols + j) := by
 unfold cat rowF
 simp [List.getElem?_take_of_lt hj]
theorem rowF_len (c : List Cl) (cols n : Nat) (h : n * cols + cols ≤ c.length) : (rowF c cols n).length = cols := by
 unfold rowF
 rw [List.length_take, List.length_drop]
 omega
theorem okAt_row (c : List Cl) (cols n j : Nat) (hj : j < cols) : okAt cols c (n * cols + j) = okAt cols (rowF c cols n) j := by
 have hm : (n * cols + j) % cols = j := by rw [Nat.mul_comm, Nat.mul_add_mod]; exact Nat.mod_eq_of_lt hj
 have hm2 : j % cols = j := Nat.mod_eq_of_lt hj
 have h0 := cat_row c cols n j hj
 unfold okAt hfAt
 rw [hm, hm2, h0]
 by_cases hz : j = 0
 ·subst hz; simp
 ·have h1 := cat_row c cols n (j - 1) (by omega)
  rw [h1, show n * cols + j - 1 = n * cols + (j - 1) by omega]
/-- A grid may be just where each of its rows may stand. -/
theorem mayG_rows (cols rows : Nat) (c : List Cl) (hc : 1 ≤ cols) (hc2 : cols ≤ 512) (hr : 1 ≤ rows) (hr2 : rows ≤ 512) (hl : c.length = cols * rows) :
  mayG (cols : Int) (rows : Int) c = true ↔ ∀ n, n < rows → ∀ j, j < cols → okAt cols (rowF c cols n) j = true := by
 have s1 : sideF (cols : Int) = true := by unfold sideF; simp; omega
 have s2 : sideF (rows : Int) = true := by unfold sideF; simp; omega
 have s3 : decide ((c.length : Int) = (cols : Int) * (rows : Int)) = true := by rw [hl]; simp
 unfold mayG
 rw [s1, s2, s3]
 simp only [Bool.true_and, List.all_eq_true, List.mem_range, Int.toNat_natCast]
 constructor
 ·intro h n hn j hj
  rw [← okAt_row c cols n j hj]
  apply h
  rw [hl]
  calc n * cols + j < n * cols + cols := by omega
   _ = (n + 1) * cols := by rw [Nat.add_mul, Nat.one_mul]
   _ ≤ rows * cols := Nat.mul_le_mul_right _ (by omega)
   _ = cols * rows := Nat.mul_comm _ _
 ·intro h i hi
  have e : i = i / cols * cols + i % cols := by rw [Nat.mul_comm]; exact (Nat.div_add_mod i cols).symm
  rw [e, okAt_row c cols _ _ (Nat.mod_lt _ (by omega))]
  apply h
  ·rw [hl] at hi
   exact Nat.div_lt_of_lt_mul hi
  ·exact Nat.mod_lt _ (by omega)
theorem putRow_len (c : List Cl) (cols n : Nat) (r : List Cl) (hr : r.length = cols) (h : n * cols + cols ≤ c.length) : (putRow c cols n r).length = c.length := by
 unfold putRow
 simp only [List.length_append, List.length_take, List.length_drop]
 omega
/-- A row that was put is there; the others are as they were. -/
theorem rowF_put (c : List Cl) (cols n m : Nat) (r : List Cl) (hr : r.length = cols) (h : n * cols + cols ≤ c.length) : rowF (putRow c cols n r) cols m = if m = n then r else rowF c cols m := by
 have h1 : (c.take (n * cols)).length = n * cols := by rw [List.length_take]; omega
 by_cases e : m = n
 ·subst e
  rw [if_pos rfl]
  unfold rowF putRow
  rw [List.append_assoc, List.drop_append, h1, Nat.sub_self, List.drop_zero, List.drop_of_length_le (by omega), List.nil_append, List.take_append_of_le_length (by omega), List.take_of_length_le (by omega)]
 ·rw [if_neg e]
  unfold rowF putRow
  rcases Nat.lt_or_ge m n with q | q
  ·have hq : m * cols + cols ≤ n * cols := by
    calc m * cols + cols = (m + 1) * cols := by rw [Nat.add_mul, Nat.one_mul]
     _ ≤ n * cols := Nat.mul_le_mul_right _ q
   rw [List.append_assoc, List.drop_append_of_le_length (by omega), List.take_append_of_le_length (by rw [List.length_drop]; omega), List.drop_take, List.take_take]
   congr 1
   omega
  ·have hq : n * cols + cols ≤ m * cols := by
    calc n * cols + cols = (n + 1) * cols := by rw [Nat.add_mul, Nat.one_mul]
     _ ≤ m * cols := Nat.mul_le_mul_right _ (by omega)
   rw [List.drop_append, List.drop_of_length_le (by rw [List.length_append]; omega), List.nil_append, List.length_append, h1, hr, List.drop_drop]
   congr 2
   omega
/-- A grid whose row is put anew, mended, may be. -/
theorem mayG_put (cols rows n : Nat) (c : List Cl) (r : List Cl) (hc : 1 ≤ cols) (hc2 : cols ≤ 512) (hr : 1 ≤ rows) (hr2 : rows ≤ 512) (hl : c.length = cols * rows) (hg : mayG (cols : Int) (rows : Int) c = true) (hn : n < rows) (hrl : r.length = cols) (hm : ∀ x ∈ r, mayC x = true) :
  mayG (cols : Int) (rows : Int) (putRow c cols n (mnd r)) = true := by
 have hfit : n * cols + cols ≤ c.length := by
  rw [hl]
  calc n * cols + cols = (n + 1) * cols := by rw [Nat.add_mul, Nat.one_mul]
   _ ≤ rows * cols := Nat.mul_le_mul_right _ hn
   _ = cols * rows := Nat.mul_comm _ _
 have hml : (mnd r).length = cols := by rw [mnd_len, hrl]
 rw [mayG_rows cols rows _ hc hc2 hr hr2 (by rw [putRow_len c cols n _ hml hfit, hl])]
 intro m hmr j hj
 rw [rowF_put c cols n m _ hml hfit]
 by_cases e : m = n
 ·rw [if_pos e]
  have := mnd_ok r hm j (by omega)
  rw [hrl] at this
  exact this
 ·rw [if_neg e]
  exact (mayG_rows cols rows c hc hc2 hr hr2 hl).1 hg m hmr j hj
/-- Blanks may stand side by side. -/
theorem blanks_ok (cols : Nat) (s : St) (hs : mayS s = true) (j : Nat) (hj : j < cols) : okAt cols (List.replicate cols (bl s)) j = true := by
 have h0 : ∀ i, i < cols → cat (List.replicate cols (bl s)) i = bl s := fun i hi => by simp [cat, hi]
 unfold okAt hfAt
 rw [Nat.mod_eq_of_lt hj, h0 j hj, mayC_bl s hs]
 have w1 : (bl s).wd = 1 := rfl
 by_cases hz : j = 0
 ·subst hz; simp [w1]
 ·rw [h0 (j - 1) (by omega)]; simp [w1]
/-- Cells written into a row from a column on, as many as fit. -/
def wrF (r : List Cl) (col : Nat) (l : List Cl) : List Cl := r.take col ++ l.take (r.length - col) ++ r.drop (col + l.length)
/-- Blanks from a column up to another one. -/
def erF (r : List Cl) (f t : Nat) (s : St) : List Cl := r.take f ++ List.replicate (t - f) (bl s) ++ r.drop t
/-- Cells moved. -/
def shF (r : List Cl) (f : Nat) (b : Int) (s : St) : List Cl := (List.range r.length).map fun i =>
 if i < f then cat r i else if (f : Int) ≤ (i : Int) - b ∧ (i : Int) - b < (r.length : Int) then cat r ((i : Int) - b).toNat else bl s
/-- Rows moved: which row of the old grid comes to a row, if one does. -/
def scR (c : List Cl) (cols top bot : Nat) (b : Int) (s : St) (n : Nat) : List Cl :=
 if top ≤ n ∧ n ≤ bot then (if (top : Int) ≤ (n : Int) + b ∧ (n : Int) + b ≤ (bot : Int) then rowF c cols ((n : Int) + b).toNat else List.replicate cols (bl s)) else rowF c cols n
/-- Rows, one behind the other. -/
def joinR (f : Nat → List Cl) : Nat → List Cl
 | 0 => []
 | n + 1 => joinR f n ++ f n
def scF (c : List Cl) (cols rows top bot : Nat) (b : Int) (s : St) : List Cl := joinR (scR c cols top bot b s) rows
/-- A row of another width. -/
def rzR (c : List Cl) (cols rows cols' : Nat) (s : St) (n : Nat) : List Cl :=
 if n < rows then mnd ((rowF c cols n).take cols' ++ List.replicate (cols' - cols) (bl s)) else List.replicate cols' (bl s)
def rzF (c : List Cl) (cols rows cols' rows' : Nat) (s : St) : List Cl := joinR (rzR c cols rows cols' s) rows'
theorem wrF_len (r : List Cl) (col : Nat) (l : List Cl) (h : col ≤ r.length) : (wrF r col l).length = r.length := by
 unfold wrF
 simp only [List.length_append, List.length_take, List.length_drop]
 omega
theorem erF_len (r : List Cl) (f t : Nat) (s : St) (h : f ≤ t) (h2 : t ≤ r.length) : (erF r f t s).length = r.length := by
 unfold erF
 simp only [List.length_append, List.length_take, List.length_drop, List.length_replicate]
 omega
theorem shF_len (r : List Cl) (f : Nat) (b : Int) (s : St) : (shF r f b s).length = r.length := by simp [shF]
theorem mem_may_app {a b : List Cl} (h1 : ∀ x ∈ a, mayC x = true) (h2 : ∀ x ∈ b, mayC x = true) : ∀ x ∈ a ++ b, mayC x = true := fun x hx => by
 rcases List.mem_append.1 hx with h | h
 ·exact h1 x h
 ·exact h2 x h
theorem mem_may_rep (n : Nat) (s : St) (h : mayS s = true) : ∀ x ∈ List.replicate n (bl s), mayC x = true := fun x hx => by
 rw [List.eq_of_mem_replicate hx]; exact mayC_bl s h
theorem wrF_may (r : List Cl) (col : Nat) (l : List Cl) (h1 : ∀ x ∈ r, mayC x = true) (h2 : ∀ x ∈ l, mayC x = true) : ∀ x ∈ wrF r col l, mayC x = true :=
 mem_may_app (mem_may_app (fun x hx => h1 x (List.mem_of_mem_take hx)) (fun x hx => h2 x (List.mem_of_mem_take hx))) (fun x hx => h1 x (List.mem_of_mem_drop hx))
theorem erF_may (r : List Cl) (f t : Nat) (s : St) (h1 : ∀ x ∈ r, mayC x = true) (h2 : mayS s = true) : ∀ x ∈ erF r f t s, mayC x = true :=
 mem_may_app (mem_may_app (fun x hx => h1 x (List.mem_of_mem_take hx)) (mem_may_rep _ s h2)) (fun x hx => h1 x (List.mem_of_mem_drop hx))
theorem shF_may (r : List Cl) (f : Nat) (b : Int) (s : St) (h1 : ∀ x ∈ r, mayC x = true) (h2 : mayS s = true) : ∀ x ∈ shF r f b s, mayC x = true := fun x hx => by
 simp only [shF, List.mem_map, List.mem_range] at hx
 obtain ⟨i, hi, rfl⟩ := hx
 split
 ·exact h1 _ (cat_mem hi)
 ·split
  ·exact h1 _ (cat_mem (by omega))
  ·exact mayC_bl s h2
theorem joinR_len (f : Nat → List Cl) (cols : Nat) : ∀ n, (∀ k, k < n → (f k).length = cols) → (joinR f n).length = n * cols
 | 0, _ => by simp [joinR]
 | n + 1, h => by
  rw [joinR, List.length_append, joinR_len f cols n (fun k hk => h k (by omega)), h n (by omega), Nat.add_mul, Nat.one_mul]
/-- The rows that were joined are its rows. -/
theorem rowF_join (f : Nat → List Cl) (cols : Nat) : ∀ n, (∀ k, k < n → (f k).length = cols) → ∀ m, m < n → rowF (joinR f n) cols m = f m
 | 0, _, m, hm => by omega
 | n + 1, h, m, hm => by
  have hl := joinR_len f cols n (fun k hk => h k (by omega))
  have hn := h n (by omega)
  rw [joinR]
  by_cases e : m = n
  ·subst e
   unfold rowF
   rw [List.drop_append, hl, Nat.sub_self, List.drop_zero, List.drop_of_length_le (by omega), List.nil_append, List.take_of_length_le (by omega)]
  ·have hq : m * cols + cols ≤ n * cols := by
    calc m * cols + cols = (m + 1) * cols := by rw [Nat.add_mul, Nat.one_mul]
     _ ≤ n * cols := Nat.mul_le_mul_right _ (by omega)
   have ih := rowF_join f cols n (fun k hk => h k (by omega)) m (by omega)
   unfold rowF at ih ⊢
   rw [List.drop_append_of_le_length (by omega), List.take_append_of_le_length (by rw [List.length_drop]; omega)]
   exact ih
theorem fits {cols rows n : Nat} (h : n < rows) : n * cols + cols ≤ cols * rows := by
 calc n * cols + cols = (n + 1) * cols := by rw [Nat.add_mul, Nat.one_mul]
  _ ≤ rows * cols := Nat.mul_le_mul_right _ h
  _ = cols * rows := Nat.mul_comm _ _
theorem scR_len (c : List Cl) (cols rows top bot : Nat) (b : Int) (s : St) (n : Nat) (hl : c.length = cols * rows) (hb : bot < rows) (hn : n < rows) : (scR c cols top bot b s n).length = cols := by
 unfold scR
 split
 ·split
  ·exact rowF_len c cols _ (by rw [hl]; exact fits (by omega))
  ·simp
 ·exact rowF_len c cols _ (by rw [hl]; exact fits hn)
/-- Scrolled, a grid that may be may be. -/
theorem mayG_scroll (cols rows top bot : Nat) (b : Int) (s : St) (c : List Cl) (hc : 1 ≤ cols) (hc2 : cols ≤ 512) (hr : 1 ≤ rows) (hr2 : rows ≤ 512) (hl : c.length = cols * rows) (hg : mayG (cols : Int) (rows : Int) c = true) (hs : mayS s = true) (hb : bot < rows) :
  mayG (cols : Int) (rows : Int) (scF c cols rows top bot b s) = true := by
 have hrow : ∀ k, k < rows → (scR c cols top bot b s k).length = cols := fun k hk => scR_len c cols rows top bot b s k hl hb hk
 have hlen : (scF c cols rows top bot b s).length = cols * rows := by rw [scF, joinR_len _ cols rows hrow, Nat.mul_comm]
 have old := (mayG_rows cols rows c hc hc2 hr hr2 hl).1 hg
 rw [mayG_rows cols rows _ hc hc2 hr hr2 hlen]
 intro n hn j hj
 rw [scF, rowF_join _ cols rows hrow n hn]
 unfold scR
 split
 ·split
  ·exact old _ (by omega) j hj
  ·exact blanks_ok cols s hs j hj
 ·exact old n hn j hj
theorem row_may (cols rows : Nat) (c : List Cl) (hc : 1 ≤ cols) (hc2 : cols ≤ 512) (hr : 1 ≤ rows) (hr2 : rows ≤ 512) (hl : c.length = cols * rows) (hg : mayG (cols : Int) (rows : Int) c = true) (n : Nat) (hn : n < rows) : ∀ x ∈ rowF c cols n, mayC x = true := by
 intro x hx
 obtain ⟨j, hj, rfl⟩ := List.mem_iff_getElem.1 hx
 have hlen := rowF_len c cols n (by rw [hl]; exact fits hn)
 have := (mayG_rows cols rows c hc hc2 hr hr2 hl).1 hg n hn j (by omega)
 unfold okAt at this
 simp only [Bool.and_eq_true] at this
 have h := this.1.1.1
 unfold cat at h
 rw [List.getD_eq_getElem?_getD, List.getElem?_eq_getElem hj] at h
 exact h
theorem rzR_len (c : List Cl) (cols rows cols' : Nat) (s : St) (n : Nat) (hl : c.length = cols * rows) : (rzR c cols rows cols' s n).length = cols' := by
 unfold rzR
 split
 ·rename_i hn
  rw [mnd_len, List.length_append, List.length_take, rowF_len c cols n (by rw [hl]; exact fits hn), List.length_replicate]
  omega
 ·simp
/-- Resized, a grid that may be may be. -/
theorem mayG_resize (cols rows cols' rows' : Nat) (s : St) (c : List Cl) (hc : 1 ≤ cols) (hc2 : cols ≤ 512) (hr : 1 ≤ rows) (hr2 : rows ≤ 512) (hl : c.length = cols * rows) (hg : mayG (cols : Int) (rows : Int) c = true) (hs : mayS s = true)
  (hd : 1 ≤ cols') (hd2 : cols' ≤ 512) (he : 1 ≤ rows') (he2 : rows' ≤ 512) : mayG (cols' : Int) (rows' : Int) (rzF c cols rows cols' rows' s) = true := by
 have hrow : ∀ k, k < rows' → (rzR c cols rows cols' s k).length = cols' := fun k _ => rzR_len c cols rows cols' s k hl
 have hlen : (rzF c cols rows cols' rows' s).length = cols' * rows' := by rw [rzF, joinR_len _ cols' rows' hrow, Nat.mul_comm]
 rw [mayG_rows cols' rows' _ hd hd2 he he2 hlen]
 intro n hn j hj
 rw [rzF, rowF_join _ cols' rows' hrow n hn]
 unfold rzR
 split
 ·rename_i hnr
  have hrl : ((rowF c cols n).take cols' ++ List.replicate (cols' - cols) (bl s)).length = cols' := by
   rw [List.length_append, List.length_take, rowF_len c cols n (by rw [hl]; exact fits hnr), List.length_replicate]; omega
  have := mnd_ok ((rowF c cols n).take cols' ++ List.replicate (cols' - cols) (bl s)) (mem_may_app (fun x hx => row_may cols rows c hc hc2 hr hr2 hl hg n hnr x (List.mem_of_mem_take hx)) (mem_may_rep _ s hs)) j (by omega)
  rw [hrl] at this
  exact this
 ·exact blanks_ok cols' s hs j hj
/-- A new grid may be. -/
theorem mayG_new (cols rows : Nat) (s : St) (hc : 1 ≤ cols) (hc2 : cols ≤ 512) (hr : 1 ≤ rows) (hr2 : rows ≤ 512) (hs : mayS s = true) : mayG (cols : Int) (rows : Int) (List.replicate (cols * rows) (bl s)) = true := by
 rw [mayG_rows cols rows _ hc hc2 hr hr2 (by simp)]
 intro n hn j hj
 have e : rowF (List.replicate (cols * rows) (bl s)) cols n = List.replicate cols (bl s) := by
  have := fits (cols := cols) hn
  unfold rowF
  rw [List.drop_replicate, List.take_replicate]
  congr 1
  omega
 rw [e]
 exact blanks_ok cols s hs j hj
theorem scF_len (c : List Cl) (cols rows top bot : Nat) (b : Int) (s : St) (hl : c.length = cols * rows) (hb : bot < rows) : (scF c cols rows top bot b s).length = cols * rows := by
 rw [scF, joinR_len _ cols rows (fun k hk => scR_len c cols rows top bot b s k hl hb hk), Nat.mul_comm]
theorem scF_row (c : List Cl) (cols rows top bot : Nat) (b : Int) (s : St) (hl : c.length = cols * rows) (hb : bot < rows) (n : Nat) (hn : n < rows) : rowF (scF c cols rows top bot b s) cols n = scR c cols top bot b s n :=
 rowF_join _ cols rows (fun k hk => scR_len c cols rows top bot b s k hl hb hk) n hn
/-- Two grids whose rows are the same are the same. -/
theorem rows_ext (c d : List Cl) (cols rows : Nat) (hc : 1 ≤ cols) (hl : c.length = cols * rows) (hd : d.length = cols * rows) (h : ∀ n, n < rows → rowF c cols n = rowF d cols n) : c = d := by
 apply List.ext_getElem (by omega)
 intro i h1 h2
 have hi : i / cols < rows := Nat.div_lt_of_lt_mul (by omega)
 have hm : i % cols < cols := Nat.mod_lt _ (by omega)
 have e : i = i / cols * cols + i % cols := by rw [Nat.mul_comm]; exact (Nat.div_add_mod i cols).symm
 have h3 := cat_row c cols (i / cols) (i % cols) hm
 have h4 := cat_row d cols (i / cols) (i % cols) hm
 rw [h (i / cols) hi, h4, ← e] at h3
 unfold cat at h3
 rw [List.getD_eq_getElem?_getD, List.getD_eq_getElem?_getD, List.getElem?_eq_getElem h1, List.getElem?_eq_getElem h2] at h3
 exact h3.symm
theorem maySide_any (n : Int) (w : World) : Calls Tryz.prog 155 #[.int .i64 n] w fun e w' => e = .returned (.bool (sideF n)) ∧ w' = w := by
 by_cases h1 : 1 ≤ n
 ·by_cases h2 : n ≤ 512
  ·have E : Box' (sideF n = true) := ⟨by unfold sideF; simp; omega⟩
   go_enter Tryz.func155, Tryz.ntmps155
   go_wp2_with fail
   go_ret
   exact ⟨by rw [E.out]; rfl, rfl⟩
  ·have E : Box' (sideF n = false) := ⟨by unfold sideF; simp; omega⟩
   go_enter Tryz.func155, Tryz.ntmps155
   go_wp2_with fail
   go_ret
   exact ⟨by rw [E.out]; rfl, rfl⟩
 ·have E : Box' (sideF n = false) := ⟨by unfold sideF; simp; omega⟩
  go_enter Tryz.func155, Tryz.ntmps155
  go_wp2_with fail
  go_ret
  exact ⟨by rw [E.out]; rfl, rfl⟩
theorem side_any (n : Int) (w : World) : Calls Tryz.prog 118 #[.int .i64 n] w fun e w' => e = .returned (.bool (sideF n)) ∧ w' = w := by
 by_cases h1 : 1 ≤ n
 ·by_cases h2 : n ≤ 512
  ·have E : Box' (sideF n = true) := ⟨by unfold sideF; simp; omega⟩
   go_enter Tryz.func118, Tryz.ntmps118
   go_wp2_with fail
   go_ret
   exact ⟨by rw [E.out]; rfl, rfl⟩
  ·have E : Box' (sideF n = false) := ⟨by unfold sideF; simp; omega⟩
   go_enter Tryz.func118, Tryz.ntmps118
   go_wp2_with fail
   go_ret
   exact ⟨by rw [E.out]; rfl, rfl⟩
 ·have E : Box' (sideF n = false) := ⟨by unfold sideF; simp; omega⟩
  go_enter Tryz.func118, Tryz.ntmps118
  go_wp2_with fail
  go_ret
  exact ⟨by rw [E.out]; rfl, rfl⟩
def inN (n c : Int) : Bool := decide (0 ≤ n ∧ n < c)
theorem isIn_any (n c : Int) (w : World) : Calls Tryz.prog 185 #[.int .i64 n, .int .i64 c] w fun e w' => e = .returned (.bool (inN n c)) ∧ w' = w := by
 by_cases h1 : 0 ≤ n
 ·by_cases h2 : n < c
  ·have E : Box' (inN n c = true) := ⟨by unfold inN; simp; omega⟩
   go_enter Tryz.func185, Tryz.ntmps185
   go_wp2_with fail
   go_ret
   exact ⟨by rw [E.out]; rfl, rfl⟩
  ·have E : Box' (inN n c = false) := ⟨by unfold inN; simp; omega⟩
   go_enter Tryz.func185, Tryz.ntmps185
   go_wp2_with fail
   go_ret
   exact ⟨by rw [E.out]; rfl, rfl⟩
 ·have E : Box' (inN n c = false) := ⟨by unfold inN; simp; omega⟩
  go_enter Tryz.func185, Tryz.ntmps185
  go_wp2_with fail
  go_ret
  exact ⟨by rw [E.out]; rfl, rfl⟩
theorem maySize_any (a b : Int) (w : World) : Calls Tryz.prog 113 #[.int .i64 a, .int .i64 b] w fun e w' => e = .returned (.bool (sideF a && sideF b)) ∧ w' = w := by
 have HA := Box'.mk (maySide_any a)
 have HB := Box'.mk (maySide_any b)
 cases ha : sideF a with
 | false =>
  rw [ha] at HA
  clear HB ha
  go_enter Tryz.func113, Tryz.ntmps113
  go_wp2_with fail
  refine (HA.out _).mono ?_
  rintro e w2 ⟨rfl, rfl⟩
  go_wp2_with fail
  go_ret
  exact ⟨rfl, rfl⟩
 | true =>
  rw [ha] at HA
  clear ha
  generalize sideF b = sb at *
  go_enter Tryz.func113, Tryz.ntmps113
  go_wp2_with fail
  refine (HA.out _).mono ?_
  rintro e w2 ⟨rfl, rfl⟩
  go_wp2_with fail
  refine (HB.out _).mono ?_
  rintro e w2 ⟨rfl, rfl⟩
  go_wp2_with fail
  go_ret
  exact ⟨rfl, rfl⟩
def clF (n m : Int) : Int := max (-m) (min n m)
theorem clamp_any (n : Int) (m : Nat) (hm : m ≤ 262144) (w : World) : Calls Tryz.prog 188 #[.int .i64 n, .int .i64 (m : Int)] w fun e w' => e = .returned (.int .i64 (clF n (m : Int))) ∧ w' = w := by
 go_enter Tryz.func188, Tryz.ntmps188
 go_wp2_with fail
 all_goals go_ret
 all_goals refine ⟨congrArg (fun x => Ending.returned (Value.int .i64 x)) ?_, rfl⟩
 all_goals rename_i h1
 all_goals first | rw [if_pos h] at h1 | rw [if_neg (Int.not_lt.2 h)] at h1
 all_goals unfold clF
 all_goals omega
theorem place_any (a b : Nat) (ha : a ≤ 1024) (hb : b ≤ 1024) (w : World) : Calls Tryz.prog 114 #[.int .i64 (a : Int), .int .i64 (b : Int)] w fun e w' => e = .returned (.int .i64 ((a * b : Nat) : Int)) ∧ w' = w := by
 have h := Nat.mul_le_mul ha hb
 have h' : (a : Int) * (b : Int) ≤ 1048576 := by rw [← Int.natCast_mul]; omega
 go_enter Tryz.func114, Tryz.ntmps114
 go_wp2_with fail
 go_ret
 exact ⟨congrArg (fun x => Ending.returned (Value.int .i64 x)) (Int.natCast_mul a b).symm, rfl⟩
end Go.Proofs.YtlekleeckcdcgaaGreat
