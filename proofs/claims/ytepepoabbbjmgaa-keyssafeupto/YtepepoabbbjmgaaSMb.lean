/- Rows of cells in memory: read, written, copied, appended. Rows of cells of one's own: append, copy. Slices of cells, cut. Which cells may be, of all cells: marks. The mathematics of grids: rows, mending, which grids may be. What is done to grids, as lists; what may be may be behind it. The grid's sm -/
import Derived.Laws.CopyRow
import Derived.Laws.AppendOwn
import Derived.Laws.AppendOwnNone
import Derived.Deep.Cut
import Derived.Test.YtepepoabbbjmgaaSSb
import Derived.Test.YtepepoabbbjmgaaSCa
namespace Go.Proofs.Ytepepoabbbjmgaa.Sc
open Go.RowKit Go.BigFrame
set_option linter.unusedVariables false
set_option linter.unusedSimpArgs false
set_option maxRecDepth 100000
set_option maxHeartbeats 8000000
theorem cA_len (x : Cl) : (cA x).toList.length = 15 := rfl
section
variable {ops : Array Oper} {rest : List Oper} {op : Oper} {a : Act} {w : World} {Q : Exit → Act → World → Prop}
theorem rangeAt_cls {N : Nat} {v : Value} {l : List Cl} {b o k : Nat} (hc : ∀ j, j < 15 → w.cell? ⟨b, o + k * 15 + j, none⟩ = (cA (l.getD k (hf pl)))[j]?) : w.rangeAt b (o + k * 15) (cA (l.getD k (hf pl))).toList := fun j v hv => by
 have hj : j < 15 := by have := (List.getElem?_eq_some_iff.1 hv).1; rwa [cA_len] at this
 rw [hc j hj]
 simpa using hv
theorem wp_load_cell {K : Act → World → Prop} (x : Operand) (ho : op.op = .load 72 x) (b o : Nat) (y : Cl) (hx : a.eval x = .pointer (some ⟨b, o, none⟩)) (hc : w.rangeAt b o (cA y).toList) (h : K (a.put op.dst (.agg (cA y))) w) : op.wp Try.prog a w K Q :=
 wp_load_mid 72 x ho b o hx (cA y).toList _ hc Try.underlying72 rfl s26 h
theorem wpList_load_cell (hgd : op.guard = none) (x : Operand) (ho : op.op = .load 72 x) (b o : Nat) (y : Cl) (hx : a.eval x = .pointer (some ⟨b, o, none⟩)) (hc : w.rangeAt b o (cA y).toList)
  (h : wpList Try.prog ops Q rest (a.put op.dst (.agg (cA y))) w) : wpList Try.prog ops Q (op :: rest) a w :=
 wpList_plain hgd fun K hK => wp_load_cell x ho b o y hx hc (hK _ _ h)
end
theorem size26 (w : World) : (sizeOf 72).run Try.prog w = .ok 15 w := by
 have := s26
 cases hq : Try.prog.info? 72 with
 | none => simp [hq] at this
 | some i => simp [hq] at this; simp [sizeOf, typeInfo, hq, this]
/-- x[lo:hi:hi] -/
theorem run_cutC3 (b o n c lo hi mx : Nat) (h : lo ≤ hi) (h2 : hi ≤ mx) (h4 : mx ≤ c) (h3 : lo < mx) (w : World) : (Instr.sliceAt 37 (.slice (some ⟨b, o, none⟩) n c) (some (.int .i64 (lo : Int))) (some (.int .i64 (hi : Int))) (some (.int .i64 (mx : Int)))).run Try.prog w = .ok (.slice (some ⟨b, o + lo * 15, none⟩) (hi - lo) (mx - lo)) w := by
 have e : Try.prog.elem 37 = 72 := by kernel_rfl
 rw [run_sliceAt_slice w 37 _ _ _ _ (by kernel_rfl), run_slice_lhm w 37 _ n c (by kernel_rfl) _ _ _ _ _ _ (by omega) (by omega) (by omega) (by omega), e, size26]
 simp only [Result.andThen_ok, Int.toNat_natCast, sliced, if_neg (show ¬ mx = lo by omega), Option.map_some, Addr.add_mid]
/-- May the marks be, one having been 0 already or none? -/
def mmL : Bool → List Int → Bool
 | _, [] => true
 | e, m :: r => if m = 0 then mmL true r else if e = true then false else if ofF m = 0 then mmL false r else false
def rmL : List Int → Bool
 | [] => true
 | [m] => if m = 0 then true else decide (ofF m = 0)
 | m :: m' :: r => if m = 0 then (if m' = 0 then rmL (m' :: r) else false) else if ofF m = 0 then rmL (m' :: r) else false
theorem rm_mm (m0 m1 m2 : Int) : rmL [m0, m1, m2] = mmL false [m0, m1, m2] := by
 simp only [rmL, mmL]
 by_cases h0 : m0 = 0 <;> by_cases h1 : m1 = 0 <;> by_cases h2 : m2 = 0 <;> by_cases k0 : ofF m0 = 0 <;> by_cases k1 : ofF m1 = 0 <;> by_cases k2 : ofF m2 = 0 <;> simp [h0, h1, h2, k0, k1, k2]
/-- May a cell be? -/
def mayC (x : Cl) : Bool := if mayS x.st = false then false else if x.wd = 0 then decide (x.ch = 0 ∧ x.m0 = 0 ∧ x.m1 = 0 ∧ x.m2 = 0) else if 2 < x.wd then false else if ofF x.ch = (x.wd : Int) then mmL false [x.m0, x.m1, x.m2] else false
theorem mayMarksF_any (m0 m1 m2 : Int) (w : World) : Calls Try.prog 47 #[.agg #[.int .i32 m0, .int .i32 m1, .int .i32 m2]] w fun e w' => e = .returned (.bool (mmL false [m0, m1, m2])) ∧ Below w.heap.size w w' := by
 have OF := Box'.mk of_any
 have B1 := Box'.mk ((Below.refl w.heap.size w).alloc (Nat.le_refl _) (.cells #[.int .i32 m0, .int .i32 m1, .int .i32 m2] 70))
 obtain ⟨R, hR⟩ : ∃ R, mmL false [m0, m1, m2] = R := ⟨_, rfl⟩
 have HR := Box'.mk hR
 rw [hR]
 clear hR
 go_enter Try.func47, Try.ntmps47
 go_wp2_with fail
 generalize w.alloc (.cells #[.int .i32 m0, .int .i32 m1, .int .i32 m2] 70) = w1 at *
 go_loopw [3, 7] (fun d i wr => ∃ (k : Nat) (e : Bool), k ≤ 3 ∧ i = .int .i64 (k : Int) ∧ d = .bool e ∧ Box' (mmL e ([m0, m1, m2].drop k) = R) ∧ Box' (Below w.heap.size w wr)) (fun _ i _ => 3 - (intOf i).toNat)
 case atStart => exact ⟨0, false, by omega, rfl, rfl, HR, B1⟩
 case round =>
  obtain ⟨k, e, hk, rfl, rfl, HM, BB⟩ := hrel
  clear B1 HR
  obtain rfl | rfl | rfl | rfl : k = 0 ∨ k = 1 ∨ k = 2 ∨ k = 3 := by omega
  ·have HS : Box' (mmL e (m0 :: [m1, m2]) = R) := ⟨HM.out⟩
   have HE : Box' (mmL e (m0 :: [m1, m2]) = if m0 = 0 then mmL true [m1, m2] else if e = true then false else if ofF m0 = 0 then mmL false [m1, m2] else false) := ⟨rfl⟩
   clear HM
   by_cases hz : m0 = 0
   case pos =>
    have HN : Box' (mmL true [m1, m2] = R) := ⟨by rw [← HS.out, HE.out, if_pos hz]⟩
    subst hz
    clear HS HE OF
    go_wp2_with (first | (refine wpList_idx rfl (.tmp 6) (.tmp 7) rfl #[.int .i32 0, .int .i32 m1, .int .i32 m2] 0 (.int .i32 0) rfl rfl (by decide) rfl ?_))
    exact ⟨⟨1, true, by omega, rfl, rfl, HN, BB⟩, by simp [intOf]⟩
   case neg =>
    cases e with
    | true =>
     have HN : Box' (R = false) := ⟨by rw [← HS.out, HE.out, if_neg hz, if_pos rfl]⟩
     clear HS HE OF
     go_wp2_with (first | (refine wpList_idx rfl (.tmp 6) (.tmp 7) rfl #[.int .i32 m0, .int .i32 m1, .int .i32 m2] 0 (.int .i32 m0) rfl rfl (by decide) rfl ?_))
     go_ret
     exact ⟨by rw [HN.out]; rfl, BB.out⟩
    | false =>
     by_cases ho : ofF m0 = 0
     case pos =>
      have HN : Box' (mmL false [m1, m2] = R) := ⟨by rw [← HS.out, HE.out, if_neg hz, if_neg (by simp), if_pos ho]⟩
      have OM := Box'.mk (OF.out m0)
      rw [ho] at OM
      clear HS HE OF ho
      go_wp2_with (first | (refine wpList_idx rfl (.tmp 6) (.tmp 7) rfl #[.int .i32 m0, .int .i32 m1, .int .i32 m2] 0 (.int .i32 m0) rfl rfl (by decide) rfl ?_))
      refine (OM.out _).mono ?_
      rintro e w2 ⟨rfl, hb2⟩
      have B2 := Box'.mk (BB.out.trans (hb2.mono BB.out.size))
      clear hb2 BB
      go_wp2_with fail
      exact ⟨⟨1, false, by omega, rfl, rfl, HN, B2⟩, by simp [intOf]⟩
     case neg =>
      have HN : Box' (R = false) := ⟨by rw [← HS.out, HE.out, if_neg hz, if_neg (by simp), if_neg ho]⟩
      have OM := Box'.mk (OF.out m0)
      have ho' : (ofF m0 != 0) = true := by simpa using ho
      generalize ofF m0 = z at *
      clear HS HE OF
      go_wp2_with (first | (refine wpList_idx rfl (.tmp 6) (.tmp 7) rfl #[.int .i32 m0, .int .i32 m1, .int .i32 m2] 0 (.int .i32 m0) rfl rfl (by decide) rfl ?_))
      refine (OM.out _).mono ?_
      rintro e w2 ⟨rfl, hb2⟩
      have B2 := Box'.mk (BB.out.trans (hb2.mono BB.out.size))
      clear hb2 BB
      go_wp2_with fail
      go_ret
      exact ⟨by rw [HN.out]; rfl, B2.out⟩
  ·have HS : Box' (mmL e (m1 :: [m2]) = R) := ⟨HM.out⟩
   have HE : Box' (mmL e (m1 :: [m2]) = if m1 = 0 then mmL true [m2] else if e = true then false else if ofF m1 = 0 then mmL false [m2] else false) := ⟨rfl⟩
   clear HM
   by_cases hz : m1 = 0
   case pos =>
    have HN : Box' (mmL true [m2] = R) := ⟨by rw [← HS.out, HE.out, if_pos hz]⟩
    subst hz
    clear HS HE OF
    go_wp2_with (first | (refine wpList_idx rfl (.tmp 6) (.tmp 7) rfl #[.int .i32 m0, .int .i32 0, .int .i32 m2] 1 (.int .i32 0) rfl rfl (by decide) rfl ?_))
    exact ⟨⟨2, true, by omega, rfl, rfl, HN, BB⟩, by simp [intOf]⟩
   case neg =>
    cases e with
    | true =>
     have HN : Box' (R = false) := ⟨by rw [← HS.out, HE.out, if_neg hz, if_pos rfl]⟩
     clear HS HE OF
     go_wp2_with (first | (refine wpList_idx rfl (.tmp 6) (.tmp 7) rfl #[.int .i32 m0, .int .i32 m1, .int .i32 m2] 1 (.int .i32 m1) rfl rfl (by decide) rfl ?_))
     go_ret
     exact ⟨by rw [HN.out]; rfl, BB.out⟩
    | false =>
     by_cases ho : ofF m1 = 0
     case pos =>
      have HN : Box' (mmL false [m2] = R) := ⟨by rw [← HS.out, HE.out, if_neg hz, if_neg (by simp), if_pos ho]⟩
      have OM := Box'.mk (OF.out m1)
      rw [ho] at OM
      clear HS HE OF ho
      go_wp2_with (first | (refine wpList_idx rfl (.tmp 6) (.tmp 7) rfl #[.int .i32 m0, .int .i32 m1, .int .i32 m2] 1 (.int .i32 m1) rfl rfl (by decide) rfl ?_))
      refine (OM.out _).mono ?_
      rintro e w2 ⟨rfl, hb2⟩
      have B2 := Box'.mk (BB.out.trans (hb2.mono BB.out.size))
      clear hb2 BB
      go_wp2_with fail
      exact ⟨⟨2, false, by omega, rfl, rfl, HN, B2⟩, by simp [intOf]⟩
     case neg =>
      have HN : Box' (R = false) := ⟨by rw [← HS.out, HE.out, if_neg hz, if_neg (by simp), if_neg ho]⟩
      have OM := Box'.mk (OF.out m1)
      have ho' : (ofF m1 != 0) = true := by simpa using ho
      generalize ofF m1 = z at *
      clear HS HE OF
      go_wp2_with (first | (refine wpList_idx rfl (.tmp 6) (.tmp 7) rfl #[.int .i32 m0, .int .i32 m1, .int .i32 m2] 1 (.int .i32 m1) rfl rfl (by decide) rfl ?_))
      refine (OM.out _).mono ?_
      rintro e w2 ⟨rfl, hb2⟩
      have B2 := Box'.mk (BB.out.trans (hb2.mono BB.out.size))
      clear hb2 BB
      go_wp2_with fail
      go_ret
      exact ⟨by rw [HN.out]; rfl, B2.out⟩
  ·have HS : Box' (mmL e (m2 :: []) = R) := ⟨HM.out⟩
   have HE : Box' (mmL e (m2 :: []) = if m2 = 0 then mmL true [] else if e = true then false else if ofF m2 = 0 then mmL false [] else false) := ⟨rfl⟩
   clear HM
   by_cases hz : m2 = 0
   case pos =>
    have HN : Box' (mmL true [] = R) := ⟨by rw [← HS.out, HE.out, if_pos hz]⟩
    subst hz
    clear HS HE OF
    go_wp2_with (first | (refine wpList_idx rfl (.tmp 6) (.tmp 7) rfl #[.int .i32 m0, .int .i32 m1, .int .i32 0] 2 (.int .i32 0) rfl rfl (by decide) rfl ?_))
    exact ⟨⟨3, true, by omega, rfl, rfl, HN, BB⟩, by simp [intOf]⟩
   case neg =>
    cases e with
    | true =>
     have HN : Box' (R = false) := ⟨by rw [← HS.out, HE.out, if_neg hz, if_pos rfl]⟩
     clear HS HE OF
     go_wp2_with (first | (refine wpList_idx rfl (.tmp 6) (.tmp 7) rfl #[.int .i32 m0, .int .i32 m1, .int .i32 m2] 2 (.int .i32 m2) rfl rfl (by decide) rfl ?_))
     go_ret
     exact ⟨by rw [HN.out]; rfl, BB.out⟩
    | false =>
     by_cases ho : ofF m2 = 0
     case pos =>
      have HN : Box' (mmL false [] = R) := ⟨by rw [← HS.out, HE.out, if_neg hz, if_neg (by simp), if_pos ho]⟩
      have OM := Box'.mk (OF.out m2)
      rw [ho] at OM
      clear HS HE OF ho
      go_wp2_with (first | (refine wpList_idx rfl (.tmp 6) (.tmp 7) rfl #[.int .i32 m0, .int .i32 m1, .int .i32 m2] 2 (.int .i32 m2) rfl rfl (by decide) rfl ?_))
      refine (OM.out _).mono ?_
      rintro e w2 ⟨rfl, hb2⟩
      have B2 := Box'.mk (BB.out.trans (hb2.mono BB.out.size))
      clear hb2 BB
      go_wp2_with fail
      exact ⟨⟨3, false, by omega, rfl, rfl, HN, B2⟩, by simp [intOf]⟩
     case neg =>
      have HN : Box' (R = false) := ⟨by rw [← HS.out, HE.out, if_neg hz, if_neg (by simp), if_neg ho]⟩
      have OM := Box'.mk (OF.out m2)
      have ho' : (ofF m2 != 0) = true := by simpa using ho
      generalize ofF m2 = z at *
      clear HS HE OF
      go_wp2_with (first | (refine wpList_idx rfl (.tmp 6) (.tmp 7) rfl #[.int .i32 m0, .int .i32 m1, .int .i32 m2] 2 (.int .i32 m2) rfl rfl (by decide) rfl ?_))
      refine (OM.out _).mono ?_
      rintro e w2 ⟨rfl, hb2⟩
      have B2 := Box'.mk (BB.out.trans (hb2.mono BB.out.size))
      clear hb2 BB
      go_wp2_with fail
      go_ret
      exact ⟨by rw [HN.out]; rfl, B2.out⟩
  ·have HN : Box' (R = true) := ⟨HM.out.symm⟩
   clear HM OF
   go_wp2_with fail
   go_ret
   exact ⟨by rw [HN.out]; rfl, BB.out⟩
/-- The cell at a place. -/
def cat (c : List Cl) (i : Nat) : Cl := c.getD i (hf pl)
def hfAt (cols : Nat) (c : List Cl) (i : Nat) : Bool := decide (0 < i % cols) && decide ((cat c (i - 1)).wd = 2)
/-- May the cell at a place stand there? -/
def okAt (cols : Nat) (c : List Cl) (i : Nat) : Bool :=
 mayC (cat c i) && (decide ((cat c i).wd = 0) == hfAt cols c i) && (!hfAt cols c i || stB (cat c i).st (cat c (i - 1)).st) && !(decide ((cat c i).wd = 2) && decide (i % cols = cols - 1))
def sideF (n : Int) : Bool := decide (1 ≤ n ∧ n ≤ 512)
/-- May a grid be? -/
def mayG (co ro : Int) (c : List Cl) : Bool := sideF co && sideF ro && decide ((c.length : Int) = co * ro) && (List.range c.length).all (okAt co.toNat c)
def rowF (c : List Cl) (cols n : Nat) : List Cl := (c.drop (n * cols)).take cols
/-- Is a cell of a row to be mended? -/
def bad (r : List Cl) (i : Nat) : Bool :=
 (decide ((cat r i).wd = 2) && (decide (r.length ≤ i + 1) || decide (¬ (cat r (i + 1)).wd = 0) || !stB (cat r (i + 1)).st (cat r i).st)) ||
 (decide ((cat r i).wd = 0) && (decide (i = 0) || decide (¬ (cat r (i - 1)).wd = 2) || !stB (cat r (i - 1)).st (cat r i).st))
theorem cat_mem {r : List Cl} {i : Nat} (h : i < r.length) : cat r i ∈ r := by
 unfold cat
 rw [List.getD_eq_getElem?_getD, List.getElem?_eq_getElem h]
 exact List.getElem_mem h
/-- A place of a row, in the grid. -/
theorem cat_row (c : List Cl) (cols n j : Nat) (hj : j < cols) : cat (rowF c cols n) j = cat c (n * cols + j) := by
 unfold cat rowF
 simp [List.getElem?_take_of_lt hj]
theorem rowF_len (c : List Cl) (cols n : Nat) (h : n * cols + cols ≤ c.length) : (rowF c cols n).length = cols := by
 unfold rowF
 rw [List.length_take, List.length_drop]
 omega
theorem okAt_row (c : List Cl) (cols n j : Nat) (hj : j < cols) : okAt cols c (n * cols + j) = okAt cols (rowF c cols n) j := by
 have hm : (n * cols + j) % cols = j := by rw [Nat.mul_comm, Nat.mul_add_mod]; exact Nat.mod_eq_of_lt hj
 have hm2 : j % cols = j := Nat.mod_eq_of_lt hj
 have h0 := cat_row c cols n j hj
 unfold okAt hfAt
 rw [hm, hm2, h0]
 by_cases hz : j = 0
 ·subst hz; simp
 ·have h1 := cat_row c cols n (j - 1) (by omega)
  rw [h1, show n * cols + j - 1 = n * cols + (j - 1) by omega]
/-- A grid may be just where each of its rows may stand. -/
theorem mayG_rows (cols rows : Nat) (c : List Cl) (hc : 1 ≤ cols) (hc2 : cols ≤ 512) (hr : 1 ≤ rows) (hr2 : rows ≤ 512) (hl : c.length = cols * rows) :
  mayG (cols : Int) (rows : Int) c = true ↔ ∀ n, n < rows → ∀ j, j < cols → okAt cols (rowF c cols n) j = true := by
 have s1 : sideF (cols : Int) = true := by unfold sideF; simp; omega
 have s2 : sideF (rows : Int) = true := by unfold sideF; simp; omega
 have s3 : decide ((c.length : Int) = (cols : Int) * (rows : Int)) = true := by rw [hl]; simp
 unfold mayG
 rw [s1, s2, s3]
 simp only [Bool.true_and, List.all_eq_true, List.mem_range, Int.toNat_natCast]
 constructor
 ·intro h n hn j hj
  rw [← okAt_row c cols n j hj]
  apply h
  rw [hl]
  calc n * cols + j < n * cols + cols := by omega
   _ = (n + 1) * cols := by rw [Nat.add_mul, Nat.one_mul]
   _ ≤ rows * cols := Nat.mul_le_mul_right _ (by omega)
   _ = cols * rows := Nat.mul_comm _ _
 ·intro h i hi
  have e : i = i / cols * cols + i % cols := by rw [Nat.mul_comm]; exact (Nat.div_add_mod i cols).symm
  rw [e, okAt_row c cols _ _ (Nat.mod_lt _ (by omega))]
  apply h
  ·rw [hl] at hi
   exact Nat.div_lt_of_lt_mul hi
  ·exact Nat.mod_lt _ (by omega)
theorem fits {cols rows n : Nat} (h : n < rows) : n * cols + cols ≤ cols * rows := by
 calc n * cols + cols = (n + 1) * cols := by rw [Nat.add_mul, Nat.one_mul]
  _ ≤ rows * cols := Nat.mul_le_mul_right _ h
  _ = cols * rows := Nat.mul_comm _ _
theorem maySide_any (n : Int) (w : World) : Calls Try.prog 48 #[.int .i64 n] w fun e w' => e = .returned (.bool (sideF n)) ∧ w' = w := by
 by_cases h1 : 1 ≤ n
 ·by_cases h2 : n ≤ 512
  ·have E : Box' (sideF n = true) := ⟨by unfold sideF; simp; omega⟩
   go_enter Try.func48, Try.ntmps48
   go_wp2_with fail
   go_ret
   exact ⟨by rw [E.out]; rfl, rfl⟩
  ·have E : Box' (sideF n = false) := ⟨by unfold sideF; simp; omega⟩
   go_enter Try.func48, Try.ntmps48
   go_wp2_with fail
   go_ret
   exact ⟨by rw [E.out]; rfl, rfl⟩
 ·have E : Box' (sideF n = false) := ⟨by unfold sideF; simp; omega⟩
  go_enter Try.func48, Try.ntmps48
  go_wp2_with fail
  go_ret
  exact ⟨by rw [E.out]; rfl, rfl⟩
theorem side_any (n : Int) (w : World) : Calls Try.prog 41 #[.int .i64 n] w fun e w' => e = .returned (.bool (sideF n)) ∧ w' = w := by
 by_cases h1 : 1 ≤ n
 ·by_cases h2 : n ≤ 512
  ·have E : Box' (sideF n = true) := ⟨by unfold sideF; simp; omega⟩
   go_enter Try.func41, Try.ntmps41
   go_wp2_with fail
   go_ret
   exact ⟨by rw [E.out]; rfl, rfl⟩
  ·have E : Box' (sideF n = false) := ⟨by unfold sideF; simp; omega⟩
   go_enter Try.func41, Try.ntmps41
   go_wp2_with fail
   go_ret
   exact ⟨by rw [E.out]; rfl, rfl⟩
 ·have E : Box' (sideF n = false) := ⟨by unfold sideF; simp; omega⟩
  go_enter Try.func41, Try.ntmps41
  go_wp2_with fail
  go_ret
  exact ⟨by rw [E.out]; rfl, rfl⟩
def inN (n c : Int) : Bool := decide (0 ≤ n ∧ n < c)
theorem maySize_any (a b : Int) (w : World) : Calls Try.prog 35 #[.int .i64 a, .int .i64 b] w fun e w' => e = .returned (.bool (sideF a && sideF b)) ∧ w' = w := by
 have HA := Box'.mk (maySide_any a)
 have HB := Box'.mk (maySide_any b)
 cases ha : sideF a with
 | false =>
  rw [ha] at HA
  clear HB ha
  go_enter Try.func35, Try.ntmps35
  go_wp2_with fail
  refine (HA.out _).mono ?_
  rintro e w2 ⟨rfl, rfl⟩
  go_wp2_with fail
  go_ret
  exact ⟨rfl, rfl⟩
 | true =>
  rw [ha] at HA
  clear ha
  generalize sideF b = sb at *
  go_enter Try.func35, Try.ntmps35
  go_wp2_with fail
  refine (HA.out _).mono ?_
  rintro e w2 ⟨rfl, rfl⟩
  go_wp2_with fail
  refine (HB.out _).mono ?_
  rintro e w2 ⟨rfl, rfl⟩
  go_wp2_with fail
  go_ret
  exact ⟨rfl, rfl⟩
theorem place_any (a b : Nat) (ha : a ≤ 1024) (hb : b ≤ 1024) (w : World) : Calls Try.prog 36 #[.int .i64 (a : Int), .int .i64 (b : Int)] w fun e w' => e = .returned (.int .i64 ((a * b : Nat) : Int)) ∧ w' = w := by
 have h := Nat.mul_le_mul ha hb
 have h' : (a : Int) * (b : Int) ≤ 1048576 := by rw [← Int.natCast_mul]; omega
 go_enter Try.func36, Try.ntmps36
 go_wp2_with fail
 go_ret
 exact ⟨congrArg (fun x => Ending.returned (Value.int .i64 x)) (Int.natCast_mul a b).symm, rfl⟩
end Go.Proofs.Ytepepoabbbjmgaa.Sc
