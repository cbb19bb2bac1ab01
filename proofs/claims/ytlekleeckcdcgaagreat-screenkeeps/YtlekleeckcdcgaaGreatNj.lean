/- Grids copied; grids of blanks. -/
import Derived.Test.YtlekleeckcdcgaaGreatNi
namespace Go.Proofs.YtlekleeckcdcgaaGreat
open Go.RowKit Go.BigFrame
set_option linter.unusedVariables false
set_option linter.unusedSimpArgs false
set_option maxHeartbeats 8000000
set_option maxRecDepth 100000
def zS : St := ⟨0, 0, false, false, false, false, false, false, false, false⟩
/-- A cell of nothing but zeros. -/
def zC : Cl := hf zS
theorem gA_one (co ro : Int) (a : Option Addr) (n c : Nat) : (gA co ro (.slice a n c)).all (·.oneCell') = true := by simp [gA, Value.oneCell']
theorem rep_get (n k : Nat) (hk : k < n) (x d : Cl) : (List.replicate n x).getD k d = x := by simp [hk]
theorem made_zero (n : Nat) : madeCells (cA zC) (n * 15) = (cLs (List.replicate n zC)).toArray := by
 have h : (madeCells (cA zC) (n * 15)).toList = cLs (List.replicate n zC) := by
  unfold madeCells
  rw [Array.toList_map, Array.toList_range]
  apply List.ext_getElem?
  intro i
  by_cases hi : i < n * 15
  ·have e : i = i / 15 * 15 + i % 15 := by omega
   have hr : (cLs (List.replicate n zC))[i]? = (cA zC)[i % 15]? := by
    rw [e, cLs_get _ (i / 15) (i % 15) (by rw [List.length_replicate]; omega) (by omega), rep_get n (i / 15) (by omega), ← e]
   rw [hr, List.getElem?_map, List.getElem?_range hi]
   have hz : (cA zC).size = 15 := rfl
   have hm : i % 15 < (cA zC).size := by rw [hz]; omega
   simp only [Option.map_some, hz]
   rw [Array.getElem?_eq_getElem hm, getElem!_pos (cA zC) (i % 15) hm]
  ·rw [List.getElem?_eq_none (by simp; omega), List.getElem?_eq_none (by rw [cLs_len, List.length_replicate]; omega)]
 rw [← h]
theorem info49z : ∃ i z, Tryz.prog.info? 56 = some i ∧ i.zero = some z ∧ i.size = 15 ∧ i.bytes = 48 ∧ z.cells = cA zC := ⟨_, _, rfl, rfl, rfl, rfl, rfl⟩
theorem wpList_makeC {ops : Array Oper} {rest : List Oper} {op : Oper} {a : Act} {w : World} {Q : Exit → Act → World → Prop}
  (hgd : op.guard = none) (x y : Operand) (ho : op.op = .makeSlice 22 x y) (n : Nat) (hx : a.eval x = .int .i64 (n : Int)) (hy : a.eval y = .int .i64 (n : Int)) (hn : n ≤ 1000000)
  (h : ∀ w', Box' (RC w' w.heap.size (List.replicate n zC) [] ∧ Below w.heap.size w w') → wpList Tryz.prog ops Q rest (a.put op.dst (.slice (some ⟨w.heap.size, 0, none⟩) n n)) w') : wpList Tryz.prog ops Q (op :: rest) a w := by
 obtain ⟨i, z, h1, h2, h3, h4, h5⟩ := info49z
 have hrun := run_make (P := Tryz.prog) w 22 56 i z Tryz.underlying22 h1 h2 .i64 .i64 (n : Int) (n : Int) (by omega) (Int.le_refl _) (by rw [h4]; omega) (by omega)
 rw [h3, h5, Int.toNat_natCast, made_zero] at hrun
 refine wpList_plain hgd fun K hK' => ?_
 unfold Oper.wp
 simp only [execOp, ho, hx, hy, Sem.run_bind, hrun, Result.andThen_ok]
 exact hK' _ _ (h _ ⟨by unfold RC; rw [List.append_nil]; exact Row.new _ _ _, bR.alloc (Nat.le_refl _) _⟩)
theorem wpList_copyW {ops : Array Oper} {rest : List Oper} {op : Oper} {a : Act} {w : World} {Q : Exit → Act → World → Prop} (hgd : op.guard = none) (s x : Operand) (ho : op.op = .call { callee := .builtin .copy, args := #[s, x], argTypes := #[22, 22] }) (g y o dLen dCap : Nat) (ad : Addr) (sLen sCap : Nat) (l m : List Cl) (sp : List Value)
  (hs : a.eval s = .slice (some ⟨g, y, none⟩) dLen dCap) (hxx : a.eval x = .slice (some ad) sLen sCap) (hr : RC w g l sp) (hn : m.length = Nat.min sLen dLen) (hx : m = [] ∨ y = o * 15)
  (hsrc : ∀ j v, (cLs m)[j]? = some v → w.cell? (ad.add j) = some v) (hfit : o + m.length ≤ l.length)
  (h : ∀ w', Box' (RC w' g (lay l o m) sp ∧ Tc g w w') → wpList Tryz.prog ops Q rest (a.put op.dst (goInt m.length)) w') : wpList Tryz.prog ops Q (op :: rest) a w :=
 wpList_copyG hgd s x ho g y o dLen dCap ad sLen sCap l m sp hs hxx hr hn hx hsrc hfit (h _ ⟨hr.setRow _ _, (Tc.refl _ _).setRow _⟩)
theorem results_two {fn : Func} {p q : Tmp} (hf : fn.results = #[.cell p 24, .tmp q]) (tmps : Array Value) (b : Nat) (hx : tmps.getD p undef = .pointer (some ⟨b, 0, none⟩)) (v : Value) (hv : tmps.getD q undef = v) (w : World)
  (c : Array Value) (hr : Row w b 24 c) (hn : c.size = 3) : (results fn tmps).run Tryz.prog w = .ok (.tuple #[.agg c, v]) w := by
 have hrun := run_loadVar_row (P := Tryz.prog) w b 24 24 c (0, 0) _ hr Tryz.underlying24 rfl (by rw [hn]; exact s24g)
 have hx' : tmps[p]?.getD undef = .pointer (some ⟨b, 0, none⟩) := by simpa using hx
 have hv' : tmps[q]?.getD undef = v := by simpa using hv
 simp only [results, hf]
 simp [hx', hv', asAddr, hrun]
theorem Cls.src {N : Nat} {w : World} {v : Value} {l : List Cl} (h : Cls N w v l) (hl : 0 < l.length) : ∃ b o c, v = .slice (some ⟨b, o, none⟩) l.length c ∧ b < N ∧ l.length ≤ c ∧ ∀ j u, (cLs l)[j]? = some u → w.cell? ((⟨b, o, none⟩ : Addr).add j) = some u := h.flat hl
theorem another_any (co ro : Int) (v : Value) (c : List Cl) (hl : 0 < c.length) (hm : c.length ≤ 1000000) (w : World) (hv : Cls w.heap.size w v c) :
  Calls Tryz.prog 186 #[.agg (gA co ro v)] w fun e w' => ∃ b, e = .returned (.agg (gA co ro (.slice (some ⟨b, 0, none⟩) c.length c.length))) ∧ w.heap.size ≤ b ∧ RC w' b c [] ∧ Below w.heap.size w w' := by
 obtain ⟨g, o, cp, rfl, hg, hcp, hsrc⟩ := hv.src hl
 have R1 := Box'.mk ((Row.new w 24 (gA co ro (.slice (some ⟨g, o, none⟩) c.length cp))).alloc (.cells #[.int .i64 0, .int .i64 0, .slice none 0 0] 24))
 have RM : Box' (Room ((w.alloc (.cells (gA co ro (.slice (some ⟨g, o, none⟩) c.length cp)) 24)).alloc (.cells #[.int .i64 0, .int .i64 0, .slice none 0 0] 24)) (w.heap.size + 1) 24 3) := ⟨Room.made _ _ _ _ _ rfl (by simp)⟩
 have B1 : Box' (Below w.heap.size w ((w.alloc (.cells (gA co ro (.slice (some ⟨g, o, none⟩) c.length cp)) 24)).alloc (.cells #[.int .i64 0, .int .i64 0, .slice none 0 0] 24))) := ⟨((Below.refl w.heap.size w).alloc (Nat.le_refl _) _).alloc (by simp) _⟩
 have Z1 : Box' (((w.alloc (.cells (gA co ro (.slice (some ⟨g, o, none⟩) c.length cp)) 24)).alloc (.cells #[.int .i64 0, .int .i64 0, .slice none 0 0] 24)).heap.size = w.heap.size + 2) := ⟨by simp⟩
 have SR : Box' (∀ wx, Below w.heap.size w wx → ∀ j u, (cLs c)[j]? = some u → wx.cell? ((⟨g, o, none⟩ : Addr).add j) = some u) := ⟨fun wx hb j u hu => by
  have := hsrc j u hu
  rw [Addr.add_mid] at this ⊢
  rw [hb.cell (p := ⟨g, o + j, none⟩) hg]
  exact this⟩
 have U24 := Box'.mk Tryz.underlying24
 have S24 := Box'.mk s24g
 clear hsrc hv
 have EL : Box' (∀ (l : List Cl), l.length = c.length → l.take 0 ++ c ++ l.drop (0 + c.length) = c) := ⟨fun l hll => by rw [tkZ, List.nil_append, Nat.zero_add, List.drop_of_length_le (by omega), List.append_nil]⟩
 generalize hn : c.length = n at *
 have HN := Box'.mk hn
 clear hn
 go_enter Tryz.func186, Tryz.ntmps186
 go_upto_region 1 with (fail)
 generalize ((w.alloc (.cells (gA co ro (.slice (some ⟨g, o, none⟩) n cp)) 24)).alloc (.cells #[.int .i64 0, .int .i64 0, .slice none 0 0] 24)) = w1 at *
 have c2 : w1.cell? ⟨w.heap.size, 2, none⟩ = some (.slice (some ⟨g, o, none⟩) n cp) := R1.out.cell 2
 go_upto_region 2 with (first
  | (refine wpList_makeC rfl (.tmp 6) (.tmp 6) rfl n rfl rfl (by omega) ?_; intro w2 W2))
 have hz := Z1.out
 rw [hz] at W2 ⊢
 have R2 := Box'.mk (R1.out.below W2.out.2 (by omega))
 have M2 := Box'.mk (RM.out.below W2.out.2 (by omega))
 have B2 : Box' (Below w.heap.size w w2) := ⟨B1.out.trans (W2.out.2.mono (by omega))⟩
 have C2 := Box'.mk W2.out.1
 clear c2 R1 RM B1 W2
 have c2 : w2.cell? ⟨w.heap.size, 2, none⟩ = some (.slice (some ⟨g, o, none⟩) n cp) := R2.out.cell 2
 have HM : Box' (c.length = Nat.min n n) := ⟨by rw [HN.out]; exact (Nat.min_self _).symm⟩
 have HF : Box' (0 + c.length ≤ (List.replicate n zC).length) := ⟨by rw [HN.out, List.length_replicate]; omega⟩
 have HE : Box' (lay (List.replicate n zC) 0 c = c) := ⟨by unfold lay; rw [HN.out]; exact EL.out _ (by rw [List.length_replicate])⟩
 go_upto_region 3 with (first
  | (refine wpList_copyW rfl (.tmp 8) (.tmp 10) rfl (w.heap.size + 2) 0 0 n n ⟨g, o, none⟩ n cp (List.replicate n zC) c [] rfl rfl C2.out HM.out (.inr rfl) (SR.out _ B2.out) HF.out ?_; intro w3 W3))
 rw [HE.out] at W3
 have R3 := Box'.mk (W3.out.2.row R2.out (by omega))
 have M3 : Box' (Room w3 (w.heap.size + 1) 24 3) := ⟨by obtain ⟨c', h1, h2⟩ := M2.out; exact ⟨c', W3.out.2.row h1 (by omega), h2⟩⟩
 have B3 : Box' (Below w.heap.size w w3) := ⟨B2.out.trans (W3.out.2.below (by omega) B2.out.size)⟩
 have C3 := Box'.mk W3.out.1
 clear C2 R2 M2 B2 W3 c2 SR
 have c2 : w3.cell? ⟨w.heap.size, 2, none⟩ = some (.slice (some ⟨g, o, none⟩) n cp) := R3.out.cell 2
 have f2 := R3.out.frozen 2
 have R4 : Box' (Row (w3.setCell ⟨w.heap.size, 2, none⟩ (.slice (some ⟨w.heap.size + 2, 0, none⟩) n n)) w.heap.size 24 (gA co ro (.slice (some ⟨w.heap.size + 2, 0, none⟩) n n))) := ⟨R3.out.setCell 2 _⟩
 have M4 : Box' (Room (w3.setCell ⟨w.heap.size, 2, none⟩ (.slice (some ⟨w.heap.size + 2, 0, none⟩) n n)) (w.heap.size + 1) 24 3) := ⟨M3.out.setOther _ _ (by simp)⟩
 have C4 : Box' (RC (w3.setCell ⟨w.heap.size, 2, none⟩ (.slice (some ⟨w.heap.size + 2, 0, none⟩) n n)) (w.heap.size + 2) c []) := ⟨Row.setOther C3.out _ _ (by simp)⟩
 have B4 : Box' (Below w.heap.size w (w3.setCell ⟨w.heap.size, 2, none⟩ (.slice (some ⟨w.heap.size + 2, 0, none⟩) n n))) := ⟨B3.out.setCell (p := ⟨w.heap.size, 2, none⟩) (Nat.le_refl _) _⟩
 have O : Box' ((gA co ro (.slice (some ⟨w.heap.size + 2, 0, none⟩) n n)).all (·.oneCell') = true) := ⟨gA_one _ _ _ _ _⟩
 go_upto_region 4 with (fail)
 generalize (w3.setCell ⟨w.heap.size, 2, none⟩ (.slice (some ⟨w.heap.size + 2, 0, none⟩) n n)) = w4 at *
 clear R3 M3 C3 B3 c2 f2
 go_wp2_with (first
  | (refine wpList_load_row rfl 24 (.tmp 1) rfl w.heap.size rfl 24 (gA co ro (.slice (some ⟨w.heap.size + 2, 0, none⟩) n n)) R4.out _ U24.out rfl 3 S24.out rfl ?_)
  | (refine wpList_store_row rfl 24 (.tmp 2) (.tmp 14) rfl (w.heap.size + 1) rfl (gA co ro (.slice (some ⟨w.heap.size + 2, 0, none⟩) n n)) rfl 24 3 M4.out S24.out rfl O.out ?_))
 exact bodyPost_ret (results_row (p := 2) (ty := 24) (fn := Tryz.f186) rfl _ (w.heap.size + 1) rfl 24 _ (M4.out.setRow _) _ Tryz.underlying24 rfl 3 s24g rfl) rfl ⟨w.heap.size + 2, rfl, by omega, Row.setRowOther C4.out _ _ (by omega), below_setRow B4.out (by omega) _⟩
theorem blanks_any (cols rows : Nat) (h1 : 1 ≤ cols) (h2 : cols ≤ 512) (h3 : 1 ≤ rows) (h4 : rows ≤ 512) (s : St) (w : World) :
  Calls Tryz.prog 123 #[.int .i64 (cols : Int), .int .i64 (rows : Int), .agg (sA s)] w fun e w' => ∃ b, e = .returned (.agg (gA (cols : Int) (rows : Int) (.slice (some ⟨b, 0, none⟩) (cols * rows) (cols * rows)))) ∧ w.heap.size ≤ b ∧ RC w' b (List.replicate (cols * rows) (bl s)) [] ∧ Below w.heap.size w w' := by
 have PL := Box'.mk (place_b cols rows (by omega) (by omega))
 have hle : cols * rows ≤ 512 * 512 := Nat.mul_le_mul h2 h4
 have hpos : 1 * 1 ≤ cols * rows := Nat.mul_le_mul h1 h3
 generalize cols * rows = n at *
 have R1 : Box' (Row ((w.alloc (.cells (sA s) 26)).alloc (.cells #[.int .i64 0, .int .i64 0, .slice none 0 0] 24)) w.heap.size 26 (sA s)) := ⟨(Row.new _ _ _).alloc _⟩
 have RM : Box' (Room ((w.alloc (.cells (sA s) 26)).alloc (.cells #[.int .i64 0, .int .i64 0, .slice none 0 0] 24)) (w.heap.size + 1) 24 3) := ⟨Room.made _ _ _ _ _ rfl (by simp)⟩
 have B1 : Box' (Below w.heap.size w ((w.alloc (.cells (sA s) 26)).alloc (.cells #[.int .i64 0, .int .i64 0, .slice none 0 0] 24))) := ⟨((Below.refl w.heap.size w).alloc (Nat.le_refl _) _).alloc (by simp) _⟩
 have Z1 : w.heap.size + 2 ≤ ((w.alloc (.cells (sA s) 26)).alloc (.cells #[.int .i64 0, .int .i64 0, .slice none 0 0] 24)).heap.size := by simp
 have FE : Box' (fiL (List.replicate n zC) 0 n s = List.replicate n (bl s)) := ⟨by unfold fiL; simp⟩
 have FI : Box' (∀ wx b, RC wx b (List.replicate n zC) [] → Calls Tryz.prog 158 #[.slice (some ⟨b, 0, none⟩) n n, .agg (sA s)] wx fun e w' => (∃ v, e = .returned v) ∧ RC w' b (List.replicate n (bl s)) [] ∧ Tc b wx w') := ⟨fun wx b h => by
  have := fill_any b 0 0 n n (List.replicate n zC) [] s wx (Nat.le_refl _) (.inr rfl) (by rw [List.length_replicate]; omega) h (by omega)
  rw [FE.out] at this
  exact this⟩
 have U24 := Box'.mk Tryz.underlying24
 have S24 := Box'.mk s24g
 have U26 := Box'.mk Tryz.underlying26
 have S26 := Box'.mk s24
 go_enter Tryz.func123, Tryz.ntmps123
 go_upto_region 1 with (fail)
 generalize ((w.alloc (.cells (sA s) 26)).alloc (.cells #[.int .i64 0, .int .i64 0, .slice none 0 0] 24)) = w1 at *
 go_wp2_with fail
 refine (PL.out _).mono ?_
 rintro e w2 ⟨rfl, hb2⟩
 have R2 := Box'.mk (R1.out.below hb2 R1.out.lt)
 have M2 := Box'.mk (RM.out.below hb2 (by omega))
 have B2 := Box'.mk (B1.out.trans (hb2.mono B1.out.size))
 have Z2 := Nat.le_trans Z1 hb2.size
 clear hb2 R1 RM B1 Z1 PL
 go_upto_region 2 with (first
  | (refine wpList_makeC rfl (.tmp 12) (.tmp 12) rfl n rfl rfl (by omega) ?_; intro w3 W3))
 have R3 := Box'.mk (R2.out.below W3.out.2 R2.out.lt)
 have M3 := Box'.mk (M2.out.below W3.out.2 (by omega))
 have B3 := Box'.mk (B2.out.trans (W3.out.2.mono B2.out.size))
 have C3 := Box'.mk W3.out.1
 have Z3 := W3.out.1.lt
 clear W3 R2 M2 B2
 generalize w2.heap.size = g at *
 have R4 : Box' (Row (w3.alloc (.cells #[.int .i64 (cols : Int), .int .i64 (rows : Int), .slice (some ⟨g, 0, none⟩) n n] 24)) w.heap.size 26 (sA s)) := ⟨R3.out.alloc _⟩
 have M4 : Box' (Room (w3.alloc (.cells #[.int .i64 (cols : Int), .int .i64 (rows : Int), .slice (some ⟨g, 0, none⟩) n n] 24)) (w.heap.size + 1) 24 3) := ⟨M3.out.alloc _⟩
 have C4 : Box' (RC (w3.alloc (.cells #[.int .i64 (cols : Int), .int .i64 (rows : Int), .slice (some ⟨g, 0, none⟩) n n] 24)) g (List.replicate n zC) []) := ⟨Row.alloc C3.out _⟩
 have B4 : Box' (Below w.heap.size w (w3.alloc (.cells #[.int .i64 (cols : Int), .int .i64 (rows : Int), .slice (some ⟨g, 0, none⟩) n n] 24))) := ⟨B3.out.alloc B3.out.size _⟩
 have G4 : Box' (Row (w3.alloc (.cells #[.int .i64 (cols : Int), .int .i64 (rows : Int), .slice (some ⟨g, 0, none⟩) n n] 24)) w3.heap.size 24 (gA (cols : Int) (rows : Int) (.slice (some ⟨g, 0, none⟩) n n))) := ⟨Row.new _ _ _⟩
 generalize (w3.alloc (.cells #[.int .i64 (cols : Int), .int .i64 (rows : Int), .slice (some ⟨g, 0, none⟩) n n] 24)) = w4 at *
 clear R3 M3 B3 C3
 generalize w3.heap.size = q at *
 have c2 : w4.cell? ⟨q, 2, none⟩ = some (.slice (some ⟨g, 0, none⟩) n n) := G4.out.cell 2
 go_wp2_with (first
  | (refine wpList_load_row rfl 26 (.tmp 5) rfl w.heap.size rfl 26 (sA s) R4.out _ U26.out rfl 10 S26.out rfl ?_))
 refine (FI.out _ g C4.out).mono ?_
 rintro e w5 ⟨⟨v, rfl⟩, hr5, ht5⟩
 have C5 := Box'.mk hr5
 have G5 := Box'.mk (ht5.row G4.out (by omega))
 have M5 : Box' (Room w5 (w.heap.size + 1) 24 3) := ⟨by obtain ⟨c', h1, h2⟩ := M4.out; exact ⟨c', ht5.row h1 (by omega), h2⟩⟩
 have B5 : Box' (Below w.heap.size w w5) := ⟨B4.out.trans (ht5.below (by omega) B4.out.size)⟩
 have O := Box'.mk (gA_one (cols : Int) (rows : Int) (some ⟨g, 0, none⟩) n n)
 clear hr5 ht5 C4 G4 M4 B4 R4 c2 FI
 go_wp2_with (first
  | (refine wpList_load_row rfl 24 (.tmp 7) rfl q rfl 24 (gA (cols : Int) (rows : Int) (.slice (some ⟨g, 0, none⟩) n n)) G5.out _ U24.out rfl 3 S24.out rfl ?_)
  | (refine wpList_store_row rfl 24 (.tmp 6) (.tmp 19) rfl (w.heap.size + 1) rfl (gA (cols : Int) (rows : Int) (.slice (some ⟨g, 0, none⟩) n n)) rfl 24 3 M5.out S24.out rfl O.out ?_))
 exact bodyPost_ret (results_row (p := 6) (ty := 24) (fn := Tryz.f123) rfl _ (w.heap.size + 1) rfl 24 _ (M5.out.setRow _) _ Tryz.underlying24 rfl 3 s24g rfl) rfl ⟨g, rfl, by omega, Row.setRowOther C5.out _ _ (by omega), below_setRow B5.out (by omega) _⟩
end Go.Proofs.YtlekleeckcdcgaaGreat
