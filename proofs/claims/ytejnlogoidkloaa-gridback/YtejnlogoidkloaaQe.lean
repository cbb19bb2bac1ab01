/- GridBack, walked. -/
import Derived.Test.YtejnlogoidkloaaNl
import Derived.Test.YtejnlogoidkloaaQb
namespace Go.Proofs.Ytejnlogoidkloaa
open Go.RowKit Go.BigFrame
set_option linter.unusedVariables false
set_option linter.unusedSimpArgs false

/-- Scrolled there and back, the cells that were not lost stand where they stood. -/
theorem back_cat (c : List Cl) (cols rows k : Nat) (s : St) (hr : 1 ≤ rows) (hc : 1 ≤ cols) (hl : c.length = cols * rows) (i : Nat) (h1 : k * cols ≤ i) (h2 : i < c.length) :
    cat (scF (scF c cols rows 0 (rows - 1) (k : Int) s) cols rows 0 (rows - 1) (-(k : Int)) s) i = cat c i := by
  have hm : i % cols < cols := Nat.mod_lt _ (by omega)
  have hd : i / cols < rows := Nat.div_lt_of_lt_mul (by omega)
  have e : i = i / cols * cols + i % cols := by rw [Nat.mul_comm]; exact (Nat.div_add_mod i cols).symm
  have hk : k ≤ i / cols := by
    rw [e] at h1
    exact (row_ge hm).1 h1
  rw [e, ← cat_row _ cols _ _ hm, ← cat_row _ cols _ _ hm, scroll_back c cols rows k s hr hl (i / cols) hk hd]
structure GbM (w : World) (g : Array Value) (p : Nat) (wr : World) : Prop where
  rg : Row wr w.heap.size 24 g
  rp : Row wr p 26 (sA pl)
  be : Below w.heap.size w wr
theorem GbM.below {w : World} {g : Array Value} {p : Nat} {wr w' : World} (h : GbM w g p wr) (hb : Below wr.heap.size wr w') : GbM w g p w' := ⟨h.rg.below hb h.rg.lt, h.rp.below hb h.rp.lt, h.be.trans (hb.mono h.be.size)⟩
set_option maxRecDepth 100000 in
set_option maxHeartbeats 8000000 in
theorem gback_no (AN : ∀ w, Calls Try.prog 23 #[] w fun e w' => e = .returned (.bool true) ∧ Below w.heap.size w w') (RM : ∀ (co ro : Int) (v : Value) (c : List Cl) (w : World), Cls w.heap.size w v c → Calls Try.prog 21 #[.agg (gA co ro v)] w fun e w' => e = .returned (.bool (mayG co ro c)) ∧ Below w.heap.size w w')
    (co ro : Int) (v : Value) (c : List Cl) (n : Nat) (w : World) (hv : Cls w.heap.size w v c) (hG : mayG co ro c = false) : Calls Try.prog 5 #[.agg (gA co ro v), .int .u8 (n : Int)] w fun e w' => e = .returned (.bool true) ∧ Below w.heap.size w w' := by
  have A := Box'.mk AN
  have M : Box' (∀ wx, Below w.heap.size w wx → Calls Try.prog 21 #[.agg (gA co ro v)] wx fun e w' => e = .returned (.bool (mayG co ro c)) ∧ Below wx.heap.size wx w') := ⟨fun wx hb => RM co ro v c wx ((hv.below hb (Nat.le_refl _)).up hb.size)⟩
  rw [hG] at M
  have R1 := Box'.mk (Row.new w 24 (gA co ro v))
  have B1 := Box'.mk ((Below.refl w.heap.size w).alloc (Nat.le_refl _) (.cells (gA co ro v) 24))
  have U24 := Box'.mk Try.underlying24
  have S24 := Box'.mk s24g
  clear AN RM hG hv
  go_enter Try.func5, Try.ntmps5
  go_upto_region 1 with (fail)
  generalize (w.alloc (.cells (gA co ro v) 24)) = w1 at *
  go_wp2_with (first
    | (refine wpList_load_row rfl 24 (.tmp 2) rfl w.heap.size rfl 24 (gA co ro v) R1.out _ U24.out rfl 3 S24.out rfl ?_))
  refine (M.out _ B1.out).mono ?_
  rintro e w2 ⟨rfl, hb⟩
  have B2 := Box'.mk (B1.out.trans (hb.mono B1.out.size))
  clear hb B1 R1
  go_wp2_with fail
  refine (A.out _).mono ?_
  rintro e w3 ⟨rfl, hb⟩
  have B3 := Box'.mk (B2.out.trans (hb.mono B2.out.size))
  clear hb
  go_wp2_with fail
  go_ret
  exact ⟨rfl, B3.out⟩
set_option maxRecDepth 100000 in
set_option maxHeartbeats 16000000 in
theorem gback_yes (AN : ∀ w, Calls Try.prog 23 #[] w fun e w' => e = .returned (.bool true) ∧ Below w.heap.size w w') (RM : ∀ (co ro : Int) (v : Value) (c : List Cl) (w : World), Cls w.heap.size w v c → Calls Try.prog 21 #[.agg (gA co ro v)] w fun e w' => e = .returned (.bool (mayG co ro c)) ∧ Below w.heap.size w w')
    (cols rows : Nat) (v : Value) (c : List Cl) (m : Nat) (hm : m < 256) (w : World) (hv : Cls w.heap.size w v c) (hG : mayG (cols : Int) (rows : Int) c = true) : Calls Try.prog 5 #[.agg (gA (cols : Int) (rows : Int) v), .int .u8 (m : Int)] w fun e w' => e = .returned (.bool true) ∧ Below w.heap.size w w' := by
  obtain ⟨cols', rows', ec, er, p1, p2, p3, p4, hl⟩ := mayG_dest hG
  obtain rfl : cols = cols' := by omega
  obtain rfl : rows = rows' := by omega
  have hle : cols * rows ≤ 512 * 512 := Nat.mul_le_mul p2 p4
  have A := Box'.mk AN
  have M : Box' (∀ wx, Below w.heap.size w wx → Calls Try.prog 21 #[.agg (gA (cols : Int) (rows : Int) v)] wx fun e w' => e = .returned (.bool (mayG (cols : Int) (rows : Int) c)) ∧ Below wx.heap.size wx w') := ⟨fun wx hb => RM (cols : Int) (rows : Int) v c wx ((hv.below hb (Nat.le_refl _)).up hb.size)⟩
  rw [hG] at M
  have PL := Box'.mk refPlain_any
  have e1 : ((rows - 1 : Nat) : Int) = (rows : Int) - 1 := by omega
  have SC : Box' (∀ wx v c (k : Int), Cls wx.heap.size wx v c → mayG (cols : Int) (rows : Int) c = true → Calls Try.prog 16 #[.agg (gA (cols : Int) (rows : Int) v), .int .i64 0, .int .i64 ((rows : Int) - 1), .int .i64 k, .agg (sA pl)] wx fun e w' => ∃ b, e = .returned (.tuple #[.agg (gA (cols : Int) (rows : Int) (.slice (some ⟨b, 0, none⟩) c.length c.length)), .int .i64 0]) ∧ wx.heap.size ≤ b ∧ RC w' b (scF c cols rows 0 (rows - 1) k pl) [] ∧ Below wx.heap.size wx w') := ⟨fun wx v c k hv hG => by
    have := scroll_ok cols rows v c 0 (rows - 1) k pl wx hv hG pl_may (by omega) (by omega)
    rw [e1] at this
    exact this⟩
  have hz : (m : Int) % (rows : Int) = ((m % rows : Nat) : Int) := (Int.natCast_emod m rows).symm
  have hlt : m % rows < rows := Nat.mod_lt _ (by omega)
  have hmc : (m % rows) * cols ≤ cols * rows := by rw [Nat.mul_comm cols]; exact Nat.mul_le_mul_right _ (by omega)
  have S1 : Box' (∀ wx, Below w.heap.size w wx → Calls Try.prog 16 #[.agg (gA (cols : Int) (rows : Int) v), .int .i64 0, .int .i64 ((rows : Int) - 1), .int .i64 ((m % rows : Nat) : Int), .agg (sA pl)] wx fun e w' => ∃ b, e = .returned (.tuple #[.agg (gA (cols : Int) (rows : Int) (.slice (some ⟨b, 0, none⟩) c.length c.length)), .int .i64 0]) ∧ wx.heap.size ≤ b ∧ RC w' b (scF c cols rows 0 (rows - 1) ((m % rows : Nat) : Int) pl) [] ∧ Below wx.heap.size wx w') := ⟨fun wx hb => SC.out wx v c _ ((hv.below hb (Nat.le_refl _)).up hb.size) hG⟩
  have hl1 := scF_len c cols rows 0 (rows - 1) ((m % rows : Nat) : Int) pl hl (by omega)
  have hG1 := mayG_scroll cols rows 0 (rows - 1) ((m % rows : Nat) : Int) pl c p1 p2 p3 p4 hl hG pl_may (by omega)
  have S2 : Box' (∀ wx b, RC wx b (scF c cols rows 0 (rows - 1) ((m % rows : Nat) : Int) pl) [] → Calls Try.prog 16 #[.agg (gA (cols : Int) (rows : Int) (.slice (some ⟨b, 0, none⟩) c.length c.length)), .int .i64 0, .int .i64 ((rows : Int) - 1), .int .i64 (-((m % rows : Nat) : Int)), .agg (sA pl)] wx fun e w' => ∃ b, e = .returned (.tuple #[.agg (gA (cols : Int) (rows : Int) (.slice (some ⟨b, 0, none⟩) c.length c.length)), .int .i64 0]) ∧ wx.heap.size ≤ b ∧ RC w' b (scF (scF c cols rows 0 (rows - 1) ((m % rows : Nat) : Int) pl) cols rows 0 (rows - 1) (-((m % rows : Nat) : Int)) pl) [] ∧ Below wx.heap.size wx w') := ⟨fun wx b h => by
    have := SC.out wx _ _ (-((m % rows : Nat) : Int)) (h.whole c.length (by rw [hl1, hl])) hG1
    rw [hl1, ← hl] at this
    exact this⟩
  have BC : Box' (∀ i, m % rows * cols ≤ i → i < c.length → cat (scF (scF c cols rows 0 (rows - 1) ((m % rows : Nat) : Int) pl) cols rows 0 (rows - 1) (-((m % rows : Nat) : Int)) pl) i = cat c i) := ⟨fun i h1 h2 => back_cat c cols rows (m % rows) pl p3 p1 hl i h1 h2⟩
  have LC : Box' ((scF (scF c cols rows 0 (rows - 1) ((m % rows : Nat) : Int) pl) cols rows 0 (rows - 1) (-((m % rows : Nat) : Int)) pl).length = c.length) := ⟨by rw [scF_len _ cols rows 0 (rows - 1) _ pl hl1 (by omega), hl]⟩
  obtain ⟨gb, go', gc, rfl, hgb, hgc, HC0⟩ : ∃ b o cp, v = .slice (some ⟨b, o, none⟩) c.length cp ∧ b < w.heap.size ∧ c.length ≤ cp ∧ ∀ k, k < c.length → ∀ j, j < 15 → w.cell? ⟨b, o + k * 15 + j, none⟩ = (cA (cat c k))[j]? := by
    obtain ⟨a, cp, rfl, hcp, h3⟩ := hv
    rcases h3 with rfl | ⟨b, o, rfl, h5, h6⟩
    · have : 1 * 1 ≤ cols * rows := Nat.mul_le_mul p1 p3
      simp at hl; omega
    · exact ⟨b, o, cp, rfl, h5, hcp, h6⟩
  have HR : Box' (∀ k wx, k < c.length → Below w.heap.size w wx → wx.rangeAt gb (go' + k * 15) (cA (cat c k)).toList) := ⟨fun k wx hk hbe j v hv => by
    have hj : j < 15 := by have := (List.getElem?_eq_some_iff.1 hv).1; rwa [cA_len] at this
    rw [hbe.cell (p := ⟨gb, go' + k * 15 + j, none⟩) hgb, HC0 k hk j hj]
    simpa using hv⟩
  have R1 := Box'.mk (Row.new w 24 (gA (cols : Int) (rows : Int) (.slice (some ⟨gb, go', none⟩) c.length gc)))
  have B1 := Box'.mk ((Below.refl w.heap.size w).alloc (Nat.le_refl _) (.cells (gA (cols : Int) (rows : Int) (.slice (some ⟨gb, go', none⟩) c.length gc)) 24))
  have U24 := Box'.mk Try.underlying24
  have S24 := Box'.mk s24g
  have U26 := Box'.mk Try.underlying26
  have S26 := Box'.mk s24
  have O1 := Box'.mk (one10 pl)
  have hml : m % rows * cols ≤ c.length := by omega
  have hn0 : c.length ≤ 262144 := by omega
  generalize hC2 : scF (scF c cols rows 0 (rows - 1) ((m % rows : Nat) : Int) pl) cols rows 0 (rows - 1) (-((m % rows : Nat) : Int)) pl = c2 at *
  generalize hC1 : scF c cols rows 0 (rows - 1) ((m % rows : Nat) : Int) pl = c1 at *
  generalize m % rows = z at *
  rw [← hz] at S1
  have HZ := Box'.mk hz
  clear AN RM SC hG hG1 hv HC0 hl1 e1 hC1 hC2 ec er hgc hl hle hmc hz
  generalize hn : c.length = n at *
  have HN := Box'.mk hn
  clear hn
  have zb : (z : Int) ≤ 512 := by omega
  have hzc : ((z : Int) * (cols : Int)) = ((z * cols : Nat) : Int) := (Int.natCast_mul z cols).symm
  have HZC := Box'.mk hzc
  have zc1 : (z : Int) * (cols : Int) ≤ 262144 := by rw [hzc]; omega
  have zc0 : 0 ≤ (z : Int) * (cols : Int) := by rw [hzc]; omega
  clear hzc
  have hr0 : 0 < (rows : Int) := by omega
  go_enter Try.func5, Try.ntmps5
  go_upto_region 1 with (fail)
  generalize (w.alloc (.cells (gA (cols : Int) (rows : Int) (.slice (some ⟨gb, go', none⟩) n gc)) 24)) = w1 at *
  go_wp2_with (first
    | (refine wpList_load_row rfl 24 (.tmp 2) rfl w.heap.size rfl 24 (gA (cols : Int) (rows : Int) (.slice (some ⟨gb, go', none⟩) n gc)) R1.out _ U24.out rfl 3 S24.out rfl ?_))
  refine (M.out _ B1.out).mono ?_
  rintro e w2 ⟨rfl, hb⟩
  have B2 := Box'.mk (B1.out.trans (hb.mono B1.out.size))
  have R2 := Box'.mk (R1.out.below hb R1.out.lt)
  clear hb B1 R1 M
  have c1' : w2.cell? ⟨w.heap.size, 1, none⟩ = some (.int .i64 (rows : Int)) := R2.out.cell 1
  go_wp2_with fail
  refine (PL.out _).mono ?_
  rintro e w3 ⟨rfl, hb⟩
  have B3 := Box'.mk (B2.out.trans (hb.mono B2.out.size))
  have R3 := Box'.mk (R2.out.below hb R2.out.lt)
  clear hb B2 R2 PL c1'
  have RM : Box' (Room (w3.alloc (.cells #[.int .i64 0, .int .i64 0, .bool false, .bool false, .bool false, .bool false, .bool false, .bool false, .bool false, .bool false] 26)) w3.heap.size 26 10) := ⟨Room.new _ _ _ _ rfl⟩
  have F4 : Box' (GbM w (gA (cols : Int) (rows : Int) (.slice (some ⟨gb, go', none⟩) n gc)) w3.heap.size ((w3.alloc (.cells #[.int .i64 0, .int .i64 0, .bool false, .bool false, .bool false, .bool false, .bool false, .bool false, .bool false, .bool false] 26)).setRow w3.heap.size (sA pl))) := ⟨⟨Row.setRowOther (R3.out.alloc _) _ _ (by have := R3.out.lt; omega), RM.out.setRow _, below_setRow (B3.out.alloc B3.out.size _) B3.out.size _⟩⟩
  clear B3 R3
  go_upto_region 5 with (first
    | (refine wpList_store_row rfl 26 (.tmp 6) (.tmp 21) rfl w3.heap.size rfl (sA pl) rfl 26 10 RM.out S26.out rfl O1.out ?_))
  generalize ((w3.alloc (.cells #[.int .i64 0, .int .i64 0, .bool false, .bool false, .bool false, .bool false, .bool false, .bool false, .bool false, .bool false] 26)).setRow w3.heap.size (sA pl)) = w4 at *
  clear RM
  generalize w3.heap.size = p at *
  have c1' : w4.cell? ⟨w.heap.size, 1, none⟩ = some (.int .i64 (rows : Int)) := F4.out.rg.cell 1
  go_wp2_with (first
    | (refine wpList_load_row rfl 24 (.tmp 2) rfl w.heap.size rfl 24 (gA (cols : Int) (rows : Int) (.slice (some ⟨gb, go', none⟩) n gc)) F4.out.rg _ U24.out rfl 3 S24.out rfl ?_)
    | (refine wpList_load_row rfl 26 (.tmp 6) rfl p rfl 26 (sA pl) F4.out.rp _ U26.out rfl 10 S26.out rfl ?_))
  refine (S1.out _ F4.out.be).mono ?_
  rintro e w5 ⟨b1, rfl, hb0, hrc, hb⟩
  have F5 := Box'.mk (F4.out.below hb)
  have RM : Box' (Room (w5.alloc (.cells #[.int .i64 0, .int .i64 0, .slice none 0 0] 24)) w5.heap.size 24 3) := ⟨Room.new _ _ _ _ rfl⟩
  have F6 : Box' (GbM w (gA (cols : Int) (rows : Int) (.slice (some ⟨gb, go', none⟩) n gc)) p ((w5.alloc (.cells #[.int .i64 0, .int .i64 0, .slice none 0 0] 24)).setRow w5.heap.size (gA (cols : Int) (rows : Int) (.slice (some ⟨b1, 0, none⟩) n n)))) := ⟨F5.out.below (below_setRow ((Below.refl _ _).alloc (Nat.le_refl _) _) (Nat.le_refl _) _)⟩
  have H6 : Box' (Row ((w5.alloc (.cells #[.int .i64 0, .int .i64 0, .slice none 0 0] 24)).setRow w5.heap.size (gA (cols : Int) (rows : Int) (.slice (some ⟨b1, 0, none⟩) n n))) w5.heap.size 24 (gA (cols : Int) (rows : Int) (.slice (some ⟨b1, 0, none⟩) n n))) := ⟨RM.out.setRow _⟩
  have C6 : Box' (RC ((w5.alloc (.cells #[.int .i64 0, .int .i64 0, .slice none 0 0] 24)).setRow w5.heap.size (gA (cols : Int) (rows : Int) (.slice (some ⟨b1, 0, none⟩) n n))) b1 c1 []) := ⟨Row.setRowOther (Row.alloc hrc _) _ _ (by have := hrc.lt; omega)⟩
  have O2 := Box'.mk (gA_one (cols : Int) (rows : Int) (some ⟨b1, 0, none⟩) n n)
  clear hb hrc hb0 F4 F5 S1 c1'
  go_upto_region 6 with (first
    | (refine wpList_store_row rfl 24 (.tmp 7) (.tmp 30) rfl w5.heap.size rfl (gA (cols : Int) (rows : Int) (.slice (some ⟨b1, 0, none⟩) n n)) rfl 24 3 RM.out S24.out rfl O2.out ?_))
  generalize ((w5.alloc (.cells #[.int .i64 0, .int .i64 0, .slice none 0 0] 24)).setRow w5.heap.size (gA (cols : Int) (rows : Int) (.slice (some ⟨b1, 0, none⟩) n n))) = w6 at *
  clear RM
  generalize w5.heap.size = q at *
  have c1' : w6.cell? ⟨w.heap.size, 1, none⟩ = some (.int .i64 (rows : Int)) := F6.out.rg.cell 1
  rw [HZ.out]
  go_wp2_with (first
    | (refine wpList_load_row rfl 24 (.tmp 7) rfl q rfl 24 (gA (cols : Int) (rows : Int) (.slice (some ⟨b1, 0, none⟩) n n)) H6.out _ U24.out rfl 3 S24.out rfl ?_)
    | (refine wpList_load_row rfl 26 (.tmp 6) rfl p rfl 26 (sA pl) F6.out.rp _ U26.out rfl 10 S26.out rfl ?_))
  refine (S2.out _ b1 C6.out).mono ?_
  rintro e w7 ⟨b2, rfl, hb0, hrc, hb⟩
  have F7 := Box'.mk (F6.out.below hb)
  have RM : Box' (Room (w7.alloc (.cells #[.int .i64 0, .int .i64 0, .slice none 0 0] 24)) w7.heap.size 24 3) := ⟨Room.new _ _ _ _ rfl⟩
  have F8 : Box' (GbM w (gA (cols : Int) (rows : Int) (.slice (some ⟨gb, go', none⟩) n gc)) p ((w7.alloc (.cells #[.int .i64 0, .int .i64 0, .slice none 0 0] 24)).setRow w7.heap.size (gA (cols : Int) (rows : Int) (.slice (some ⟨b2, 0, none⟩) n n)))) := ⟨F7.out.below (below_setRow ((Below.refl _ _).alloc (Nat.le_refl _) _) (Nat.le_refl _) _)⟩
  have H8 : Box' (Row ((w7.alloc (.cells #[.int .i64 0, .int .i64 0, .slice none 0 0] 24)).setRow w7.heap.size (gA (cols : Int) (rows : Int) (.slice (some ⟨b2, 0, none⟩) n n))) w7.heap.size 24 (gA (cols : Int) (rows : Int) (.slice (some ⟨b2, 0, none⟩) n n))) := ⟨RM.out.setRow _⟩
  have C8 : Box' (RC ((w7.alloc (.cells #[.int .i64 0, .int .i64 0, .slice none 0 0] 24)).setRow w7.heap.size (gA (cols : Int) (rows : Int) (.slice (some ⟨b2, 0, none⟩) n n))) b2 c2 []) := ⟨Row.setRowOther (Row.alloc hrc _) _ _ (by have := hrc.lt; omega)⟩
  have O3 := Box'.mk (gA_one (cols : Int) (rows : Int) (some ⟨b2, 0, none⟩) n n)
  clear hb hrc hb0 F6 F7 H6 C6 S2 c1'
  go_upto_region 7 with (first
    | (refine wpList_store_row rfl 24 (.tmp 9) (.tmp 41) rfl w7.heap.size rfl (gA (cols : Int) (rows : Int) (.slice (some ⟨b2, 0, none⟩) n n)) rfl 24 3 RM.out S24.out rfl O3.out ?_))
  generalize ((w7.alloc (.cells #[.int .i64 0, .int .i64 0, .slice none 0 0] 24)).setRow w7.heap.size (gA (cols : Int) (rows : Int) (.slice (some ⟨b2, 0, none⟩) n n))) = w8 at *
  clear RM
  generalize w7.heap.size = r at *
  have d2 : w8.cell? ⟨r, 2, none⟩ = some (.slice (some ⟨b2, 0, none⟩) n n) := H8.out.cell 2
  have k0 : w8.cell? ⟨w.heap.size, 0, none⟩ = some (.int .i64 (cols : Int)) := F8.out.rg.cell 0
  have k2 : w8.cell? ⟨w.heap.size, 2, none⟩ = some (.slice (some ⟨gb, go', none⟩) n gc) := F8.out.rg.cell 2
  go_wp2_with fail
  clear d2 k0 k2
  rw [HZC.out]
  generalize hzk : z * cols = k0 at *
  go_loopw [11] (fun i wr => ∃ k : Nat, k ≤ n ∧ k0 ≤ k ∧ i = .int .i64 (k : Int) ∧ Box' (GbM w (gA (cols : Int) (rows : Int) (.slice (some ⟨gb, go', none⟩) n gc)) p wr) ∧ Box' (Row wr r 24 (gA (cols : Int) (rows : Int) (.slice (some ⟨b2, 0, none⟩) n n))) ∧ Box' (RC wr b2 c2 [])) (fun i _ => n - (intOf i).toNat)
  case atStart => exact ⟨k0, by omega, Nat.le_refl _, rfl, F8, H8, C8⟩
  case round =>
    obtain ⟨k, hk, hk0, rfl, FF, HH, CC⟩ := hrel
    clear F8 H8 C8
    have k2 : wr.cell? ⟨w.heap.size, 2, none⟩ = some (.slice (some ⟨gb, go', none⟩) n gc) := FF.out.rg.cell 2
    by_cases hlt' : k < n
    case neg =>
      go_wp2_with fail
      refine (A.out _).mono ?_
      rintro e w9 ⟨rfl, hb⟩
      have B9 := Box'.mk (FF.out.be.trans (hb.mono FF.out.be.size))
      clear hb
      go_wp2_with fail
      go_ret
      exact ⟨rfl, B9.out⟩
    case pos =>
      have EQ : Box' ((!clB (cat c k) (cat c k)) = false) := ⟨by rw [clB_yes rfl]; rfl⟩
      have RX := Box'.mk (fun wx hb => HR.out k wx hlt' hb)
      have EK := BC.out k hk0 hlt'
      have CK : Box' (∀ wx, RC wx b2 c2 [] → wx.rangeAt b2 (k * 15) (cA (cat c k)).toList) := ⟨fun wx h => by
        have := rangeAt_cell (k := k) h (by rw [LC.out]; exact hlt')
        have e : c2.getD k (hf pl) = cat c k := EK
        rw [e] at this
        exact this⟩
      clear HR BC EK A
      go_wp2_with fail
      refine wp_region_growg 11 (by kernel_rfl) 81 rfl (by kernel_rfl) (fun wa wb => Below wa.heap.size wa wb) (fun wa => GbM w (gA (cols : Int) (rows : Int) (.slice (some ⟨gb, go', none⟩) n gc)) p wa ∧ Row wa r 24 (gA (cols : Int) (rows : Int) (.slice (some ⟨b2, 0, none⟩) n n)) ∧ RC wa b2 c2 []) (fun kc wa v => match kc with
        | 0 => v = .pointer (some ⟨r, 2, none⟩)
        | 1 => v = .slice (some ⟨b2, 0, none⟩) n n
        | 2 => v = .int .i64 (k : Int)
        | 3 => v = .pointer (some ⟨b2, k * 15, none⟩)
        | 4 => v = .agg (cA (cat c k))
        | 5 => v = .pointer (some ⟨w.heap.size, 2, none⟩)
        | 6 => v = .slice (some ⟨gb, go', none⟩) n gc
        | 7 => v = .int .i64 (k : Int)
        | 8 => v = .pointer (some ⟨gb, go' + k * 15, none⟩)
        | 9 => v = .agg (cA (cat c k))
        | 10 => v = .bool false
        | _ => True) ?_ ?_ ?_ ?_ ?_ ?_
      · intro i o' j b' hi hg wa v hC hV
        have hlt : i < 11 := by rcases Nat.lt_or_ge i 11 with q | q; exact q; rw [List.getElem?_eq_none (by simpa using q)] at hi; cases hi
        revert hi hg hV
        rcases (show i = 0 ∨ i = 1 ∨ i = 2 ∨ i = 3 ∨ i = 4 ∨ i = 5 ∨ i = 6 ∨ i = 7 ∨ i = 8 ∨ i = 9 ∨ i = 10 by omega) with rfl | rfl | rfl | rfl | rfl | rfl | rfl | rfl | rfl | rfl | rfl <;>
          (intro hi hg hV; simp only [List.take_succ_cons, List.getElem?_cons_zero, List.getElem?_cons_succ, Option.some.injEq] at hi; subst hi; first | (cases hg; exact hV) | (cases hg))
      · rintro wa wb hb ⟨q1, q2, q3⟩; exact ⟨q1.below hb, q2.below hb q2.lt, q3.below hb q3.lt⟩
      · intro kc v wa wb hC1 hb h
        match kc, h with
        | 0, h => exact h
        | 1, h => exact h
        | 2, h => exact h
        | 3, h => exact h
        | 4, h => exact h
        | 5, h => exact h
        | 6, h => exact h
        | 7, h => exact h
        | 8, h => exact h
        | 9, h => exact h
        | 10, h => exact h
        | kc + 11, h => trivial
      · exact ⟨FF.out.below ((Below.refl _ _).drew), HH.out.drew, CC.out.drew⟩
      · refine ⟨?_, ?_, ?_, ?_, ?_, ?_, ?_, ?_, ?_, ?_, ?_, trivial⟩
        · intro f wq hC hd KK hK
          clear hd
          simp only [List.take_succ_cons, List.take_zero, setAll, List.setIfInBounds_toArray, List.set_cons_succ, List.set_cons_zero, Nat.zero_add, Nat.reduceAdd] at hK ⊢
          refine wp_of_quiet rfl ?_
          go_big_quiet_step (fail)
          exact wpQuiet_nil (hK _ _ (rfl) (Below.refl _ _))
        · intro f wq hC hd KK hK
          have g0 : f 0 = .pointer (some ⟨r, 2, none⟩) := hd 0 (by kernel_rfl)
          clear hd
          have d2 : wq.cell? ⟨r, 2, none⟩ = some (.slice (some ⟨b2, 0, none⟩) n n) := hC.2.1.cell 2
          clear hC
          simp only [List.take_succ_cons, List.take_zero, setAll, List.setIfInBounds_toArray, List.set_cons_succ, List.set_cons_zero, Nat.zero_add, Nat.reduceAdd, g0] at hK ⊢
          refine wp_of_quiet rfl ?_
          go_big_quiet_step (fail)
          exact wpQuiet_nil (hK _ _ (rfl) (Below.refl _ _))
        · intro f wq hC hd KK hK
          clear hd
          simp only [List.take_succ_cons, List.take_zero, setAll, List.setIfInBounds_toArray, List.set_cons_succ, List.set_cons_zero, Nat.zero_add, Nat.reduceAdd] at hK ⊢
          refine wp_of_quiet rfl ?_
          go_big_quiet_step (fail)
          exact wpQuiet_nil (hK _ _ (rfl) (Below.refl _ _))
        · intro f wq hC hd KK hK
          have g1 : f 1 = .slice (some ⟨b2, 0, none⟩) n n := hd 1 (by kernel_rfl)
          have g2 : f 2 = .int .i64 (k : Int) := hd 2 (by kernel_rfl)
          clear hd
          simp only [List.take_succ_cons, List.take_zero, setAll, List.setIfInBounds_toArray, List.set_cons_succ, List.set_cons_zero, Nat.zero_add, Nat.reduceAdd, g1, g2] at hK ⊢
          refine wp_of_quiet rfl ?_
          go_big_quiet_step (fail)
          exact wpQuiet_nil (hK _ _ (by first | rfl | simp) (Below.refl _ _))
        · intro f wq hC hd KK hK
          have g3 : f 3 = .pointer (some ⟨b2, k * 15, none⟩) := hd 3 (by kernel_rfl)
          clear hd
          simp only [List.take_succ_cons, List.take_zero, setAll, List.setIfInBounds_toArray, List.set_cons_succ, List.set_cons_zero, Nat.zero_add, Nat.reduceAdd, g3] at hK ⊢
          exact wp_load_cell (.tmp 72) rfl b2 (k * 15) (cat c k) rfl (CK.out wq hC.2.2) (hK _ _ rfl (Below.refl _ _))
        · intro f wq hC hd KK hK
          clear hd
          simp only [List.take_succ_cons, List.take_zero, setAll, List.setIfInBounds_toArray, List.set_cons_succ, List.set_cons_zero, Nat.zero_add, Nat.reduceAdd] at hK ⊢
          refine wp_of_quiet rfl ?_
          go_big_quiet_step (fail)
          exact wpQuiet_nil (hK _ _ (rfl) (Below.refl _ _))
        · intro f wq hC hd KK hK
          have g5 : f 5 = .pointer (some ⟨w.heap.size, 2, none⟩) := hd 5 (by kernel_rfl)
          clear hd
          have k2 : wq.cell? ⟨w.heap.size, 2, none⟩ = some (.slice (some ⟨gb, go', none⟩) n gc) := hC.1.rg.cell 2
          clear hC
          simp only [List.take_succ_cons, List.take_zero, setAll, List.setIfInBounds_toArray, List.set_cons_succ, List.set_cons_zero, Nat.zero_add, Nat.reduceAdd, g5] at hK ⊢
          refine wp_of_quiet rfl ?_
          go_big_quiet_step (fail)
          exact wpQuiet_nil (hK _ _ (rfl) (Below.refl _ _))
        · intro f wq hC hd KK hK
          clear hd
          simp only [List.take_succ_cons, List.take_zero, setAll, List.setIfInBounds_toArray, List.set_cons_succ, List.set_cons_zero, Nat.zero_add, Nat.reduceAdd] at hK ⊢
          refine wp_of_quiet rfl ?_
          go_big_quiet_step (fail)
          exact wpQuiet_nil (hK _ _ (rfl) (Below.refl _ _))
        · intro f wq hC hd KK hK
          have g6 : f 6 = .slice (some ⟨gb, go', none⟩) n gc := hd 6 (by kernel_rfl)
          have g7 : f 7 = .int .i64 (k : Int) := hd 7 (by kernel_rfl)
          clear hd
          simp only [List.take_succ_cons, List.take_zero, setAll, List.setIfInBounds_toArray, List.set_cons_succ, List.set_cons_zero, Nat.zero_add, Nat.reduceAdd, g6, g7] at hK ⊢
          refine wp_of_quiet rfl ?_
          go_big_quiet_step (fail)
          exact wpQuiet_nil (hK _ _ (rfl) (Below.refl _ _))
        · intro f wq hC hd KK hK
          have g8 : f 8 = .pointer (some ⟨gb, go' + k * 15, none⟩) := hd 8 (by kernel_rfl)
          clear hd
          simp only [List.take_succ_cons, List.take_zero, setAll, List.setIfInBounds_toArray, List.set_cons_succ, List.set_cons_zero, Nat.zero_add, Nat.reduceAdd, g8] at hK ⊢
          exact wp_load_cell (.tmp 77) rfl gb (go' + k * 15) (cat c k) rfl (RX.out wq hC.1.be) (hK _ _ rfl (Below.refl _ _))
        · intro f wq hC hd KK hK
          have g4 : f 4 = .agg (cA (cat c k)) := hd 4 (by kernel_rfl)
          have g9 : f 9 = .agg (cA (cat c k)) := hd 9 (by kernel_rfl)
          clear hd
          simp only [List.take_succ_cons, List.take_zero, setAll, List.setIfInBounds_toArray, List.set_cons_succ, List.set_cons_zero, Nat.zero_add, Nat.reduceAdd, g4, g9] at hK ⊢
          exact wp_val _ (run_neq_cell_op 49 (.tmp 73) (.tmp 78) rfl (cat c k) (cat c k) rfl rfl _ EQ.out _) (hK _ _ rfl (Below.refl _ _))
      · intro f wz hC hv
        have p0 : f 0 = .pointer (some ⟨r, 2, none⟩) := hv 0 (by decide)
        have p1 : f 1 = .slice (some ⟨b2, 0, none⟩) n n := hv 1 (by decide)
        have p2 : f 2 = .int .i64 (k : Int) := hv 2 (by decide)
        have p3 : f 3 = .pointer (some ⟨b2, k * 15, none⟩) := hv 3 (by decide)
        have p4 : f 4 = .agg (cA (cat c k)) := hv 4 (by decide)
        have p5 : f 5 = .pointer (some ⟨w.heap.size, 2, none⟩) := hv 5 (by decide)
        have p6 : f 6 = .slice (some ⟨gb, go', none⟩) n gc := hv 6 (by decide)
        have p7 : f 7 = .int .i64 (k : Int) := hv 7 (by decide)
        have p8 : f 8 = .pointer (some ⟨gb, go' + k * 15, none⟩) := hv 8 (by decide)
        have p9 : f 9 = .agg (cA (cat c k)) := hv 9 (by decide)
        have p10 : f 10 = .bool false := hv 10 (by decide)
        simp only [List.take_succ_cons, List.take_zero, List.drop_succ_cons, List.drop_zero, setAll, List.setIfInBounds_toArray, List.set_cons_succ, List.set_cons_zero, Nat.zero_add, Nat.reduceAdd, p0, p1, p2, p3, p4, p5, p6, p7, p8, p9, p10]
        clear hv p0 p1 p2 p3 p4 p5 p6 p7 p8 p9 p10
        have F9 := Box'.mk hC.1
        have H9 := Box'.mk hC.2.1
        have C9 := Box'.mk hC.2.2
        clear hC
        go_wp2_with fail
        exact ⟨⟨k + 1, by omega, by omega, by go_num, F9, H9, C9⟩, by simp [intOf]; omega⟩
theorem gback_any (AN : ∀ w, Calls Try.prog 23 #[] w fun e w' => e = .returned (.bool true) ∧ Below w.heap.size w w') (RM : ∀ (co ro : Int) (v : Value) (c : List Cl) (w : World), Cls w.heap.size w v c → Calls Try.prog 21 #[.agg (gA co ro v)] w fun e w' => e = .returned (.bool (mayG co ro c)) ∧ Below w.heap.size w w')
    (co ro : Int) (v : Value) (c : List Cl) (m : Nat) (hm : m < 256) (w : World) (hv : Cls w.heap.size w v c) : Calls Try.prog 5 #[.agg (gA co ro v), .int .u8 (m : Int)] w fun e w' => e = .returned (.bool true) ∧ Below w.heap.size w w' := by
  cases hG : mayG co ro c with
  | false => exact gback_no AN RM co ro v c m w hv hG
  | true =>
    obtain ⟨cols, rows, rfl, rfl, _⟩ := mayG_dest hG
    exact gback_yes AN RM cols rows v c m hm w hv hG
end Go.Proofs.Ytejnlogoidkloaa
