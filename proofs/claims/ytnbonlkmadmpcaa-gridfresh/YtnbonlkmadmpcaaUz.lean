/- What GridFresh asks of Erase, Resize and Scroll. GridFresh, walked. -/
import Derived.Test.YtnbonlkmadmpcaaUk
import Derived.Test.YtnbonlkmadmpcaaNr
import Derived.Test.YtnbonlkmadmpcaaOk
namespace Go.Proofs.Ytnbonlkmadmpcaa
open Go.RowKit Go.BigFrame
set_option linter.unusedVariables false
set_option linter.unusedSimpArgs false

/-- No cells, or cells in a block of one's own. -/
def Got (N : Nat) (w : World) (a : Option Addr) (n : Nat) : Prop := n = 0 ∨ ∃ b, a = some ⟨b, 0, none⟩ ∧ N ≤ b ∧ n ≤ 262144 ∧ Room w b 49 (n * 15)
theorem RC.got {w : World} {b : Nat} {l : List Cl} {n : Nat} (h : RC w b l []) (hn : l.length = n) : Room w b 49 (n * 15) := ⟨_, h, by simp [cLs_len, hn]⟩
/-- A grid that was answered, with new cells. -/
def Ans (N : Nat) (w' : World) (e : Ending) : Prop := ∃ (c2 r2 : Int) (a : Option Addr) (n : Nat) (k : Int), e = .returned (.tuple #[.agg (gA c2 r2 (.slice a n n)), .int .i64 k]) ∧ Got N w' a n
theorem ans_no {N : Nat} {w w' : World} {e : Ending} (h : e = .returned gErr ∧ Below N w w') : Ans N w' e ∧ Below N w w' := ⟨⟨0, 0, none, 0, 2, h.1, .inl rfl⟩, h.2⟩
theorem nat_in {n c : Int} (h : inN n c = true) : ∃ k : Nat, n = (k : Int) ∧ (k : Int) < c := by
  have h := of_decide_eq_true h
  exact ⟨n.toNat, by omega, by omega⟩
theorem fits_in {cols rows r : Nat} (h : r < rows) : r * cols + cols ≤ cols * rows := by
  have := Nat.mul_le_mul_right cols (show r + 1 ≤ rows by omega)
  rw [Nat.add_mul, Nat.mul_comm rows] at this
  omega
theorem small_in {cols rows : Nat} (h1 : cols ≤ 512) (h2 : rows ≤ 512) : cols * rows ≤ 262144 := Nat.mul_le_mul h1 h2

theorem erase_ans (co ro : Int) (v : Value) (c : List Cl) (row col : Int) (s : St) (w : World) (hv : Cls w.heap.size w v c) :
    Calls Try.prog 12 #[.agg (gA co ro v), .int .i64 row, .int .i64 col, .int .i64 col, .agg (sA s)] w fun e w' => Ans w.heap.size w' e ∧ Below w.heap.size w w' := by
  cases hG : mayG co ro c with
  | false => exact (erase_no0 co ro v c row col col s w hv hG).mono fun _ _ => ans_no
  | true =>
  cases hS : mayS s with
  | false => exact (erase_no1 co ro v c row col col s w hv hG hS).mono fun _ _ => ans_no
  | true =>
  cases h2 : inN row ro with
  | false => exact (erase_no2 co ro v c row col col s w hv hG hS h2).mono fun _ _ => ans_no
  | true =>
  by_cases h3 : 0 ≤ col
  case neg => exact (erase_no3 co ro v c row col col s w hv hG hS h2 (by omega)).mono fun _ _ => ans_no
  by_cases h5 : col ≤ co
  case neg => exact (erase_no5 co ro v c row col col s w hv hG hS h2 h3 (by omega) (by omega)).mono fun _ _ => ans_no
  obtain ⟨cols, rows, rfl, rfl, p1, p2, p3, p4, hcl⟩ := mayG_dest hG
  obtain ⟨r, rfl, hr⟩ := nat_in h2
  obtain ⟨a, rfl⟩ : ∃ a : Nat, col = (a : Int) := ⟨col.toNat, by omega⟩
  have hr' : r < rows := by omega
  have hrl : (rowF c cols r).length = cols := rowF_len c cols r (by rw [hcl]; exact fits_in hr')
  have hwl : (erF (rowF c cols r) a a s).length = cols := by rw [erF_len _ _ _ _ (by omega) (by omega), hrl]
  have hle := small_in p2 p4
  refine (erase_ok cols rows v c r a a s w hv hG hS (by omega) (by omega) (by omega)).mono ?_
  rintro e w' ⟨b, rfl, hb, hrc, bel⟩
  refine ⟨⟨cols, rows, some ⟨b, 0, none⟩, c.length, 0, rfl, .inr ⟨b, rfl, hb, by omega, hrc.got ?_⟩⟩, bel⟩
  rw [putRow_len c cols r _ (by rw [mnd_len]; exact hwl) (by rw [hcl]; exact fits_in hr')]

theorem resize_ans (co ro : Int) (v : Value) (c : List Cl) (s : St) (w : World) (hv : Cls w.heap.size w v c) :
    Calls Try.prog 18 #[.agg (gA co ro v), .int .i64 co, .int .i64 ro, .agg (sA s)] w fun e w' => Ans w.heap.size w' e ∧ Below w.heap.size w w' := by
  cases hG : mayG co ro c with
  | false => exact (resize_no0 co ro v c co ro s w hv hG).mono fun _ _ => ans_no
  | true =>
  cases hS : mayS s with
  | false => exact (resize_no1 co ro v c co ro s w hv hG hS).mono fun _ _ => ans_no
  | true =>
  obtain ⟨cols, rows, rfl, rfl, p1, p2, p3, p4, hcl⟩ := mayG_dest hG
  have hle := small_in p2 p4
  refine (resize_ok cols rows v c cols rows s w hv hG hS p1 p2 p3 p4).mono ?_
  rintro e w' ⟨b, rfl, hb, hrc, bel⟩
  refine ⟨⟨cols, rows, some ⟨b, 0, none⟩, cols * rows, 0, rfl, .inr ⟨b, rfl, hb, hle, hrc.got ?_⟩⟩, bel⟩
  obtain ⟨c', r', e1, e2, _, _, _, _, hl⟩ := mayG_dest (mayG_resize cols rows cols rows s c p1 p2 p3 p4 hcl hG hS p1 p2 p3 p4)
  obtain rfl : cols = c' := by omega
  obtain rfl : rows = r' := by omega
  exact hl

/-- What a call of Scroll answers: the size, the cells, the error. -/
def Sc (co ro : Int) (l : List Cl) (k : Int) (w' : World) (e : Ending) : Prop := ∃ v2, e = .returned (.tuple #[.agg (gA co ro v2), .int .i64 k]) ∧ Cls w'.heap.size w' v2 l
theorem sc_no {N : Nat} {w w' : World} {e : Ending} (h : e = .returned gErr ∧ Below N w w') : Sc 0 0 [] 2 w' e ∧ Below N w w' := ⟨⟨.slice none 0 0, h.1, ⟨none, 0, rfl, Nat.le_refl _, .inl rfl⟩⟩, h.2⟩
/-- Both Scrolls of one row by 0 answer alike. -/
theorem scroll_both (co ro : Int) (c : List Cl) (row : Int) (s : St) : ∃ (c2 r2 : Int) (l : List Cl) (k : Int), l.length ≤ 262144 ∧
    (∀ v w, Cls w.heap.size w v c → Calls Try.prog 16 #[.agg (gA co ro v), .int .i64 row, .int .i64 row, .int .i64 0, .agg (sA s)] w fun e w' => Sc c2 r2 l k w' e ∧ Below w.heap.size w w') ∧
    (∀ v w, Cls w.heap.size w v c → Calls Try.prog 17 #[.agg (gA co ro v), .int .i64 row, .int .i64 row, .int .i64 0, .agg (sA s)] w fun e w' => Sc c2 r2 l k w' e ∧ Below w.heap.size w w') := by
  cases hG : mayG co ro c with
  | false =>
    refine ⟨0, 0, [], 2, by simp, fun v w hv => (scroll_no0 co ro v c row row 0 s w hv hG).mono fun _ _ => sc_no, fun v w hv => (rscroll_no0 co ro v c row row 0 s w hv ?_).mono fun _ _ => sc_no⟩
    simp [badF, hG]
  | true =>
  cases hS : mayS s with
  | false =>
    refine ⟨0, 0, [], 2, by simp, fun v w hv => (scroll_no1 co ro v c row row 0 s w hv hG hS).mono fun _ _ => sc_no, fun v w hv => (rscroll_no0 co ro v c row row 0 s w hv ?_).mono fun _ _ => sc_no⟩
    simp [badF, hS]
  | true =>
  by_cases h2 : 0 ≤ row
  case neg =>
    refine ⟨0, 0, [], 2, by simp, fun v w hv => (scroll_no2 co ro v c row row 0 s w hv hG hS (by omega)).mono fun _ _ => sc_no, fun v w hv => (rscroll_no0 co ro v c row row 0 s w hv ?_).mono fun _ _ => sc_no⟩
    simp [badF, show row < 0 by omega]
  by_cases h4 : ro ≤ row
  case pos =>
    refine ⟨0, 0, [], 2, by simp, fun v w hv => (scroll_no4 co ro v c row row 0 s w hv hG hS h2 (by omega) h4).mono fun _ _ => sc_no, fun v w hv => (rscroll_no0 co ro v c row row 0 s w hv ?_).mono fun _ _ => sc_no⟩
    simp [badF, h4]
  obtain ⟨cols, rows, rfl, rfl, p1, p2, p3, p4, hcl⟩ := mayG_dest hG
  obtain ⟨r, rfl⟩ : ∃ r : Nat, row = (r : Int) := ⟨row.toNat, by omega⟩
  have hr : r < rows := by omega
  have hle := small_in p2 p4
  have hsl := scF_len c cols rows r r 0 s hcl hr
  refine ⟨cols, rows, scF c cols rows r r 0 s, 0, by omega, fun v w hv => (scroll_ok cols rows v c r r 0 s w hv hG hS (Nat.le_refl _) hr).mono ?_, fun v w hv => (rscroll_ok cols rows v c r r 0 s w hv hG hS (Nat.le_refl _) hr).mono ?_⟩
  · rintro e w' ⟨b, rfl, hb, hrc, bel⟩
    refine ⟨⟨_, rfl, ?_⟩, bel⟩
    have := hrc.cls 0 c.length c.length (by omega) (Nat.le_refl _)
    rw [List.drop_zero, List.take_of_length_le (by omega), Nat.zero_mul] at this
    exact this
  · rintro e w' ⟨b, cap, sp, rfl, hb, hcap, hrc, bel⟩
    refine ⟨⟨_, rfl, ?_⟩, bel⟩
    have := hrc.cls 0 c.length cap (by omega) hcap
    rw [List.drop_zero, List.take_of_length_le (by omega), Nat.zero_mul] at this
    exact this
end Go.Proofs.Ytnbonlkmadmpcaa
namespace Go.Proofs.Ytnbonlkmadmpcaa
open Go.RowKit Go.BigFrame
set_option linter.unusedVariables false
set_option linter.unusedSimpArgs false

theorem ka_style {w : World} {g : Nat} {row col to k : Int} {s : St} {vl : Value} (h : Row w g 28 (kA row col to k s vl)) : w.rangeAt g 4 (sA s).toList := fun j v hv => by
  have hj : j < 10 := by have := (List.getElem?_eq_some_iff.1 hv).1; exact this
  rw [h.cell]
  have e : ∀ j, j < 10 → (kA row col to k s vl)[4 + j]? = (sA s).toList[j]? := by
    intro j hj
    rcases (show j = 0 ∨ j = 1 ∨ j = 2 ∨ j = 3 ∨ j = 4 ∨ j = 5 ∨ j = 6 ∨ j = 7 ∨ j = 8 ∨ j = 9 by omega) with rfl | rfl | rfl | rfl | rfl | rfl | rfl | rfl | rfl | rfl <;> rfl
  rw [e j hj]
  exact hv
/-- What stands from the copy on: the boxes, and the cells of both grids. -/
structure FhM (N r : Nat) (g k h : Array Value) (vg vh : Value) (c : List Cl) (w0 w : World) : Prop where
  rg : Row w N 24 g
  rk : Row w (N + 1) 28 k
  rh : Row w r 24 h
  cg : Cls w.heap.size w vg c
  ch : Cls w.heap.size w vh c
  be : Below N w0 w
theorem FhM.below {N r : Nat} {g k h : Array Value} {vg vh : Value} {c : List Cl} {w0 w w' : World} (q : FhM N r g k h vg vh c w0 w) (hN : N ≤ w.heap.size) (hb : Below w.heap.size w w') : FhM N r g k h vg vh c w0 w' :=
  ⟨q.rg.below hb q.rg.lt, q.rk.below hb q.rk.lt, q.rh.below hb q.rh.lt, (q.cg.below hb (Nat.le_refl _)).up hb.size, (q.ch.below hb (Nat.le_refl _)).up hb.size, q.be.trans (hb.mono hN)⟩
/-- What stands while the cells of what was answered are written. -/
structure XyM (w3 : World) (tx ty : Nat) (cx rx cy ry : Int) (ax ay : Option Addr) (nx ny : Nat) (wr : World) : Prop where
  be : Below w3.heap.size w3 wr
  x : Row wr tx 24 (gA cx rx (.slice ax nx nx))
  y : Row wr ty 24 (gA cy ry (.slice ay ny ny))
  gx : nx = 0 ∨ ∃ b, ax = some ⟨b, 0, none⟩ ∧ w3.heap.size ≤ b ∧ b < tx ∧ nx ≤ 262144 ∧ Room wr b 49 (nx * 15)
  gy : ny = 0 ∨ ∃ b, ay = some ⟨b, 0, none⟩ ∧ tx < b ∧ b < ty ∧ ny ≤ 262144 ∧ Room wr b 49 (ny * 15)
  lt : tx < ty
  ge : w3.heap.size ≤ tx
theorem Room.set {w : World} {b : Nat} {t : TypeId} {n : Nat} (h : Room w b t n) (k : Nat) (v : Value) : Room (w.setCell ⟨b, k, none⟩ v) b t n := by
  obtain ⟨d, hd, hs⟩ := h
  exact ⟨_, hd.setCell k v, by rw [Array.size_setIfInBounds]; exact hs⟩
theorem Room.at {w : World} {b : Nat} {t : TypeId} {n : Nat} (h : Room w b t n) (k : Nat) (hk : k < n) : (∃ u, w.cell? ⟨b, k, none⟩ = some u) ∧ w.frozen? ⟨b, k, none⟩ = false := by
  obtain ⟨d, hd, hs⟩ := h
  exact ⟨⟨d[k], by rw [hd.cell, Array.getElem?_eq_getElem (by omega)]⟩, hd.frozen k⟩
theorem XyM.setX {w3 : World} {tx ty : Nat} {cx rx cy ry : Int} {b : Nat} {ax ay : Option Addr} {nx ny : Nat} {wr : World} (h : XyM w3 tx ty cx rx cy ry ax ay nx ny wr) (hax : ax = some ⟨b, 0, none⟩) (hn : nx ≠ 0) (k : Nat) (v : Value) : XyM w3 tx ty cx rx cy ry ax ay nx ny (wr.setCell ⟨b, k, none⟩ v) := by
  rcases h.gx with h0 | ⟨b', e, h1, h2, h3, h4⟩
  · exact absurd h0 hn
  · obtain rfl : b = b' := by rw [hax] at e; cases e; rfl
    have hlt := h.lt
    refine ⟨h.be.setCell (p := ⟨b, k, none⟩) h1 _, h.x.setOther _ _ (by show tx ≠ b; omega), h.y.setOther _ _ (by show ty ≠ b; omega), .inr ⟨b, hax, h1, h2, h3, h4.set k v⟩, ?_, h.lt, h.ge⟩
    rcases h.gy with h0 | ⟨b2, e2, g1, g2, g3, g4⟩
    · exact .inl h0
    · exact .inr ⟨b2, e2, g1, g2, g3, g4.setOther _ _ (by show b2 ≠ b; omega)⟩
theorem XyM.setY {w3 : World} {tx ty : Nat} {cx rx cy ry : Int} {b : Nat} {ax ay : Option Addr} {nx ny : Nat} {wr : World} (h : XyM w3 tx ty cx rx cy ry ax ay nx ny wr) (hay : ay = some ⟨b, 0, none⟩) (hn : ny ≠ 0) (k : Nat) (v : Value) : XyM w3 tx ty cx rx cy ry ax ay nx ny (wr.setCell ⟨b, k, none⟩ v) := by
  rcases h.gy with h0 | ⟨b', e, h1, h2, h3, h4⟩
  · exact absurd h0 hn
  · obtain rfl : b = b' := by rw [hay] at e; cases e; rfl
    have hlt := h.lt
    have hge := h.ge
    refine ⟨h.be.setCell (p := ⟨b, k, none⟩) (by show w3.heap.size ≤ b; omega) _, h.x.setOther _ _ (by show tx ≠ b; omega), h.y.setOther _ _ (by show ty ≠ b; omega), ?_, .inr ⟨b, hay, h1, h2, h3, h4.set k v⟩, h.lt, h.ge⟩
    rcases h.gx with h0 | ⟨b2, e2, g1, g2, g3, g4⟩
    · exact .inl h0
    · exact .inr ⟨b2, e2, g1, g2, g3, g4.setOther _ _ (by show b2 ≠ b; omega)⟩
set_option maxRecDepth 100000 in
theorem s28k : (Try.prog.info? 28).map (·.size) = some 15 := by kernel_rfl
set_option maxRecDepth 100000 in
set_option maxHeartbeats 32000000 in
theorem fresh_walk (co ro : Int) (a : Option Addr) (p : Nat) (c : List Cl) (row col to k : Int) (s : St) (al : Option Addr) (nl kl : Nat) (w : World) (hv : Cls w.heap.size w (.slice a c.length p) c) (hnil : c = [] → (.slice a c.length p : Value) = .slice none 0 0 ∨ ∃ ad k, (.slice a c.length p : Value) = .slice (some ad) 0 k) (hm : c.length * 48 ≤ 140737488355328) :
    Calls Try.prog 6 #[.agg (gA co ro (.slice a c.length p)), .agg (kA row col to k s (.slice al nl kl))] w fun e w' => e = .returned (.bool true) ∧ Below w.heap.size w w' := by
  have A := Box'.mk anch_any
  obtain ⟨sc, sr, sl, sk, hsl, SP0, SR0⟩ := scroll_both co ro c row s
  have SP := Box'.mk SP0
  have SR := Box'.mk SR0
  have ER : Box' (∀ v wx, Cls wx.heap.size wx v c → Calls Try.prog 12 #[.agg (gA co ro v), .int .i64 row, .int .i64 col, .int .i64 col, .agg (sA s)] wx fun e w' => Ans wx.heap.size w' e ∧ Below wx.heap.size wx w') := ⟨fun v wx h => erase_ans co ro v c row col s wx h⟩
  have RZ : Box' (∀ v wx, Cls wx.heap.size wx v c → Calls Try.prog 18 #[.agg (gA co ro v), .int .i64 co, .int .i64 ro, .agg (sA s)] wx fun e w' => Ans wx.heap.size w' e ∧ Below wx.heap.size wx w') := ⟨fun v wx h => resize_ans co ro v c s wx h⟩
  have CP : Box' (∀ wx, Below w.heap.size w wx → Calls Try.prog 25 #[.agg (gA co ro (.slice a c.length p))] wx fun e w' => ∃ v', e = .returned (.agg (gA co ro v')) ∧ OwnC wx.heap.size w' v' c ∧ Below wx.heap.size wx w') := ⟨fun wx hb => rcopy_any co ro _ c wx ((hv.below hb (Nat.le_refl _)).up hb.size) hnil hm⟩
  have SM1 : Box' (∀ wx v v', Cls wx.heap.size wx v c → Cls wx.heap.size wx v' c → Calls Try.prog 9 #[.agg (gA co ro v), .agg (gA co ro v')] wx fun e w' => e = .returned (.bool true) ∧ Below wx.heap.size wx w') := ⟨fun wx v v' h1 h2 => rsame_yes co ro v v' c (by omega) wx h1 h2⟩
  have SM2 : Box' (∀ wx v v', Cls wx.heap.size wx v sl → Cls wx.heap.size wx v' sl → Calls Try.prog 9 #[.agg (gA sc sr v), .agg (gA sc sr v')] wx fun e w' => e = .returned (.bool true) ∧ Below wx.heap.size wx w') := ⟨fun wx v v' h1 h2 => rsame_yes sc sr v v' sl (by omega) wx h1 h2⟩
  have HV := Box'.mk hv
  have R1 := Box'.mk ((Row.new w 24 (gA co ro (.slice a c.length p))).alloc (.cells (kA row col to k s (.slice al nl kl)) 28))
  have K1 : Box' (Row ((w.alloc (.cells (gA co ro (.slice a c.length p)) 24)).alloc (.cells (kA row col to k s (.slice al nl kl)) 28)) (w.heap.size + 1) 28 (kA row col to k s (.slice al nl kl))) := ⟨Row.made _ _ _ _ _ rfl (by simp)⟩
  have B1 : Box' (Below w.heap.size w ((w.alloc (.cells (gA co ro (.slice a c.length p)) 24)).alloc (.cells (kA row col to k s (.slice al nl kl)) 28))) := ⟨((Below.refl w.heap.size w).alloc (Nat.le_refl _) _).alloc (by simp) _⟩
  have U24 := Box'.mk Try.underlying24
  have S24 := Box'.mk s24g
  have eq1 : (sk == sk) = true := by simp
  clear hv hnil SP0 SR0 hsl hm
  go_enter Try.func6, Try.ntmps6
  go_upto_region 1 with (fail)
  generalize ((w.alloc (.cells (gA co ro (.slice a c.length p)) 24)).alloc (.cells (kA row col to k s (.slice al nl kl)) 28)) = w1 at *
  go_wp2_with (first
    | (refine wpList_load_row rfl 24 (.tmp 2) rfl w.heap.size rfl 24 (gA co ro (.slice a c.length p)) R1.out _ U24.out rfl 3 S24.out rfl ?_))
  refine (CP.out _ B1.out).mono ?_
  rintro e w2 ⟨v', rfl, own, hb⟩
  obtain ⟨ah, kh, rfl, _⟩ := own.slice
  have R2 := Box'.mk (R1.out.below hb R1.out.lt)
  have K2 := Box'.mk (K1.out.below hb K1.out.lt)
  have B2 := Box'.mk (B1.out.trans (hb.mono B1.out.size))
  have O2 := Box'.mk own
  have hs1 : w.heap.size + 1 < w1.heap.size := K1.out.lt
  have hs2 : w1.heap.size ≤ w2.heap.size := hb.size
  clear own hb R1 K1 B1 CP
  have RMh : Box' (Room (w2.alloc (.cells #[.int .i64 0, .int .i64 0, .slice none 0 0] 24)) w2.heap.size 24 3) := ⟨Room.new _ _ _ _ rfl⟩
  have Oh := Box'.mk (gA_one co ro ah c.length kh)
  have F3 : Box' (FhM w.heap.size w2.heap.size (gA co ro (.slice a c.length p)) (kA row col to k s (.slice al nl kl)) (gA co ro (.slice ah c.length kh)) (.slice a c.length p) (.slice ah c.length kh) c w ((w2.alloc (.cells #[.int .i64 0, .int .i64 0, .slice none 0 0] 24)).setRow w2.heap.size (gA co ro (.slice ah c.length kh)))) := ⟨by
    have hbb : Below w2.heap.size w2 ((w2.alloc (.cells #[.int .i64 0, .int .i64 0, .slice none 0 0] 24)).setRow w2.heap.size (gA co ro (.slice ah c.length kh))) := below_setRow ((Below.refl _ _).alloc (Nat.le_refl _) _) (Nat.le_refl _) _
    exact ⟨R2.out.below hbb R2.out.lt, K2.out.below hbb K2.out.lt, RMh.out.setRow _, ((HV.out.below B2.out (Nat.le_refl _)).up B2.out.size |>.below hbb (Nat.le_refl _)).up hbb.size, (O2.out.cls.below hbb (Nat.le_refl _)).up hbb.size, B2.out.trans (hbb.mono B2.out.size)⟩⟩
  have Z3 : Box' (w2.heap.size < ((w2.alloc (.cells #[.int .i64 0, .int .i64 0, .slice none 0 0] 24)).setRow w2.heap.size (gA co ro (.slice ah c.length kh))).heap.size) := ⟨by rw [setRow_size]; simp⟩
  go_upto_region 2 with (first
    | (refine wpList_store_row rfl 24 (.tmp 5) (.tmp 17) rfl w2.heap.size rfl (gA co ro (.slice ah c.length kh)) rfl 24 3 RMh.out S24.out rfl Oh.out ?_))
  clear RMh Oh R2 K2 B2 O2 HV
  generalize ((w2.alloc (.cells #[.int .i64 0, .int .i64 0, .slice none 0 0] 24)).setRow w2.heap.size (gA co ro (.slice ah c.length kh))) = w3 at *
  have hz3 : w2.heap.size < w3.heap.size := Z3.out
  clear Z3
  generalize w2.heap.size = r at *
  have k0 : w3.cell? ⟨w.heap.size + 1, 0, none⟩ = some (.int .i64 row) := F3.out.rk.cell 0
  have k1 : w3.cell? ⟨w.heap.size + 1, 1, none⟩ = some (.int .i64 col) := F3.out.rk.cell 1
  have KS := Box'.mk (ka_style F3.out.rk)
  go_wp2_with (first
    | (refine wpList_load_row rfl 24 (.tmp 5) rfl r rfl 24 (gA co ro (.slice ah c.length kh)) F3.out.rh _ U24.out rfl 3 S24.out rfl ?_)
    | (refine wpList_load_style rfl (.tmp 26) rfl (w.heap.size + 1) 4 s rfl KS.out ?_))
  refine (ER.out _ _ F3.out.ch).mono ?_
  rintro e w4 ⟨⟨cx, rx, ax, nx, kx, rfl, GX⟩, hb⟩
  have F4 := Box'.mk (F3.out.below (by omega) hb)
  have hs4 : w3.heap.size ≤ w4.heap.size := hb.size
  have B4 := Box'.mk hb
  have G4 := Box'.mk GX
  clear GX hb k0 k1 KS ER
  have RMx : Box' (Room (w4.alloc (.cells #[.int .i64 0, .int .i64 0, .slice none 0 0] 24)) w4.heap.size 24 3) := ⟨Room.new _ _ _ _ rfl⟩
  have Ox := Box'.mk (gA_one cx rx ax nx nx)
  have BX : Box' (Below w4.heap.size w4 ((w4.alloc (.cells #[.int .i64 0, .int .i64 0, .slice none 0 0] 24)).setRow w4.heap.size (gA cx rx (.slice ax nx nx)))) := ⟨below_setRow ((Below.refl _ _).alloc (Nat.le_refl _) _) (Nat.le_refl _) _⟩
  have X5 : Box' (Row ((w4.alloc (.cells #[.int .i64 0, .int .i64 0, .slice none 0 0] 24)).setRow w4.heap.size (gA cx rx (.slice ax nx nx))) w4.heap.size 24 (gA cx rx (.slice ax nx nx))) := ⟨RMx.out.setRow _⟩
  go_upto_region 3 with (first
    | (refine wpList_store_row rfl 24 (.tmp 6) (.tmp 29) rfl w4.heap.size rfl (gA cx rx (.slice ax nx nx)) rfl 24 3 RMx.out S24.out rfl Ox.out ?_))
  clear RMx Ox
  generalize ((w4.alloc (.cells #[.int .i64 0, .int .i64 0, .slice none 0 0] 24)).setRow w4.heap.size (gA cx rx (.slice ax nx nx))) = w5 at *
  have F5 := Box'.mk (F4.out.below (by omega) BX.out)
  have hs5 : w4.heap.size < w5.heap.size := X5.out.lt
  have G5 : Box' (nx = 0 ∨ ∃ b, ax = some ⟨b, 0, none⟩ ∧ w3.heap.size ≤ b ∧ b < w4.heap.size ∧ nx ≤ 262144 ∧ Room w5 b 49 (nx * 15)) := ⟨by
    rcases G4.out with h | ⟨b, e1, e2, e3, e4⟩
    · exact .inl h
    · have hlt : b < w4.heap.size := by obtain ⟨d, hd, _⟩ := e4; exact hd.lt
      exact .inr ⟨b, e1, e2, hlt, e3, e4.below BX.out hlt⟩⟩
  have B5 := Box'.mk (B4.out.trans (BX.out.mono hs4))
  clear G4 F4 BX B4
  generalize w4.heap.size = tx at *
  have h0 : w5.cell? ⟨r, 0, none⟩ = some (.int .i64 co) := F5.out.rh.cell 0
  have h1 : w5.cell? ⟨r, 1, none⟩ = some (.int .i64 ro) := F5.out.rh.cell 1
  have KS := Box'.mk (ka_style F5.out.rk)
  go_wp2_with (first
    | (refine wpList_load_row rfl 24 (.tmp 5) rfl r rfl 24 (gA co ro (.slice ah c.length kh)) F5.out.rh _ U24.out rfl 3 S24.out rfl ?_)
    | (refine wpList_load_style rfl (.tmp 37) rfl (w.heap.size + 1) 4 s rfl KS.out ?_))
  refine (RZ.out _ _ F5.out.ch).mono ?_
  rintro e w6 ⟨⟨cy, ry, ay, ny, ky, rfl, GY⟩, hb⟩
  have hs6 : w5.heap.size ≤ w6.heap.size := hb.size
  have X6 := Box'.mk (X5.out.below hb X5.out.lt)
  have G6 : Box' (nx = 0 ∨ ∃ b, ax = some ⟨b, 0, none⟩ ∧ w3.heap.size ≤ b ∧ b < tx ∧ nx ≤ 262144 ∧ Room w6 b 49 (nx * 15)) := ⟨by
    rcases G5.out with h | ⟨b, e1, e2, e3, e4, e5⟩
    · exact .inl h
    · exact .inr ⟨b, e1, e2, e3, e4, e5.below hb (by omega)⟩⟩
  have B6 := Box'.mk (B5.out.trans (hb.mono (by omega)))
  have Y6 := Box'.mk GY
  clear GY hb h0 h1 KS RZ X5 G5 B5 F5
  have RMy : Box' (Room (w6.alloc (.cells #[.int .i64 0, .int .i64 0, .slice none 0 0] 24)) w6.heap.size 24 3) := ⟨Room.new _ _ _ _ rfl⟩
  have Oy := Box'.mk (gA_one cy ry ay ny ny)
  have BY : Box' (Below w6.heap.size w6 ((w6.alloc (.cells #[.int .i64 0, .int .i64 0, .slice none 0 0] 24)).setRow w6.heap.size (gA cy ry (.slice ay ny ny)))) := ⟨below_setRow ((Below.refl _ _).alloc (Nat.le_refl _) _) (Nat.le_refl _) _⟩
  have Y7 : Box' (Row ((w6.alloc (.cells #[.int .i64 0, .int .i64 0, .slice none 0 0] 24)).setRow w6.heap.size (gA cy ry (.slice ay ny ny))) w6.heap.size 24 (gA cy ry (.slice ay ny ny))) := ⟨RMy.out.setRow _⟩
  go_upto_region 4 with (first
    | (refine wpList_store_row rfl 24 (.tmp 8) (.tmp 40) rfl w6.heap.size rfl (gA cy ry (.slice ay ny ny)) rfl 24 3 RMy.out S24.out rfl Oy.out ?_))
  clear RMy Oy
  generalize ((w6.alloc (.cells #[.int .i64 0, .int .i64 0, .slice none 0 0] 24)).setRow w6.heap.size (gA cy ry (.slice ay ny ny))) = w7 at *
  have XY : Box' (XyM w3 tx w6.heap.size cx rx cy ry ax ay nx ny w7) := ⟨by
    refine ⟨B6.out.trans (BY.out.mono (by omega)), X6.out.below BY.out (by omega), Y7.out, ?_, ?_, by omega, hs4⟩
    · rcases G6.out with h | ⟨b, e1, e2, e3, e4, e5⟩
      · exact .inl h
      · exact .inr ⟨b, e1, e2, e3, e4, e5.below BY.out (by omega)⟩
    · rcases Y6.out with h | ⟨b, e1, e2, e3, e4⟩
      · exact .inl h
      · have hlt : b < w6.heap.size := by obtain ⟨d, hd, _⟩ := e4; exact hd.lt
        exact .inr ⟨b, e1, by omega, hlt, e3, e4.below BY.out hlt⟩⟩
  clear G6 X6 B6 Y6 BY Y7
  generalize w6.heap.size = ty at *
  go_wp2_with fail
  go_loopw [10] (fun i wr => ∃ (j : Nat), j ≤ nx ∧ i = .int .i64 (j : Int) ∧ Box' (XyM w3 tx ty cx rx cy ry ax ay nx ny wr)) (fun i _ => nx - (intOf i).toNat)
  case atStart => exact ⟨0, by omega, rfl, XY⟩
  case round =>
    clear XY
    obtain ⟨j, hj, rfl, X⟩ := hrel
    have x2 : wr.cell? ⟨tx, 2, none⟩ = some (.slice ax nx nx) := X.out.x.cell 2
    by_cases hlt : j < nx
    case pos =>
      obtain ⟨b, rfl, hb1, hb2, hn, hroom⟩ : ∃ b, ax = some ⟨b, 0, none⟩ ∧ w3.heap.size ≤ b ∧ b < tx ∧ nx ≤ 262144 ∧ Room wr b 49 (nx * 15) := by
        rcases X.out.gx with h | h
        · omega
        · exact h
      obtain ⟨⟨u, hu⟩, hf⟩ := hroom.at (j * 15) (by omega)
      have X' := Box'.mk (X.out.setX rfl (by omega) (j * 15) (.int .i32 1))
      clear hroom X
      go_wp2_with fail
      exact ⟨⟨j + 1, by omega, by go_num, X'⟩, by simp [intOf]; omega⟩
    case neg =>
      go_wp2_with fail
      go_loopw [11] (fun i wr => ∃ (j : Nat), j ≤ ny ∧ i = .int .i64 (j : Int) ∧ Box' (XyM w3 tx ty cx rx cy ry ax ay nx ny wr)) (fun i _ => ny - (intOf i).toNat)
      case atStart => exact ⟨0, by omega, rfl, X⟩
      case round =>
        clear X x2
        obtain ⟨m, hm, rfl, X⟩ := hrel
        have y2 : wr.cell? ⟨ty, 2, none⟩ = some (.slice ay ny ny) := X.out.y.cell 2
        by_cases hlt2 : m < ny
        case pos =>
          obtain ⟨b, rfl, hb1, hb2, hn, hroom⟩ : ∃ b, ay = some ⟨b, 0, none⟩ ∧ tx < b ∧ b < ty ∧ ny ≤ 262144 ∧ Room wr b 49 (ny * 15) := by
            rcases X.out.gy with h | h
            · omega
            · exact h
          obtain ⟨⟨u, hu⟩, hf⟩ := hroom.at (m * 15) (by omega)
          have X' := Box'.mk (X.out.setY rfl (by omega) (m * 15) (.int .i32 2))
          clear hroom X
          go_wp2_with fail
          exact ⟨⟨m + 1, by omega, by go_num, X'⟩, by simp [intOf]; omega⟩
        case neg =>
          have F7 := Box'.mk (F3.out.below (by omega) X.out.be)
          have hs7 : w3.heap.size ≤ wr.heap.size := X.out.be.size
          clear X F3
          generalize wr = w7 at *
          have k0 : w7.cell? ⟨w.heap.size + 1, 0, none⟩ = some (.int .i64 row) := F7.out.rk.cell 0
          have KS := Box'.mk (ka_style F7.out.rk)
          go_wp2_with (first
            | (refine wpList_load_row rfl 24 (.tmp 5) rfl r rfl 24 (gA co ro (.slice ah c.length kh)) F7.out.rh _ U24.out rfl 3 S24.out rfl ?_)
            | (refine wpList_load_style rfl (.tmp 72) rfl (w.heap.size + 1) 4 s rfl KS.out ?_))
          refine (SP.out _ _ F7.out.ch).mono ?_
          rintro e w8 ⟨⟨v8, rfl, C8⟩, hb⟩
          have F8 := Box'.mk (F7.out.below (by omega) hb)
          have hs8 : w7.heap.size ≤ w8.heap.size := hb.size
          obtain ⟨a8, p8, rfl, _⟩ := id C8
          have C8 := Box'.mk C8
          clear hb F7 k0 KS SP
          have RMp : Box' (Room (w8.alloc (.cells #[.int .i64 0, .int .i64 0, .slice none 0 0] 24)) w8.heap.size 24 3) := ⟨Room.new _ _ _ _ rfl⟩
          have Op := Box'.mk (gA_one sc sr a8 sl.length p8)
          have BP : Box' (Below w8.heap.size w8 ((w8.alloc (.cells #[.int .i64 0, .int .i64 0, .slice none 0 0] 24)).setRow w8.heap.size (gA sc sr (.slice a8 sl.length p8)))) := ⟨below_setRow ((Below.refl _ _).alloc (Nat.le_refl _) _) (Nat.le_refl _) _⟩
          have P9 : Box' (Row ((w8.alloc (.cells #[.int .i64 0, .int .i64 0, .slice none 0 0] 24)).setRow w8.heap.size (gA sc sr (.slice a8 sl.length p8))) w8.heap.size 24 (gA sc sr (.slice a8 sl.length p8))) := ⟨RMp.out.setRow _⟩
          go_upto_region 13 with (first
            | (refine wpList_store_row rfl 24 (.tmp 12) (.tmp 75) rfl w8.heap.size rfl (gA sc sr (.slice a8 sl.length p8)) rfl 24 3 RMp.out S24.out rfl Op.out ?_))
          clear RMp Op
          generalize ((w8.alloc (.cells #[.int .i64 0, .int .i64 0, .slice none 0 0] 24)).setRow w8.heap.size (gA sc sr (.slice a8 sl.length p8))) = w9 at *
          have F9 := Box'.mk (F8.out.below (by omega) BP.out)
          have hs9 : w8.heap.size < w9.heap.size := P9.out.lt
          have C9 := Box'.mk ((C8.out.below BP.out (Nat.le_refl _)).up BP.out.size)
          clear C8 F8 BP
          generalize w8.heap.size = tp at *
          have k0 : w9.cell? ⟨w.heap.size + 1, 0, none⟩ = some (.int .i64 row) := F9.out.rk.cell 0
          have KS := Box'.mk (ka_style F9.out.rk)
          go_wp2_with (first
            | (refine wpList_load_row rfl 24 (.tmp 2) rfl w.heap.size rfl 24 (gA co ro (.slice a c.length p)) F9.out.rg _ U24.out rfl 3 S24.out rfl ?_)
            | (refine wpList_load_style rfl (.tmp 83) rfl (w.heap.size + 1) 4 s rfl KS.out ?_))
          refine (SR.out _ _ F9.out.cg).mono ?_
          rintro e wa ⟨⟨va, rfl, Ca⟩, hb⟩
          have Fa := Box'.mk (F9.out.below (by omega) hb)
          have hsa : w9.heap.size ≤ wa.heap.size := hb.size
          have Pa := Box'.mk (P9.out.below hb P9.out.lt)
          have D9 := Box'.mk ((C9.out.below hb (Nat.le_refl _)).up hb.size)
          obtain ⟨aa, pa, rfl, _⟩ := id Ca
          have Ca := Box'.mk Ca
          clear hb F9 k0 KS SR P9 C9
          have RMq : Box' (Room (wa.alloc (.cells #[.int .i64 0, .int .i64 0, .slice none 0 0] 24)) wa.heap.size 24 3) := ⟨Room.new _ _ _ _ rfl⟩
          have Oq := Box'.mk (gA_one sc sr aa sl.length pa)
          have BQ : Box' (Below wa.heap.size wa ((wa.alloc (.cells #[.int .i64 0, .int .i64 0, .slice none 0 0] 24)).setRow wa.heap.size (gA sc sr (.slice aa sl.length pa)))) := ⟨below_setRow ((Below.refl _ _).alloc (Nat.le_refl _) _) (Nat.le_refl _) _⟩
          have Qb : Box' (Row ((wa.alloc (.cells #[.int .i64 0, .int .i64 0, .slice none 0 0] 24)).setRow wa.heap.size (gA sc sr (.slice aa sl.length pa))) wa.heap.size 24 (gA sc sr (.slice aa sl.length pa))) := ⟨RMq.out.setRow _⟩
          go_upto_region 14 with (first
            | (refine wpList_store_row rfl 24 (.tmp 14) (.tmp 86) rfl wa.heap.size rfl (gA sc sr (.slice aa sl.length pa)) rfl 24 3 RMq.out S24.out rfl Oq.out ?_))
          clear RMq Oq
          generalize ((wa.alloc (.cells #[.int .i64 0, .int .i64 0, .slice none 0 0] 24)).setRow wa.heap.size (gA sc sr (.slice aa sl.length pa))) = wb at *
          have Fb := Box'.mk (Fa.out.below (by omega) BQ.out)
          have hsb : wa.heap.size < wb.heap.size := Qb.out.lt
          have Pb := Box'.mk (Pa.out.below BQ.out Pa.out.lt)
          have Db := Box'.mk ((D9.out.below BQ.out (Nat.le_refl _)).up BQ.out.size)
          have Eb := Box'.mk ((Ca.out.below BQ.out (Nat.le_refl _)).up BQ.out.size)
          clear Fa Pa D9 Ca BQ
          generalize wa.heap.size = tq at *
          go_wp2_with fail
          refine (A.out _).mono ?_
          rintro e wc ⟨rfl, hb⟩
          have Fc := Box'.mk (Fb.out.below (by omega) hb)
          have hsc : wb.heap.size ≤ wc.heap.size := hb.size
          have Pc := Box'.mk (Pb.out.below hb Pb.out.lt)
          have Qc := Box'.mk (Qb.out.below hb Qb.out.lt)
          have Dc := Box'.mk ((Db.out.below hb (Nat.le_refl _)).up hb.size)
          have Ec := Box'.mk ((Eb.out.below hb (Nat.le_refl _)).up hb.size)
          clear hb Fb Pb Qb Db Eb
          have g0 : wc.cell? ⟨w.heap.size, 0, none⟩ = some (.int .i64 co) := Fc.out.rg.cell 0
          have g1 : wc.cell? ⟨w.heap.size, 1, none⟩ = some (.int .i64 ro) := Fc.out.rg.cell 1
          have g2 : wc.cell? ⟨w.heap.size, 2, none⟩ = some (.slice a c.length p) := Fc.out.rg.cell 2
          have h0 : wc.cell? ⟨r, 0, none⟩ = some (.int .i64 co) := Fc.out.rh.cell 0
          have h1 : wc.cell? ⟨r, 1, none⟩ = some (.int .i64 ro) := Fc.out.rh.cell 1
          have h2 : wc.cell? ⟨r, 2, none⟩ = some (.slice ah c.length kh) := Fc.out.rh.cell 2
          go_wp2_with fail
          refine (SM1.out _ _ _ Fc.out.cg Fc.out.ch).mono ?_
          rintro e wd ⟨rfl, hb⟩
          have Fd := Box'.mk (Fc.out.below (by omega) hb)
          have hsd : wc.heap.size ≤ wd.heap.size := hb.size
          have Pd := Box'.mk (Pc.out.below hb Pc.out.lt)
          have Qd := Box'.mk (Qc.out.below hb Qc.out.lt)
          have Dd := Box'.mk ((Dc.out.below hb (Nat.le_refl _)).up hb.size)
          have Ed := Box'.mk ((Ec.out.below hb (Nat.le_refl _)).up hb.size)
          clear hb Fc Pc Qc Dc Ec g0 g1 g2 h0 h1 h2
          have g0 : wd.cell? ⟨tp, 0, none⟩ = some (.int .i64 sc) := Pd.out.cell 0
          have g1 : wd.cell? ⟨tp, 1, none⟩ = some (.int .i64 sr) := Pd.out.cell 1
          have g2 : wd.cell? ⟨tp, 2, none⟩ = some (.slice a8 sl.length p8) := Pd.out.cell 2
          have h0 : wd.cell? ⟨tq, 0, none⟩ = some (.int .i64 sc) := Qd.out.cell 0
          have h1 : wd.cell? ⟨tq, 1, none⟩ = some (.int .i64 sr) := Qd.out.cell 1
          have h2 : wd.cell? ⟨tq, 2, none⟩ = some (.slice aa sl.length pa) := Qd.out.cell 2
          go_wp2_with fail
          refine (SM2.out _ _ _ Dd.out Ed.out).mono ?_
          rintro e we ⟨rfl, hb⟩
          have Be := Box'.mk (Fd.out.be.trans (hb.mono (by omega)))
          clear hb Fd Pd Qd Dd Ed g0 g1 g2 h0 h1 h2
          go_wp2_with fail
          go_ret
          exact ⟨rfl, Be.out⟩
theorem nil_grid {H : Type} {enc : TypeId × Value → H} {W : World} {fuel : Nat} {x : DataW H × List MemPlace} {co ro : Int} {vc : Value} (h : DataW.trod enc Try.prog W 0 (fun _ => true) true fuel 24 (Value.agg (gA co ro vc)).cells.toList = some x) : vc = .slice none 0 0 ∨ ∃ ad n k, vc = .slice (some ad) n k := by
  have h' : DataW.trod enc Try.prog W 0 (fun _ => true) true fuel 24 [.int .i64 co, .int .i64 ro, vc] = some x := h
  obtain ⟨xs, k, hk, hxy, _, hxl, hf⟩ := DataW.trod_struct Try.underlying24 h'
  have hl4 : xs.length = 3 := hxl
  have g2 : DataW.trod enc Try.prog W 0 (fun _ => true) true k 22 (([.int .i64 co, .int .i64 ro, vc].drop 2).take (Try.prog.cellsOf 22)) = xs[2]? := hf 2 _ rfl
  rw [Try.cells22', List.getElem?_eq_getElem (by omega)] at g2
  simp only [List.drop_succ_cons, List.drop_zero, List.take_succ_cons, List.take_zero] at g2
  rcases Deep.open_slice Try.underlying22 g2 with ⟨e, _⟩ | ⟨a, len, cap, m, n, D, Pl, e, _⟩
  · left
    simpa using e
  · right
    exact ⟨a, len, cap, by simpa using e⟩
theorem fresh_any (co ro : Int) (vc : Value) (c : List Cl) (row col to k : Int) (s : St) (vl : Value) (l : List Cl) (w : World) (hv : Cls w.heap.size w vc c) (hl : Cls w.heap.size w vl l) (hnl : vc = .slice none 0 0 ∨ ∃ ad n k, vc = .slice (some ad) n k) (hm : 48 * c.length ≤ 140737488351232) :
    Calls Try.prog 6 #[.agg (gA co ro vc), .agg (kA row col to k s vl)] w fun e w' => e = .returned (.bool true) ∧ Below w.heap.size w w' := by
  obtain ⟨a, p, rfl, _⟩ := id hv
  obtain ⟨al, kl, rfl, _⟩ := id hl
  refine fresh_walk co ro a p c row col to k s al _ kl w hv (fun e => ?_) (by omega)
  rcases hnl with h | ⟨ad, n, q, h⟩
  · exact .inl h
  · right
    cases h
    exact ⟨ad, p, by rw [e]; rfl⟩
end Go.Proofs.Ytnbonlkmadmpcaa
