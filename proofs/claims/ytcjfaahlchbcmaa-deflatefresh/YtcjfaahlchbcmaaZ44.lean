/- The walks of newWay and fixedWay. -/
import Derived.Test.YtcjfaahlchbcmaaZ43
import Derived.Test.YtcjfaahlchbcmaaZ11
namespace Go.Proofs.Ytcjfaahlchbcmaa
open Go.RowKit Go.BigFrame
set_option linter.unusedVariables false
set_option linter.unusedSimpArgs false

theorem Try.size50 : (Try.prog.info? 50).map (·.size) = some 3 := by kernel_rfl
theorem row_ne2 {w : World} {a b : Nat} {t t' : TypeId} {c c' : Array Value} (h : Row w a t c) (h' : Row w b t' c') (ht : t ≠ t') : a ≠ b := fun e => by subst e; exact row_type_ne h h' ht
/-- The codes of good lengths. -/
theorem codes_is (w : World) (v : Value) (l : List Int) (hn : l.length ≤ 512) (hk : Gf.chkE l = 0) (h : Ints w.heap.size w v l) :
    Calls Try.prog 55 #[v] w fun e w' => ∃ g, e = .returned (.tuple #[.slice (some ⟨g, 0, none⟩) l.length l.length, .int .i64 0]) ∧ w.heap.size ≤ g ∧ Row w' g 73 (agp (cds l l.length)) ∧ Below w.heap.size w w' := by
  refine (codes_any v l (by omega) w h).mono ?_
  rintro e w' ⟨u, rfl, hc, hb⟩
  rw [hk]
  rcases hc with ⟨_, g, rfl, hg, hr⟩ | ⟨hx, _⟩
  · exact ⟨g, rfl, hg, hr, hb⟩
  · exact absurd hk hx
set_option maxRecDepth 100000 in
set_option maxHeartbeats 8000000 in
theorem newWay_is (w : World) (ha : Option Addr) (hn hc : Nat) (v1 v2 : Value) (l1 l2 : List Int) (hn1 : l1.length ≤ 512) (hn2 : l2.length ≤ 512) (hk1 : Gf.chkE l1 = 0) (hk2 : Gf.chkE l2 = 0) (h1 : Ints w.heap.size w v1 l1) (h2 : Ints w.heap.size w v2 l2) :
    Calls Try.prog 34 #[.slice ha hn hc, v1, v2] w fun e w' => ∃ g1 g2, e = .returned (.agg #[.slice ha hn hc, .slice (some ⟨g1, 0, none⟩) l1.length l1.length, .slice (some ⟨g2, 0, none⟩) l2.length l2.length]) ∧ w.heap.size ≤ g1 ∧ w.heap.size ≤ g2 ∧ Row w' g1 73 (agp (cds l1 l1.length)) ∧ Row w' g2 73 (agp (cds l2 l2.length)) ∧ Below w.heap.size w w' := by
  have C1 : Box' (∀ wq, Below w.heap.size w wq → Calls Try.prog 55 #[v1] wq fun e w' => ∃ g, e = .returned (.tuple #[.slice (some ⟨g, 0, none⟩) l1.length l1.length, .int .i64 0]) ∧ wq.heap.size ≤ g ∧ Row w' g 73 (agp (cds l1 l1.length)) ∧ Below wq.heap.size wq w') := ⟨fun wq hb => codes_is wq v1 l1 hn1 hk1 ((h1.below hb (Nat.le_refl _)).up hb.size)⟩
  have C2 : Box' (∀ wq, Below w.heap.size w wq → Calls Try.prog 55 #[v2] wq fun e w' => ∃ g, e = .returned (.tuple #[.slice (some ⟨g, 0, none⟩) l2.length l2.length, .int .i64 0]) ∧ wq.heap.size ≤ g ∧ Row w' g 73 (agp (cds l2 l2.length)) ∧ Below wq.heap.size wq w') := ⟨fun wq hb => codes_is wq v2 l2 hn2 hk2 ((h2.below hb (Nat.le_refl _)).up hb.size)⟩
  obtain ⟨a1, c1, rfl, hc1, _⟩ := h1
  obtain ⟨a2, c2, rfl, hc2, _⟩ := h2
  generalize l1.length = n1 at *
  generalize l2.length = n2 at *
  generalize agp (cds l1 n1) = A1 at *
  generalize agp (cds l2 n2) = A2 at *
  clear hk1 hk2
  go_enter Try.func34, Try.ntmps34
  go_upto_region 2 with (fail)
  obtain ⟨G0, hG0⟩ : ∃ G0, w.heap.size = G0 := ⟨_, rfl⟩
  obtain ⟨w2, hw2⟩ : ∃ w2, (w.alloc (.cells #[.slice none 0 0, .slice none 0 0, .slice none 0 0] 50)).alloc (.cells #[.slice ha hn hc, .slice none 0 0, .slice none 0 0] 50) = w2 := ⟨_, rfl⟩
  have hN1 : (w.alloc (.cells #[.slice none 0 0, .slice none 0 0, .slice none 0 0] 50)).heap.size = w.heap.size + 1 := by simp
  have R0 : Box' (Row w2 w.heap.size 50 #[.slice none 0 0, .slice none 0 0, .slice none 0 0]) := ⟨by rw [← hw2]; exact (Row.new _ _ _).alloc _⟩
  have R1 : Box' (Row w2 (w.heap.size + 1) 50 #[.slice ha hn hc, .slice none 0 0, .slice none 0 0]) := ⟨by rw [← hw2, ← hN1]; exact Row.new _ _ _⟩
  have B2 : Box' (Below w.heap.size w w2) := ⟨by rw [← hw2]; exact ((Below.refl _ _).alloc (Nat.le_refl _) _).alloc (by omega) _⟩
  rw [hw2]
  have L1 := Box'.mk (C1.out w2 B2.out)
  clear hw2 hN1 C1
  obtain ⟨G, hG⟩ : ∃ G, w.heap.size + 1 = G := ⟨_, rfl⟩
  have hG1 : w.heap.size ≠ G := by omega
  have hGN : w.heap.size ≤ G := by omega
  rw [hG] at R1 ⊢
  clear hG hG0
  go_wp2_with fail
  refine L1.out.mono ?_
  rintro e w3 ⟨g1, rfl, hg1, r1, b3⟩
  have R03 := Box'.mk (R0.out.below b3 R0.out.lt)
  have R13 := R1.out.below b3 R1.out.lt
  have hg1N : w.heap.size ≤ g1 := Nat.le_trans B2.out.size hg1
  have hg1G : g1 ≠ G := fun e => by have := R1.out.lt; omega
  have B3 := Box'.mk (B2.out.trans (b3.mono B2.out.size))
  have c1' : w3.cell? ⟨G, 1, none⟩ = some (.slice none 0 0) := R13.cell 1
  have f1' := R13.frozen 1
  obtain ⟨w4, hw4⟩ : ∃ w4, w3.setCell ⟨G, 1, none⟩ (.slice (some ⟨g1, 0, none⟩) n1 n1) = w4 := ⟨_, rfl⟩
  have R04 : Box' (Row w4 w.heap.size 50 #[.slice none 0 0, .slice none 0 0, .slice none 0 0]) := ⟨by rw [← hw4]; exact R03.out.setOther _ _ hG1⟩
  have R14 : Box' (Row w4 G 50 #[.slice ha hn hc, .slice (some ⟨g1, 0, none⟩) n1 n1, .slice none 0 0]) := ⟨by rw [← hw4]; exact R13.setCell 1 _⟩
  have RA4 : Box' (Row w4 g1 73 A1) := ⟨by rw [← hw4]; exact r1.setOther _ _ hg1G⟩
  have B4 : Box' (Below w.heap.size w w4) := ⟨by rw [← hw4]; exact B3.out.setCell (p := ⟨G, 1, none⟩) hGN _⟩
  have HW4 := Box'.mk hw4
  have L2 := Box'.mk (C2.out w4 B4.out)
  clear hw4 R13 R03 B3 r1 b3 L1 R0 R1 B2 C2 hg1 hg1G
  go_upto_region 3 with (fail)
  rw [HW4.out]
  clear HW4 c1' f1'
  go_wp2_with fail
  refine L2.out.mono ?_
  rintro e w5 ⟨g2, rfl, hg2, r2, b5⟩
  have R05 := Box'.mk (R04.out.below b5 R04.out.lt)
  have R15 := R14.out.below b5 R14.out.lt
  have RA5 := Box'.mk (RA4.out.below b5 RA4.out.lt)
  have hg2N : w.heap.size ≤ g2 := Nat.le_trans B4.out.size hg2
  have hg2G : g2 ≠ G := fun e => by have := R14.out.lt; omega
  have hg1G : g1 ≠ G := row_ne2 RA4.out R14.out (by decide)
  have B5 := Box'.mk (B4.out.trans (b5.mono B4.out.size))
  have c1' : w5.cell? ⟨G, 2, none⟩ = some (.slice none 0 0) := R15.cell 2
  have f1' := R15.frozen 2
  obtain ⟨w6, hw6⟩ : ∃ w6, w5.setCell ⟨G, 2, none⟩ (.slice (some ⟨g2, 0, none⟩) n2 n2) = w6 := ⟨_, rfl⟩
  have R06 : Box' (Row w6 w.heap.size 50 #[.slice none 0 0, .slice none 0 0, .slice none 0 0]) := ⟨by rw [← hw6]; exact R05.out.setOther _ _ hG1⟩
  have R16 : Box' (Row w6 G 50 #[.slice ha hn hc, .slice (some ⟨g1, 0, none⟩) n1 n1, .slice (some ⟨g2, 0, none⟩) n2 n2]) := ⟨by rw [← hw6]; exact R15.setCell 2 _⟩
  have RA6 : Box' (Row w6 g1 73 A1) := ⟨by rw [← hw6]; exact RA5.out.setOther _ _ hg1G⟩
  have RB6 : Box' (Row w6 g2 73 A2) := ⟨by rw [← hw6]; exact r2.setOther _ _ hg2G⟩
  have B6 : Box' (Below w.heap.size w w6) := ⟨by rw [← hw6]; exact B5.out.setCell (p := ⟨G, 2, none⟩) hGN _⟩
  have HW6 := Box'.mk hw6
  clear hw6 R15 R05 B5 r2 b5 L2 RA5 RA4 R04 R14 B4 hg2
  go_upto_region 4 with (fail)
  rw [HW6.out]
  clear HW6 c1' f1'
  have d0 : w6.cell? ⟨G, 0, none⟩ = _ := R16.out.cell 0
  have d1 : w6.cell? ⟨G, 1, none⟩ = _ := R16.out.cell 1
  have d2 : w6.cell? ⟨G, 2, none⟩ = _ := R16.out.cell 2
  have r6 : Room w6 w.heap.size 50 3 := ⟨_, R06.out, rfl⟩
  have hg10 : g1 ≠ w.heap.size := row_ne2 RA6.out R06.out (by decide)
  have hg20 : g2 ≠ w.heap.size := row_ne2 RB6.out R06.out (by decide)
  have h1c : (#[Value.slice ha hn hc, .slice (some ⟨g1, 0, none⟩) n1 n1, .slice (some ⟨g2, 0, none⟩) n2 n2] : Array Value).all (·.oneCell') = true := by simp [Value.oneCell']
  have HR6 := Box'.mk r6
  clear r6
  go_wp2_with (first
    | (refine wpList_store_gen rfl 50 _ _ rfl _ rfl #[.slice ha hn hc, .slice (some ⟨g1, 0, none⟩) n1 n1, .slice (some ⟨g2, 0, none⟩) n2 n2] rfl _ _ HR6.out Try.size50 rfl h1c ?_; intro W0 hW0; have HW0 := Box'.mk hW0; clear hW0; have e0 : W0.cell? ⟨w.heap.size, 0, none⟩ = some (.slice ha hn hc) := (by rw [HW0.out]; exact (R06.out.setRow _).cell 0); have e1 : W0.cell? ⟨w.heap.size, 1, none⟩ = some (.slice (some ⟨g1, 0, none⟩) n1 n1) := (by rw [HW0.out]; exact (R06.out.setRow _).cell 1); have e2 : W0.cell? ⟨w.heap.size, 2, none⟩ = some (.slice (some ⟨g2, 0, none⟩) n2 n2) := (by rw [HW0.out]; exact (R06.out.setRow _).cell 2))
    | fail)
  try simp only [Exit.inBlock, Exit.then]
  have RW : Row W0 w.heap.size 50 #[.slice ha hn hc, .slice (some ⟨g1, 0, none⟩) n1 n1, .slice (some ⟨g2, 0, none⟩) n2 n2] := by rw [HW0.out]; exact R06.out.setRow _
  refine bodyPost_ret (results_row rfl _ _ rfl _ _ RW _ Try.underlying50 rfl 3 Try.size50 rfl) rfl ⟨g1, g2, rfl, hg1N, hg2N, ?_, ?_, ?_⟩
  · rw [HW0.out]; exact RA6.out.setRowOther _ _ hg10
  · rw [HW0.out]; exact RB6.out.setRowOther _ _ hg20
  · rw [HW0.out]; exact below_setRow B6.out (Nat.le_refl _) _
end Go.Proofs.Ytcjfaahlchbcmaa

/- The walk of fixedWay. -/
namespace Go.Proofs.Ytcjfaahlchbcmaa
open Go.RowKit Go.BigFrame
set_option linter.unusedVariables false
set_option linter.unusedSimpArgs false

theorem fxS_chk : Gf.chkE fixS = 0 := by kernel_rfl
theorem fxD_chk : Gf.chkE fixD = 0 := by kernel_rfl
theorem fxS_len : fixS.length = 288 := by kernel_rfl
theorem fxD_len : fixD.length = 30 := by kernel_rfl
/-- Bits behind a slice. -/
def Bts' (N : Nat) (w : World) (v : Value) (l : List Bt) : Prop :=
  ∃ a c, v = .slice a l.length c ∧ l.length ≤ c ∧ ∀ k, k < l.length → ∃ b o, a = some ⟨b, o, none⟩ ∧ b < N ∧
    w.cell? ⟨b, o + k * 2, none⟩ = some (.int .u64 ((l.getD k (0, 0)).1 : Int)) ∧ w.cell? ⟨b, o + k * 2 + 1, none⟩ = some (.int .i64 (l.getD k (0, 0)).2)
/-- A way: what comes ahead, and the codes of two rows of lengths. -/
def WayOk (N : Nat) (w : World) (v : Value) (hd : List Bt) (l1 l2 : List Int) : Prop :=
  ∃ vh g1 g2, v = .agg #[vh, .slice (some ⟨g1, 0, none⟩) l1.length l1.length, .slice (some ⟨g2, 0, none⟩) l2.length l2.length] ∧ Bts' N w vh hd ∧ g1 < N ∧ g2 < N ∧ Row w g1 73 (agp (cds l1 l1.length)) ∧ Row w g2 73 (agp (cds l2 l2.length))
set_option maxRecDepth 100000 in
set_option maxHeartbeats 8000000 in
theorem fixedWay_is (w : World) : Calls Try.prog 21 #[] w fun e w' => ∃ u, e = .returned u ∧ WayOk w'.heap.size w' u [(3, 3)] fixS fixD ∧ Below w.heap.size w w' := by
  obtain ⟨w1, hw1⟩ : ∃ w1, w.alloc (.cells #[.slice none 0 0, .slice none 0 0, .slice none 0 0] 50) = w1 := ⟨_, rfl⟩
  have R1 : Box' (Row w1 w.heap.size 50 #[.slice none 0 0, .slice none 0 0, .slice none 0 0]) := ⟨by rw [← hw1]; exact Row.new _ _ _⟩
  have B1 : Box' (Below w.heap.size w w1) := ⟨by rw [← hw1]; exact (Below.refl _ _).alloc (Nat.le_refl _) _⟩
  have L1 := Box'.mk (fixed_any w1)
  have HW1 := Box'.mk hw1
  clear hw1
  go_enter Try.func21, Try.ntmps21
  go_upto_region 1 with (fail)
  rw [HW1.out]
  clear HW1
  go_wp2_with fail
  refine L1.out.mono ?_
  rintro e w2 ⟨g, c, h, rfl, hc, hg, sg, hh, sh, b2⟩
  have I1 : Ints w2.heap.size w2 (.slice (some ⟨g, 0, none⟩) 288 c) fixS := by have := sg.ints (c := c) (by rw [fxS_len]; exact hc); rw [fxS_len] at this; exact this
  have I2 : Ints w2.heap.size w2 (.slice (some ⟨h, 0, none⟩) 30 30) fixD := by have := sh.ints (c := 30) (by rw [fxD_len]; exact Nat.le_refl _); rw [fxD_len] at this; exact this
  obtain ⟨w3, hw3⟩ : ∃ w3, w2.alloc (.cells #[.int .u64 3, .int .i64 3] 73) = w3 := ⟨_, rfl⟩
  have b3 : Below w2.heap.size w2 w3 := by rw [← hw3]; exact (Below.refl _ _).alloc (Nat.le_refl _) _
  have H3 : Box' (Row w3 w2.heap.size 73 #[.int .u64 3, .int .i64 3]) := ⟨by rw [← hw3]; exact Row.new _ _ _⟩
  have R3 := Box'.mk ((R1.out.below b2 R1.out.lt).below b3 (R1.out.below b2 R1.out.lt).lt)
  have hB2 := B1.out.trans (b2.mono B1.out.size)
  have B3 := Box'.mk (hB2.trans (b3.mono hB2.size))
  have L2 := Box'.mk (newWay_is w3 (some ⟨w2.heap.size, 0, none⟩) 1 1 _ _ fixS fixD (by rw [fxS_len]; decide) (by rw [fxD_len]; decide) fxS_chk fxD_chk ((I1.below b3 (Nat.le_refl _)).up b3.size) ((I2.below b3 (Nat.le_refl _)).up b3.size))
  have HW3 := Box'.mk hw3
  clear hw3 I1 I2 sg sh b2 b3 hB2 B1 R1 L1
  go_upto_region 2 with (fail)
  go_wp2_with fail
  rw [HW3.out]
  clear HW3
  refine L2.out.mono ?_
  rintro e w4 ⟨g1, g2, rfl, hg1, hg2, r1, r2, b4⟩
  rw [fxS_len] at r1 ⊢
  rw [fxD_len] at r2 ⊢
  have R4 := Box'.mk (R3.out.below b4 R3.out.lt)
  have B4 := Box'.mk (B3.out.trans (b4.mono B3.out.size))
  have H4 := Box'.mk (H3.out.below b4 H3.out.lt)
  have RA := Box'.mk r1
  have RB := Box'.mk r2
  have HR6 : Box' (Room w4 w.heap.size 50 3) := ⟨⟨_, R4.out, rfl⟩⟩
  have h1c : (#[Value.slice (some ⟨w2.heap.size, 0, none⟩) 1 1, .slice (some ⟨g1, 0, none⟩) 288 288, .slice (some ⟨g2, 0, none⟩) 30 30] : Array Value).all (·.oneCell') = true := by simp [Value.oneCell']
  clear L2 r1 r2 b4 R3 B3 H3
  go_wp2_with (first
    | (refine wpList_store_gen rfl 50 _ _ rfl _ rfl #[.slice (some ⟨w2.heap.size, 0, none⟩) 1 1, .slice (some ⟨g1, 0, none⟩) 288 288, .slice (some ⟨g2, 0, none⟩) 30 30] rfl _ _ HR6.out Try.size50 rfl h1c ?_; intro W0 hW0; have HW0 := Box'.mk hW0; clear hW0)
    | fail)
  try simp only [Exit.inBlock, Exit.then]
  have RW : Row W0 w.heap.size 50 #[.slice (some ⟨w2.heap.size, 0, none⟩) 1 1, .slice (some ⟨g1, 0, none⟩) 288 288, .slice (some ⟨g2, 0, none⟩) 30 30] := by rw [HW0.out]; exact R4.out.setRow _
  have RA0 : Row W0 g1 73 (agp (cds fixS 288)) := by rw [HW0.out]; exact RA.out.setRowOther _ _ (row_ne2 RA.out R4.out (by decide))
  have RB0 : Row W0 g2 73 (agp (cds fixD 30)) := by rw [HW0.out]; exact RB.out.setRowOther _ _ (row_ne2 RB.out R4.out (by decide))
  have RH0 : Row W0 w2.heap.size 73 #[.int .u64 3, .int .i64 3] := by rw [HW0.out]; exact H4.out.setRowOther _ _ (row_ne2 H4.out R4.out (by decide))
  refine bodyPost_ret (results_row rfl _ _ rfl _ _ RW _ Try.underlying50 rfl 3 Try.size50 rfl) rfl ⟨_, rfl, ⟨.slice (some ⟨w2.heap.size, 0, none⟩) 1 1, g1, g2, by rw [fxS_len, fxD_len], ⟨some ⟨w2.heap.size, 0, none⟩, 1, rfl, Nat.le_refl _, fun k hk => ?_⟩, RA0.lt, RB0.lt, by rw [fxS_len]; exact RA0, by rw [fxD_len]; exact RB0⟩, ?_⟩
  · obtain rfl : k = 0 := by simpa using hk
    exact ⟨w2.heap.size, 0, rfl, RH0.lt, RH0.cell 0, RH0.cell 1⟩
  · rw [HW0.out]; exact below_setRow B4.out (Nat.le_refl _) _
end Go.Proofs.Ytcjfaahlchbcmaa

/- A block's own lengths: what ownWay comes to. -/
namespace Go.Proofs.Ytcjfaahlchbcmaa
open Go.RowKit Go.BigFrame
set_option linter.unusedVariables false
set_option linter.unusedSimpArgs false

def slF (T : List Tok) : List Int := lenF (cntF T).1 15
def dlF (T : List Tok) : List Int := lenF (cntF T).2 15
def snF (T : List Tok) : Nat := trmF (slF T) 257 286
def dnF (T : List Tok) : Nat := trmF (dlF T) 1 30
def oS (T : List Tok) : List Int := (slF T).take (snF T)
def oD (T : List Tok) : List Int := (dlF T).take (dnF T)
def rowO (T : List Tok) : List Int := oS T ++ oD T
def hdO (T : List Tok) : List Bt := [(5, 3), (snF T - 257, 5), (dnF T - 1, 5)] ++ splF (wdF (rowO T))
theorem cntF_len (T : List Tok) : (cntF T).1.length = 286 ∧ (cntF T).2.length = 30 := by
  have h := cntS_len T
  exact ⟨(inc_len _ _).trans h.1, h.2⟩
theorem cntF_bd {T : List Tok} (hT : T.length ≤ 65536) : (∀ k, 0 ≤ (cntF T).1.getD k 0 ∧ (cntF T).1.getD k 0 ≤ 70000) ∧ (∀ k, 0 ≤ (cntF T).2.getD k 0 ∧ (cntF T).2.getD k 0 ≤ 70000) := by
  have h := cntS_bd T
  refine ⟨fun k => ?_, fun k => ?_⟩
  · have := inc_bd h.1 256 k
    exact ⟨this.1, by have := this.2; show (inc (cntS T).1 256).getD k 0 ≤ _; omega⟩
  · have := h.2 k
    exact ⟨this.1, by have := this.2; show (cntS T).2.getD k 0 ≤ _; omega⟩
theorem chk_take {l : List Int} (h : Gf.chkE l = 0) (k : Nat) : Gf.chkE (l.take k) = 0 := by
  obtain ⟨h1, h2, h3⟩ := good_of h
  have a1 : (l.take k).all Gf.lenB = true := by
    rw [List.all_eq_true] at h1 ⊢
    exact fun x hx => h1 x (List.mem_of_mem_take hx)
  have a2 := Gf.wgt_take_le l k
  have a3 : (l.take k).length ≤ l.length := by rw [List.length_take]; omega
  rcases Gf.chkE_cases (l.take k) with ⟨q, _⟩ | ⟨_, _, _, q⟩ | ⟨_, q | q⟩
  · exact q
  · omega
  · rw [a1] at q; cases q
  · omega
/-- All about the lengths of a block's own. -/
structure OwnLens (T : List Tok) : Prop where
  sl : (slF T).length = 286
  dl : (dlF T).length = 30
  sb : ∀ k, 0 ≤ (slF T).getD k 0 ∧ (slF T).getD k 0 ≤ 15
  db : ∀ k, 0 ≤ (dlF T).getD k 0 ∧ (dlF T).getD k 0 ≤ 15
  sc : Gf.chkE (slF T) = 0
  dc : Gf.chkE (dlF T) = 0
  sn : 257 ≤ snF T ∧ snF T ≤ 286
  dn : 1 ≤ dnF T ∧ dnF T ≤ 30
  sol : (oS T).length = snF T
  dol : (oD T).length = dnF T
  soc : Gf.chkE (oS T) = 0
  doc : Gf.chkE (oD T) = 0
theorem ownLens {T : List Tok} (hT : T.length ≤ 65536) : OwnLens T := by
  have hl := cntF_len T
  have hb := cntF_bd hT
  obtain ⟨_, _, s3, s4, s5, _⟩ := lens_good (cs := (cntF T).1) (m := 15) (by omega) (by omega) (by omega) (by rw [hl.1]; decide) hb.1
  obtain ⟨_, _, d3, d4, d5, _⟩ := lens_good (cs := (cntF T).2) (m := 15) (by omega) (by omega) (by omega) (by rw [hl.2]; decide) hb.2
  have sn := trm_ge (slF T) 257 286 (by omega)
  have dn := trm_ge (dlF T) 1 30 (by omega)
  have sl : (slF T).length = 286 := s4.trans hl.1
  have dl : (dlF T).length = 30 := d4.trans hl.2
  have sn1 : 257 ≤ snF T ∧ snF T ≤ 286 := ⟨sn.1, sn.2.1⟩
  have dn1 : 1 ≤ dnF T ∧ dnF T ≤ 30 := ⟨dn.1, dn.2.1⟩
  exact ⟨sl, dl, s5, d5, s3, d3, sn1, dn1, by unfold oS; rw [List.length_take]; omega, by unfold oD; rw [List.length_take]; omega, chk_take s3 _, chk_take d3 _⟩
theorem take_bd {l : List Int} (h : ∀ k, 0 ≤ l.getD k 0 ∧ l.getD k 0 ≤ 15) (n : Nat) : ∀ k, 0 ≤ (l.take n).getD k 0 ∧ (l.take n).getD k 0 ≤ 15 := by
  intro k
  rw [List.getD_eq_getElem?_getD, List.getElem?_take]
  split
  · rw [← List.getD_eq_getElem?_getD]; exact h k
  · decide
theorem app_bd {l m : List Int} (h : ∀ k, 0 ≤ l.getD k 0 ∧ l.getD k 0 ≤ 15) (h' : ∀ k, 0 ≤ m.getD k 0 ∧ m.getD k 0 ≤ 15) : ∀ k, 0 ≤ (l ++ m).getD k 0 ∧ (l ++ m).getD k 0 ≤ 15 := by
  intro k
  rw [List.getD_eq_getElem?_getD, List.getElem?_append]
  split
  · rw [← List.getD_eq_getElem?_getD]; exact h k
  · rw [← List.getD_eq_getElem?_getD]; exact h' _
theorem rowO_bd {T : List Tok} (h : OwnLens T) : ∀ k, 0 ≤ (rowO T).getD k 0 ∧ (rowO T).getD k 0 ≤ 15 := app_bd (take_bd h.sb _) (take_bd h.db _)
theorem rowO_len {T : List Tok} (h : OwnLens T) : (rowO T).length = snF T + dnF T := by unfold rowO; rw [List.length_append, h.sol, h.dol]
theorem wdG_bd (l : List Int) (hl : ∀ k, 0 ≤ l.getD k 0 ∧ l.getD k 0 ≤ 15) : ∀ f a, (wdG l f a).length ≤ f ∧ ∀ t ∈ wdG l f a, 0 ≤ t.1 ∧ t.1 ≤ 18 := by
  intro f
  induction f with
  | zero => intro a; exact ⟨Nat.le_refl _, fun t ht => by simp [wdG] at ht⟩
  | succ f ih =>
    intro a
    by_cases ha : a < l.length
    · have hb := nw_bd l a ha hl
      have hi := ih (a + (nwF l a).2)
      rw [wdG, if_pos ha]
      refine ⟨by rw [List.length_cons]; omega, fun t ht => ?_⟩
      rcases List.mem_cons.mp ht with rfl | ht
      · exact ⟨hb.2.2.1, hb.2.2.2.1⟩
      · exact hi.2 t ht
    · rw [wdG, if_neg ha]; exact ⟨Nat.zero_le _, fun t ht => by simp at ht⟩
theorem wdF_bd (l : List Int) (hl : ∀ k, 0 ≤ l.getD k 0 ∧ l.getD k 0 ≤ 15) : (wdF l).length ≤ l.length ∧ ∀ k, 0 ≤ ((wdF l).getD k (0, 0, 0)).1 ∧ ((wdF l).getD k (0, 0, 0)).1 < 19 := by
  have h := wdG_bd l hl l.length 0
  refine ⟨h.1, fun k => ?_⟩
  by_cases hk : k < (wdF l).length
  · have := h.2 ((wdF l).getD k (0, 0, 0)) (by rw [List.getD_eq_getElem?_getD, List.getElem?_eq_getElem hk]; exact List.getElem_mem hk)
    omega
  · rw [List.getD_eq_getElem?_getD, List.getElem?_eq_none (by omega)]; decide
end Go.Proofs.Ytcjfaahlchbcmaa
