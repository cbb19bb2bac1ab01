/- The walks of newWay and fixedWay. -/
import Derived.Test.YtcjfaahlchbcmaaK39
import Derived.Test.YtcjfaahlchbcmaaK09
namespace Go.Proofs.Ytcjfaahlchbcmaa
open Go.RowKit Go.BigFrame
set_option linter.unusedVariables false
set_option linter.unusedSimpArgs false
theorem Try.size50 : (Try.prog.info? 50).map (·.size) = some 3 := by kernel_rfl
theorem row_ne2 {w : World} {a b : Nat} {t t' : TypeId} {c c' : Array Value} (h : Row w a t c) (h' : Row w b t' c') (ht : t ≠ t') : a ≠ b := fun e => by subst e; exact row_type_ne h h' ht
theorem codes_is (w : World) (v : Value) (l : List Int) (hn : l.length ≤ 512) (hk : Gf.chkE l = 0) (h : Ints w.heap.size w v l) :
    Calls Try.prog 55 #[v] w fun e w' => ∃ g, e = .returned (.tuple #[.slice (some ⟨g, 0, none⟩) l.length l.length, .int .i64 0]) ∧ w.heap.size ≤ g ∧ Row w' g 73 (agp (cds l l.length)) ∧ Below w.heap.size w w' := by
  refine (codes_any v l (by omega) w h).mono ?_
  rintro e w' ⟨u, rfl, hc, hb⟩
  rw [hk]
  rcases hc with ⟨_, g, rfl, hg, hr⟩ | ⟨hx, _⟩
  · exact ⟨g, rfl, hg, hr, hb⟩
  · exact absurd hk hx
set_option maxRecDepth 100000 in
set_option maxHeartbeats 8000000 in
theorem newWay_is (w : World) (ha : Option Addr) (hn hc : Nat) (v1 v2 : Value) (l1 l2 : List Int) (hn1 : l1.length ≤ 512) (hn2 : l2.length ≤ 512) (hk1 : Gf.chkE l1 = 0) (hk2 : Gf.chkE l2 = 0) (h1 : Ints w.heap.size w v1 l1) (h2 : Ints w.heap.size w v2 l2) :
    Calls Try.prog 34 #[.slice ha hn hc, v1, v2] w fun e w' => ∃ g1 g2, e = .returned (.agg #[.slice ha hn hc, .slice (some ⟨g1, 0, none⟩) l1.length l1.length, .slice (some ⟨g2, 0, none⟩) l2.length l2.length]) ∧ w.heap.size ≤ g1 ∧ w.heap.size ≤ g2 ∧ Row w' g1 73 (agp (cds l1 l1.length)) ∧ Row w' g2 73 (agp (cds l2 l2.length)) ∧ Below w.heap.size w w' := by
  have C1 : Box' (∀ wq, Below w.heap.size w wq → Calls Try.prog 55 #[v1] wq fun e w' => ∃ g, e = .returned (.tuple #[.slice (some ⟨g, 0, none⟩) l1.length l1.length, .int .i64 0]) ∧ wq.heap.size ≤ g ∧ Row w' g 73 (agp (cds l1 l1.length)) ∧ Below wq.heap.size wq w') := ⟨fun wq hb => codes_is wq v1 l1 hn1 hk1 ((h1.below hb (Nat.le_refl _)).up hb.size)⟩
  have C2 : Box' (∀ wq, Below w.heap.size w wq → Calls Try.prog 55 #[v2] wq fun e w' => ∃ g, e = .returned (.tuple #[.slice (some ⟨g, 0, none⟩) l2.length l2.length, .int .i64 0]) ∧ wq.heap.size ≤ g ∧ Row w' g 73 (agp (cds l2 l2.length)) ∧ Below wq.heap.size wq w') := ⟨fun wq hb => codes_is wq v2 l2 hn2 hk2 ((h2.below hb (Nat.le_refl _)).up hb.size)⟩
  obtain ⟨a1, c1, rfl, hc1, _⟩ := h1
  obtain ⟨a2, c2, rfl, hc2, _⟩ := h2
  generalize l1.length = n1 at *
  generalize l2.length = n2 at *
  generalize agp (cds l1 n1) = A1 at *
  generalize agp (cds l2 n2) = A2 at *
  clear hk1 hk2
  go_enter Try.func34, Try.ntmps34
  go_upto_region 2 with (fail)
  obtain ⟨G0, hG0⟩ : ∃ G0, w.heap.size = G0 := ⟨_, rfl⟩
  obtain ⟨w2, hw2⟩ : ∃ w2, (w.alloc (.cells #[.slice none 0 0, .slice none 0 0, .slice none 0 0] 50)).alloc (.cells #[.slice ha hn hc, .slice none 0 0, .slice none 0 0] 50) = w2 := ⟨_, rfl⟩
  have hN1 : (w.alloc (.cells #[.slice none 0 0, .slice none 0 0, .slice none 0 0] 50)).heap.size = w.heap.size + 1 := by simp
  have R0 : Box' (Row w2 w.heap.size 50 #[.slice none 0 0, .slice none 0 0, .slice none 0 0]) := ⟨by rw [← hw2]; exact (Row.new _ _ _).alloc _⟩
  have R1 : Box' (Row w2 (w.heap.size + 1) 50 #[.slice ha hn hc, .slice none 0 0, .slice none 0 0]) := ⟨by rw [← hw2, ← hN1]; exact Row.new _ _ _⟩
  have B2 : Box' (Below w.heap.size w w2) := ⟨by rw [← hw2]; exact ((Below.refl _ _).alloc (Nat.le_refl _) _).alloc (by omega) _⟩
  rw [hw2]
  have L1 := Box'.mk (C1.out w2 B2.out)
  clear hw2 hN1 C1
  obtain ⟨G, hG⟩ : ∃ G, w.heap.size + 1 = G := ⟨_, rfl⟩
  have hG1 : w.heap.size ≠ G := by omega
  have hGN : w.heap.size ≤ G := by omega
  rw [hG] at R1 ⊢
  clear hG hG0
  go_wp2_with fail
  refine L1.out.mono ?_
  rintro e w3 ⟨g1, rfl, hg1, r1, b3⟩
  have R03 := Box'.mk (R0.out.below b3 R0.out.lt)
  have R13 := R1.out.below b3 R1.out.lt
  have hg1N : w.heap.size ≤ g1 := Nat.le_trans B2.out.size hg1
  have hg1G : g1 ≠ G := fun e => by have := R1.out.lt; omega
  have B3 := Box'.mk (B2.out.trans (b3.mono B2.out.size))
  have c1' : w3.cell? ⟨G, 1, none⟩ = some (.slice none 0 0) := R13.cell 1
  have f1' := R13.frozen 1
  obtain ⟨w4, hw4⟩ : ∃ w4, w3.setCell ⟨G, 1, none⟩ (.slice (some ⟨g1, 0, none⟩) n1 n1) = w4 := ⟨_, rfl⟩
  have R04 : Box' (Row w4 w.heap.size 50 #[.slice none 0 0, .slice none 0 0, .slice none 0 0]) := ⟨by rw [← hw4]; exact R03.out.setOther _ _ hG1⟩
  have R14 : Box' (Row w4 G 50 #[.slice ha hn hc, .slice (some ⟨g1, 0, none⟩) n1 n1, .slice none 0 0]) := ⟨by rw [← hw4]; exact R13.setCell 1 _⟩
  have RA4 : Box' (Row w4 g1 73 A1) := ⟨by rw [← hw4]; exact r1.setOther _ _ hg1G⟩
  have B4 : Box' (Below w.heap.size w w4) := ⟨by rw [← hw4]; exact B3.out.setCell (p := ⟨G, 1, none⟩) hGN _⟩
  have HW4 := Box'.mk hw4
  have L2 := Box'.mk (C2.out w4 B4.out)
  clear hw4 R13 R03 B3 r1 b3 L1 R0 R1 B2 C2 hg1 hg1G
  go_upto_region 3 with (fail)
  rw [HW4.out]
  clear HW4 c1' f1'
  go_wp2_with fail
  refine L2.out.mono ?_
  rintro e w5 ⟨g2, rfl, hg2, r2, b5⟩
  have R05 := Box'.mk (R04.out.below b5 R04.out.lt)
  have R15 := R14.out.below b5 R14.out.lt
  have RA5 := Box'.mk (RA4.out.below b5 RA4.out.lt)
  have hg2N : w.heap.size ≤ g2 := Nat.le_trans B4.out.size hg2
  have hg2G : g2 ≠ G := fun e => by have := R14.out.lt; omega
  have hg1G : g1 ≠ G := row_ne2 RA4.out R14.out (by decide)
  have B5 := Box'.mk (B4.out.trans (b5.mono B4.out.size))
  have c1' : w5.cell? ⟨G, 2, none⟩ = some (.slice none 0 0) := R15.cell 2
  have f1' := R15.frozen 2
  obtain ⟨w6, hw6⟩ : ∃ w6, w5.setCell ⟨G, 2, none⟩ (.slice (some ⟨g2, 0, none⟩) n2 n2) = w6 := ⟨_, rfl⟩
  have R06 : Box' (Row w6 w.heap.size 50 #[.slice none 0 0, .slice none 0 0, .slice none 0 0]) := ⟨by rw [← hw6]; exact R05.out.setOther _ _ hG1⟩
  have R16 : Box' (Row w6 G 50 #[.slice ha hn hc, .slice (some ⟨g1, 0, none⟩) n1 n1, .slice (some ⟨g2, 0, none⟩) n2 n2]) := ⟨by rw [← hw6]; exact R15.setCell 2 _⟩
  have RA6 : Box' (Row w6 g1 73 A1) := ⟨by rw [← hw6]; exact RA5.out.setOther _ _ hg1G⟩
  have RB6 : Box' (Row w6 g2 73 A2) := ⟨by rw [← hw6]; exact r2.setOther _ _ hg2G⟩
  have B6 : Box' (Below w.heap.size w w6) := ⟨by rw [← hw6]; exact B5.out.setCell (p := ⟨G, 2, none⟩) hGN _⟩
  have HW6 := Box'.mk hw6
  clear hw6 R15 R05 B5 r2 b5 L2 RA5 RA4 R04 R14 B4 hg2
  go_upto_region 4 with (fail)
  rw [HW6.out]
  clear HW6 c1' f1'
  have d0 : w6.cell? ⟨G, 0, none⟩ = _ := R16.out.cell 0
  have d1 : w6.cell? ⟨G, 1, none⟩ = _ := R16.out.cell 1
  have d2 : w6.cell? ⟨G, 2, none⟩ = _ := R16.out.cell 2
  have r6 : Room w6 w.heap.size 50 3 := ⟨_, R06.out, rfl⟩
  have hg10 : g1 ≠ w.heap.size := row_ne2 RA6.out R06.out (by decide)
  have hg20 : g2 ≠ w.heap.size := row_ne2 RB6.out R06.out (by decide)
  have h1c : (#[Value.slice ha hn hc, .slice (some ⟨g1, 0, none⟩) n1 n1, .slice (some ⟨g2, 0, none⟩) n2 n2] : Array Value).all (·.oneCell') = true := by simp [Value.oneCell']
  have HR6 := Box'.mk r6
  clear r6
  go_wp2_with (first
    | (refine wpList_store_gen rfl 50 _ _ rfl _ rfl #[.slice ha hn hc, .slice (some ⟨g1, 0, none⟩) n1 n1, .slice (some ⟨g2, 0, none⟩) n2 n2] rfl _ _ HR6.out Try.size50 rfl h1c ?_; intro W0 hW0; have HW0 := Box'.mk hW0; clear hW0; have e0 : W0.cell? ⟨w.heap.size, 0, none⟩ = some (.slice ha hn hc) := (by rw [HW0.out]; exact (R06.out.setRow _).cell 0); have e1 : W0.cell? ⟨w.heap.size, 1, none⟩ = some (.slice (some ⟨g1, 0, none⟩) n1 n1) := (by rw [HW0.out]; exact (R06.out.setRow _).cell 1); have e2 : W0.cell? ⟨w.heap.size, 2, none⟩ = some (.slice (some ⟨g2, 0, none⟩) n2 n2) := (by rw [HW0.out]; exact (R06.out.setRow _).cell 2))
    | fail)
  try simp only [Exit.inBlock, Exit.then]
  have RW : Row W0 w.heap.size 50 #[.slice ha hn hc, .slice (some ⟨g1, 0, none⟩) n1 n1, .slice (some ⟨g2, 0, none⟩) n2 n2] := by rw [HW0.out]; exact R06.out.setRow _
  refine bodyPost_ret (results_row rfl _ _ rfl _ _ RW _ Try.underlying50 rfl 3 Try.size50 rfl) rfl ⟨g1, g2, rfl, hg1N, hg2N, ?_, ?_, ?_⟩
  · rw [HW0.out]; exact RA6.out.setRowOther _ _ hg10
  · rw [HW0.out]; exact RB6.out.setRowOther _ _ hg20
  · rw [HW0.out]; exact below_setRow B6.out (Nat.le_refl _) _
theorem fxS_chk : Gf.chkE fixS = 0 := by kernel_rfl
theorem fxD_chk : Gf.chkE fixD = 0 := by kernel_rfl
theorem fxS_len : fixS.length = 288 := by kernel_rfl
theorem fxD_len : fixD.length = 30 := by kernel_rfl
def Bts' (N : Nat) (w : World) (v : Value) (l : List Bt) : Prop :=
  ∃ a c, v = .slice a l.length c ∧ l.length ≤ c ∧ ∀ k, k < l.length → ∃ b o, a = some ⟨b, o, none⟩ ∧ b < N ∧
    w.cell? ⟨b, o + k * 2, none⟩ = some (.int .u64 ((l.getD k (0, 0)).1 : Int)) ∧ w.cell? ⟨b, o + k * 2 + 1, none⟩ = some (.int .i64 (l.getD k (0, 0)).2)
def WayOk (N : Nat) (w : World) (v : Value) (hd : List Bt) (l1 l2 : List Int) : Prop :=
  ∃ vh g1 g2, v = .agg #[vh, .slice (some ⟨g1, 0, none⟩) l1.length l1.length, .slice (some ⟨g2, 0, none⟩) l2.length l2.length] ∧ Bts' N w vh hd ∧ g1 < N ∧ g2 < N ∧ Row w g1 73 (agp (cds l1 l1.length)) ∧ Row w g2 73 (agp (cds l2 l2.length))
set_option maxRecDepth 100000 in
set_option maxHeartbeats 8000000 in
theorem fixedWay_is (w : World) : Calls Try.prog 21 #[] w fun e w' => ∃ u, e = .returned u ∧ WayOk w'.heap.size w' u [(3, 3)] fixS fixD ∧ Below w.heap.size w w' := by
  obtain ⟨w1, hw1⟩ : ∃ w1, w.alloc (.cells #[.slice none 0 0, .slice none 0 0, .slice none 0 0] 50) = w1 := ⟨_, rfl⟩
  have R1 : Box' (Row w1 w.heap.size 50 #[.slice none 0 0, .slice none 0 0, .slice none 0 0]) := ⟨by rw [← hw1]; exact Row.new _ _ _⟩
  have B1 : Box' (Below w.heap.size w w1) := ⟨by rw [← hw1]; exact (Below.refl _ _).alloc (Nat.le_refl _) _⟩
  have L1 := Box'.mk (fixed_any w1)
  have HW1 := Box'.mk hw1
  clear hw1
  go_enter Try.func21, Try.ntmps21
  go_upto_region 1 with (fail)
  rw [HW1.out]
  clear HW1
  go_wp2_with fail
  refine L1.out.mono ?_
  rintro e w2 ⟨g, c, h, rfl, hc, hg, sg, hh, sh, b2⟩
  have I1 : Ints w2.heap.size w2 (.slice (some ⟨g, 0, none⟩) 288 c) fixS := by have := sg.ints (c := c) (by rw [fxS_len]; exact hc); rw [fxS_len] at this; exact this
  have I2 : Ints w2.heap.size w2 (.slice (some ⟨h, 0, none⟩) 30 30) fixD := by have := sh.ints (c := 30) (by rw [fxD_len]; exact Nat.le_refl _); rw [fxD_len] at this; exact this
  obtain ⟨w3, hw3⟩ : ∃ w3, w2.alloc (.cells #[.int .u64 3, .int .i64 3] 73) = w3 := ⟨_, rfl⟩
  have b3 : Below w2.heap.size w2 w3 := by rw [← hw3]; exact (Below.refl _ _).alloc (Nat.le_refl _) _
  have H3 : Box' (Row w3 w2.heap.size 73 #[.int .u64 3, .int .i64 3]) := ⟨by rw [← hw3]; exact Row.new _ _ _⟩
  have R3 := Box'.mk ((R1.out.below b2 R1.out.lt).below b3 (R1.out.below b2 R1.out.lt).lt)
  have hB2 := B1.out.trans (b2.mono B1.out.size)
  have B3 := Box'.mk (hB2.trans (b3.mono hB2.size))
  have L2 := Box'.mk (newWay_is w3 (some ⟨w2.heap.size, 0, none⟩) 1 1 _ _ fixS fixD (by rw [fxS_len]; decide) (by rw [fxD_len]; decide) fxS_chk fxD_chk ((I1.below b3 (Nat.le_refl _)).up b3.size) ((I2.below b3 (Nat.le_refl _)).up b3.size))
  have HW3 := Box'.mk hw3
  clear hw3 I1 I2 sg sh b2 b3 hB2 B1 R1 L1
  go_upto_region 2 with (fail)
  go_wp2_with fail
  rw [HW3.out]
  clear HW3
  refine L2.out.mono ?_
  rintro e w4 ⟨g1, g2, rfl, hg1, hg2, r1, r2, b4⟩
  rw [fxS_len] at r1 ⊢
  rw [fxD_len] at r2 ⊢
  have R4 := Box'.mk (R3.out.below b4 R3.out.lt)
  have B4 := Box'.mk (B3.out.trans (b4.mono B3.out.size))
  have H4 := Box'.mk (H3.out.below b4 H3.out.lt)
  have RA := Box'.mk r1
  have RB := Box'.mk r2
  have HR6 : Box' (Room w4 w.heap.size 50 3) := ⟨⟨_, R4.out, rfl⟩⟩
  have h1c : (#[Value.slice (some ⟨w2.heap.size, 0, none⟩) 1 1, .slice (some ⟨g1, 0, none⟩) 288 288, .slice (some ⟨g2, 0, none⟩) 30 30] : Array Value).all (·.oneCell') = true := by simp [Value.oneCell']
  clear L2 r1 r2 b4 R3 B3 H3
  go_wp2_with (first
    | (refine wpList_store_gen rfl 50 _ _ rfl _ rfl #[.slice (some ⟨w2.heap.size, 0, none⟩) 1 1, .slice (some ⟨g1, 0, none⟩) 288 288, .slice (some ⟨g2, 0, none⟩) 30 30] rfl _ _ HR6.out Try.size50 rfl h1c ?_; intro W0 hW0; have HW0 := Box'.mk hW0; clear hW0)
    | fail)
  try simp only [Exit.inBlock, Exit.then]
  have RW : Row W0 w.heap.size 50 #[.slice (some ⟨w2.heap.size, 0, none⟩) 1 1, .slice (some ⟨g1, 0, none⟩) 288 288, .slice (some ⟨g2, 0, none⟩) 30 30] := by rw [HW0.out]; exact R4.out.setRow _
  have RA0 : Row W0 g1 73 (agp (cds fixS 288)) := by rw [HW0.out]; exact RA.out.setRowOther _ _ (row_ne2 RA.out R4.out (by decide))
  have RB0 : Row W0 g2 73 (agp (cds fixD 30)) := by rw [HW0.out]; exact RB.out.setRowOther _ _ (row_ne2 RB.out R4.out (by decide))
  have RH0 : Row W0 w2.heap.size 73 #[.int .u64 3, .int .i64 3] := by rw [HW0.out]; exact H4.out.setRowOther _ _ (row_ne2 H4.out R4.out (by decide))
  refine bodyPost_ret (results_row rfl _ _ rfl _ _ RW _ Try.underlying50 rfl 3 Try.size50 rfl) rfl ⟨_, rfl, ⟨.slice (some ⟨w2.heap.size, 0, none⟩) 1 1, g1, g2, by rw [fxS_len, fxD_len], ⟨some ⟨w2.heap.size, 0, none⟩, 1, rfl, Nat.le_refl _, fun k hk => ?_⟩, RA0.lt, RB0.lt, by rw [fxS_len]; exact RA0, by rw [fxD_len]; exact RB0⟩, ?_⟩
  · obtain rfl : k = 0 := by simpa using hk
    exact ⟨w2.heap.size, 0, rfl, RH0.lt, RH0.cell 0, RH0.cell 1⟩
  · rw [HW0.out]; exact below_setRow B4.out (Nat.le_refl _) _
def slF (T : List Tok) : List Int := lenF (cntF T).1 15
def dlF (T : List Tok) : List Int := lenF (cntF T).2 15
def snF (T : List Tok) : Nat := trmF (slF T) 257 286
def dnF (T : List Tok) : Nat := trmF (dlF T) 1 30
def oS (T : List Tok) : List Int := (slF T).take (snF T)
def oD (T : List Tok) : List Int := (dlF T).take (dnF T)
def rowO (T : List Tok) : List Int := oS T ++ oD T
def hdO (T : List Tok) : List Bt := [(5, 3), (snF T - 257, 5), (dnF T - 1, 5)] ++ splF (wdF (rowO T))
theorem cntF_len (T : List Tok) : (cntF T).1.length = 286 ∧ (cntF T).2.length = 30 := by
  have h := cntS_len T
  exact ⟨(inc_len _ _).trans h.1, h.2⟩
theorem cntF_bd {T : List Tok} (hT : T.length ≤ 65536) : (∀ k, 0 ≤ (cntF T).1.getD k 0 ∧ (cntF T).1.getD k 0 ≤ 70000) ∧ (∀ k, 0 ≤ (cntF T).2.getD k 0 ∧ (cntF T).2.getD k 0 ≤ 70000) := by
  have h := cntS_bd T
  refine ⟨fun k => ?_, fun k => ?_⟩
  · have := inc_bd h.1 256 k
    exact ⟨this.1, by have := this.2; show (inc (cntS T).1 256).getD k 0 ≤ _; omega⟩
  · have := h.2 k
    exact ⟨this.1, by have := this.2; show (cntS T).2.getD k 0 ≤ _; omega⟩
theorem chk_take {l : List Int} (h : Gf.chkE l = 0) (k : Nat) : Gf.chkE (l.take k) = 0 := by
  obtain ⟨h1, h2, h3⟩ := good_of h
  have a1 : (l.take k).all Gf.lenB = true := by
    rw [List.all_eq_true] at h1 ⊢
    exact fun x hx => h1 x (List.mem_of_mem_take hx)
  have a2 := Gf.wgt_take_le l k
  have a3 : (l.take k).length ≤ l.length := by rw [List.length_take]; omega
  rcases Gf.chkE_cases (l.take k) with ⟨q, _⟩ | ⟨_, _, _, q⟩ | ⟨_, q | q⟩
  · exact q
  · omega
  · rw [a1] at q; cases q
  · omega
structure OwnLens (T : List Tok) : Prop where
  sl : (slF T).length = 286
  dl : (dlF T).length = 30
  sb : ∀ k, 0 ≤ (slF T).getD k 0 ∧ (slF T).getD k 0 ≤ 15
  db : ∀ k, 0 ≤ (dlF T).getD k 0 ∧ (dlF T).getD k 0 ≤ 15
  sc : Gf.chkE (slF T) = 0
  dc : Gf.chkE (dlF T) = 0
  sn : 257 ≤ snF T ∧ snF T ≤ 286
  dn : 1 ≤ dnF T ∧ dnF T ≤ 30
  sol : (oS T).length = snF T
  dol : (oD T).length = dnF T
  soc : Gf.chkE (oS T) = 0
  doc : Gf.chkE (oD T) = 0
theorem ownLens {T : List Tok} (hT : T.length ≤ 65536) : OwnLens T := by
  have hl := cntF_len T
  have hb := cntF_bd hT
  obtain ⟨_, _, s3, s4, s5, _⟩ := lens_good (cs := (cntF T).1) (m := 15) (by omega) (by omega) (by omega) (by rw [hl.1]; decide) hb.1
  obtain ⟨_, _, d3, d4, d5, _⟩ := lens_good (cs := (cntF T).2) (m := 15) (by omega) (by omega) (by omega) (by rw [hl.2]; decide) hb.2
  have sn := trm_ge (slF T) 257 286 (by omega)
  have dn := trm_ge (dlF T) 1 30 (by omega)
  have sl : (slF T).length = 286 := s4.trans hl.1
  have dl : (dlF T).length = 30 := d4.trans hl.2
  have sn1 : 257 ≤ snF T ∧ snF T ≤ 286 := ⟨sn.1, sn.2.1⟩
  have dn1 : 1 ≤ dnF T ∧ dnF T ≤ 30 := ⟨dn.1, dn.2.1⟩
  exact ⟨sl, dl, s5, d5, s3, d3, sn1, dn1, by unfold oS; rw [List.length_take]; omega, by unfold oD; rw [List.length_take]; omega, chk_take s3 _, chk_take d3 _⟩
theorem take_bd {l : List Int} (h : ∀ k, 0 ≤ l.getD k 0 ∧ l.getD k 0 ≤ 15) (n : Nat) : ∀ k, 0 ≤ (l.take n).getD k 0 ∧ (l.take n).getD k 0 ≤ 15 := by
  intro k
  rw [List.getD_eq_getElem?_getD, List.getElem?_take]
  split
  · rw [← List.getD_eq_getElem?_getD]; exact h k
  · decide
theorem app_bd {l m : List Int} (h : ∀ k, 0 ≤ l.getD k 0 ∧ l.getD k 0 ≤ 15) (h' : ∀ k, 0 ≤ m.getD k 0 ∧ m.getD k 0 ≤ 15) : ∀ k, 0 ≤ (l ++ m).getD k 0 ∧ (l ++ m).getD k 0 ≤ 15 := by
  intro k
  rw [List.getD_eq_getElem?_getD, List.getElem?_append]
  split
  · rw [← List.getD_eq_getElem?_getD]; exact h k
  · rw [← List.getD_eq_getElem?_getD]; exact h' _
theorem rowO_bd {T : List Tok} (h : OwnLens T) : ∀ k, 0 ≤ (rowO T).getD k 0 ∧ (rowO T).getD k 0 ≤ 15 := app_bd (take_bd h.sb _) (take_bd h.db _)
theorem rowO_len {T : List Tok} (h : OwnLens T) : (rowO T).length = snF T + dnF T := by unfold rowO; rw [List.length_append, h.sol, h.dol]
theorem wdG_bd (l : List Int) (hl : ∀ k, 0 ≤ l.getD k 0 ∧ l.getD k 0 ≤ 15) : ∀ f a, (wdG l f a).length ≤ f ∧ ∀ t ∈ wdG l f a, 0 ≤ t.1 ∧ t.1 ≤ 18 := by
  intro f
  induction f with
  | zero => intro a; exact ⟨Nat.le_refl _, fun t ht => by simp [wdG] at ht⟩
  | succ f ih =>
    intro a
    by_cases ha : a < l.length
    · have hb := nw_bd l a ha hl
      have hi := ih (a + (nwF l a).2)
      rw [wdG, if_pos ha]
      refine ⟨by rw [List.length_cons]; omega, fun t ht => ?_⟩
      rcases List.mem_cons.mp ht with rfl | ht
      · exact ⟨hb.2.2.1, hb.2.2.2.1⟩
      · exact hi.2 t ht
    · rw [wdG, if_neg ha]; exact ⟨Nat.zero_le _, fun t ht => by simp at ht⟩
theorem wdF_bd (l : List Int) (hl : ∀ k, 0 ≤ l.getD k 0 ∧ l.getD k 0 ≤ 15) : (wdF l).length ≤ l.length ∧ ∀ k, 0 ≤ ((wdF l).getD k (0, 0, 0)).1 ∧ ((wdF l).getD k (0, 0, 0)).1 < 19 := by
  have h := wdG_bd l hl l.length 0
  refine ⟨h.1, fun k => ?_⟩
  by_cases hk : k < (wdF l).length
  · have := h.2 ((wdF l).getD k (0, 0, 0)) (by rw [List.getD_eq_getElem?_getD, List.getElem?_eq_getElem hk]; exact List.getElem_mem hk)
    omega
  · rw [List.getD_eq_getElem?_getD, List.getElem?_eq_none (by omega)]; decide
theorem Toks.up {N M : Nat} {w : World} {v : Value} {l : List Tok} (h : Toks N w v l) (hN : N ≤ M) : Toks M w v l := by
  obtain ⟨a, c, h1, h2, h4⟩ := h
  refine ⟨a, c, h1, h2, ?_⟩
  rcases h4 with h4 | ⟨b, o, h5, h6, h7⟩
  · exact .inl h4
  · exact .inr ⟨b, o, h5, Nat.lt_of_lt_of_le h6 hN, h7⟩
theorem OwnP.three (w : World) (x x' x'' : Nat) (y y' y'' : Int) : OwnP w.heap.size (w.alloc (.cells #[.int .u64 (x : Int), .int .i64 y, .int .u64 (x' : Int), .int .i64 y', .int .u64 (x'' : Int), .int .i64 y''] 73)) (.slice (some ⟨w.heap.size, 0, none⟩) 3 3) [(x, y), (x', y'), (x'', y'')] :=
  ⟨rfl, .inr ⟨w.heap.size, 3, _, rfl, Nat.le_refl _, Row.new _ _ _, Nat.le_refl _, by unfold maxLen; decide, rfl, rfl⟩⟩
theorem cell_take (l : List Int) (n j : Nat) (u : Value) (hn : n ≤ l.length) (h : ((l.take n).map (Value.int .i64))[j]? = some u) : j < n ∧ some (Value.int .i64 (l.getD j 0)) = some u := by
  rw [List.getElem?_map, List.getElem?_take] at h
  split at h
  · rename_i hj
    refine ⟨hj, ?_⟩
    rw [List.getElem?_eq_getElem (show j < l.length by omega)] at h
    rw [List.getD_eq_getElem?_getD, List.getElem?_eq_getElem (show j < l.length by omega)]
    exact h
  · simp at h
theorem below_grownI {N : Nat} {w0 w w' : World} {tk : Value} {T : List Int} (h : Below N w0 w) (hN : N ≤ w0.heap.size) (ho : OwnI N w tk T) (gr : w.grownBy w' tk.ownBlock) : Below N w0 w' :=
  ⟨gr.os.trans h.os, gr.tape.trans h.tape, gr.output.trans h.output, Nat.le_trans h.size gr.size, fun k hk => (gr.block k (Nat.lt_of_lt_of_le (Nat.lt_of_lt_of_le hk hN) h.size) (fun e => by have := (own_cells ho e.symm).1; omega)).trans (h.block k hk)⟩
theorem own_pi {N : Nat} {w w' : World} {v tk : Value} {d : List Bt} {T : List Int} (h : OwnP N w v d) (ho : OwnI N w tk T) (gr : w.grownBy w' tk.ownBlock) : OwnP N w' v d :=
  h.keep fun q c _ hr => hr.same (gr.block q hr.lt (fun e => own_row_ne ho e.symm hr (by decide)))
theorem OwnP.cells {N : Nat} {w : World} {v : Value} {d : List Bt} (h : OwnP N w v d) (hd : 0 < d.length) : ∃ g cap, v = .slice (some ⟨g, 0, none⟩) d.length cap ∧ g < w.heap.size ∧ d.length ≤ cap ∧ ∀ j u, (pcs d)[j]? = some u → w.cell? ((⟨g, 0, none⟩ : Addr).add j) = some u := by
  rcases h.2 with ⟨e, e0⟩ | ⟨g, cap, cur, e1, e2, e3, e4, e5, e6, e7⟩
  · omega
  · have r : Row w g 73 cur := e3
    refine ⟨g, cap, e1, r.lt, e4, fun j u hu => ?_⟩
    have hj : j < (pcs d).length := by
      rw [List.getElem?_eq_some_iff] at hu
      exact hu.1
    rw [Addr.add_mid, Nat.zero_add, r.cell, ← hu, ← e7, List.getElem?_take_of_lt (by rw [pcs_len] at hj; omega)]
    simp
theorem OwnP.bts {N : Nat} {w : World} {v : Value} {d : List Bt} (h : OwnP N w v d) (hd : 0 < d.length) : Bts' w.heap.size w v d := by
  obtain ⟨g, cap, e1, e2, e3, e4⟩ := h.cells hd
  refine ⟨_, cap, e1, e3, fun k hk => ⟨g, 0, rfl, e2, ?_⟩⟩
  have hget : ∀ (l : List Bt) (k j : Nat), k < l.length → j < 2 → (pcs l)[k * 2 + j]? = (pc (l.getD k (0, 0)))[j]? := by
    intro l
    induction l with
    | nil => intro k j hk; simp at hk
    | cons x r ih =>
      intro k j hk hj
      have e : pcs (x :: r) = pc x ++ pcs r := by simp [pcs]
      have hx : (pc x).length = 2 := rfl
      rw [e]
      cases k with
      | zero => rw [List.getElem?_append_left (by omega), Nat.zero_mul, Nat.zero_add]; rfl
      | succ k =>
        rw [List.getElem?_append_right (by omega), hx, show (k + 1) * 2 + j - 2 = k * 2 + j by omega, ih k j (by simpa using hk) hj]
        rfl
  have q0 := e4 (k * 2 + 0) _ ((hget d k 0 hk (by omega)).trans rfl)
  have q1 := e4 (k * 2 + 1) _ ((hget d k 1 hk (by omega)).trans rfl)
  rw [Addr.add_mid] at q0 q1
  exact ⟨q0, q1⟩
theorem ownI_ints {N : Nat} {w : World} {v : Value} {d : List Int} (h : OwnI N w v d) (hd : 0 < d.length) : Ints w.heap.size w v d := by
  obtain ⟨g, cap, cur, e1, e2, e3, e4, e5, e6, e7⟩ := (h.2.resolve_left (fun q => by have := q.2; omega))
  obtain ⟨g', cap', e1', _, e3', hs⟩ := h.seg hd
  exact e1'.symm ▸ hs.ints e3'
theorem getD_take {l : List Int} {n k : Nat} (h : k < n) : (l.take n).getD k 0 = l.getD k 0 := by
  rw [List.getD_eq_getElem?_getD, List.getElem?_take, if_pos h, ← List.getD_eq_getElem?_getD]
set_option maxRecDepth 100000 in
set_option maxHeartbeats 8000000 in
theorem ownWay_is (w : World) (vT : Value) (T : List Tok) (hT : T.length ≤ 65536) (hok : ∀ t ∈ T, TokOk t) (h : Toks w.heap.size w vT T) :
    Calls Try.prog 22 #[vT] w fun e w' => ∃ u, e = .returned u ∧ WayOk w'.heap.size w' u (hdO T) (oS T) (oD T) ∧ Below w.heap.size w w' := by
  have OL := Box'.mk (ownLens hT)
  obtain ⟨w1, hw1⟩ : ∃ w1, w.alloc (.cells #[.slice none 0 0, .slice none 0 0, .slice none 0 0] 50) = w1 := ⟨_, rfl⟩
  have R1 : Box' (Row w1 w.heap.size 50 #[.slice none 0 0, .slice none 0 0, .slice none 0 0]) := ⟨by rw [← hw1]; exact Row.new _ _ _⟩
  have b1 : Below w.heap.size w w1 := by rw [← hw1]; exact (Below.refl _ _).alloc (Nat.le_refl _) _
  have B1 := Box'.mk b1
  have L1 := Box'.mk (counts_is w1 vT T hT hok ((h.below b1 (Nat.le_refl _)).up b1.size))
  have HW1 := Box'.mk hw1
  have CL := Box'.mk (cntF_len T)
  have CB := Box'.mk (cntF_bd hT)
  clear hw1 b1 hok
  obtain ⟨ta, tcap, rfl, htc, _⟩ := h
  go_enter Try.func22, Try.ntmps22
  go_upto_region 1 with (fail)
  rw [HW1.out]
  clear HW1
  go_wp2_with fail
  refine L1.out.mono ?_
  rintro e w2 ⟨gS, gD, rfl, hgS, hgD, hne, sS, sD, b2⟩
  have R2 := Box'.mk (R1.out.below b2 R1.out.lt)
  have B2 := Box'.mk (B1.out.trans (b2.mono B1.out.size))
  have L2 : Box' (Calls Try.prog 36 #[.slice (some ⟨gS, 0, none⟩) 286 286, .int .i64 15] w2 fun e w' => ∃ b o, e = .returned (.tuple #[.slice (some ⟨b, o, none⟩) 286 286, .int .i64 0]) ∧ b < w'.heap.size ∧ (∀ k, k < 286 → w'.cell? ⟨b, o + k, none⟩ = some (.int .i64 ((slF T).getD k 0))) ∧ Below w2.heap.size w2 w') := ⟨by
    have hl := CL.out.1
    have q := lengths_is w2 (.slice (some ⟨gS, 0, none⟩) 286 286) (cntF T).1 15 (by omega) (by omega) (by omega) (by omega) (by rw [hl]; decide) CB.out.1 (by have := sS.ints (c := 286) (by omega); rw [hl] at this; exact this)
    rw [hl] at q
    exact q⟩
  have SD := Box'.mk sD
  clear L1 R1 B1 b2 sS sD
  go_upto_region 2 with (fail)
  go_wp2_with fail
  refine L2.out.mono ?_
  rintro e w3 ⟨p1, o1, rfl, hp1, hc1, b3⟩
  have R3 := Box'.mk (R2.out.below b3 R2.out.lt)
  have B3 := Box'.mk (B2.out.trans (b3.mono B2.out.size))
  have sD3 := SD.out.below b3
  have HC1 := Box'.mk hc1
  have L3 : Box' (Calls Try.prog 36 #[.slice (some ⟨gD, 0, none⟩) 30 30, .int .i64 15] w3 fun e w' => ∃ b o, e = .returned (.tuple #[.slice (some ⟨b, o, none⟩) 30 30, .int .i64 0]) ∧ b < w'.heap.size ∧ (∀ k, k < 30 → w'.cell? ⟨b, o + k, none⟩ = some (.int .i64 ((dlF T).getD k 0))) ∧ Below w3.heap.size w3 w') := ⟨by
    have hl := CL.out.2
    have q := lengths_is w3 (.slice (some ⟨gD, 0, none⟩) 30 30) (cntF T).2 15 (by omega) (by omega) (by omega) (by omega) (by rw [hl]; decide) CB.out.2 (by have := sD3.ints (c := 30) (by omega); rw [hl] at this; exact this)
    rw [hl] at q
    exact q⟩
  clear L2 R2 B2 b3 SD hc1 sD3
  go_upto_region 3 with (fail)
  go_wp2_with fail
  refine L3.out.mono ?_
  rintro e w4 ⟨p2, o2, rfl, hp2, hc2, b4⟩
  have R4 := Box'.mk (R3.out.below b4 R3.out.lt)
  have B4 := Box'.mk (B3.out.trans (b4.mono B3.out.size))
  have hp14 : p1 < w4.heap.size := Nat.lt_of_lt_of_le hp1 b4.size
  have HC14 : Box' (∀ k, k < 286 → w4.cell? ⟨p1, o1 + k, none⟩ = some (.int .i64 ((slF T).getD k 0))) := ⟨fun k hk => (b4.cell (p := ⟨p1, o1 + k, none⟩) hp1).trans (HC1.out k hk)⟩
  have HC2 := Box'.mk hc2
  have L4 := Box'.mk (trimmed_any w4 p1 o1 286 286 (slF T) 257 OL.out.sl (Nat.le_refl _) (by decide) (by decide) (by decide) HC14.out)
  rw [OL.out.sl, show trmF (slF T) 257 286 = snF T from rfl] at L4
  clear L3 R3 B3 b4 HC1 hc2 hp1
  go_upto_region 4 with (fail)
  go_wp2_with fail
  refine L4.out.mono ?_
  rintro e w5 ⟨rfl, b5⟩
  have R5 := Box'.mk (R4.out.below b5 R4.out.lt)
  have B5 := Box'.mk (B4.out.trans (b5.mono B4.out.size))
  have hp15 : p1 < w5.heap.size := Nat.lt_of_lt_of_le hp14 b5.size
  have hp25 : p2 < w5.heap.size := Nat.lt_of_lt_of_le hp2 b5.size
  have HC15 : Box' (∀ k, k < 286 → w5.cell? ⟨p1, o1 + k, none⟩ = some (.int .i64 ((slF T).getD k 0))) := ⟨fun k hk => (b5.cell (p := ⟨p1, o1 + k, none⟩) hp14).trans (HC14.out k hk)⟩
  have HC25 : Box' (∀ k, k < 30 → w5.cell? ⟨p2, o2 + k, none⟩ = some (.int .i64 ((dlF T).getD k 0))) := ⟨fun k hk => (b5.cell (p := ⟨p2, o2 + k, none⟩) hp2).trans (HC2.out k hk)⟩
  have L5 := Box'.mk (trimmed_any w5 p2 o2 30 30 (dlF T) 1 OL.out.dl (Nat.le_refl _) (by decide) (by decide) (by decide) HC25.out)
  rw [OL.out.dl, show trmF (dlF T) 1 30 = dnF T from rfl] at L5
  clear L4 R4 B4 b5 HC14 HC2 hp14 hp2
  go_wp2_with fail
  refine L5.out.mono ?_
  rintro e w6 ⟨rfl, b6⟩
  have R6 := Box'.mk (R5.out.below b6 R5.out.lt)
  have B6 := Box'.mk (B5.out.trans (b6.mono B5.out.size))
  have hp16 : p1 < w6.heap.size := Nat.lt_of_lt_of_le hp15 b6.size
  have hp26 : p2 < w6.heap.size := Nat.lt_of_lt_of_le hp25 b6.size
  have HC16 : Box' (∀ k, k < 286 → w6.cell? ⟨p1, o1 + k, none⟩ = some (.int .i64 ((slF T).getD k 0))) := ⟨fun k hk => (b6.cell (p := ⟨p1, o1 + k, none⟩) hp15).trans (HC15.out k hk)⟩
  have HC26 : Box' (∀ k, k < 30 → w6.cell? ⟨p2, o2 + k, none⟩ = some (.int .i64 ((dlF T).getD k 0))) := ⟨fun k hk => (b6.cell (p := ⟨p2, o2 + k, none⟩) hp25).trans (HC25.out k hk)⟩
  clear L5 R5 B5 b6 HC15 HC25 hp15 hp25
  have hs1 := OL.out.sn
  have hs2 := OL.out.dn
  go_upto_region 5 with (fail)
  generalize hsn : snF T = sn at *
  generalize hdn : dnF T = dn at *
  have HSN := Box'.mk hsn
  have HDN := Box'.mk hdn
  clear hsn hdn
  have j1 : (257 : Int) ≤ (sn : Int) := by omega
  have j2 : (sn : Int) ≤ 286 := by omega
  have j3 : (1 : Int) ≤ (dn : Int) := by omega
  have j4 : (dn : Int) ≤ 30 := by omega
  obtain ⟨N6, hN6⟩ : ∃ N6, w6.heap.size = N6 := ⟨_, rfl⟩
  have H6 := Box'.mk hN6
  obtain ⟨w7, hw7⟩ : ∃ w7, w6.alloc (.cells #[.int .u64 5, .int .i64 3, .int .u64 ((sn : Int) - 257), .int .i64 5, .int .u64 ((dn : Int) - 1), .int .i64 5] 73) = w7 := ⟨_, rfl⟩
  have B7 : Box' (Below N6 w6 w7) := ⟨by rw [← hw7, ← hN6]; exact (Below.refl _ _).alloc (Nat.le_refl _) _⟩
  have O7 : Box' (OwnP N6 w7 (.slice (some ⟨N6, 0, none⟩) 3 3) [(5, 3), (sn - 257, 5), (dn - 1, 5)]) := ⟨by
    have q := OwnP.three w6 5 (sn - 257) (dn - 1) 3 5 5
    rw [show ((sn - 257 : Nat) : Int) = (sn : Int) - 257 by omega, show ((dn - 1 : Nat) : Int) = (dn : Int) - 1 by omega] at q
    rw [← hN6, ← hw7]
    exact q⟩
  have hN67 : N6 ≤ w7.heap.size := by rw [← hw7, ← hN6]; simp
  have HCS : Box' (∀ wq, Below N6 w6 wq → ∀ j u, ((oS T).map (Value.int .i64))[j]? = some u → wq.cell? ((⟨p1, o1, none⟩ : Addr).add j) = some u) := ⟨fun wq hb j u hu => by
    have hl := OL.out.sl
    have e := cell_take (slF T) sn j u (by omega) (by rw [← HSN.out]; exact hu)
    rw [Addr.add_mid, hb.cell (p := ⟨p1, o1 + j, none⟩) (by rw [← hN6]; exact hp16), HC16.out j (by omega), e.2]⟩
  have HCD : Box' (∀ wq, Below N6 w6 wq → ∀ j u, ((oD T).map (Value.int .i64))[j]? = some u → wq.cell? ((⟨p2, o2, none⟩ : Addr).add j) = some u) := ⟨fun wq hb j u hu => by
    have hl := OL.out.dl
    have e := cell_take (dlF T) dn j u (by omega) (by rw [← HDN.out]; exact hu)
    rw [Addr.add_mid, hb.cell (p := ⟨p2, o2 + j, none⟩) (by rw [← hN6]; exact hp26), HC26.out j (by omega), e.2]⟩
  have HW7 := Box'.mk hw7
  clear hw7 hN6
  go_upto_region 6 with (fail)
  rw [HW7.out, H6.out]
  clear HW7
  obtain ⟨w8, hw8⟩ : ∃ w8, w7.alloc (.cells #[] 3) = w8 := ⟨_, rfl⟩
  have b8 : Below w7.heap.size w7 w8 := by rw [← hw8]; exact (Below.refl _ _).alloc (Nat.le_refl _) _
  have I8 : Box' (OwnI N6 w8 (.slice (some ⟨w7.heap.size, 0, none⟩) 0 0) []) := ⟨by rw [← hw8]; exact ⟨rfl, .inr ⟨w7.heap.size, 0, _, rfl, hN67, Row.new _ _ _, Nat.le_refl _, by unfold maxLen; decide, rfl, rfl⟩⟩⟩
  have O8 := Box'.mk (O7.out.below b8)
  have B8 := Box'.mk (B7.out.trans (b8.mono hN67))
  have N8 := Box'.mk (Nat.le_trans hN67 b8.size)
  have HW8 := Box'.mk hw8
  have C8 := Box'.mk (HCS.out w8 B8.out)
  have E1 : Box' ((oS T).length = sn) := ⟨by rw [OL.out.sol]; exact HSN.out⟩
  have E2 : Box' ((oD T).length = dn) := ⟨by rw [OL.out.dol]; exact HDN.out⟩
  have M1 : Box' (([] : List Int).length + (oS T).length ≤ 17592186044416) := ⟨by rw [E1.out]; simp; omega⟩
  have M2 : Box' (([] ++ oS T).length + (oD T).length ≤ 17592186044416) := ⟨by rw [List.nil_append, E1.out, E2.out]; omega⟩
  clear hw8 b8
  go_upto_region 7 with (first
    | (rw [HW8.out]; refine wpList_plain rfl fun K hK => wp_app_ints (.tmp 42) (.tmp 43) rfl N6 N8.out _ _ rfl I8.out _ _ _ (oS T) rfl E1.out C8.out M1.out fun v9 w9 i9 gr9 => hK _ _ ?_; have I9 := Box'.mk i9; have B9 := Box'.mk (below_grownI B8.out (Nat.le_of_eq H6.out.symm) I8.out gr9); have O9 := Box'.mk (own_pi O8.out I8.out gr9); have N9 := Box'.mk (Nat.le_trans N8.out gr9.size); have C9 := Box'.mk (HCD.out w9 B9.out); clear i9 gr9)
    | (refine wpList_plain rfl fun K hK => wp_app_ints (.tmp 44) (.tmp 45) rfl N6 N9.out _ _ rfl I9.out _ _ _ (oD T) rfl E2.out C9.out M2.out fun v10 w10 i10 gr10 => hK _ _ ?_; have I10 := Box'.mk i10; have B10 := Box'.mk (below_grownI B9.out (Nat.le_of_eq H6.out.symm) I9.out gr10); have O10 := Box'.mk (own_pi O9.out I9.out gr10); have N10 := Box'.mk (Nat.le_trans N9.out gr10.size); clear i10 gr10)
    | fail)
  rw [List.nil_append] at I10
  have RB := Box'.mk (rowO_bd OL.out)
  have RL := Box'.mk (rowO_len OL.out)
  have hrl : 0 < (rowO T).length ∧ (rowO T).length ≤ 316 := by rw [RL.out]; have := OL.out.sn; have := OL.out.dn; omega
  have WB := Box'.mk (wdF_bd (rowO T) RB.out)
  have hI10 : Ints w10.heap.size w10 v10 (rowO T) := ownI_ints I10.out hrl.1
  have L7 := Box'.mk (words_is w10 v10 (rowO T) (by omega) RB.out hI10)
  have HWL := Box'.mk (Nat.le_trans WB.out.1 hrl.2)
  obtain ⟨ra, rc, hv10⟩ := own_slice I10.out
  rw [hv10] at L7 ⊢
  have R10 := Box'.mk (R6.out.below B10.out (by rw [← H6.out]; exact R6.out.lt))
  have HD : Box' ([(5, 3), (sn - 257, 5), (dn - 1, 5)] ++ splF (wdF (rowO T)) = hdO T) := ⟨by unfold hdO; rw [HSN.out, HDN.out]⟩
  have HP : Box' (0 < (splF (wdF (rowO T))).length ∧ (splF (wdF (rowO T))).length ≤ 700) := ⟨by
    have h1 := spM_len (wdF (rowO T)) (wdF (rowO T)).length
    rw [spM_all] at h1
    have := HWL.out
    exact ⟨by unfold splF; simp, by omega⟩⟩
  have HQ : Box' (∀ wq uW, OwnW w10.heap.size wq uW (wdF (rowO T)) → Calls Try.prog 38 #[uW] wq fun e w' => ∃ u, e = .returned u ∧ OwnP wq.heap.size w' u (splF (wdF (rowO T))) ∧ Below wq.heap.size wq w') := ⟨fun wq uW oW => spelled_is wq uW (wdF (rowO T)) (by have := HWL.out; omega) WB.out.2 oW.wds⟩
  generalize (oS T ++ oD T).length = rn at *
  generalize splF (wdF (rowO T)) = SP at *
  clear WB HWL
  generalize wdF (rowO T) = WD at *
  clear hI10 RL hrl I9 O9 B9 N9 C9 C8 I8 O8 B8 N8 O7 B7 hv10 I10 M1 M2 RB
  go_wp2_with fail
  refine L7.out.mono ?_
  rintro e w11 ⟨uW, rfl, oW, b11⟩
  have O11 := Box'.mk (O10.out.below b11)
  have B11 := Box'.mk (B10.out.trans (b11.mono N10.out))
  have N11 := Box'.mk (Nat.le_trans N10.out b11.size)
  have L8 := Box'.mk (HQ.out w11 uW oW)
  obtain ⟨wa, wcp, rfl⟩ := oW.slice
  generalize WD.length = wn at *
  clear L7 O10 B10 N10 oW b11 HQ
  go_wp2_with fail
  refine L8.out.mono ?_
  rintro e w12 ⟨uP, rfl, oP, b12⟩
  have O12 := Box'.mk (O11.out.below b12)
  have B12 := Box'.mk (B11.out.trans (b12.mono N11.out))
  have N12 := Box'.mk (Nat.le_trans N11.out b12.size)
  have hsp := HP.out
  obtain ⟨gP, capP, rfl, hgP, hcP, hcells⟩ := oP.cells hsp.1
  have CP := Box'.mk hcells
  have HSP := Box'.mk hsp.2
  have M12 : Box' (([(5, 3), (sn - 257, 5), (dn - 1, 5)] : List Bt).length + SP.length ≤ 1000000) := ⟨by have := HSP.out; show 3 + _ ≤ _; omega⟩
  obtain ⟨pn, hpn⟩ : ∃ pn, SP.length = pn := ⟨_, rfl⟩
  have HPN := Box'.mk hpn
  rw [hpn]
  clear hpn
  clear L8 O11 B11 N11 oP b12 hcells hsp
  go_wp2_with (first
    | (refine wpList_appP rfl (.tmp 47) (.tmp 50) rfl N6 N12.out _ _ rfl O12.out _ _ _ SP rfl HPN.out CP.out M12.out ?_; intro v13 w13 o13 gr13 ow13; rw [HD.out] at o13; have O13 := Box'.mk o13; have B13 := Box'.mk (below_grownP B12.out (Nat.le_of_eq H6.out.symm) O12.out gr13); have N13 := Box'.mk (Nat.le_trans N12.out gr13.size); clear o13 gr13 ow13)
    | fail)
  obtain ⟨va, vcp, hv13⟩ := O13.out.slice
  have hhd : 0 < (hdO T).length := by unfold hdO; simp
  have HHD := Box'.mk hhd
  have R13 := Box'.mk (R6.out.below B13.out (by rw [← H6.out]; exact R6.out.lt))
  have I1 : Ints w13.heap.size w13 (.slice (some ⟨p1, o1, none⟩) sn 286) (oS T) := ⟨some ⟨p1, o1, none⟩, 286, by rw [E1.out], by rw [E1.out]; omega, .inr ⟨p1, o1, rfl, Nat.lt_of_lt_of_le hp16 B13.out.size, fun k hk => by
    rw [E1.out] at hk
    rw [B13.out.cell (p := ⟨p1, o1 + k, none⟩) (by rw [← H6.out]; exact hp16), HC16.out k (by omega)]
    unfold oS
    rw [HSN.out, getD_take hk]⟩⟩
  have I2 : Ints w13.heap.size w13 (.slice (some ⟨p2, o2, none⟩) dn 30) (oD T) := ⟨some ⟨p2, o2, none⟩, 30, by rw [E2.out], by rw [E2.out]; omega, .inr ⟨p2, o2, rfl, Nat.lt_of_lt_of_le hp26 B13.out.size, fun k hk => by
    rw [E2.out] at hk
    rw [B13.out.cell (p := ⟨p2, o2 + k, none⟩) (by rw [← H6.out]; exact hp26), HC26.out k (by omega)]
    unfold oD
    rw [HDN.out, getD_take hk]⟩⟩
  have L9 := Box'.mk (newWay_is w13 va (hdO T).length vcp _ _ (oS T) (oD T) (by rw [E1.out]; omega) (by rw [E2.out]; omega) OL.out.soc OL.out.doc I1 I2)
  rw [← hv13] at L9
  have hwN : w.heap.size ≤ N6 := by rw [← H6.out]; exact B6.out.size
  have HBW := Box'.mk (B6.out.trans (B13.out.mono hwN))
  have HV13 := Box'.mk hv13
  clear I1 I2 hv13 hhd
  rw [E1.out, E2.out] at L9
  refine L9.out.mono ?_
  rintro e w14 ⟨g1, g2, rfl, hg1, hg2, r1, r2, b14⟩
  have R14 := Box'.mk (R13.out.below b14 R13.out.lt)
  have B14 := Box'.mk (HBW.out.trans (b14.mono HBW.out.size))
  have O14 := Box'.mk (O13.out.below b14)
  have RA := Box'.mk r1
  have RBB := Box'.mk r2
  have HR6 : Box' (Room w14 w.heap.size 50 3) := ⟨⟨_, R14.out, rfl⟩⟩
  have h1c : (#[v13, .slice (some ⟨g1, 0, none⟩) sn sn, .slice (some ⟨g2, 0, none⟩) dn dn] : Array Value).all (·.oneCell') = true := by rw [HV13.out]; simp [Value.oneCell']
  have H1C := Box'.mk h1c
  clear L9 r1 r2 b14 R13 HBW O13 h1c
  go_wp2_with (first
    | (refine wpList_store_gen rfl 50 _ _ rfl _ rfl #[v13, .slice (some ⟨g1, 0, none⟩) sn sn, .slice (some ⟨g2, 0, none⟩) dn dn] rfl _ _ HR6.out Try.size50 rfl H1C.out ?_; intro W0 hW0; have HW0 := Box'.mk hW0; clear hW0)
    | fail)
  try simp only [Exit.inBlock, Exit.then]
  have RW : Row W0 w.heap.size 50 #[v13, .slice (some ⟨g1, 0, none⟩) sn sn, .slice (some ⟨g2, 0, none⟩) dn dn] := by rw [HW0.out]; exact R14.out.setRow _
  have RA0 : Row W0 g1 73 (agp (cds (oS T) sn)) := by rw [HW0.out]; exact RA.out.setRowOther _ _ (row_ne2 RA.out R14.out (by decide))
  have RB0 : Row W0 g2 73 (agp (cds (oD T) dn)) := by rw [HW0.out]; exact RBB.out.setRowOther _ _ (row_ne2 RBB.out R14.out (by decide))
  have O0 : OwnP N6 W0 v13 (hdO T) := O14.out.keep fun q c _ hr => by rw [HW0.out]; exact hr.setRowOther _ _ (row_ne2 hr R14.out (by decide))
  refine bodyPost_ret (results_row rfl _ _ rfl _ _ RW _ Try.underlying50 rfl 3 Try.size50 rfl) rfl ⟨_, rfl, ⟨v13, g1, g2, by rw [E1.out, E2.out], O0.bts HHD.out, RA0.lt, RB0.lt, by rw [E1.out]; exact RA0, by rw [E2.out]; exact RB0⟩, ?_⟩
  rw [HW0.out]; exact below_setRow B14.out (Nat.le_refl _) _
end Go.Proofs.Ytcjfaahlchbcmaa
