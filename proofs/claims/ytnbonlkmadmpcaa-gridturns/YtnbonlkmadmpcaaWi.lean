/- GridTurns, walked. -/
import Derived.Test.YtnbonlkmadmpcaaWn
import Derived.Test.YtnbonlkmadmpcaaOk
namespace Go.Proofs.Ytnbonlkmadmpcaa
open Go.RowKit Go.BigFrame
set_option linter.unusedVariables false
set_option linter.unusedSimpArgs false
theorem cls_box {w : World} {v : Value} {c : List Cl} {r : Nat} (h : Cls w.heap.size w v c) (hr : Room w r 24 3) (d : Array Value) : Cls (w.setRow r d).heap.size (w.setRow r d) v c := by
 obtain ⟨a, cp, e, hc, h3⟩ := h
 refine ⟨a, cp, e, hc, ?_⟩
 rcases h3 with h3 | ⟨b, o, e2, hb, hcl⟩
 ·exact .inl h3
 ·by_cases hl : c.length = 0
  ·exact .inl (List.eq_nil_of_length_eq_zero hl)
  ·right
   have hne : b ≠ r := by
    intro e3
    subst e3
    obtain ⟨d0, hd, hs⟩ := hr
    have h14 := hcl 0 (by omega) 14 (by decide)
    rw [hd.cell, Array.getElem?_eq_none (by omega)] at h14
    exact absurd h14 (by simp [cA])
   refine ⟨b, o, e2, by rw [setRow_size]; exact hb, fun k hk j hj => ?_⟩
   rw [← hcl k hk j hj]
   unfold World.cell?
   simp only
   rw [setRow_other _ _ _ _ hne]
theorem ask_style {w : World} {g : Nat} {row col to k : Int} {s : St} {vl : Value} (h : Row w g 28 (kA row col to k s vl)) : w.rangeAt g 4 (sA s).toList := fun j v hv => by
 have hj : j < 10 := by have := (List.getElem?_eq_some_iff.1 hv).1; exact this
 rw [h.cell]
 have e : ∀ j, j < 10 → (kA row col to k s vl)[4 + j]? = (sA s).toList[j]? := by
  intro j hj
  rcases (show j = 0 ∨ j = 1 ∨ j = 2 ∨ j = 3 ∨ j = 4 ∨ j = 5 ∨ j = 6 ∨ j = 7 ∨ j = 8 ∨ j = 9 by omega) with rfl | rfl | rfl | rfl | rfl | rfl | rfl | rfl | rfl | rfl <;> rfl
 rw [e j hj]
 exact hv
/-- What came in, in its boxes. -/
structure TuM (w : World) (g k o : Array Value) (wr : World) : Prop where
 rg : Row wr w.heap.size 24 g
 rk : Row wr (w.heap.size + 1) 28 k
 ro : Row wr (w.heap.size + 2) 24 o
 be : Below w.heap.size w wr
 sz : w.heap.size + 3 ≤ wr.heap.size
theorem TuM.begin (w : World) (g k o : Array Value) : TuM w g k o (((w.alloc (.cells g 24)).alloc (.cells k 28)).alloc (.cells o 24)) :=
 ⟨((Row.new _ _ _).alloc _).alloc _, (Row.made _ _ _ _ _ rfl (by simp)).alloc _, Row.made _ _ _ _ _ rfl (by simp), (((Below.refl w.heap.size w).alloc (Nat.le_refl _) _).alloc (by simp) _).alloc (by simp; omega) _, by simp⟩
theorem TuM.below {w : World} {g k o : Array Value} {wr w' : World} (h : TuM w g k o wr) (hb : Below wr.heap.size wr w') : TuM w g k o w' :=
 ⟨h.rg.below hb h.rg.lt, h.rk.below hb h.rk.lt, h.ro.below hb h.ro.lt, h.be.trans (hb.mono h.be.size), Nat.le_trans h.sz hb.size⟩
theorem TuM.set {w : World} {g k o : Array Value} {wr : World} (h : TuM w g k o wr) (r : Nat) (d : Array Value) (hr : w.heap.size + 3 ≤ r) : TuM w g k o (wr.setRow r d) :=
 ⟨h.rg.setRowOther _ _ (by omega), h.rk.setRowOther _ _ (by omega), h.ro.setRowOther _ _ (by omega), below_setRow h.be (by omega) _, by rw [setRow_size]; exact h.sz⟩
set_option maxRecDepth 100000 in
set_option maxHeartbeats 64000000 in
theorem turns_walk (co ro : Int) (a : Option Addr) (p : Nat) (c : List Cl) (row col to k : Int) (s : St) (al : Option Addr) (kl : Nat) (ll : List Cl) (co' ro' : Int) (b : Option Addr) (q : Nat) (d : List Cl) (w : World) (hv : Cls w.heap.size w (.slice a c.length p) c) (hvl : Cls w.heap.size w (.slice al ll.length kl) ll) (hvo : Cls w.heap.size w (.slice b d.length q) d) (hm : c.length < 140737488355328) (hml : ll.length ≤ 140737488355328) :
  Calls Try.prog 3 #[.agg (gA co ro (.slice a c.length p)), .agg (kA row col to k s (.slice al ll.length kl)), .agg (gA co' ro' (.slice b d.length q))] w fun e w' => e = .returned (.bool true) ∧ Below w.heap.size w w' := by
 have A := Box'.mk anch_any
 have HV : Box' (∀ wx, Below w.heap.size w wx → Cls wx.heap.size wx (.slice a c.length p) c) := ⟨fun wx hb => (hv.below hb (Nat.le_refl _)).up hb.size⟩
 have HL : Box' (∀ wx, Below w.heap.size w wx → Cls wx.heap.size wx (.slice al ll.length kl) ll) := ⟨fun wx hb => (hvl.below hb (Nat.le_refl _)).up hb.size⟩
 have HO : Box' (∀ wx, Below w.heap.size w wx → Cls wx.heap.size wx (.slice b d.length q) d) := ⟨fun wx hb => (hvo.below hb (Nat.le_refl _)).up hb.size⟩
 have GM : Box' (∀ wx, Below w.heap.size w wx → Calls Try.prog 20 #[.agg (gA co ro (.slice a c.length p))] wx fun e w' => e = .returned (.bool (mayG co ro c)) ∧ Below wx.heap.size wx w') := ⟨fun wx hb => gmay_any co ro _ c wx (HV.out wx hb)⟩
 have RM : Box' (∀ wx, Below w.heap.size w wx → Calls Try.prog 21 #[.agg (gA co ro (.slice a c.length p))] wx fun e w' => e = .returned (.bool (mayG co ro c)) ∧ Below wx.heap.size wx w') := ⟨fun wx hb => rmayg_any co ro _ c wx (HV.out wx hb)⟩
 have GS : Box' (∀ wx, Below w.heap.size w wx → Calls Try.prog 22 #[.agg (gA co ro (.slice a c.length p)), .agg (gA co' ro' (.slice b d.length q))] wx fun e w' => e = .returned (.bool (samG co ro c co' ro' d)) ∧ Below wx.heap.size wx w') := ⟨fun wx hb => gsame_any co ro co' ro' _ _ c d hm wx (HV.out wx hb) (HO.out wx hb)⟩
 have RS : Box' (∀ wx, Below w.heap.size w wx → Calls Try.prog 9 #[.agg (gA co ro (.slice a c.length p)), .agg (gA co' ro' (.slice b d.length q))] wx fun e w' => e = .returned (.bool (samG co ro c co' ro' d)) ∧ Below wx.heap.size wx w') := ⟨fun wx hb => rsame_any co ro co' ro' _ _ c d hm wx (HV.out wx hb) (HO.out wx hb)⟩
 generalize mayG co ro c = MG at GM RM
 generalize samG co ro c co' ro' d = SG at GS RS
 have SM : Box' (∀ wx (c2 r2 : Int) v v' (l : List Cl), l.length ≤ 262144 → Cls wx.heap.size wx v l → Cls wx.heap.size wx v' l → Calls Try.prog 9 #[.agg (gA c2 r2 v), .agg (gA c2 r2 v')] wx fun e w' => e = .returned (.bool true) ∧ Below wx.heap.size wx w') := ⟨fun wx c2 r2 v v' l hl h1 h2 => rsame_yes c2 r2 v v' l (by omega) wx h1 h2⟩
 obtain ⟨cx0, rx0, lx0, kx0, hl0, p0, r0⟩ := new_alike col row s
 have P0 : Box' (∀ wx, Calls Try.prog 7 #[.int .i64 col, .int .i64 row, .agg (sA s)] wx fun e w' => Sc cx0 rx0 lx0 kx0 w' e ∧ Below wx.heap.size wx w') := ⟨fun wx => p0 (.slice none 0 0) wx ⟨none, 0, rfl, Nat.le_refl _, .inl rfl⟩⟩
 have R0 : Box' (∀ wx, Calls Try.prog 8 #[.int .i64 col, .int .i64 row, .agg (sA s)] wx fun e w' => Sc cx0 rx0 lx0 kx0 w' e ∧ Below wx.heap.size wx w') := ⟨fun wx => r0 (.slice none 0 0) wx ⟨none, 0, rfl, Nat.le_refl _, .inl rfl⟩⟩
 clear p0 r0
 obtain ⟨cx1, rx1, lx1, kx1, hl1, p1, r1⟩ := write_alike co ro c row col s ll hml
 have P1 : Box' (∀ wx, Below w.heap.size w wx → Calls Try.prog 10 #[.agg (gA co ro (.slice a c.length p)), .int .i64 row, .int .i64 col, .agg (sA s), .slice al ll.length kl] wx fun e w' => Sc cx1 rx1 lx1 kx1 w' e ∧ Below wx.heap.size wx w') := ⟨fun wx hb => p1 _ _ wx (HV.out wx hb) (HL.out wx hb)⟩
 have R1 : Box' (∀ wx, Below w.heap.size w wx → Calls Try.prog 11 #[.agg (gA co ro (.slice a c.length p)), .int .i64 row, .int .i64 col, .agg (sA s), .slice al ll.length kl] wx fun e w' => Sc cx1 rx1 lx1 kx1 w' e ∧ Below wx.heap.size wx w') := ⟨fun wx hb => r1 _ _ wx (HV.out wx hb) (HL.out wx hb)⟩
 clear p1 r1
 obtain ⟨cx2, rx2, lx2, kx2, hl2, p2, r2⟩ := erase_alike co ro c row col to s
 have P2 : Box' (∀ wx, Below w.heap.size w wx → Calls Try.prog 12 #[.agg (gA co ro (.slice a c.length p)), .int .i64 row, .int .i64 col, .int .i64 to, .agg (sA s)] wx fun e w' => Sc cx2 rx2 lx2 kx2 w' e ∧ Below wx.heap.size wx w') := ⟨fun wx hb => p2 _ wx (HV.out wx hb)⟩
 have R2 : Box' (∀ wx, Below w.heap.size w wx → Calls Try.prog 13 #[.agg (gA co ro (.slice a c.length p)), .int .i64 row, .int .i64 col, .int .i64 to, .agg (sA s)] wx fun e w' => Sc cx2 rx2 lx2 kx2 w' e ∧ Below wx.heap.size wx w') := ⟨fun wx hb => r2 _ wx (HV.out wx hb)⟩
 clear p2 r2
 obtain ⟨cx3, rx3, lx3, kx3, hl3, p3, r3⟩ := shift_alike co ro c row col k s
 have P3 : Box' (∀ wx, Below w.heap.size w wx → Calls Try.prog 14 #[.agg (gA co ro (.slice a c.length p)), .int .i64 row, .int .i64 col, .int .i64 k, .agg (sA s)] wx fun e w' => Sc cx3 rx3 lx3 kx3 w' e ∧ Below wx.heap.size wx w') := ⟨fun wx hb => p3 _ wx (HV.out wx hb)⟩
 have R3 : Box' (∀ wx, Below w.heap.size w wx → Calls Try.prog 15 #[.agg (gA co ro (.slice a c.length p)), .int .i64 row, .int .i64 col, .int .i64 k, .agg (sA s)] wx fun e w' => Sc cx3 rx3 lx3 kx3 w' e ∧ Below wx.heap.size wx w') := ⟨fun wx hb => r3 _ wx (HV.out wx hb)⟩
 clear p3 r3
 obtain ⟨cx4, rx4, lx4, kx4, hl4, p4, r4⟩ := scroll_alike co ro c row to k s
 have P4 : Box' (∀ wx, Below w.heap.size w wx → Calls Try.prog 16 #[.agg (gA co ro (.slice a c.length p)), .int .i64 row, .int .i64 to, .int .i64 k, .agg (sA s)] wx fun e w' => Sc cx4 rx4 lx4 kx4 w' e ∧ Below wx.heap.size wx w') := ⟨fun wx hb => p4 _ wx (HV.out wx hb)⟩
 have R4 : Box' (∀ wx, Below w.heap.size w wx → Calls Try.prog 17 #[.agg (gA co ro (.slice a c.length p)), .int .i64 row, .int .i64 to, .int .i64 k, .agg (sA s)] wx fun e w' => Sc cx4 rx4 lx4 kx4 w' e ∧ Below wx.heap.size wx w') := ⟨fun wx hb => r4 _ wx (HV.out wx hb)⟩
 clear p4 r4
 obtain ⟨cx5, rx5, lx5, kx5, hl5, p5, r5⟩ := resize_alike co ro c to col s
 have P5 : Box' (∀ wx, Below w.heap.size w wx → Calls Try.prog 18 #[.agg (gA co ro (.slice a c.length p)), .int .i64 to, .int .i64 col, .agg (sA s)] wx fun e w' => Sc cx5 rx5 lx5 kx5 w' e ∧ Below wx.heap.size wx w') := ⟨fun wx hb => p5 _ wx (HV.out wx hb)⟩
 have R5 : Box' (∀ wx, Below w.heap.size w wx → Calls Try.prog 19 #[.agg (gA co ro (.slice a c.length p)), .int .i64 to, .int .i64 col, .agg (sA s)] wx fun e w' => Sc cx5 rx5 lx5 kx5 w' e ∧ Below wx.heap.size wx w') := ⟨fun wx hb => r5 _ wx (HV.out wx hb)⟩
 clear p5 r5
 have F := Box'.mk (TuM.begin w (gA co ro (.slice a c.length p)) (kA row col to k s (.slice al ll.length kl)) (gA co' ro' (.slice b d.length q)))
 have U24 := Box'.mk Try.underlying24
 have S24 := Box'.mk s24g
 clear hv hvl hvo hm hml HV HL HO
 go_enter Try.func3, Try.ntmps3
 go_upto_region 1 with (fail)
 generalize (((w.alloc (.cells (gA co ro (.slice a c.length p)) 24)).alloc (.cells (kA row col to k s (.slice al ll.length kl)) 28)).alloc (.cells (gA co' ro' (.slice b d.length q)) 24)) = wr at *
 have k0 : wr.cell? ⟨w.heap.size + 1, 0, none⟩ = some (.int .i64 row) := F.out.rk.cell 0
 have k1 : wr.cell? ⟨w.heap.size + 1, 1, none⟩ = some (.int .i64 col) := F.out.rk.cell 1
 have k2 : wr.cell? ⟨w.heap.size + 1, 2, none⟩ = some (.int .i64 to) := F.out.rk.cell 2
 have k3 : wr.cell? ⟨w.heap.size + 1, 3, none⟩ = some (.int .i64 k) := F.out.rk.cell 3
 have k14 : wr.cell? ⟨w.heap.size + 1, 14, none⟩ = some (.slice al ll.length kl) := F.out.rk.cell 14
 have KS := Box'.mk (ask_style F.out.rk)
 go_wp2_with (first
  | (refine wpList_load_style rfl (.tmp 16) rfl (w.heap.size + 1) 4 s rfl KS.out ?_))
 refine (P0.out _).mono ?_
 rintro e w2 ⟨⟨v0, rfl, C0'⟩, hb⟩
 obtain ⟨a0, p0, rfl, _⟩ := id C0'
 have C0 := Box'.mk C0'
 have F2 := Box'.mk (F.out.below hb)
 have hsz := F2.out.sz
 have O2 := Box'.mk (gA_one cx0 rx0 a0 lx0.length p0)
 clear hb C0' F k0 k1 k2 k3 k14 KS P0
 have RMn : Box' (Room (w2.alloc (.cells #[.int .i64 0, .int .i64 0, .slice none 0 0] 24)) w2.heap.size 24 3) := ⟨Room.new _ _ _ _ rfl⟩
 have BN : Box' (Below w2.heap.size w2 ((w2.alloc (.cells #[.int .i64 0, .int .i64 0, .slice none 0 0] 24)).setRow w2.heap.size (gA cx0 rx0 (.slice a0 lx0.length p0)))) := ⟨below_setRow (bR.alloc (Nat.le_refl _) _) (Nat.le_refl _) _⟩
 have F3 := Box'.mk (F2.out.below BN.out)
 have N3 : Box' (Row ((w2.alloc (.cells #[.int .i64 0, .int .i64 0, .slice none 0 0] 24)).setRow w2.heap.size (gA cx0 rx0 (.slice a0 lx0.length p0))) w2.heap.size 24 (gA cx0 rx0 (.slice a0 lx0.length p0))) := ⟨RMn.out.setRow _⟩
 have E3 := Box'.mk ((C0.out.below BN.out (Nat.le_refl _)).up BN.out.size)
 go_upto_region 2 with (first
  | (refine wpList_store_row rfl 24 (.tmp 7) (.tmp 19) rfl w2.heap.size rfl (gA cx0 rx0 (.slice a0 lx0.length p0)) rfl 24 3 RMn.out S24.out rfl O2.out ?_))
 clear RMn BN F2 O2 C0
 generalize ((w2.alloc (.cells #[.int .i64 0, .int .i64 0, .slice none 0 0] 24)).setRow w2.heap.size (gA cx0 rx0 (.slice a0 lx0.length p0))) = wr at *
 generalize w2.heap.size = tx at *
 have F := F3
 have X := N3
 have C0 := E3
 have hx3 : w.heap.size + 3 ≤ tx := hsz
 clear F3 N3 E3 hsz
 have k0 : wr.cell? ⟨w.heap.size + 1, 0, none⟩ = some (.int .i64 row) := F.out.rk.cell 0
 have k1 : wr.cell? ⟨w.heap.size + 1, 1, none⟩ = some (.int .i64 col) := F.out.rk.cell 1
 have k2 : wr.cell? ⟨w.heap.size + 1, 2, none⟩ = some (.int .i64 to) := F.out.rk.cell 2
 have k3 : wr.cell? ⟨w.heap.size + 1, 3, none⟩ = some (.int .i64 k) := F.out.rk.cell 3
 have k14 : wr.cell? ⟨w.heap.size + 1, 14, none⟩ = some (.slice al ll.length kl) := F.out.rk.cell 14
 have KS := Box'.mk (ask_style F.out.rk)
 go_wp2_with (first
  | (refine wpList_load_style rfl (.tmp 26) rfl (w.heap.size + 1) 4 s rfl KS.out ?_))
 refine (R0.out _).mono ?_
 rintro e w2 ⟨⟨v1, rfl, C1'⟩, hb⟩
 obtain ⟨a1, p1, rfl, _⟩ := id C1'
 have C1 := Box'.mk C1'
 have F2 := Box'.mk (F.out.below hb)
 have X2 := Box'.mk (X.out.below hb X.out.lt)
 have D2 := Box'.mk ((C0.out.below hb (Nat.le_refl _)).up hb.size)
 have hsz := F2.out.sz
 have O2 := Box'.mk (gA_one cx0 rx0 a1 lx0.length p1)
 clear hb C1' F k0 k1 k2 k3 k14 KS R0 X C0
 have RMn : Box' (Room (w2.alloc (.cells #[.int .i64 0, .int .i64 0, .slice none 0 0] 24)) w2.heap.size 24 3) := ⟨Room.new _ _ _ _ rfl⟩
 have BN : Box' (Below w2.heap.size w2 ((w2.alloc (.cells #[.int .i64 0, .int .i64 0, .slice none 0 0] 24)).setRow w2.heap.size (gA cx0 rx0 (.slice a1 lx0.length p1)))) := ⟨below_setRow (bR.alloc (Nat.le_refl _) _) (Nat.le_refl _) _⟩
 have F3 := Box'.mk (F2.out.below BN.out)
 have N3 : Box' (Row ((w2.alloc (.cells #[.int .i64 0, .int .i64 0, .slice none 0 0] 24)).setRow w2.heap.size (gA cx0 rx0 (.slice a1 lx0.length p1))) w2.heap.size 24 (gA cx0 rx0 (.slice a1 lx0.length p1))) := ⟨RMn.out.setRow _⟩
 have E3 := Box'.mk ((C1.out.below BN.out (Nat.le_refl _)).up BN.out.size)
 have X3 := Box'.mk (X2.out.below BN.out X2.out.lt)
 have D3 := Box'.mk ((D2.out.below BN.out (Nat.le_refl _)).up BN.out.size)
 have htt : tx < w2.heap.size := X2.out.lt
 go_upto_region 3 with (first
  | (refine wpList_store_row rfl 24 (.tmp 9) (.tmp 29) rfl w2.heap.size rfl (gA cx0 rx0 (.slice a1 lx0.length p1)) rfl 24 3 RMn.out S24.out rfl O2.out ?_))
 clear RMn BN F2 O2 C1 X2 D2
 generalize ((w2.alloc (.cells #[.int .i64 0, .int .i64 0, .slice none 0 0] 24)).setRow w2.heap.size (gA cx0 rx0 (.slice a1 lx0.length p1))) = wr at *
 generalize w2.heap.size = ty at *
 have F := F3
 have X := X3
 have Y := N3
 have C0 := D3
 have C1 := E3
 have hy3 : w.heap.size + 3 ≤ ty := hsz
 have hxy : tx ≠ ty := by omega
 clear F3 N3 E3 D3 X3 hsz htt
 have ek0 : (kx0 != kx0) = false := by simp
 go_wp2_with (first
  | (refine wpList_load_row rfl 24 (.tmp 7) rfl tx rfl 24 (gA cx0 rx0 (.slice a0 lx0.length p0)) X.out _ U24.out rfl 3 S24.out rfl ?_)
  | (refine wpList_load_row rfl 24 (.tmp 9) rfl ty rfl 24 (gA cx0 rx0 (.slice a1 lx0.length p1)) Y.out _ U24.out rfl 3 S24.out rfl ?_))
 refine (SM.out _ cx0 rx0 _ _ lx0 hl0 C0.out C1.out).mono ?_
 rintro e w2 ⟨rfl, hb⟩
 have F3 := Box'.mk (F.out.below hb)
 have X3 := Box'.mk ((X.out.below hb X.out.lt).room (n := 3) rfl)
 have Y3 := Box'.mk ((Y.out.below hb Y.out.lt).room (n := 3) rfl)
 clear hb F X Y C0 C1
 go_upto_region 5 with (fail)
 generalize w2 = wr at *
 have F := F3
 have X := X3
 have Y := Y3
 clear F3 X3 Y3 ek0
 have k0 : wr.cell? ⟨w.heap.size + 1, 0, none⟩ = some (.int .i64 row) := F.out.rk.cell 0
 have k1 : wr.cell? ⟨w.heap.size + 1, 1, none⟩ = some (.int .i64 col) := F.out.rk.cell 1
 have k2 : wr.cell? ⟨w.heap.size + 1, 2, none⟩ = some (.int .i64 to) := F.out.rk.cell 2
 have k3 : wr.cell? ⟨w.heap.size + 1, 3, none⟩ = some (.int .i64 k) := F.out.rk.cell 3
 have k14 : wr.cell? ⟨w.heap.size + 1, 14, none⟩ = some (.slice al ll.length kl) := F.out.rk.cell 14
 have KS := Box'.mk (ask_style F.out.rk)
 go_wp2_with (first
  | (refine wpList_load_row rfl 24 (.tmp 3) rfl w.heap.size rfl 24 (gA co ro (.slice a c.length p)) F.out.rg _ U24.out rfl 3 S24.out rfl ?_)
  | (refine wpList_load_style rfl (.tmp 46) rfl (w.heap.size + 1) 4 s rfl KS.out ?_))
 refine (P1.out _ F.out.be).mono ?_
 rintro e w2 ⟨⟨v0, rfl, C0'⟩, hb⟩
 obtain ⟨a0, p0, rfl, _⟩ := id C0'
 have C0 := Box'.mk C0'
 have F2 := Box'.mk (F.out.below hb)
 have X2 := Box'.mk (X.out.below hb X.out.lt)
 have Y2 := Box'.mk (Y.out.below hb Y.out.lt)
 have hsz := F2.out.sz
 have O2 := Box'.mk (gA_one cx1 rx1 a0 lx1.length p0)
 clear hb C0' F k0 k1 k2 k3 k14 KS P1 X Y
 have F3 := Box'.mk (F2.out.set tx (gA cx1 rx1 (.slice a0 lx1.length p0)) hx3)
 have X3 : Box' (Row (w2.setRow tx (gA cx1 rx1 (.slice a0 lx1.length p0))) tx 24 (gA cx1 rx1 (.slice a0 lx1.length p0))) := ⟨X2.out.setRow _⟩
 have Y3 := Box'.mk (Room.setRowOther Y2.out tx (gA cx1 rx1 (.slice a0 lx1.length p0)) (Ne.symm hxy))
 have E3 := Box'.mk (cls_box C0.out X2.out (gA cx1 rx1 (.slice a0 lx1.length p0)))
 go_upto_region 6 with (first
  | (refine wpList_store_row rfl 24 (.tmp 7) (.tmp 51) rfl tx rfl (gA cx1 rx1 (.slice a0 lx1.length p0)) rfl 24 3 X2.out S24.out rfl O2.out ?_))
 clear F2 O2 C0 X2 Y2 hsz
 generalize (w2.setRow tx (gA cx1 rx1 (.slice a0 lx1.length p0))) = wr at *
 have F := F3
 have X := X3
 have Y := Y3
 have C0 := E3
 clear F3 X3 Y3 E3
 have k0 : wr.cell? ⟨w.heap.size + 1, 0, none⟩ = some (.int .i64 row) := F.out.rk.cell 0
 have k1 : wr.cell? ⟨w.heap.size + 1, 1, none⟩ = some (.int .i64 col) := F.out.rk.cell 1
 have k2 : wr.cell? ⟨w.heap.size + 1, 2, none⟩ = some (.int .i64 to) := F.out.rk.cell 2
 have k3 : wr.cell? ⟨w.heap.size + 1, 3, none⟩ = some (.int .i64 k) := F.out.rk.cell 3
 have k14 : wr.cell? ⟨w.heap.size + 1, 14, none⟩ = some (.slice al ll.length kl) := F.out.rk.cell 14
 have KS := Box'.mk (ask_style F.out.rk)
 go_wp2_with (first
  | (refine wpList_load_row rfl 24 (.tmp 3) rfl w.heap.size rfl 24 (gA co ro (.slice a c.length p)) F.out.rg _ U24.out rfl 3 S24.out rfl ?_)
  | (refine wpList_load_style rfl (.tmp 59) rfl (w.heap.size + 1) 4 s rfl KS.out ?_))
 refine (R1.out _ F.out.be).mono ?_
 rintro e w2 ⟨⟨v1, rfl, C1'⟩, hb⟩
 obtain ⟨a1, p1, rfl, _⟩ := id C1'
 have C1 := Box'.mk C1'
 have F2 := Box'.mk (F.out.below hb)
 have X2 := Box'.mk (X.out.below hb X.out.lt)
 have Y2 := Box'.mk (Y.out.below hb Y.out.lt)
 have D2 := Box'.mk ((C0.out.below hb (Nat.le_refl _)).up hb.size)
 have hsz := F2.out.sz
 have O2 := Box'.mk (gA_one cx1 rx1 a1 lx1.length p1)
 clear hb C1' F k0 k1 k2 k3 k14 KS R1 X Y C0
 have F3 := Box'.mk (F2.out.set ty (gA cx1 rx1 (.slice a1 lx1.length p1)) hy3)
 have Y3 : Box' (Row (w2.setRow ty (gA cx1 rx1 (.slice a1 lx1.length p1))) ty 24 (gA cx1 rx1 (.slice a1 lx1.length p1))) := ⟨Y2.out.setRow _⟩
 have X3 := Box'.mk (Row.setRowOther X2.out ty (gA cx1 rx1 (.slice a1 lx1.length p1)) hxy)
 have D3 := Box'.mk (cls_box D2.out Y2.out (gA cx1 rx1 (.slice a1 lx1.length p1)))
 have E3 := Box'.mk (cls_box C1.out Y2.out (gA cx1 rx1 (.slice a1 lx1.length p1)))
 go_upto_region 7 with (first
  | (refine wpList_store_row rfl 24 (.tmp 9) (.tmp 64) rfl ty rfl (gA cx1 rx1 (.slice a1 lx1.length p1)) rfl 24 3 Y2.out S24.out rfl O2.out ?_))
 clear F2 O2 C1 D2 X2 Y2 hsz
 generalize (w2.setRow ty (gA cx1 rx1 (.slice a1 lx1.length p1))) = wr at *
 have F := F3
 have X := X3
 have Y := Y3
 have C0 := D3
 have C1 := E3
 clear F3 X3 Y3 D3 E3
 have ek1 : (kx1 != kx1) = false := by simp
 go_wp2_with (first
  | (refine wpList_load_row rfl 24 (.tmp 7) rfl tx rfl 24 (gA cx1 rx1 (.slice a0 lx1.length p0)) X.out _ U24.out rfl 3 S24.out rfl ?_)
  | (refine wpList_load_row rfl 24 (.tmp 9) rfl ty rfl 24 (gA cx1 rx1 (.slice a1 lx1.length p1)) Y.out _ U24.out rfl 3 S24.out rfl ?_))
 refine (SM.out _ cx1 rx1 _ _ lx1 hl1 C0.out C1.out).mono ?_
 rintro e w2 ⟨rfl, hb⟩
 have F3 := Box'.mk (F.out.below hb)
 have X3 := Box'.mk ((X.out.below hb X.out.lt).room (n := 3) rfl)
 have Y3 := Box'.mk ((Y.out.below hb Y.out.lt).room (n := 3) rfl)
 clear hb F X Y C0 C1
 go_upto_region 9 with (fail)
 generalize w2 = wr at *
 have F := F3
 have X := X3
 have Y := Y3
 clear F3 X3 Y3 ek1
 have k0 : wr.cell? ⟨w.heap.size + 1, 0, none⟩ = some (.int .i64 row) := F.out.rk.cell 0
 have k1 : wr.cell? ⟨w.heap.size + 1, 1, none⟩ = some (.int .i64 col) := F.out.rk.cell 1
 have k2 : wr.cell? ⟨w.heap.size + 1, 2, none⟩ = some (.int .i64 to) := F.out.rk.cell 2
 have k3 : wr.cell? ⟨w.heap.size + 1, 3, none⟩ = some (.int .i64 k) := F.out.rk.cell 3
 have k14 : wr.cell? ⟨w.heap.size + 1, 14, none⟩ = some (.slice al ll.length kl) := F.out.rk.cell 14
 have KS := Box'.mk (ask_style F.out.rk)
 go_wp2_with (first
  | (refine wpList_load_row rfl 24 (.tmp 3) rfl w.heap.size rfl 24 (gA co ro (.slice a c.length p)) F.out.rg _ U24.out rfl 3 S24.out rfl ?_)
  | (refine wpList_load_style rfl (.tmp 83) rfl (w.heap.size + 1) 4 s rfl KS.out ?_))
 refine (P2.out _ F.out.be).mono ?_
 rintro e w2 ⟨⟨v0, rfl, C0'⟩, hb⟩
 obtain ⟨a0, p0, rfl, _⟩ := id C0'
 have C0 := Box'.mk C0'
 have F2 := Box'.mk (F.out.below hb)
 have X2 := Box'.mk (X.out.below hb X.out.lt)
 have Y2 := Box'.mk (Y.out.below hb Y.out.lt)
 have hsz := F2.out.sz
 have O2 := Box'.mk (gA_one cx2 rx2 a0 lx2.length p0)
 clear hb C0' F k0 k1 k2 k3 k14 KS P2 X Y
 have F3 := Box'.mk (F2.out.set tx (gA cx2 rx2 (.slice a0 lx2.length p0)) hx3)
 have X3 : Box' (Row (w2.setRow tx (gA cx2 rx2 (.slice a0 lx2.length p0))) tx 24 (gA cx2 rx2 (.slice a0 lx2.length p0))) := ⟨X2.out.setRow _⟩
 have Y3 := Box'.mk (Room.setRowOther Y2.out tx (gA cx2 rx2 (.slice a0 lx2.length p0)) (Ne.symm hxy))
 have E3 := Box'.mk (cls_box C0.out X2.out (gA cx2 rx2 (.slice a0 lx2.length p0)))
 go_upto_region 10 with (first
  | (refine wpList_store_row rfl 24 (.tmp 7) (.tmp 86) rfl tx rfl (gA cx2 rx2 (.slice a0 lx2.length p0)) rfl 24 3 X2.out S24.out rfl O2.out ?_))
 clear F2 O2 C0 X2 Y2 hsz
 generalize (w2.setRow tx (gA cx2 rx2 (.slice a0 lx2.length p0))) = wr at *
 have F := F3
 have X := X3
 have Y := Y3
 have C0 := E3
 clear F3 X3 Y3 E3
 have k0 : wr.cell? ⟨w.heap.size + 1, 0, none⟩ = some (.int .i64 row) := F.out.rk.cell 0
 have k1 : wr.cell? ⟨w.heap.size + 1, 1, none⟩ = some (.int .i64 col) := F.out.rk.cell 1
 have k2 : wr.cell? ⟨w.heap.size + 1, 2, none⟩ = some (.int .i64 to) := F.out.rk.cell 2
 have k3 : wr.cell? ⟨w.heap.size + 1, 3, none⟩ = some (.int .i64 k) := F.out.rk.cell 3
 have k14 : wr.cell? ⟨w.heap.size + 1, 14, none⟩ = some (.slice al ll.length kl) := F.out.rk.cell 14
 have KS := Box'.mk (ask_style F.out.rk)
 go_wp2_with (first
  | (refine wpList_load_row rfl 24 (.tmp 3) rfl w.heap.size rfl 24 (gA co ro (.slice a c.length p)) F.out.rg _ U24.out rfl 3 S24.out rfl ?_)
  | (refine wpList_load_style rfl (.tmp 96) rfl (w.heap.size + 1) 4 s rfl KS.out ?_))
 refine (R2.out _ F.out.be).mono ?_
 rintro e w2 ⟨⟨v1, rfl, C1'⟩, hb⟩
 obtain ⟨a1, p1, rfl, _⟩ := id C1'
 have C1 := Box'.mk C1'
 have F2 := Box'.mk (F.out.below hb)
 have X2 := Box'.mk (X.out.below hb X.out.lt)
 have Y2 := Box'.mk (Y.out.below hb Y.out.lt)
 have D2 := Box'.mk ((C0.out.below hb (Nat.le_refl _)).up hb.size)
 have hsz := F2.out.sz
 have O2 := Box'.mk (gA_one cx2 rx2 a1 lx2.length p1)
 clear hb C1' F k0 k1 k2 k3 k14 KS R2 X Y C0
 have F3 := Box'.mk (F2.out.set ty (gA cx2 rx2 (.slice a1 lx2.length p1)) hy3)
 have Y3 : Box' (Row (w2.setRow ty (gA cx2 rx2 (.slice a1 lx2.length p1))) ty 24 (gA cx2 rx2 (.slice a1 lx2.length p1))) := ⟨Y2.out.setRow _⟩
 have X3 := Box'.mk (Row.setRowOther X2.out ty (gA cx2 rx2 (.slice a1 lx2.length p1)) hxy)
 have D3 := Box'.mk (cls_box D2.out Y2.out (gA cx2 rx2 (.slice a1 lx2.length p1)))
 have E3 := Box'.mk (cls_box C1.out Y2.out (gA cx2 rx2 (.slice a1 lx2.length p1)))
 go_upto_region 11 with (first
  | (refine wpList_store_row rfl 24 (.tmp 9) (.tmp 99) rfl ty rfl (gA cx2 rx2 (.slice a1 lx2.length p1)) rfl 24 3 Y2.out S24.out rfl O2.out ?_))
 clear F2 O2 C1 D2 X2 Y2 hsz
 generalize (w2.setRow ty (gA cx2 rx2 (.slice a1 lx2.length p1))) = wr at *
 have F := F3
 have X := X3
 have Y := Y3
 have C0 := D3
 have C1 := E3
 clear F3 X3 Y3 D3 E3
 have ek2 : (kx2 != kx2) = false := by simp
 go_wp2_with (first
  | (refine wpList_load_row rfl 24 (.tmp 7) rfl tx rfl 24 (gA cx2 rx2 (.slice a0 lx2.length p0)) X.out _ U24.out rfl 3 S24.out rfl ?_)
  | (refine wpList_load_row rfl 24 (.tmp 9) rfl ty rfl 24 (gA cx2 rx2 (.slice a1 lx2.length p1)) Y.out _ U24.out rfl 3 S24.out rfl ?_))
 refine (SM.out _ cx2 rx2 _ _ lx2 hl2 C0.out C1.out).mono ?_
 rintro e w2 ⟨rfl, hb⟩
 have F3 := Box'.mk (F.out.below hb)
 have X3 := Box'.mk ((X.out.below hb X.out.lt).room (n := 3) rfl)
 have Y3 := Box'.mk ((Y.out.below hb Y.out.lt).room (n := 3) rfl)
 clear hb F X Y C0 C1
 go_upto_region 13 with (fail)
 generalize w2 = wr at *
 have F := F3
 have X := X3
 have Y := Y3
 clear F3 X3 Y3 ek2
 have k0 : wr.cell? ⟨w.heap.size + 1, 0, none⟩ = some (.int .i64 row) := F.out.rk.cell 0
 have k1 : wr.cell? ⟨w.heap.size + 1, 1, none⟩ = some (.int .i64 col) := F.out.rk.cell 1
 have k2 : wr.cell? ⟨w.heap.size + 1, 2, none⟩ = some (.int .i64 to) := F.out.rk.cell 2
 have k3 : wr.cell? ⟨w.heap.size + 1, 3, none⟩ = some (.int .i64 k) := F.out.rk.cell 3
 have k14 : wr.cell? ⟨w.heap.size + 1, 14, none⟩ = some (.slice al ll.length kl) := F.out.rk.cell 14
 have KS := Box'.mk (ask_style F.out.rk)
 go_wp2_with (first
  | (refine wpList_load_row rfl 24 (.tmp 3) rfl w.heap.size rfl 24 (gA co ro (.slice a c.length p)) F.out.rg _ U24.out rfl 3 S24.out rfl ?_)
  | (refine wpList_load_style rfl (.tmp 118) rfl (w.heap.size + 1) 4 s rfl KS.out ?_))
 refine (P3.out _ F.out.be).mono ?_
 rintro e w2 ⟨⟨v0, rfl, C0'⟩, hb⟩
 obtain ⟨a0, p0, rfl, _⟩ := id C0'
 have C0 := Box'.mk C0'
 have F2 := Box'.mk (F.out.below hb)
 have X2 := Box'.mk (X.out.below hb X.out.lt)
 have Y2 := Box'.mk (Y.out.below hb Y.out.lt)
 have hsz := F2.out.sz
 have O2 := Box'.mk (gA_one cx3 rx3 a0 lx3.length p0)
 clear hb C0' F k0 k1 k2 k3 k14 KS P3 X Y
 have F3 := Box'.mk (F2.out.set tx (gA cx3 rx3 (.slice a0 lx3.length p0)) hx3)
 have X3 : Box' (Row (w2.setRow tx (gA cx3 rx3 (.slice a0 lx3.length p0))) tx 24 (gA cx3 rx3 (.slice a0 lx3.length p0))) := ⟨X2.out.setRow _⟩
 have Y3 := Box'.mk (Room.setRowOther Y2.out tx (gA cx3 rx3 (.slice a0 lx3.length p0)) (Ne.symm hxy))
 have E3 := Box'.mk (cls_box C0.out X2.out (gA cx3 rx3 (.slice a0 lx3.length p0)))
 go_upto_region 14 with (first
  | (refine wpList_store_row rfl 24 (.tmp 7) (.tmp 121) rfl tx rfl (gA cx3 rx3 (.slice a0 lx3.length p0)) rfl 24 3 X2.out S24.out rfl O2.out ?_))
 clear F2 O2 C0 X2 Y2 hsz
 generalize (w2.setRow tx (gA cx3 rx3 (.slice a0 lx3.length p0))) = wr at *
 have F := F3
 have X := X3
 have Y := Y3
 have C0 := E3
 clear F3 X3 Y3 E3
 have k0 : wr.cell? ⟨w.heap.size + 1, 0, none⟩ = some (.int .i64 row) := F.out.rk.cell 0
 have k1 : wr.cell? ⟨w.heap.size + 1, 1, none⟩ = some (.int .i64 col) := F.out.rk.cell 1
 have k2 : wr.cell? ⟨w.heap.size + 1, 2, none⟩ = some (.int .i64 to) := F.out.rk.cell 2
 have k3 : wr.cell? ⟨w.heap.size + 1, 3, none⟩ = some (.int .i64 k) := F.out.rk.cell 3
 have k14 : wr.cell? ⟨w.heap.size + 1, 14, none⟩ = some (.slice al ll.length kl) := F.out.rk.cell 14
 have KS := Box'.mk (ask_style F.out.rk)
 go_wp2_with (first
  | (refine wpList_load_row rfl 24 (.tmp 3) rfl w.heap.size rfl 24 (gA co ro (.slice a c.length p)) F.out.rg _ U24.out rfl 3 S24.out rfl ?_)
  | (refine wpList_load_style rfl (.tmp 131) rfl (w.heap.size + 1) 4 s rfl KS.out ?_))
 refine (R3.out _ F.out.be).mono ?_
 rintro e w2 ⟨⟨v1, rfl, C1'⟩, hb⟩
 obtain ⟨a1, p1, rfl, _⟩ := id C1'
 have C1 := Box'.mk C1'
 have F2 := Box'.mk (F.out.below hb)
 have X2 := Box'.mk (X.out.below hb X.out.lt)
 have Y2 := Box'.mk (Y.out.below hb Y.out.lt)
 have D2 := Box'.mk ((C0.out.below hb (Nat.le_refl _)).up hb.size)
 have hsz := F2.out.sz
 have O2 := Box'.mk (gA_one cx3 rx3 a1 lx3.length p1)
 clear hb C1' F k0 k1 k2 k3 k14 KS R3 X Y C0
 have F3 := Box'.mk (F2.out.set ty (gA cx3 rx3 (.slice a1 lx3.length p1)) hy3)
 have Y3 : Box' (Row (w2.setRow ty (gA cx3 rx3 (.slice a1 lx3.length p1))) ty 24 (gA cx3 rx3 (.slice a1 lx3.length p1))) := ⟨Y2.out.setRow _⟩
 have X3 := Box'.mk (Row.setRowOther X2.out ty (gA cx3 rx3 (.slice a1 lx3.length p1)) hxy)
 have D3 := Box'.mk (cls_box D2.out Y2.out (gA cx3 rx3 (.slice a1 lx3.length p1)))
 have E3 := Box'.mk (cls_box C1.out Y2.out (gA cx3 rx3 (.slice a1 lx3.length p1)))
 go_upto_region 15 with (first
  | (refine wpList_store_row rfl 24 (.tmp 9) (.tmp 134) rfl ty rfl (gA cx3 rx3 (.slice a1 lx3.length p1)) rfl 24 3 Y2.out S24.out rfl O2.out ?_))
 clear F2 O2 C1 D2 X2 Y2 hsz
 generalize (w2.setRow ty (gA cx3 rx3 (.slice a1 lx3.length p1))) = wr at *
 have F := F3
 have X := X3
 have Y := Y3
 have C0 := D3
 have C1 := E3
 clear F3 X3 Y3 D3 E3
 have ek3 : (kx3 != kx3) = false := by simp
 go_wp2_with (first
  | (refine wpList_load_row rfl 24 (.tmp 7) rfl tx rfl 24 (gA cx3 rx3 (.slice a0 lx3.length p0)) X.out _ U24.out rfl 3 S24.out rfl ?_)
  | (refine wpList_load_row rfl 24 (.tmp 9) rfl ty rfl 24 (gA cx3 rx3 (.slice a1 lx3.length p1)) Y.out _ U24.out rfl 3 S24.out rfl ?_))
 refine (SM.out _ cx3 rx3 _ _ lx3 hl3 C0.out C1.out).mono ?_
 rintro e w2 ⟨rfl, hb⟩
 have F3 := Box'.mk (F.out.below hb)
 have X3 := Box'.mk ((X.out.below hb X.out.lt).room (n := 3) rfl)
 have Y3 := Box'.mk ((Y.out.below hb Y.out.lt).room (n := 3) rfl)
 clear hb F X Y C0 C1
 go_upto_region 17 with (fail)
 generalize w2 = wr at *
 have F := F3
 have X := X3
 have Y := Y3
 clear F3 X3 Y3 ek3
 have k0 : wr.cell? ⟨w.heap.size + 1, 0, none⟩ = some (.int .i64 row) := F.out.rk.cell 0
 have k1 : wr.cell? ⟨w.heap.size + 1, 1, none⟩ = some (.int .i64 col) := F.out.rk.cell 1
 have k2 : wr.cell? ⟨w.heap.size + 1, 2, none⟩ = some (.int .i64 to) := F.out.rk.cell 2
 have k3 : wr.cell? ⟨w.heap.size + 1, 3, none⟩ = some (.int .i64 k) := F.out.rk.cell 3
 have k14 : wr.cell? ⟨w.heap.size + 1, 14, none⟩ = some (.slice al ll.length kl) := F.out.rk.cell 14
 have KS := Box'.mk (ask_style F.out.rk)
 go_wp2_with (first
  | (refine wpList_load_row rfl 24 (.tmp 3) rfl w.heap.size rfl 24 (gA co ro (.slice a c.length p)) F.out.rg _ U24.out rfl 3 S24.out rfl ?_)
  | (refine wpList_load_style rfl (.tmp 153) rfl (w.heap.size + 1) 4 s rfl KS.out ?_))
 refine (P4.out _ F.out.be).mono ?_
 rintro e w2 ⟨⟨v0, rfl, C0'⟩, hb⟩
 obtain ⟨a0, p0, rfl, _⟩ := id C0'
 have C0 := Box'.mk C0'
 have F2 := Box'.mk (F.out.below hb)
 have X2 := Box'.mk (X.out.below hb X.out.lt)
 have Y2 := Box'.mk (Y.out.below hb Y.out.lt)
 have hsz := F2.out.sz
 have O2 := Box'.mk (gA_one cx4 rx4 a0 lx4.length p0)
 clear hb C0' F k0 k1 k2 k3 k14 KS P4 X Y
 have F3 := Box'.mk (F2.out.set tx (gA cx4 rx4 (.slice a0 lx4.length p0)) hx3)
 have X3 : Box' (Row (w2.setRow tx (gA cx4 rx4 (.slice a0 lx4.length p0))) tx 24 (gA cx4 rx4 (.slice a0 lx4.length p0))) := ⟨X2.out.setRow _⟩
 have Y3 := Box'.mk (Room.setRowOther Y2.out tx (gA cx4 rx4 (.slice a0 lx4.length p0)) (Ne.symm hxy))
 have E3 := Box'.mk (cls_box C0.out X2.out (gA cx4 rx4 (.slice a0 lx4.length p0)))
 go_upto_region 18 with (first
  | (refine wpList_store_row rfl 24 (.tmp 7) (.tmp 156) rfl tx rfl (gA cx4 rx4 (.slice a0 lx4.length p0)) rfl 24 3 X2.out S24.out rfl O2.out ?_))
 clear F2 O2 C0 X2 Y2 hsz
 generalize (w2.setRow tx (gA cx4 rx4 (.slice a0 lx4.length p0))) = wr at *
 have F := F3
 have X := X3
 have Y := Y3
 have C0 := E3
 clear F3 X3 Y3 E3
 have k0 : wr.cell? ⟨w.heap.size + 1, 0, none⟩ = some (.int .i64 row) := F.out.rk.cell 0
 have k1 : wr.cell? ⟨w.heap.size + 1, 1, none⟩ = some (.int .i64 col) := F.out.rk.cell 1
 have k2 : wr.cell? ⟨w.heap.size + 1, 2, none⟩ = some (.int .i64 to) := F.out.rk.cell 2
 have k3 : wr.cell? ⟨w.heap.size + 1, 3, none⟩ = some (.int .i64 k) := F.out.rk.cell 3
 have k14 : wr.cell? ⟨w.heap.size + 1, 14, none⟩ = some (.slice al ll.length kl) := F.out.rk.cell 14
 have KS := Box'.mk (ask_style F.out.rk)
 go_wp2_with (first
  | (refine wpList_load_row rfl 24 (.tmp 3) rfl w.heap.size rfl 24 (gA co ro (.slice a c.length p)) F.out.rg _ U24.out rfl 3 S24.out rfl ?_)
  | (refine wpList_load_style rfl (.tmp 166) rfl (w.heap.size + 1) 4 s rfl KS.out ?_))
 refine (R4.out _ F.out.be).mono ?_
 rintro e w2 ⟨⟨v1, rfl, C1'⟩, hb⟩
 obtain ⟨a1, p1, rfl, _⟩ := id C1'
 have C1 := Box'.mk C1'
 have F2 := Box'.mk (F.out.below hb)
 have X2 := Box'.mk (X.out.below hb X.out.lt)
 have Y2 := Box'.mk (Y.out.below hb Y.out.lt)
 have D2 := Box'.mk ((C0.out.below hb (Nat.le_refl _)).up hb.size)
 have hsz := F2.out.sz
 have O2 := Box'.mk (gA_one cx4 rx4 a1 lx4.length p1)
 clear hb C1' F k0 k1 k2 k3 k14 KS R4 X Y C0
 have F3 := Box'.mk (F2.out.set ty (gA cx4 rx4 (.slice a1 lx4.length p1)) hy3)
 have Y3 : Box' (Row (w2.setRow ty (gA cx4 rx4 (.slice a1 lx4.length p1))) ty 24 (gA cx4 rx4 (.slice a1 lx4.length p1))) := ⟨Y2.out.setRow _⟩
 have X3 := Box'.mk (Row.setRowOther X2.out ty (gA cx4 rx4 (.slice a1 lx4.length p1)) hxy)
 have D3 := Box'.mk (cls_box D2.out Y2.out (gA cx4 rx4 (.slice a1 lx4.length p1)))
 have E3 := Box'.mk (cls_box C1.out Y2.out (gA cx4 rx4 (.slice a1 lx4.length p1)))
 go_upto_region 19 with (first
  | (refine wpList_store_row rfl 24 (.tmp 9) (.tmp 169) rfl ty rfl (gA cx4 rx4 (.slice a1 lx4.length p1)) rfl 24 3 Y2.out S24.out rfl O2.out ?_))
 clear F2 O2 C1 D2 X2 Y2 hsz
 generalize (w2.setRow ty (gA cx4 rx4 (.slice a1 lx4.length p1))) = wr at *
 have F := F3
 have X := X3
 have Y := Y3
 have C0 := D3
 have C1 := E3
 clear F3 X3 Y3 D3 E3
 have ek4 : (kx4 != kx4) = false := by simp
 go_wp2_with (first
  | (refine wpList_load_row rfl 24 (.tmp 7) rfl tx rfl 24 (gA cx4 rx4 (.slice a0 lx4.length p0)) X.out _ U24.out rfl 3 S24.out rfl ?_)
  | (refine wpList_load_row rfl 24 (.tmp 9) rfl ty rfl 24 (gA cx4 rx4 (.slice a1 lx4.length p1)) Y.out _ U24.out rfl 3 S24.out rfl ?_))
 refine (SM.out _ cx4 rx4 _ _ lx4 hl4 C0.out C1.out).mono ?_
 rintro e w2 ⟨rfl, hb⟩
 have F3 := Box'.mk (F.out.below hb)
 have X3 := Box'.mk ((X.out.below hb X.out.lt).room (n := 3) rfl)
 have Y3 := Box'.mk ((Y.out.below hb Y.out.lt).room (n := 3) rfl)
 clear hb F X Y C0 C1
 go_upto_region 21 with (fail)
 generalize w2 = wr at *
 have F := F3
 have X := X3
 have Y := Y3
 clear F3 X3 Y3 ek4
 have k0 : wr.cell? ⟨w.heap.size + 1, 0, none⟩ = some (.int .i64 row) := F.out.rk.cell 0
 have k1 : wr.cell? ⟨w.heap.size + 1, 1, none⟩ = some (.int .i64 col) := F.out.rk.cell 1
 have k2 : wr.cell? ⟨w.heap.size + 1, 2, none⟩ = some (.int .i64 to) := F.out.rk.cell 2
 have k3 : wr.cell? ⟨w.heap.size + 1, 3, none⟩ = some (.int .i64 k) := F.out.rk.cell 3
 have k14 : wr.cell? ⟨w.heap.size + 1, 14, none⟩ = some (.slice al ll.length kl) := F.out.rk.cell 14
 have KS := Box'.mk (ask_style F.out.rk)
 go_wp2_with (first
  | (refine wpList_load_row rfl 24 (.tmp 3) rfl w.heap.size rfl 24 (gA co ro (.slice a c.length p)) F.out.rg _ U24.out rfl 3 S24.out rfl ?_)
  | (refine wpList_load_style rfl (.tmp 186) rfl (w.heap.size + 1) 4 s rfl KS.out ?_))
 refine (P5.out _ F.out.be).mono ?_
 rintro e w2 ⟨⟨v0, rfl, C0'⟩, hb⟩
 obtain ⟨a0, p0, rfl, _⟩ := id C0'
 have C0 := Box'.mk C0'
 have F2 := Box'.mk (F.out.below hb)
 have X2 := Box'.mk (X.out.below hb X.out.lt)
 have Y2 := Box'.mk (Y.out.below hb Y.out.lt)
 have hsz := F2.out.sz
 have O2 := Box'.mk (gA_one cx5 rx5 a0 lx5.length p0)
 clear hb C0' F k0 k1 k2 k3 k14 KS P5 X Y
 have F3 := Box'.mk (F2.out.set tx (gA cx5 rx5 (.slice a0 lx5.length p0)) hx3)
 have X3 : Box' (Row (w2.setRow tx (gA cx5 rx5 (.slice a0 lx5.length p0))) tx 24 (gA cx5 rx5 (.slice a0 lx5.length p0))) := ⟨X2.out.setRow _⟩
 have Y3 := Box'.mk (Room.setRowOther Y2.out tx (gA cx5 rx5 (.slice a0 lx5.length p0)) (Ne.symm hxy))
 have E3 := Box'.mk (cls_box C0.out X2.out (gA cx5 rx5 (.slice a0 lx5.length p0)))
 go_upto_region 22 with (first
  | (refine wpList_store_row rfl 24 (.tmp 7) (.tmp 189) rfl tx rfl (gA cx5 rx5 (.slice a0 lx5.length p0)) rfl 24 3 X2.out S24.out rfl O2.out ?_))
 clear F2 O2 C0 X2 Y2 hsz
 generalize (w2.setRow tx (gA cx5 rx5 (.slice a0 lx5.length p0))) = wr at *
 have F := F3
 have X := X3
 have Y := Y3
 have C0 := E3
 clear F3 X3 Y3 E3
 have k0 : wr.cell? ⟨w.heap.size + 1, 0, none⟩ = some (.int .i64 row) := F.out.rk.cell 0
 have k1 : wr.cell? ⟨w.heap.size + 1, 1, none⟩ = some (.int .i64 col) := F.out.rk.cell 1
 have k2 : wr.cell? ⟨w.heap.size + 1, 2, none⟩ = some (.int .i64 to) := F.out.rk.cell 2
 have k3 : wr.cell? ⟨w.heap.size + 1, 3, none⟩ = some (.int .i64 k) := F.out.rk.cell 3
 have k14 : wr.cell? ⟨w.heap.size + 1, 14, none⟩ = some (.slice al ll.length kl) := F.out.rk.cell 14
 have KS := Box'.mk (ask_style F.out.rk)
 go_wp2_with (first
  | (refine wpList_load_row rfl 24 (.tmp 3) rfl w.heap.size rfl 24 (gA co ro (.slice a c.length p)) F.out.rg _ U24.out rfl 3 S24.out rfl ?_)
  | (refine wpList_load_style rfl (.tmp 197) rfl (w.heap.size + 1) 4 s rfl KS.out ?_))
 refine (R5.out _ F.out.be).mono ?_
 rintro e w2 ⟨⟨v1, rfl, C1'⟩, hb⟩
 obtain ⟨a1, p1, rfl, _⟩ := id C1'
 have C1 := Box'.mk C1'
 have F2 := Box'.mk (F.out.below hb)
 have X2 := Box'.mk (X.out.below hb X.out.lt)
 have Y2 := Box'.mk (Y.out.below hb Y.out.lt)
 have D2 := Box'.mk ((C0.out.below hb (Nat.le_refl _)).up hb.size)
 have hsz := F2.out.sz
 have O2 := Box'.mk (gA_one cx5 rx5 a1 lx5.length p1)
 clear hb C1' F k0 k1 k2 k3 k14 KS R5 X Y C0
 have F3 := Box'.mk (F2.out.set ty (gA cx5 rx5 (.slice a1 lx5.length p1)) hy3)
 have Y3 : Box' (Row (w2.setRow ty (gA cx5 rx5 (.slice a1 lx5.length p1))) ty 24 (gA cx5 rx5 (.slice a1 lx5.length p1))) := ⟨Y2.out.setRow _⟩
 have X3 := Box'.mk (Row.setRowOther X2.out ty (gA cx5 rx5 (.slice a1 lx5.length p1)) hxy)
 have D3 := Box'.mk (cls_box D2.out Y2.out (gA cx5 rx5 (.slice a1 lx5.length p1)))
 have E3 := Box'.mk (cls_box C1.out Y2.out (gA cx5 rx5 (.slice a1 lx5.length p1)))
 go_upto_region 23 with (first
  | (refine wpList_store_row rfl 24 (.tmp 9) (.tmp 200) rfl ty rfl (gA cx5 rx5 (.slice a1 lx5.length p1)) rfl 24 3 Y2.out S24.out rfl O2.out ?_))
 clear F2 O2 C1 D2 X2 Y2 hsz
 generalize (w2.setRow ty (gA cx5 rx5 (.slice a1 lx5.length p1))) = wr at *
 have F := F3
 have X := X3
 have Y := Y3
 have C0 := D3
 have C1 := E3
 clear F3 X3 Y3 D3 E3
 refine wp_region_growg 28 (by kernel_rfl) 229 rfl (by kernel_rfl) (fun wa wb => Below wa.heap.size wa wb) (fun wa => TuM w (gA co ro (.slice a c.length p)) (kA row col to k s (.slice al ll.length kl)) (gA co' ro' (.slice b d.length q)) wa ∧ Row wa tx 24 (gA cx5 rx5 (.slice a0 lx5.length p0)) ∧ Row wa ty 24 (gA cx5 rx5 (.slice a1 lx5.length p1)) ∧ Cls wa.heap.size wa (.slice a0 lx5.length p0) lx5 ∧ Cls wa.heap.size wa (.slice a1 lx5.length p1) lx5) (fun kc wa v => match kc with
  | 0 => v = .agg (gA cx5 rx5 (.slice a0 lx5.length p0))
  | 1 => v = .agg (gA cx5 rx5 (.slice a1 lx5.length p1))
  | 2 => v = .bool true
  | 3 => v = .bool true
  | 4 => v = .int .i64 kx5
  | 5 => v = .int .i64 kx5
  | 6 => v = .bool true
  | 7 => v = .bool true
  | 8 => v = .bool true
  | 9 => v = .agg (gA co ro (.slice a c.length p))
  | 10 => v = .bool MG
  | 11 => v = .agg (gA co ro (.slice a c.length p))
  | 12 => v = .bool MG
  | 13 => v = .bool true
  | 14 => v = .bool true
  | 15 => v = .bool true
  | 16 => v = .agg (gA co ro (.slice a c.length p))
  | 17 => v = .agg (gA co' ro' (.slice b d.length q))
  | 18 => v = .bool SG
  | 19 => v = .agg (gA co ro (.slice a c.length p))
  | 20 => v = .agg (gA co' ro' (.slice b d.length q))
  | 21 => v = .bool SG
  | 22 => v = .bool true
  | 23 => v = .bool true
  | 24 => v = .bool true
  | 25 => v = .bool true
  | 26 => v = .bool true
  | 27 => v = .bool true
  | _ => True) ?_ ?_ ?_ ?_ ?_ ?_
 ·intro i o' j b' hi hg wa v hC hV
  have hlt : i < 28 := by rcases Nat.lt_or_ge i 28 with q | q; exact q; rw [List.getElem?_eq_none (by simpa using q)] at hi; cases hi
  revert hi hg hV
  rcases (show i = 0 ∨ i = 1 ∨ i = 2 ∨ i = 3 ∨ i = 4 ∨ i = 5 ∨ i = 6 ∨ i = 7 ∨ i = 8 ∨ i = 9 ∨ i = 10 ∨ i = 11 ∨ i = 12 ∨ i = 13 ∨ i = 14 ∨ i = 15 ∨ i = 16 ∨ i = 17 ∨ i = 18 ∨ i = 19 ∨ i = 20 ∨ i = 21 ∨ i = 22 ∨ i = 23 ∨ i = 24 ∨ i = 25 ∨ i = 26 ∨ i = 27 by omega) with rfl | rfl | rfl | rfl | rfl | rfl | rfl | rfl | rfl | rfl | rfl | rfl | rfl | rfl | rfl | rfl | rfl | rfl | rfl | rfl | rfl | rfl | rfl | rfl | rfl | rfl | rfl | rfl <;>
   (intro hi hg hV; simp only [tkS, List.getElem?_cons_zero, List.getElem?_cons_succ, Option.some.injEq] at hi; subst hi; first | (cases hg; exact hV) | (cases hg))
 ·rintro wa wb hb ⟨q1, q2, q3, q4, q5⟩; exact ⟨q1.below hb, q2.below hb q2.lt, q3.below hb q3.lt, (q4.below hb (Nat.le_refl _)).up hb.size, (q5.below hb (Nat.le_refl _)).up hb.size⟩
 ·intro kc v wa wb hC1 hb h
  match kc, h with
  | 0, h => exact h
  | 1, h => exact h
  | 2, h => exact h
  | 3, h => exact h
  | 4, h => exact h
  | 5, h => exact h
  | 6, h => exact h
  | 7, h => exact h
  | 8, h => exact h
  | 9, h => exact h
  | 10, h => exact h
  | 11, h => exact h
  | 12, h => exact h
  | 13, h => exact h
  | 14, h => exact h
  | 15, h => exact h
  | 16, h => exact h
  | 17, h => exact h
  | 18, h => exact h
  | 19, h => exact h
  | 20, h => exact h
  | 21, h => exact h
  | 22, h => exact h
  | 23, h => exact h
  | 24, h => exact h
  | 25, h => exact h
  | 26, h => exact h
  | 27, h => exact h
  | kc + 28, h => trivial
 ·exact ⟨F.out.below (bR.drew), X.out.below (bR.drew) X.out.lt, Y.out.below (bR.drew) Y.out.lt, (C0.out.below (bR.drew) (Nat.le_refl _)).up ((Below.refl wr.heap.size wr).drew).size, (C1.out.below (bR.drew) (Nat.le_refl _)).up ((Below.refl wr.heap.size wr).drew).size⟩
 ·refine ⟨?_, ?_, ?_, ?_, ?_, ?_, ?_, ?_, ?_, ?_, ?_, ?_, ?_, ?_, ?_, ?_, ?_, ?_, ?_, ?_, ?_, ?_, ?_, ?_, ?_, ?_, ?_, ?_, trivial⟩
  ·intro f wq hC hd KK hK
   clear hd
   simp only [tkS, tkZ, setAll, siB, stS, stZ, Nat.zero_add, Nat.reduceAdd] at hK ⊢
   exact wp_load_row 24 (.tmp 7) rfl tx rfl 24 (gA cx5 rx5 (.slice a0 lx5.length p0)) hC.2.1 _ U24.out rfl 3 S24.out rfl (hK _ _ rfl bR)
  ·intro f wq hC hd KK hK
   clear hd
   simp only [tkS, tkZ, setAll, siB, stS, stZ, Nat.zero_add, Nat.reduceAdd] at hK ⊢
   exact wp_load_row 24 (.tmp 9) rfl ty rfl 24 (gA cx5 rx5 (.slice a1 lx5.length p1)) hC.2.2.1 _ U24.out rfl 3 S24.out rfl (hK _ _ rfl bR)
  ·intro f wq hC hd KK hK
   have g0 : f 0 = .agg (gA cx5 rx5 (.slice a0 lx5.length p0)) := hd 0 (by kernel_rfl)
   have g1 : f 1 = .agg (gA cx5 rx5 (.slice a1 lx5.length p1)) := hd 1 (by kernel_rfl)
   clear hd
   simp only [tkS, tkZ, setAll, siB, stS, stZ, Nat.zero_add, Nat.reduceAdd, g0, g1] at hK ⊢
   exact wp_call 9 #[.agg (gA cx5 rx5 (.slice a0 lx5.length p0)), .agg (gA cx5 rx5 (.slice a1 lx5.length p1))] (by simp [go_sem]) _ _ (SM.out wq cx5 rx5 _ _ lx5 hl5 hC.2.2.2.1 hC.2.2.2.2) (fun w' hb => hK _ _ rfl hb)
  ·intro f wq hC hd KK hK
   have g2 : f 2 = .bool true := hd 2 (by kernel_rfl)
   clear hd
   simp only [tkS, tkZ, setAll, siB, stS, stZ, Nat.zero_add, Nat.reduceAdd, g2] at hK ⊢
   refine wp_of_quiet rfl ?_
   go_big_quiet_step (fail)
   exact wpQuiet_nil (hK _ _ (rfl) bR)
  ·intro f wq hC hd KK hK
   clear hd
   simp only [tkS, tkZ, setAll, siB, stS, stZ, Nat.zero_add, Nat.reduceAdd] at hK ⊢
   refine wp_unguard ?_
   refine wp_of_quiet rfl ?_
   go_big_quiet_step (fail)
   exact wpQuiet_nil (hK _ _ (rfl) bR)
  ·intro f wq hC hd KK hK
   clear hd
   simp only [tkS, tkZ, setAll, siB, stS, stZ, Nat.zero_add, Nat.reduceAdd] at hK ⊢
   refine wp_unguard ?_
   refine wp_of_quiet rfl ?_
   go_big_quiet_step (fail)
   exact wpQuiet_nil (hK _ _ (rfl) bR)
  ·intro f wq hC hd KK hK
   have g4 : f 4 = .int .i64 kx5 := hd 4 (by kernel_rfl)
   have g5 : f 5 = .int .i64 kx5 := hd 5 (by kernel_rfl)
   clear hd
   simp only [tkS, tkZ, setAll, siB, stS, stZ, Nat.zero_add, Nat.reduceAdd, g4, g5] at hK ⊢
   refine wp_unguard ?_
   refine wp_of_quiet rfl ?_
   go_big_quiet_step (fail)
   exact wpQuiet_nil (hK _ _ (by first | rfl | simp) bR)
  ·intro f wq hC hd KK hK
   have g3 : f 3 = .bool true := hd 3 (by kernel_rfl)
   have g6 : f 6 = .bool true := hd 6 (by kernel_rfl)
   clear hd
   simp only [tkS, tkZ, setAll, siB, stS, stZ, Nat.zero_add, Nat.reduceAdd, g3, g6] at hK ⊢
   refine wp_of_quiet rfl ?_
   go_big_quiet_step (fail)
   exact wpQuiet_nil (hK _ _ (rfl) bR)
  ·intro f wq hC hd KK hK
   have g7 : f 7 = .bool true := hd 7 (by kernel_rfl)
   clear hd
   simp only [tkS, tkZ, setAll, siB, stS, stZ, Nat.zero_add, Nat.reduceAdd, g7] at hK ⊢
   refine wp_of_quiet rfl ?_
   go_big_quiet_step (fail)
   exact wpQuiet_nil (hK _ _ (rfl) bR)
  ·intro f wq hC hd KK hK
   clear hd
   simp only [tkS, tkZ, setAll, siB, stS, stZ, Nat.zero_add, Nat.reduceAdd] at hK ⊢
   refine wp_unguard ?_
   exact wp_load_row 24 (.tmp 3) rfl w.heap.size rfl 24 (gA co ro (.slice a c.length p)) hC.1.rg _ U24.out rfl 3 S24.out rfl (hK _ _ rfl bR)
  ·intro f wq hC hd KK hK
   have g9 : f 9 = .agg (gA co ro (.slice a c.length p)) := hd 9 (by kernel_rfl)
   clear hd
   simp only [tkS, tkZ, setAll, siB, stS, stZ, Nat.zero_add, Nat.reduceAdd, g9] at hK ⊢
   refine wp_unguard ?_
   exact wp_call 20 #[.agg (gA co ro (.slice a c.length p))] (by simp [go_sem]) _ _ (GM.out wq hC.1.be) (fun w' hb => hK _ _ rfl hb)
  ·intro f wq hC hd KK hK
   clear hd
   simp only [tkS, tkZ, setAll, siB, stS, stZ, Nat.zero_add, Nat.reduceAdd] at hK ⊢
   refine wp_unguard ?_
   exact wp_load_row 24 (.tmp 3) rfl w.heap.size rfl 24 (gA co ro (.slice a c.length p)) hC.1.rg _ U24.out rfl 3 S24.out rfl (hK _ _ rfl bR)
  ·intro f wq hC hd KK hK
   have g11 : f 11 = .agg (gA co ro (.slice a c.length p)) := hd 11 (by kernel_rfl)
   clear hd
   simp only [tkS, tkZ, setAll, siB, stS, stZ, Nat.zero_add, Nat.reduceAdd, g11] at hK ⊢
   refine wp_unguard ?_
   exact wp_call 21 #[.agg (gA co ro (.slice a c.length p))] (by simp [go_sem]) _ _ (RM.out wq hC.1.be) (fun w' hb => hK _ _ rfl hb)
  ·intro f wq hC hd KK hK
   have g10 : f 10 = .bool MG := hd 10 (by kernel_rfl)
   have g12 : f 12 = .bool MG := hd 12 (by kernel_rfl)
   clear hd
   simp only [tkS, tkZ, setAll, siB, stS, stZ, Nat.zero_add, Nat.reduceAdd, g10, g12] at hK ⊢
   refine wp_unguard ?_
   refine wp_of_quiet rfl ?_
   go_big_quiet_step (fail)
   exact wpQuiet_nil (hK _ _ (by first | rfl | simp) bR)
  ·intro f wq hC hd KK hK
   have g8 : f 8 = .bool true := hd 8 (by kernel_rfl)
   have g13 : f 13 = .bool true := hd 13 (by kernel_rfl)
   clear hd
   simp only [tkS, tkZ, setAll, siB, stS, stZ, Nat.zero_add, Nat.reduceAdd, g8, g13] at hK ⊢
   refine wp_of_quiet rfl ?_
   go_big_quiet_step (fail)
   exact wpQuiet_nil (hK _ _ (rfl) bR)
  ·intro f wq hC hd KK hK
   have g14 : f 14 = .bool true := hd 14 (by kernel_rfl)
   clear hd
   simp only [tkS, tkZ, setAll, siB, stS, stZ, Nat.zero_add, Nat.reduceAdd, g14] at hK ⊢
   refine wp_of_quiet rfl ?_
   go_big_quiet_step (fail)
   exact wpQuiet_nil (hK _ _ (rfl) bR)
  ·intro f wq hC hd KK hK
   clear hd
   simp only [tkS, tkZ, setAll, siB, stS, stZ, Nat.zero_add, Nat.reduceAdd] at hK ⊢
   refine wp_unguard ?_
   exact wp_load_row 24 (.tmp 3) rfl w.heap.size rfl 24 (gA co ro (.slice a c.length p)) hC.1.rg _ U24.out rfl 3 S24.out rfl (hK _ _ rfl bR)
  ·intro f wq hC hd KK hK
   clear hd
   simp only [tkS, tkZ, setAll, siB, stS, stZ, Nat.zero_add, Nat.reduceAdd] at hK ⊢
   refine wp_unguard ?_
   exact wp_load_row 24 (.tmp 5) rfl (w.heap.size + 2) rfl 24 (gA co' ro' (.slice b d.length q)) hC.1.ro _ U24.out rfl 3 S24.out rfl (hK _ _ rfl bR)
  ·intro f wq hC hd KK hK
   have g16 : f 16 = .agg (gA co ro (.slice a c.length p)) := hd 16 (by kernel_rfl)
   have g17 : f 17 = .agg (gA co' ro' (.slice b d.length q)) := hd 17 (by kernel_rfl)
   clear hd
   simp only [tkS, tkZ, setAll, siB, stS, stZ, Nat.zero_add, Nat.reduceAdd, g16, g17] at hK ⊢
   refine wp_unguard ?_
   exact wp_call 22 #[.agg (gA co ro (.slice a c.length p)), .agg (gA co' ro' (.slice b d.length q))] (by simp [go_sem]) _ _ (GS.out wq hC.1.be) (fun w' hb => hK _ _ rfl hb)
  ·intro f wq hC hd KK hK
   clear hd
   simp only [tkS, tkZ, setAll, siB, stS, stZ, Nat.zero_add, Nat.reduceAdd] at hK ⊢
   refine wp_unguard ?_
   exact wp_load_row 24 (.tmp 3) rfl w.heap.size rfl 24 (gA co ro (.slice a c.length p)) hC.1.rg _ U24.out rfl 3 S24.out rfl (hK _ _ rfl bR)
  ·intro f wq hC hd KK hK
   clear hd
   simp only [tkS, tkZ, setAll, siB, stS, stZ, Nat.zero_add, Nat.reduceAdd] at hK ⊢
   refine wp_unguard ?_
   exact wp_load_row 24 (.tmp 5) rfl (w.heap.size + 2) rfl 24 (gA co' ro' (.slice b d.length q)) hC.1.ro _ U24.out rfl 3 S24.out rfl (hK _ _ rfl bR)
  ·intro f wq hC hd KK hK
   have g19 : f 19 = .agg (gA co ro (.slice a c.length p)) := hd 19 (by kernel_rfl)
   have g20 : f 20 = .agg (gA co' ro' (.slice b d.length q)) := hd 20 (by kernel_rfl)
   clear hd
   simp only [tkS, tkZ, setAll, siB, stS, stZ, Nat.zero_add, Nat.reduceAdd, g19, g20] at hK ⊢
   refine wp_unguard ?_
   exact wp_call 9 #[.agg (gA co ro (.slice a c.length p)), .agg (gA co' ro' (.slice b d.length q))] (by simp [go_sem]) _ _ (RS.out wq hC.1.be) (fun w' hb => hK _ _ rfl hb)
  ·intro f wq hC hd KK hK
   have g18 : f 18 = .bool SG := hd 18 (by kernel_rfl)
   have g21 : f 21 = .bool SG := hd 21 (by kernel_rfl)
   clear hd
   simp only [tkS, tkZ, setAll, siB, stS, stZ, Nat.zero_add, Nat.reduceAdd, g18, g21] at hK ⊢
   refine wp_unguard ?_
   refine wp_of_quiet rfl ?_
   go_big_quiet_step (fail)
   exact wpQuiet_nil (hK _ _ (by first | rfl | simp) bR)
  ·intro f wq hC hd KK hK
   have g15 : f 15 = .bool true := hd 15 (by kernel_rfl)
   have g22 : f 22 = .bool true := hd 22 (by kernel_rfl)
   clear hd
   simp only [tkS, tkZ, setAll, siB, stS, stZ, Nat.zero_add, Nat.reduceAdd, g15, g22] at hK ⊢
   refine wp_of_quiet rfl ?_
   go_big_quiet_step (fail)
   exact wpQuiet_nil (hK _ _ (rfl) bR)
  ·intro f wq hC hd KK hK
   have g23 : f 23 = .bool true := hd 23 (by kernel_rfl)
   clear hd
   simp only [tkS, tkZ, setAll, siB, stS, stZ, Nat.zero_add, Nat.reduceAdd, g23] at hK ⊢
   refine wp_of_quiet rfl ?_
   go_big_quiet_step (fail)
   exact wpQuiet_nil (hK _ _ (rfl) bR)
  ·intro f wq hC hd KK hK
   clear hd
   simp only [tkS, tkZ, setAll, siB, stS, stZ, Nat.zero_add, Nat.reduceAdd] at hK ⊢
   refine wp_unguard ?_
   exact wp_call 23 #[] (by simp [go_sem]) _ _ (A.out wq) (fun w' hb => hK _ _ rfl hb)
  ·intro f wq hC hd KK hK
   have g24 : f 24 = .bool true := hd 24 (by kernel_rfl)
   have g25 : f 25 = .bool true := hd 25 (by kernel_rfl)
   clear hd
   simp only [tkS, tkZ, setAll, siB, stS, stZ, Nat.zero_add, Nat.reduceAdd, g24, g25] at hK ⊢
   refine wp_of_quiet rfl ?_
   go_big_quiet_step (fail)
   exact wpQuiet_nil (hK _ _ (rfl) bR)
  ·intro f wq hC hd KK hK
   have g26 : f 26 = .bool true := hd 26 (by kernel_rfl)
   clear hd
   simp only [tkS, tkZ, setAll, siB, stS, stZ, Nat.zero_add, Nat.reduceAdd, g26] at hK ⊢
   refine wp_of_quiet rfl ?_
   go_big_quiet_step (fail)
   exact wpQuiet_nil (hK _ _ (rfl) bR)
 ·intro f wz hC hv
  have p0 : f 0 = .agg (gA cx5 rx5 (.slice a0 lx5.length p0)) := hv 0 (by decide)
  have p1 : f 1 = .agg (gA cx5 rx5 (.slice a1 lx5.length p1)) := hv 1 (by decide)
  have p2 : f 2 = .bool true := hv 2 (by decide)
  have p3 : f 3 = .bool true := hv 3 (by decide)
  have p4 : f 4 = .int .i64 kx5 := hv 4 (by decide)
  have p5 : f 5 = .int .i64 kx5 := hv 5 (by decide)
  have p6 : f 6 = .bool true := hv 6 (by decide)
  have p7 : f 7 = .bool true := hv 7 (by decide)
  have p8 : f 8 = .bool true := hv 8 (by decide)
  have p9 : f 9 = .agg (gA co ro (.slice a c.length p)) := hv 9 (by decide)
  have p10 : f 10 = .bool MG := hv 10 (by decide)
  have p11 : f 11 = .agg (gA co ro (.slice a c.length p)) := hv 11 (by decide)
  have p12 : f 12 = .bool MG := hv 12 (by decide)
  have p13 : f 13 = .bool true := hv 13 (by decide)
  have p14 : f 14 = .bool true := hv 14 (by decide)
  have p15 : f 15 = .bool true := hv 15 (by decide)
  have p16 : f 16 = .agg (gA co ro (.slice a c.length p)) := hv 16 (by decide)
  have p17 : f 17 = .agg (gA co' ro' (.slice b d.length q)) := hv 17 (by decide)
  have p18 : f 18 = .bool SG := hv 18 (by decide)
  have p19 : f 19 = .agg (gA co ro (.slice a c.length p)) := hv 19 (by decide)
  have p20 : f 20 = .agg (gA co' ro' (.slice b d.length q)) := hv 20 (by decide)
  have p21 : f 21 = .bool SG := hv 21 (by decide)
  have p22 : f 22 = .bool true := hv 22 (by decide)
  have p23 : f 23 = .bool true := hv 23 (by decide)
  have p24 : f 24 = .bool true := hv 24 (by decide)
  have p25 : f 25 = .bool true := hv 25 (by decide)
  have p26 : f 26 = .bool true := hv 26 (by decide)
  have p27 : f 27 = .bool true := hv 27 (by decide)
  simp only [tkS, tkZ, List.drop_succ_cons, List.drop_zero, setAll, siB, stS, stZ, Nat.zero_add, Nat.reduceAdd, p0, p1, p2, p3, p4, p5, p6, p7, p8, p9, p10, p11, p12, p13, p14, p15, p16, p17, p18, p19, p20, p21, p22, p23, p24, p25, p26, p27]
  clear hv p0 p1 p2 p3 p4 p5 p6 p7 p8 p9 p10 p11 p12 p13 p14 p15 p16 p17 p18 p19 p20 p21 p22 p23 p24 p25 p26 p27
  have BE := Box'.mk hC.1.be
  clear hC F X Y C0 C1
  go_wp2_with fail
  go_ret
  exact ⟨rfl, BE.out⟩
theorem turns_any (co ro : Int) (vc : Value) (c : List Cl) (row col to k : Int) (s : St) (vl : Value) (l : List Cl) (co' ro' : Int) (vd : Value) (d : List Cl) (w : World) (hv : Cls w.heap.size w vc c) (hl : Cls w.heap.size w vl l) (hd : Cls w.heap.size w vd d) (hm : 48 * c.length ≤ 140737488351232) (hml : 48 * l.length ≤ 140737488351232) :
  Calls Try.prog 3 #[.agg (gA co ro vc), .agg (kA row col to k s vl), .agg (gA co' ro' vd)] w fun e w' => e = .returned (.bool true) ∧ Below w.heap.size w w' := by
 obtain ⟨a, p, rfl, _⟩ := id hv
 obtain ⟨al, kl, rfl, _⟩ := id hl
 obtain ⟨b, q, rfl, _⟩ := id hd
 exact turns_walk co ro a p c row col to k s al kl l co' ro' b q d w hv hl hd (by omega) (by omega)
end Go.Proofs.Ytnbonlkmadmpcaa
