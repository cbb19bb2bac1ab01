/- A screen as another one, in memory of its own. What a deed makes of a screen: the frame of all deeds. A cursor is kept. -/
import Derived.Test.YtlekleeckcdcgaaGreatXd
import Derived.Test.YtlekleeckcdcgaaGreatNg
import Derived.Test.YtlekleeckcdcgaaGreatGw
namespace Go.Proofs.YtlekleeckcdcgaaGreat
open Go.RowKit Go.BigFrame
set_option linter.unusedVariables false
set_option linter.unusedSimpArgs false
set_option maxRecDepth 100000
set_option maxHeartbeats 8000000
theorem snA_one (x : Sn) (a1 a2 a3 a4 : Option Addr) (n1 n2 n3 n4 c1 c2 c3 c4 : Nat) : (snA x (.slice a1 n1 c1) (.slice a2 n2 c2) (.slice a3 n3 c3) (.slice a4 n4 c4)).all (·.oneCell') = true := by simp [snA, Value.oneCell']
/-- The lists of a screen lie in blocks of their own. -/
structure Ow (N : Nat) (w : World) (x : Sn) (b1 b2 b3 b4 : Nat) : Prop where
 g : RC w b1 x.g.c []
 m : RC w b2 x.mn.c []
 t : Row w b3 3 (iNA x.tabs)
 l : Row w b4 21 (rNA x.title)
 n1 : N ≤ b1
 n2 : b1 < b2
 n3 : b2 < b3
 n4 : b3 < b4
theorem sano_any (x : Sn) (vg vt vm vl : Value) (w : World) (hl : Li w.heap.size w x vg vt vm vl) (h1 : x.g.c.length ≤ 1000000) (h2 : x.mn.c.length ≤ 1000000) (h3 : x.tabs.length ≤ 1000000) (h4 : x.title.length ≤ 1000000) :
  Calls Tryz.prog 125 #[.agg (snA x (vg) (vt) (vm) (vl))] w fun e w' => ∃ b1 b2 b3 b4, e = .returned (.agg (snA x (.slice (some ⟨b1, 0, none⟩) x.g.c.length x.g.c.length) (.slice (some ⟨b3, 0, none⟩) x.tabs.length x.tabs.length) (.slice (some ⟨b2, 0, none⟩) x.mn.c.length x.mn.c.length) (.slice (some ⟨b4, 0, none⟩) x.title.length x.title.length))) ∧ Ow w.heap.size w' x b1 b2 b3 b4 ∧ Below w.heap.size w w' := by
 have A1 : Box' (∀ wx, Below w.heap.size w wx → Calls Tryz.prog 159 #[vg] wx fun e w' => ∃ b, e = .returned (.slice (some ⟨b, 0, none⟩) x.g.c.length x.g.c.length) ∧ wx.heap.size ≤ b ∧ RC w' b x.g.c [] ∧ Below wx.heap.size wx w') := ⟨fun wx h => anoC_any vg x.g.c h1 wx (hl.at h).g⟩
 have A2 : Box' (∀ wx, Below w.heap.size w wx → Calls Tryz.prog 159 #[vm] wx fun e w' => ∃ b, e = .returned (.slice (some ⟨b, 0, none⟩) x.mn.c.length x.mn.c.length) ∧ wx.heap.size ≤ b ∧ RC w' b x.mn.c [] ∧ Below wx.heap.size wx w') := ⟨fun wx h => anoC_any vm x.mn.c h2 wx (hl.at h).m⟩
 have A3 : Box' (∀ wx, Below w.heap.size w wx → Calls Tryz.prog 160 #[vt] wx fun e w' => ∃ b, e = .returned (.slice (some ⟨b, 0, none⟩) x.tabs.length x.tabs.length) ∧ wx.heap.size ≤ b ∧ Row w' b 3 (iNA x.tabs) ∧ Below wx.heap.size wx w') := ⟨fun wx h => anoiN_any vt x.tabs h3 wx (hl.at h).t⟩
 have A4 : Box' (∀ wx, Below w.heap.size w wx → Calls Tryz.prog 161 #[vl] wx fun e w' => ∃ b, e = .returned (.slice (some ⟨b, 0, none⟩) x.title.length x.title.length) ∧ wx.heap.size ≤ b ∧ Row w' b 21 (rNA x.title) ∧ Below wx.heap.size wx w') := ⟨fun wx h => anorN_any vl x.title h4 wx (hl.at h).l⟩
 have R1 := Box'.mk ((Row.new w 32 (snA x (vg) (vt) (vm) (vl))).alloc (.cells z32 32))
 have RM : Box' (Room ((w.alloc (.cells (snA x (vg) (vt) (vm) (vl)) 32)).alloc (.cells z32 32)) (w.heap.size + 1) 32 44) := ⟨Room.made _ _ _ _ _ rfl (by simp)⟩
 have B1 : Box' (Below w.heap.size w ((w.alloc (.cells (snA x (vg) (vt) (vm) (vl)) 32)).alloc (.cells z32 32))) := ⟨((Below.refl w.heap.size w).alloc (Nat.le_refl _) _).alloc (by simp) _⟩
 have Z1 : Box' (w.heap.size + 2 ≤ ((w.alloc (.cells (snA x (vg) (vt) (vm) (vl)) 32)).alloc (.cells z32 32)).heap.size) := ⟨by simp⟩
 have U32 := Box'.mk Tryz.underlying32
 have S32 := Box'.mk s32
 clear hl h1 h2 h3 h4
 go_enter Tryz.func125, Tryz.ntmps125
 go_upto_region 1 with (fail)
 generalize ((w.alloc (.cells (snA x (vg) (vt) (vm) (vl)) 32)).alloc (.cells z32 32)) = wr at *
 have hz := Z1.out
 clear Z1
 have c0 : wr.cell? ⟨w.heap.size, 2, none⟩ = some (vg) := R1.out.cell 2
 go_wp2_with fail
 refine (A1.out _ B1.out).mono ?_
 rintro e w2 ⟨b1, rfl, hg0, hr, hb⟩
 have hs : wr.heap.size ≤ w2.heap.size := hb.size
 have R2 := Box'.mk (R1.out.below hb R1.out.lt)
 have M2 := Box'.mk (RM.out.below hb (by omega))
 have B2 := Box'.mk (B1.out.trans (hb.mono B1.out.size))
 have N0 := Box'.mk hr
 have hl0 : b1 < w2.heap.size := Row.lt hr
 clear hr hb R1 RM B1 c0 A1
 have cc : w2.cell? ⟨w.heap.size, 2, none⟩ = some (vg) := R2.out.cell 2
 have ff := R2.out.frozen 2
 have R1 : Box' (Row (w2.setCell ⟨w.heap.size, 2, none⟩ (.slice (some ⟨b1, 0, none⟩) x.g.c.length x.g.c.length)) w.heap.size 32 (snA x (.slice (some ⟨b1, 0, none⟩) x.g.c.length x.g.c.length) (vt) (vm) (vl))) := ⟨R2.out.setCell 2 _⟩
 have RM : Box' (Room (w2.setCell ⟨w.heap.size, 2, none⟩ (.slice (some ⟨b1, 0, none⟩) x.g.c.length x.g.c.length)) (w.heap.size + 1) 32 44) := ⟨M2.out.setOther _ _ (by simp)⟩
 have B1 : Box' (Below w.heap.size w (w2.setCell ⟨w.heap.size, 2, none⟩ (.slice (some ⟨b1, 0, none⟩) x.g.c.length x.g.c.length))) := ⟨B2.out.setCell (p := ⟨w.heap.size, 2, none⟩) (Nat.le_refl _) _⟩
 have hz2 : w2.heap.size ≤ (w2.setCell ⟨w.heap.size, 2, none⟩ (.slice (some ⟨b1, 0, none⟩) x.g.c.length x.g.c.length)).heap.size := ((Below.refl 0 w2).setCell (p := ⟨w.heap.size, 2, none⟩) (Nat.zero_le _) _).size
 have P1 := Box'.mk (Row.setOther N0.out ⟨w.heap.size, 2, none⟩ (.slice (some ⟨b1, 0, none⟩) x.g.c.length x.g.c.length) (by show b1 ≠ w.heap.size; omega))
 go_upto_region 2 with (fail)
 generalize (w2.setCell ⟨w.heap.size, 2, none⟩ (.slice (some ⟨b1, 0, none⟩) x.g.c.length x.g.c.length)) = wr at *
 have hq0 : b1 < wr.heap.size := by omega
 have hz : w.heap.size + 2 ≤ wr.heap.size := by omega
 clear R2 M2 B2 cc ff N0 hz2 hs
 have c1 : wr.cell? ⟨w.heap.size, 42, none⟩ = some (vm) := R1.out.cell 42
 go_wp2_with fail
 refine (A2.out _ B1.out).mono ?_
 rintro e w2 ⟨b2, rfl, hg1, hr, hb⟩
 have hs : wr.heap.size ≤ w2.heap.size := hb.size
 have R2 := Box'.mk (R1.out.below hb R1.out.lt)
 have M2 := Box'.mk (RM.out.below hb (by omega))
 have B2 := Box'.mk (B1.out.trans (hb.mono B1.out.size))
 have P1n := Box'.mk (Row.below P1.out hb (Row.lt P1.out))
 have N1 := Box'.mk hr
 have hl1 : b2 < w2.heap.size := Row.lt hr
 clear hr hb R1 RM B1 c1 A2 P1
 have cc : w2.cell? ⟨w.heap.size, 42, none⟩ = some (vm) := R2.out.cell 42
 have ff := R2.out.frozen 42
 have R1 : Box' (Row (w2.setCell ⟨w.heap.size, 42, none⟩ (.slice (some ⟨b2, 0, none⟩) x.mn.c.length x.mn.c.length)) w.heap.size 32 (snA x (.slice (some ⟨b1, 0, none⟩) x.g.c.length x.g.c.length) (vt) (.slice (some ⟨b2, 0, none⟩) x.mn.c.length x.mn.c.length) (vl))) := ⟨R2.out.setCell 42 _⟩
 have RM : Box' (Room (w2.setCell ⟨w.heap.size, 42, none⟩ (.slice (some ⟨b2, 0, none⟩) x.mn.c.length x.mn.c.length)) (w.heap.size + 1) 32 44) := ⟨M2.out.setOther _ _ (by simp)⟩
 have B1 : Box' (Below w.heap.size w (w2.setCell ⟨w.heap.size, 42, none⟩ (.slice (some ⟨b2, 0, none⟩) x.mn.c.length x.mn.c.length))) := ⟨B2.out.setCell (p := ⟨w.heap.size, 42, none⟩) (Nat.le_refl _) _⟩
 have hz2 : w2.heap.size ≤ (w2.setCell ⟨w.heap.size, 42, none⟩ (.slice (some ⟨b2, 0, none⟩) x.mn.c.length x.mn.c.length)).heap.size := ((Below.refl 0 w2).setCell (p := ⟨w.heap.size, 42, none⟩) (Nat.zero_le _) _).size
 have P1 := Box'.mk (Row.setOther P1n.out ⟨w.heap.size, 42, none⟩ (.slice (some ⟨b2, 0, none⟩) x.mn.c.length x.mn.c.length) (by show b1 ≠ w.heap.size; omega))
 have P2 := Box'.mk (Row.setOther N1.out ⟨w.heap.size, 42, none⟩ (.slice (some ⟨b2, 0, none⟩) x.mn.c.length x.mn.c.length) (by show b2 ≠ w.heap.size; omega))
 go_upto_region 3 with (fail)
 generalize (w2.setCell ⟨w.heap.size, 42, none⟩ (.slice (some ⟨b2, 0, none⟩) x.mn.c.length x.mn.c.length)) = wr at *
 have hq1 : b2 < wr.heap.size := by omega
 have hz : w.heap.size + 2 ≤ wr.heap.size := by omega
 clear R2 M2 B2 cc ff N1 hz2 hs P1n
 have c2 : wr.cell? ⟨w.heap.size, 18, none⟩ = some (vt) := R1.out.cell 18
 go_wp2_with fail
 refine (A3.out _ B1.out).mono ?_
 rintro e w2 ⟨b3, rfl, hg2, hr, hb⟩
 have hs : wr.heap.size ≤ w2.heap.size := hb.size
 have R2 := Box'.mk (R1.out.below hb R1.out.lt)
 have M2 := Box'.mk (RM.out.below hb (by omega))
 have B2 := Box'.mk (B1.out.trans (hb.mono B1.out.size))
 have P1n := Box'.mk (Row.below P1.out hb (Row.lt P1.out))
 have P2n := Box'.mk (Row.below P2.out hb (Row.lt P2.out))
 have N2 := Box'.mk hr
 have hl2 : b3 < w2.heap.size := Row.lt hr
 clear hr hb R1 RM B1 c2 A3 P1 P2
 have cc : w2.cell? ⟨w.heap.size, 18, none⟩ = some (vt) := R2.out.cell 18
 have ff := R2.out.frozen 18
 have R1 : Box' (Row (w2.setCell ⟨w.heap.size, 18, none⟩ (.slice (some ⟨b3, 0, none⟩) x.tabs.length x.tabs.length)) w.heap.size 32 (snA x (.slice (some ⟨b1, 0, none⟩) x.g.c.length x.g.c.length) (.slice (some ⟨b3, 0, none⟩) x.tabs.length x.tabs.length) (.slice (some ⟨b2, 0, none⟩) x.mn.c.length x.mn.c.length) (vl))) := ⟨R2.out.setCell 18 _⟩
 have RM : Box' (Room (w2.setCell ⟨w.heap.size, 18, none⟩ (.slice (some ⟨b3, 0, none⟩) x.tabs.length x.tabs.length)) (w.heap.size + 1) 32 44) := ⟨M2.out.setOther _ _ (by simp)⟩
 have B1 : Box' (Below w.heap.size w (w2.setCell ⟨w.heap.size, 18, none⟩ (.slice (some ⟨b3, 0, none⟩) x.tabs.length x.tabs.length))) := ⟨B2.out.setCell (p := ⟨w.heap.size, 18, none⟩) (Nat.le_refl _) _⟩
 have hz2 : w2.heap.size ≤ (w2.setCell ⟨w.heap.size, 18, none⟩ (.slice (some ⟨b3, 0, none⟩) x.tabs.length x.tabs.length)).heap.size := ((Below.refl 0 w2).setCell (p := ⟨w.heap.size, 18, none⟩) (Nat.zero_le _) _).size
 have P1 := Box'.mk (Row.setOther P1n.out ⟨w.heap.size, 18, none⟩ (.slice (some ⟨b3, 0, none⟩) x.tabs.length x.tabs.length) (by show b1 ≠ w.heap.size; omega))
 have P2 := Box'.mk (Row.setOther P2n.out ⟨w.heap.size, 18, none⟩ (.slice (some ⟨b3, 0, none⟩) x.tabs.length x.tabs.length) (by show b2 ≠ w.heap.size; omega))
 have P3 := Box'.mk (Row.setOther N2.out ⟨w.heap.size, 18, none⟩ (.slice (some ⟨b3, 0, none⟩) x.tabs.length x.tabs.length) (by show b3 ≠ w.heap.size; omega))
 go_upto_region 4 with (fail)
 generalize (w2.setCell ⟨w.heap.size, 18, none⟩ (.slice (some ⟨b3, 0, none⟩) x.tabs.length x.tabs.length)) = wr at *
 have hq2 : b3 < wr.heap.size := by omega
 have hz : w.heap.size + 2 ≤ wr.heap.size := by omega
 clear R2 M2 B2 cc ff N2 hz2 hs P1n P2n
 have c3 : wr.cell? ⟨w.heap.size, 43, none⟩ = some (vl) := R1.out.cell 43
 go_wp2_with fail
 refine (A4.out _ B1.out).mono ?_
 rintro e w2 ⟨b4, rfl, hg3, hr, hb⟩
 have hs : wr.heap.size ≤ w2.heap.size := hb.size
 have R2 := Box'.mk (R1.out.below hb R1.out.lt)
 have M2 := Box'.mk (RM.out.below hb (by omega))
 have B2 := Box'.mk (B1.out.trans (hb.mono B1.out.size))
 have P1n := Box'.mk (Row.below P1.out hb (Row.lt P1.out))
 have P2n := Box'.mk (Row.below P2.out hb (Row.lt P2.out))
 have P3n := Box'.mk (Row.below P3.out hb (Row.lt P3.out))
 have N3 := Box'.mk hr
 have hl3 : b4 < w2.heap.size := Row.lt hr
 clear hr hb R1 RM B1 c3 A4 P1 P2 P3
 have cc : w2.cell? ⟨w.heap.size, 43, none⟩ = some (vl) := R2.out.cell 43
 have ff := R2.out.frozen 43
 have R1 : Box' (Row (w2.setCell ⟨w.heap.size, 43, none⟩ (.slice (some ⟨b4, 0, none⟩) x.title.length x.title.length)) w.heap.size 32 (snA x (.slice (some ⟨b1, 0, none⟩) x.g.c.length x.g.c.length) (.slice (some ⟨b3, 0, none⟩) x.tabs.length x.tabs.length) (.slice (some ⟨b2, 0, none⟩) x.mn.c.length x.mn.c.length) (.slice (some ⟨b4, 0, none⟩) x.title.length x.title.length))) := ⟨R2.out.setCell 43 _⟩
 have RM : Box' (Room (w2.setCell ⟨w.heap.size, 43, none⟩ (.slice (some ⟨b4, 0, none⟩) x.title.length x.title.length)) (w.heap.size + 1) 32 44) := ⟨M2.out.setOther _ _ (by simp)⟩
 have B1 : Box' (Below w.heap.size w (w2.setCell ⟨w.heap.size, 43, none⟩ (.slice (some ⟨b4, 0, none⟩) x.title.length x.title.length))) := ⟨B2.out.setCell (p := ⟨w.heap.size, 43, none⟩) (Nat.le_refl _) _⟩
 have hz2 : w2.heap.size ≤ (w2.setCell ⟨w.heap.size, 43, none⟩ (.slice (some ⟨b4, 0, none⟩) x.title.length x.title.length)).heap.size := ((Below.refl 0 w2).setCell (p := ⟨w.heap.size, 43, none⟩) (Nat.zero_le _) _).size
 have P1 := Box'.mk (Row.setOther P1n.out ⟨w.heap.size, 43, none⟩ (.slice (some ⟨b4, 0, none⟩) x.title.length x.title.length) (by show b1 ≠ w.heap.size; omega))
 have P2 := Box'.mk (Row.setOther P2n.out ⟨w.heap.size, 43, none⟩ (.slice (some ⟨b4, 0, none⟩) x.title.length x.title.length) (by show b2 ≠ w.heap.size; omega))
 have P3 := Box'.mk (Row.setOther P3n.out ⟨w.heap.size, 43, none⟩ (.slice (some ⟨b4, 0, none⟩) x.title.length x.title.length) (by show b3 ≠ w.heap.size; omega))
 have P4 := Box'.mk (Row.setOther N3.out ⟨w.heap.size, 43, none⟩ (.slice (some ⟨b4, 0, none⟩) x.title.length x.title.length) (by show b4 ≠ w.heap.size; omega))
 go_upto_region 5 with (fail)
 generalize (w2.setCell ⟨w.heap.size, 43, none⟩ (.slice (some ⟨b4, 0, none⟩) x.title.length x.title.length)) = wr at *
 have hq3 : b4 < wr.heap.size := by omega
 have hz : w.heap.size + 2 ≤ wr.heap.size := by omega
 clear R2 M2 B2 cc ff N3 hz2 hs P1n P2n P3n
 have O := Box'.mk (snA_one x (some ⟨b1, 0, none⟩) (some ⟨b3, 0, none⟩) (some ⟨b2, 0, none⟩) (some ⟨b4, 0, none⟩) x.g.c.length x.tabs.length x.mn.c.length x.title.length x.g.c.length x.tabs.length x.mn.c.length x.title.length)
 go_wp2_with (first
  | (refine wpList_load_row rfl 32 (.tmp 1) rfl w.heap.size rfl 32 (snA x (.slice (some ⟨b1, 0, none⟩) x.g.c.length x.g.c.length) (.slice (some ⟨b3, 0, none⟩) x.tabs.length x.tabs.length) (.slice (some ⟨b2, 0, none⟩) x.mn.c.length x.mn.c.length) (.slice (some ⟨b4, 0, none⟩) x.title.length x.title.length)) R1.out _ U32.out rfl 44 S32.out rfl ?_)
  | (refine wpList_store_row rfl 32 (.tmp 2) (.tmp 23) rfl (w.heap.size + 1) rfl (snA x (.slice (some ⟨b1, 0, none⟩) x.g.c.length x.g.c.length) (.slice (some ⟨b3, 0, none⟩) x.tabs.length x.tabs.length) (.slice (some ⟨b2, 0, none⟩) x.mn.c.length x.mn.c.length) (.slice (some ⟨b4, 0, none⟩) x.title.length x.title.length)) rfl 32 44 RM.out S32.out rfl O.out ?_))
 exact bodyPost_ret (results_row (p := 2) (ty := 32) (fn := Tryz.f125) rfl _ (w.heap.size + 1) rfl 32 _ (RM.out.setRow _) _ Tryz.underlying32 rfl 44 s32 rfl) rfl ⟨b1, b2, b3, b4, rfl, ⟨Row.setRowOther P1.out _ _ (by omega), Row.setRowOther P2.out _ _ (by omega), Row.setRowOther P3.out _ _ (by omega), Row.setRowOther P4.out _ _ (by omega), by omega, by omega, by omega, by omega⟩, below_setRow B1.out (by omega) _⟩
def OwnN (N : Nat) (w : World) (v : Value) (l : List Int) : Prop := w.ownsRow N 3 1 v l.length (l.map (Value.int .i64))
def OwnR (N : Nat) (w : World) (v : Value) (l : List Int) : Prop := w.ownsRow N 21 1 v l.length (l.map (Value.int .i32))
/-- The lists of a screen are one's own, in blocks from N on. -/
structure OwnL (N : Nat) (w : World) (x : Sn) (vg vt vm vl : Value) : Prop where
 g : OwnC N w vg x.g.c
 m : OwnC N w vm x.mn.c
 gm : ∀ b, vg.ownBlock = some b → ¬ vm.ownBlock = some b
 t : OwnN N w vt x.tabs
 l : OwnR N w vl x.title
/-- A board: its screen in the box p, its lists one's own. -/
structure Bd (N : Nat) (w : World) (p : Nat) (x : Sn) (vg vt vm vl : Value) : Prop where
 box : Row w p 116 (snA x vg vt vm vl)
 hp : N ≤ p
 own : OwnL N w x vg vt vm vl
theorem ownsRow_down {N M e k : Nat} {w : World} {v : Value} {n : Nat} {xs : List Value} (h : w.ownsRow N e k v n xs) (hM : M ≤ N) : w.ownsRow M e k v n xs := by
 refine ⟨h.1, ?_⟩
 rcases h.2 with h2 | ⟨g, cap, cur, e1, e2, e3, e4⟩
 ·exact .inl h2
 ·exact .inr ⟨g, cap, cur, e1, Nat.le_trans hM e2, e3, e4⟩
theorem OwnL.down {N M : Nat} {w : World} {x : Sn} {vg vt vm vl : Value} (h : OwnL N w x vg vt vm vl) (hM : M ≤ N) : OwnL M w x vg vt vm vl :=
 ⟨ownsRow_down h.g hM, ownsRow_down h.m hM, h.gm, ownsRow_down h.t hM, ownsRow_down h.l hM⟩
theorem RC.own {N : Nat} {w : World} {b : Nat} {c : List Cl} (h : RC w b c []) (hn : N ≤ b) (hm : c.length ≤ 1000000) : OwnC N w (.slice (some ⟨b, 0, none⟩) c.length c.length) c :=
 ⟨cLs_len c, .inr ⟨b, c.length, _, rfl, hn, h, Nat.le_refl _, by unfold maxLen; omega, by simp [cLs_len], by rw [List.append_nil, List.toList_toArray, List.take_of_length_le (by rw [cLs_len]; omega)]⟩⟩
theorem row_ownN {N : Nat} {w : World} {b : Nat} {l : List Int} (h : Row w b 3 (iNA l)) (hn : N ≤ b) (hm : l.length ≤ 1000000) : OwnN N w (.slice (some ⟨b, 0, none⟩) l.length l.length) l :=
 ⟨by simp, .inr ⟨b, l.length, _, rfl, hn, h, Nat.le_refl _, by unfold maxLen; omega, by simp [iNA], by rw [Nat.mul_one]; exact List.take_of_length_le (Nat.le_of_eq (by simp [iNA, rNA]))⟩⟩
theorem row_ownR {N : Nat} {w : World} {b : Nat} {l : List Int} (h : Row w b 21 (rNA l)) (hn : N ≤ b) (hm : l.length ≤ 1000000) : OwnR N w (.slice (some ⟨b, 0, none⟩) l.length l.length) l :=
 ⟨by simp, .inr ⟨b, l.length, _, rfl, hn, h, Nat.le_refl _, by unfold maxLen; omega, by simp [rNA], by rw [Nat.mul_one]; exact List.take_of_length_le (Nat.le_of_eq (by simp [iNA, rNA]))⟩⟩
theorem ownsRow_setRow {N M e k : Nat} {w : World} {v : Value} {n : Nat} {xs : List Value} (h : w.ownsRow N e k v n xs) (g t : Nat) (c' : Array Value) (hr : Room w g t M) (hne : e ≠ t) : (w.setRow g c').ownsRow N e k v n xs := by
 refine ⟨h.1, ?_⟩
 rcases h.2 with h2 | ⟨b, cap, cur, e1, e2, e3, e4⟩
 ·exact .inl h2
 ·have hb : b ≠ g := by
   intro ee
   subst ee
   obtain ⟨d, hd, _⟩ := hr
   have hd' : w.heap[b]? = some (.cells d t (0, 0)) := hd
   rw [e3] at hd'
   simp at hd'
   exact hne hd'.2
  exact .inr ⟨b, cap, cur, e1, e2, by rw [setRow_other _ _ _ _ hb]; exact e3, e4⟩
theorem OwnL.setRow {N M : Nat} {w : World} {x : Sn} {vg vt vm vl : Value} (h : OwnL N w x vg vt vm vl) (g t : Nat) (c' : Array Value) (hr : Room w g t M) (h1 : 56 ≠ t) (h2 : 3 ≠ t) (h3 : 21 ≠ t) : OwnL N (w.setRow g c') x vg vt vm vl :=
 ⟨ownsRow_setRow h.g g t c' hr h1, ownsRow_setRow h.m g t c' hr h1, h.gm, ownsRow_setRow h.t g t c' hr h2, ownsRow_setRow h.l g t c' hr h3⟩
theorem own_sl {N e k : Nat} {w : World} {v : Value} {n : Nat} {xs : List Value} (h : w.ownsRow N e k v n xs) : ∃ a m c, v = .slice a m c := by
 rcases h.2 with ⟨e1, _⟩ | ⟨b, cap, cur, e1, _⟩
 ·exact ⟨_, _, _, e1⟩
 ·exact ⟨_, _, _, e1⟩
theorem tab_len : ∀ (l : List Int) (ah cols : Int), tabF ah cols l = true → ah < cols → (l.length : Int) ≤ cols - ah - 1
 | [], ah, cols, _, h => by simp; omega
 | c :: r, ah, cols, h, h2 => by
  unfold tabF at h
  by_cases hc : c ≤ ah ∨ cols ≤ c
  ·rw [if_pos hc] at h; cases h
  ·rw [if_neg hc] at h
   have := tab_len r c cols h (by omega)
   rw [List.length_cons]
   omega
/-- The lists of a screen that may be are short. -/
theorem may_short {x : Sn} (h : mayN x = true) : x.g.c.length ≤ 1000000 ∧ x.mn.c.length ≤ 1000000 ∧ x.tabs.length ≤ 1000000 ∧ x.title.length ≤ 1000000 := by
 unfold mayN at h
 simp only [Bool.and_eq_true] at h
 obtain ⟨_, _, _, _, _, h5, h6, h7, h8⟩ := h
 obtain ⟨cols, rows, e1, e2, p1, p2, p3, p4, hl⟩ := mayG_dest h7
 have hle : cols * rows ≤ 512 * 512 := Nat.mul_le_mul p2 p4
 have ht := tab_len x.tabs (-1) x.g.co h5 (by omega)
 unfold titF at h6
 rw [Bool.and_eq_true] at h6
 have h6' := of_decide_eq_true h6.1
 refine ⟨by omega, ?_, by omega, by omega⟩
 unfold mnF at h8
 cases ha : x.alt with
 | true =>
  rw [ha, if_pos rfl] at h8
  simp only [Bool.and_eq_true] at h8
  obtain ⟨c', r', _, _, _, q2, _, q4, hl'⟩ := mayG_dest h8.2.2
  have : c' * r' ≤ 512 * 512 := Nat.mul_le_mul q2 q4
  omega
 | false =>
  rw [ha] at h8
  have h9 : samG x.mn.co x.mn.ro x.mn.c 0 0 [] = true := h8
  unfold samG eqL at h9
  simp only [Bool.and_eq_true] at h9
  have := of_decide_eq_true h9.2.2.1
  simp at this
  rw [this]
  simp
def zNt : St := ⟨0, 0, false, false, false, false, false, false, false, false⟩
def zNv : Sv := ⟨0, 0, false, false, zNt⟩
/-- The screen of zeros. -/
def zN : Sn := ⟨⟨0, 0, []⟩, zNv, 0, 0, [], false, false, false, false, false, zNv, false, ⟨0, 0, []⟩, []⟩
/-- The answer of an error. -/
def sErr : Value := .tuple #[.agg (snA zN (.slice none 0 0) (.slice none 0 0) (.slice none 0 0) (.slice none 0 0)), .int .i64 2]
theorem results_sn {fn : Func} {p q : Tmp} (hf : fn.results = #[.cell p 32, .tmp q]) (tmps : Array Value) (b : Nat) (hx : tmps.getD p undef = .pointer (some ⟨b, 0, none⟩)) (v : Value) (hq : tmps.getD q undef = v) (w : World) (c : Array Value) (hr : Row w b 32 c) (hn : c.size = 44) :
  (results fn tmps).run Tryz.prog w = .ok (.tuple #[.agg c, v]) w := by
 have hrun := run_loadVar_row (P := Tryz.prog) w b 32 32 c (0, 0) _ hr Tryz.underlying32 rfl (by rw [hn]; exact s32)
 have hx' : tmps[p]?.getD undef = .pointer (some ⟨b, 0, none⟩) := by simpa using hx
 have hv' : tmps[q]?.getD undef = v := by simpa using hq
 simp only [results, hf]
 simp [hx', hv', asAddr, hrun]
/-- What stands while a deed is done: the screen that came in, the room of the answer. -/
structure DoM (w : World) (s : Array Value) (wr : World) : Prop where
 r : Row wr w.heap.size 32 s
 rr : Room wr (w.heap.size + 1) 32 44
 be : Below w.heap.size w wr
 sz : w.heap.size + 2 ≤ wr.heap.size
theorem DoM.begin (w : World) (s : Array Value) : DoM w s ((w.alloc (.cells s 32)).alloc (.cells z32 32)) :=
 ⟨(Row.new _ _ _).alloc _, Room.made _ _ _ _ _ rfl (by simp), ((Below.refl w.heap.size w).alloc (Nat.le_refl _) _).alloc (by simp) _, by simp⟩
theorem DoM.below {w : World} {s : Array Value} {wr w' : World} (h : DoM w s wr) (hb : Below wr.heap.size wr w') : DoM w s w' :=
 ⟨h.r.below hb h.r.lt, h.rr.below hb (by have := h.sz; omega), h.be.trans (hb.mono h.be.size), Nat.le_trans h.sz hb.size⟩
theorem snA_oneV (x : Sn) (vg vt vm vl : Value) (h : ∃ a n c, vg = .slice a n c) (h2 : ∃ a n c, vt = .slice a n c) (h3 : ∃ a n c, vm = .slice a n c) (h4 : ∃ a n c, vl = .slice a n c) : (snA x vg vt vm vl).all (·.oneCell') = true := by
 obtain ⟨a1, n1, c1, rfl⟩ := h
 obtain ⟨a2, n2, c2, rfl⟩ := h2
 obtain ⟨a3, n3, c3, rfl⟩ := h3
 obtain ⟨a4, n4, c4, rfl⟩ := h4
 exact snA_one x a1 a2 a3 a4 n1 n2 n3 n4 c1 c2 c3 c4
theorem doC_no (x : Sn) (vg vt vm vl : Value) (k : Nat) (caps : Array Value) (w : World) (hl : Li w.heap.size w x vg vt vm vl) (hb : Bo x) (hN : mayN x = false) :
  Calls Tryz.prog 67 #[.agg (snA x vg vt vm vl), .func (.func k) #[] caps] w fun e w' => e = .returned sErr ∧ Below w.heap.size w w' := by
 have MY : Box' (∀ wx, Below w.heap.size w wx → Calls Tryz.prog 11 #[.agg (snA x vg vt vm vl)] wx fun e w' => e = .returned (.bool (mayN x)) ∧ Below wx.heap.size wx w') := ⟨fun wx h => smay_any x vg vt vm vl wx (hl.at h) hb⟩
 rw [hN] at MY
 have F := Box'.mk (DoM.begin w (snA x vg vt vm vl))
 have U32 := Box'.mk Tryz.underlying32
 have S32 := Box'.mk s32
 have O := Box'.mk (snA_one zN none none none none 0 0 0 0 0 0 0 0)
 clear hl hb hN
 go_enter Tryz.func67, Tryz.ntmps67
 go_upto_region 1 with (fail)
 generalize ((w.alloc (.cells (snA x vg vt vm vl) 32)).alloc (.cells z32 32)) = w1 at *
 go_wp2_with (first
  | (refine wpList_load_row rfl 32 (.tmp 2) rfl w.heap.size rfl 32 (snA x vg vt vm vl) F.out.r _ U32.out rfl 44 S32.out rfl ?_))
 refine (MY.out _ F.out.be).mono ?_
 rintro e w2 ⟨rfl, hb⟩
 replace F := Box'.mk (F.out.below hb)
 clear hb
 go_wp2_with (first
  | (refine wpList_store_row rfl 32 (.tmp 4) (.tmp 10) rfl (w.heap.size + 1) rfl (snA zN (.slice none 0 0) (.slice none 0 0) (.slice none 0 0) (.slice none 0 0)) rfl 32 44 F.out.rr S32.out rfl O.out ?_))
 exact bodyPost_ret (results_sn rfl _ (w.heap.size + 1) rfl _ rfl _ _ (F.out.rr.setRow _) rfl) rfl ⟨rfl, below_setRow F.out.be (by omega) _⟩
theorem doC_ok (x y : Sn) (vg vt vm vl : Value) (k : Nat) (caps : Array Value) (w : World) (hl : Li w.heap.size w x vg vt vm vl) (hb : Bo x) (hN : mayN x = true) (hk : ∀ args w, (callFunc k args).run Tryz.prog w = .ok (.enter k args) w)
  (D : ∀ wx p vg vt vm vl, Below w.heap.size w wx → Bd (w.heap.size + 2) wx p x vg vt vm vl → w.heap.size + 2 ≤ p → Calls Tryz.prog k (#[.pointer (some ⟨p, 0, none⟩)] ++ caps) wx fun e w' => (∃ v, e = .returned v) ∧ (∃ vg' vt' vm' vl', Bd (w.heap.size + 2) w' p y vg' vt' vm' vl') ∧ Below (w.heap.size + 2) wx w') :
  Calls Tryz.prog 67 #[.agg (snA x vg vt vm vl), .func (.func k) #[] caps] w fun e w' => (∃ vg' vt' vm' vl', e = .returned (.tuple #[.agg (snA y vg' vt' vm' vl'), .int .i64 0]) ∧ OwnL w.heap.size w' y vg' vt' vm' vl') ∧ Below w.heap.size w w' := by
 obtain ⟨s1, s2, s3, s4⟩ := may_short hN
 have MY : Box' (∀ wx, Below w.heap.size w wx → Calls Tryz.prog 11 #[.agg (snA x vg vt vm vl)] wx fun e w' => e = .returned (.bool (mayN x)) ∧ Below wx.heap.size wx w') := ⟨fun wx h => smay_any x vg vt vm vl wx (hl.at h) hb⟩
 rw [hN] at MY
 have AN : Box' (∀ wx, Below w.heap.size w wx → Calls Tryz.prog 125 #[.agg (snA x vg vt vm vl)] wx fun e w' => ∃ b1 b2 b3 b4, e = .returned (.agg (snA x (.slice (some ⟨b1, 0, none⟩) x.g.c.length x.g.c.length) (.slice (some ⟨b3, 0, none⟩) x.tabs.length x.tabs.length) (.slice (some ⟨b2, 0, none⟩) x.mn.c.length x.mn.c.length) (.slice (some ⟨b4, 0, none⟩) x.title.length x.title.length))) ∧ Ow wx.heap.size w' x b1 b2 b3 b4 ∧ Below wx.heap.size wx w') := ⟨fun wx h => sano_any x vg vt vm vl wx (hl.at h) s1 s2 s3 s4⟩
 have DD := Box'.mk D
 have HK := Box'.mk hk
 have F := Box'.mk (DoM.begin w (snA x vg vt vm vl))
 have U32 := Box'.mk Tryz.underlying32
 have S32 := Box'.mk s32
 have U116 := Box'.mk Tryz.underlying116
 have S116 := Box'.mk s116
 have SS : Box' (x.g.c.length ≤ 1000000 ∧ x.mn.c.length ≤ 1000000 ∧ x.tabs.length ≤ 1000000 ∧ x.title.length ≤ 1000000) := ⟨⟨s1, s2, s3, s4⟩⟩
 clear hl hb hN s1 s2 s3 s4 D hk
 go_enter Tryz.func67, Tryz.ntmps67
 go_upto_region 1 with (fail)
 generalize ((w.alloc (.cells (snA x vg vt vm vl) 32)).alloc (.cells z32 32)) = w1 at *
 go_wp2_with (first
  | (refine wpList_load_row rfl 32 (.tmp 2) rfl w.heap.size rfl 32 (snA x vg vt vm vl) F.out.r _ U32.out rfl 44 S32.out rfl ?_))
 refine (MY.out _ F.out.be).mono ?_
 rintro e w2 ⟨rfl, hb⟩
 replace F := Box'.mk (F.out.below hb)
 clear hb
 go_wp2_with (first
  | (refine wpList_load_row rfl 32 (.tmp 2) rfl w.heap.size rfl 32 (snA x vg vt vm vl) F.out.r _ U32.out rfl 44 S32.out rfl ?_))
 refine (AN.out _ F.out.be).mono ?_
 rintro e w3 ⟨b1, b2, b3, b4, rfl, ow, hb⟩
 have hs2 := F.out.sz
 replace F := Box'.mk (F.out.below hb)
 have hs3 := F.out.sz
 have RMn : Box' (Room (w3.alloc (.cells z32 116)) w3.heap.size 116 44) := ⟨Room.new _ _ _ _ rfl⟩
 have O4 := Box'.mk (snA_one x (some ⟨b1, 0, none⟩) (some ⟨b3, 0, none⟩) (some ⟨b2, 0, none⟩) (some ⟨b4, 0, none⟩) x.g.c.length x.tabs.length x.mn.c.length x.title.length x.g.c.length x.tabs.length x.mn.c.length x.title.length)
 have BN : Box' (Below w3.heap.size w3 ((w3.alloc (.cells z32 116)).setRow w3.heap.size (snA x (.slice (some ⟨b1, 0, none⟩) x.g.c.length x.g.c.length) (.slice (some ⟨b3, 0, none⟩) x.tabs.length x.tabs.length) (.slice (some ⟨b2, 0, none⟩) x.mn.c.length x.mn.c.length) (.slice (some ⟨b4, 0, none⟩) x.title.length x.title.length)))) := ⟨below_setRow (bR.alloc (Nat.le_refl _) _) (Nat.le_refl _) _⟩
 have F4 := Box'.mk (F.out.below BN.out)
 have P4 : Box' (Bd (w.heap.size + 2) ((w3.alloc (.cells z32 116)).setRow w3.heap.size (snA x (.slice (some ⟨b1, 0, none⟩) x.g.c.length x.g.c.length) (.slice (some ⟨b3, 0, none⟩) x.tabs.length x.tabs.length) (.slice (some ⟨b2, 0, none⟩) x.mn.c.length x.mn.c.length) (.slice (some ⟨b4, 0, none⟩) x.title.length x.title.length))) w3.heap.size x (.slice (some ⟨b1, 0, none⟩) x.g.c.length x.g.c.length) (.slice (some ⟨b3, 0, none⟩) x.tabs.length x.tabs.length) (.slice (some ⟨b2, 0, none⟩) x.mn.c.length x.mn.c.length) (.slice (some ⟨b4, 0, none⟩) x.title.length x.title.length)) := ⟨by
  have i1 := ow.n1
  have i2 := ow.n2
  have i3 := ow.n3
  have i4 := ow.n4
  obtain ⟨s1, s2, s3, s4⟩ := SS.out
  refine ⟨RMn.out.setRow _, by omega, ?_, ?_, ?_, ?_, ?_⟩
  ·exact RC.own (Row.below ow.g BN.out (Row.lt ow.g)) (by omega) s1
  ·exact RC.own (Row.below ow.m BN.out (Row.lt ow.m)) (by omega) s2
  ·intro b h1 h2
   simp only [Value.ownBlock, Option.some.injEq] at h1 h2
   omega
  ·exact row_ownN (ow.t.below BN.out ow.t.lt) (by omega) s3
  ·exact row_ownR (ow.l.below BN.out ow.l.lt) (by omega) s4⟩
 have hp : w.heap.size + 2 ≤ w3.heap.size := hs3
 clear ow hb F hs2 hs3 SS AN MY
 go_upto_region 4 with (first
  | (refine wpList_store_row rfl 116 (.tmp 6) (.tmp 12) rfl w3.heap.size rfl (snA x (.slice (some ⟨b1, 0, none⟩) x.g.c.length x.g.c.length) (.slice (some ⟨b3, 0, none⟩) x.tabs.length x.tabs.length) (.slice (some ⟨b2, 0, none⟩) x.mn.c.length x.mn.c.length) (.slice (some ⟨b4, 0, none⟩) x.title.length x.title.length)) rfl 116 44 RMn.out S116.out rfl O4.out ?_))
 generalize ((w3.alloc (.cells z32 116)).setRow w3.heap.size (snA x (.slice (some ⟨b1, 0, none⟩) x.g.c.length x.g.c.length) (.slice (some ⟨b3, 0, none⟩) x.tabs.length x.tabs.length) (.slice (some ⟨b2, 0, none⟩) x.mn.c.length x.mn.c.length) (.slice (some ⟨b4, 0, none⟩) x.title.length x.title.length))) = w4 at *
 clear RMn BN O4
 generalize w3.heap.size = p at *
 go_wp2_with fail
 rw [HK.out]
 refine (DD.out _ p _ _ _ _ F4.out.be P4.out hp).mono ?_
 rintro e w5 ⟨⟨v5, rfl⟩, ⟨vg', vt', vm', vl', bd⟩, hb⟩
 have BD := Box'.mk bd
 have RR := Box'.mk (F4.out.rr.below hb (by omega))
 have BE : Box' (Below w.heap.size w w5) := ⟨F4.out.be.trans (hb.mono (by omega))⟩
 have OO := Box'.mk (snA_oneV y vg' vt' vm' vl' (own_sl bd.own.g) (own_sl bd.own.t) (own_sl bd.own.m) (own_sl bd.own.l))
 clear hb bd F4 P4 DD
 go_wp2_with (first
  | (refine wpList_load_row rfl 116 (.tmp 6) rfl p rfl 116 (snA y vg' vt' vm' vl') BD.out.box _ U116.out rfl 44 S116.out rfl ?_)
  | (refine wpList_store_row rfl 32 (.tmp 4) (.tmp 15) rfl (w.heap.size + 1) rfl (snA y vg' vt' vm' vl') rfl 32 44 RR.out S32.out rfl OO.out ?_))
 exact bodyPost_ret (results_sn rfl _ (w.heap.size + 1) rfl _ rfl _ _ (RR.out.setRow _) rfl) rfl ⟨⟨_, _, _, _, rfl, (BD.out.own.setRow _ 32 _ RR.out (by decide) (by decide) (by decide)).down (Nat.le_add_right _ 2)⟩, below_setRow BE.out (by omega) _⟩
theorem do1_no (x : Sn) (vg vt vm vl : Value) (k : Nat) (d0 : Value) (w : World) (hl : Li w.heap.size w x vg vt vm vl) (hb : Bo x) (hN : mayN x = false) :
  Calls Tryz.prog 67 #[.agg (snA x vg vt vm vl), .func (.func k) #[] #[d0]] w fun e w' => e = .returned sErr ∧ Below w.heap.size w w' := doC_no x vg vt vm vl k #[d0] w hl hb hN
theorem do1_ok (x y : Sn) (vg vt vm vl : Value) (k : Nat) (d0 : Value) (w : World) (hl : Li w.heap.size w x vg vt vm vl) (hb : Bo x) (hN : mayN x = true) (hk : ∀ args w, (callFunc k args).run Tryz.prog w = .ok (.enter k args) w)
  (D : ∀ wx p vg vt vm vl, Below w.heap.size w wx → Bd (w.heap.size + 2) wx p x vg vt vm vl → w.heap.size + 2 ≤ p → Calls Tryz.prog k #[.pointer (some ⟨p, 0, none⟩), d0] wx fun e w' => (∃ v, e = .returned v) ∧ (∃ vg' vt' vm' vl', Bd (w.heap.size + 2) w' p y vg' vt' vm' vl') ∧ Below (w.heap.size + 2) wx w') :
  Calls Tryz.prog 67 #[.agg (snA x vg vt vm vl), .func (.func k) #[] #[d0]] w fun e w' => (∃ vg' vt' vm' vl', e = .returned (.tuple #[.agg (snA y vg' vt' vm' vl'), .int .i64 0]) ∧ OwnL w.heap.size w' y vg' vt' vm' vl') ∧ Below w.heap.size w w' := doC_ok x y vg vt vm vl k #[d0] w hl hb hN hk D
theorem do2_no (x : Sn) (vg vt vm vl : Value) (k : Nat) (d0 d1 : Value) (w : World) (hl : Li w.heap.size w x vg vt vm vl) (hb : Bo x) (hN : mayN x = false) :
  Calls Tryz.prog 67 #[.agg (snA x vg vt vm vl), .func (.func k) #[] #[d0, d1]] w fun e w' => e = .returned sErr ∧ Below w.heap.size w w' := doC_no x vg vt vm vl k #[d0, d1] w hl hb hN
theorem do2_ok (x y : Sn) (vg vt vm vl : Value) (k : Nat) (d0 d1 : Value) (w : World) (hl : Li w.heap.size w x vg vt vm vl) (hb : Bo x) (hN : mayN x = true) (hk : ∀ args w, (callFunc k args).run Tryz.prog w = .ok (.enter k args) w)
  (D : ∀ wx p vg vt vm vl, Below w.heap.size w wx → Bd (w.heap.size + 2) wx p x vg vt vm vl → w.heap.size + 2 ≤ p → Calls Tryz.prog k #[.pointer (some ⟨p, 0, none⟩), d0, d1] wx fun e w' => (∃ v, e = .returned v) ∧ (∃ vg' vt' vm' vl', Bd (w.heap.size + 2) w' p y vg' vt' vm' vl') ∧ Below (w.heap.size + 2) wx w') :
  Calls Tryz.prog 67 #[.agg (snA x vg vt vm vl), .func (.func k) #[] #[d0, d1]] w fun e w' => (∃ vg' vt' vm' vl', e = .returned (.tuple #[.agg (snA y vg' vt' vm' vl'), .int .i64 0]) ∧ OwnL w.heap.size w' y vg' vt' vm' vl') ∧ Below w.heap.size w w' := doC_ok x y vg vt vm vl k #[d0, d1] w hl hb hN hk D
theorem do3_no (x : Sn) (vg vt vm vl : Value) (k : Nat) (d0 d1 d2 : Value) (w : World) (hl : Li w.heap.size w x vg vt vm vl) (hb : Bo x) (hN : mayN x = false) :
  Calls Tryz.prog 67 #[.agg (snA x vg vt vm vl), .func (.func k) #[] #[d0, d1, d2]] w fun e w' => e = .returned sErr ∧ Below w.heap.size w w' := doC_no x vg vt vm vl k #[d0, d1, d2] w hl hb hN
theorem do3_ok (x y : Sn) (vg vt vm vl : Value) (k : Nat) (d0 d1 d2 : Value) (w : World) (hl : Li w.heap.size w x vg vt vm vl) (hb : Bo x) (hN : mayN x = true) (hk : ∀ args w, (callFunc k args).run Tryz.prog w = .ok (.enter k args) w)
  (D : ∀ wx p vg vt vm vl, Below w.heap.size w wx → Bd (w.heap.size + 2) wx p x vg vt vm vl → w.heap.size + 2 ≤ p → Calls Tryz.prog k #[.pointer (some ⟨p, 0, none⟩), d0, d1, d2] wx fun e w' => (∃ v, e = .returned v) ∧ (∃ vg' vt' vm' vl', Bd (w.heap.size + 2) w' p y vg' vt' vm' vl') ∧ Below (w.heap.size + 2) wx w') :
  Calls Tryz.prog 67 #[.agg (snA x vg vt vm vl), .func (.func k) #[] #[d0, d1, d2]] w fun e w' => (∃ vg' vt' vm' vl', e = .returned (.tuple #[.agg (snA y vg' vt' vm' vl'), .int .i64 0]) ∧ OwnL w.heap.size w' y vg' vt' vm' vl') ∧ Below w.heap.size w w' := doC_ok x y vg vt vm vl k #[d0, d1, d2] w hl hb hN hk D
/-- Some cells are written into a row. -/
theorem run_store_part (ty : TypeId) (w : World) (b t o : Nat) (c cs c' : Array Value) (hr : Row w b t c) (hi : (Tryz.prog.info? ty).map (·.size) = some cs.size) (hfit : o + cs.size ≤ c.size) (h1 : cs.all (·.oneCell') = true) (he : (c.toList.take o ++ cs.toList ++ c.toList.drop (o + cs.size)).toArray = c') :
  (Instr.storeAt ty (.pointer (some ⟨b, o, none⟩)) (.agg cs)).run Tryz.prog w = .ok () (w.setRow b c') := by
 have hst := run_storeCells_at Tryz.prog b o t cs.toList 0 c w hr (by simpa using hfit) (fun v hv => (Array.all_eq_true_iff_forall_mem.1 h1) v (by simpa using hv))
 have hs : (sizeOf ty).run Tryz.prog w = .ok cs.size w := by
  cases hq : Tryz.prog.info? ty with
  | none => simp [hq] at hi
  | some i => simp [hq] at hi; simp [sizeOf, typeInfo, hq, hi]
 have hl : cs.toList.length = cs.size := by simp
 simp only [Nat.add_zero, hl] at hst
 rw [he] at hst
 simp only [Instr.storeAt, Instr.sureAddr, Sem.run_bind, Sem.run_pure, Result.andThen_ok, storeVar, hs, Value.cells]
 simp [hst]
section
variable {ops : Array Oper} {rest : List Oper} {op : Oper} {a : Act} {w : World} {Q : Exit → Act → World → Prop}
theorem wp_store_part {K : Act → World → Prop} (ty : TypeId) (x z : Operand) (ho : op.op = .store ty x z) (b t o : Nat) (c cs c' : Array Value) (hx : a.eval x = .pointer (some ⟨b, o, none⟩)) (hz : a.eval z = .agg cs) (hr : Row w b t c) (hi : (Tryz.prog.info? ty).map (·.size) = some cs.size) (hfit : o + cs.size ≤ c.size) (h1 : cs.all (·.oneCell') = true) (he : (c.toList.take o ++ cs.toList ++ c.toList.drop (o + cs.size)).toArray = c')
  (h : K (a.put op.dst undef) (w.setRow b c')) : op.wp Tryz.prog a w K Q := by
 unfold Oper.wp execOp
 simp only [ho, hx, hz, Sem.run_bind, run_store_part ty w b t o c cs c' hr hi hfit h1 he, Result.andThen_ok, Sem.run_pure]
 exact h
theorem wpList_store_part (hgd : op.guard = none) (ty : TypeId) (x z : Operand) (ho : op.op = .store ty x z) (b t o : Nat) (c cs c' : Array Value) (hx : a.eval x = .pointer (some ⟨b, o, none⟩)) (hz : a.eval z = .agg cs) (hr : Row w b t c) (hi : (Tryz.prog.info? ty).map (·.size) = some cs.size) (hfit : o + cs.size ≤ c.size) (h1 : cs.all (·.oneCell') = true) (he : (c.toList.take o ++ cs.toList ++ c.toList.drop (o + cs.size)).toArray = c')
  (h : wpList Tryz.prog ops Q rest (a.put op.dst undef) (w.setRow b c')) : wpList Tryz.prog ops Q (op :: rest) a w :=
 wpList_plain hgd fun K hK => wp_store_part ty x z ho b t o c cs c' hx hz hr hi hfit h1 he (hK _ _ h)
end
theorem Bd.lt {N : Nat} {w : World} {p : Nat} {x : Sn} {vg vt vm vl : Value} (h : Bd N w p x vg vt vm vl) : p < w.heap.size := h.box.lt
/-- The screen in the box is another one, of the same lists. -/
theorem Bd.put {N : Nat} {w : World} {p : Nat} {x : Sn} {vg vt vm vl : Value} (h : Bd N w p x vg vt vm vl) (y : Sn) (e1 : y.g.c = x.g.c) (e2 : y.mn.c = x.mn.c) (e3 : y.tabs = x.tabs) (e4 : y.title = x.title) : Bd N (w.setRow p (snA y vg vt vm vl)) p y vg vt vm vl := by
 have o := h.own.setRow p 116 (snA y vg vt vm vl) (h.box.room (n := 44) rfl) (by decide) (by decide) (by decide)
 exact ⟨h.box.setRow _, h.hp, by rw [e1]; exact o.g, by rw [e2]; exact o.m, o.gm, by rw [e3]; exact o.t, by rw [e4]; exact o.l⟩
theorem ownsRow_below {N e k : Nat} {w w' : World} {v : Value} {n : Nat} {xs : List Value} (h : w.ownsRow N e k v n xs) (hb : Below w.heap.size w w') : w'.ownsRow N e k v n xs := by
 refine ⟨h.1, ?_⟩
 rcases h.2 with h2 | ⟨g, cap, cur, e1, e2, e3, e4⟩
 ·exact .inl h2
 ·exact .inr ⟨g, cap, cur, e1, e2, by rw [hb.block g (Array.getElem?_eq_some_iff.1 e3).1]; exact e3, e4⟩
theorem OwnL.below {N : Nat} {w w' : World} {x : Sn} {vg vt vm vl : Value} (h : OwnL N w x vg vt vm vl) (hb : Below w.heap.size w w') : OwnL N w' x vg vt vm vl :=
 ⟨ownsRow_below h.g hb, ownsRow_below h.m hb, h.gm, ownsRow_below h.t hb, ownsRow_below h.l hb⟩
theorem Bd.below {N : Nat} {w w' : World} {p : Nat} {x : Sn} {vg vt vm vl : Value} (h : Bd N w p x vg vt vm vl) (hb : Below w.heap.size w w') : Bd N w' p x vg vt vm vl := ⟨h.box.below hb h.box.lt, h.hp, h.own.below hb⟩
theorem keep_any (N : Nat) (w : World) (p : Nat) (x : Sn) (vg vt vm vl : Value) (h : Bd N w p x vg vt vm vl) :
  Calls Tryz.prog 70 #[.pointer (some ⟨p, 0, none⟩)] w fun e w' => (∃ v, e = .returned v) ∧ Bd N w' p { x with sv := x.cur } vg vt vm vl ∧ Tc p w w' := by
 have CU := Box'.mk (cursorOf_any x vg vt vm vl)
 have HB := Box'.mk h
 have U116 := Box'.mk Tryz.underlying116
 have S116 := Box'.mk s116
 have S29 := Box'.mk s29
 have O := Box'.mk (svA_one x.cur)
 clear h
 go_enter Tryz.func70, Tryz.ntmps70
 go_wp2_with (first
  | (refine wpList_load_row rfl 116 (.tmp 4) rfl p rfl 116 (snA x vg vt vm vl) HB.out.box _ U116.out rfl 44 S116.out rfl ?_))
 refine (CU.out _).mono ?_
 rintro e w2 ⟨rfl, hb⟩
 have B2 := Box'.mk (HB.out.below hb)
 have T2 : Box' (Tc p w w2) := ⟨Tc.of hb⟩
 clear hb HB
 go_wp2_with (first
  | (refine wpList_store_part rfl 29 (.tmp 8) (.tmp 6) rfl p 116 25 (snA x vg vt vm vl) (svA x.cur) (snA { x with sv := x.cur } vg vt vm vl) rfl rfl B2.out.box S29.out (show 25 + 14 ≤ 44 by omega) O.out rfl ?_))
 exact bodyPost_end (results_none rfl _ _) rfl ⟨⟨_, rfl⟩, B2.out.put _ rfl rfl rfl rfl, T2.out.setRow _⟩
end Go.Proofs.YtlekleeckcdcgaaGreat
