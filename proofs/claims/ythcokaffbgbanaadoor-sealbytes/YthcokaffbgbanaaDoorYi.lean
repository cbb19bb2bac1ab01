/- The walk of SealBytes. -/
import Derived.Test.YthcokaffbgbanaaDoorYh
import Derived.Test.YthcokaffbgbanaaDoorYg
import Derived.Test.YthcokaffbgbanaaDoorYa
namespace Go.Proofs.YthcokaffbgbanaaDoor
open Go.RowKit Go.BigFrame
set_option linter.unusedVariables false

def lgB (n : Nat) (m : Int) : Bool := decide (4096 < n ∧ (n : Int) ≤ m)
theorem lgB_any (n : Nat) (m : Int) (w : World) : Calls Tryd.prog 8 #[.int .i64 (n : Int), .int .i64 m] w fun e w' => e = .returned (.bool (lgB n m)) ∧ w' = w := by
  by_cases h1 : 4096 < n
  · have d1 : decide ((4096 : Int) < (n : Int)) = true := decide_eq_true (by omega)
    by_cases h2 : (n : Int) ≤ m
    · have d2 : decide ((n : Int) ≤ m) = true := decide_eq_true h2
      rw [show lgB n m = true from decide_eq_true ⟨h1, h2⟩]
      clear h1 h2
      go_enter Tryd.func8, Tryd.ntmps8
      go_wp2_with fail
      go_ret
      exact ⟨rfl, rfl⟩
    · have d2 : decide ((n : Int) ≤ m) = false := decide_eq_false h2
      rw [show lgB n m = false from decide_eq_false (fun h => h2 h.2)]
      clear h1 h2
      go_enter Tryd.func8, Tryd.ntmps8
      go_wp2_with fail
      go_ret
      exact ⟨rfl, rfl⟩
  · have d1 : decide ((4096 : Int) < (n : Int)) = false := decide_eq_false (by omega)
    rw [show lgB n m = false from decide_eq_false (fun h => h1 h.1)]
    clear h1
    go_enter Tryd.func8, Tryd.ntmps8
    go_wp2_with fail
    go_ret
    exact ⟨rfl, rfl⟩
set_option maxRecDepth 100000 in
set_option maxHeartbeats 8000000 in
theorem sealBytes_any (key : List UInt8) (hk : key.length = 16) (f : Nat) (hf : f < 256) (q s e : Nat) (hs : s < 65536) (he : e < 65536) (da : Option Addr) (dn dc : Nat) (ld : List UInt8) (va : Option Addr) (ln vc : Nat) (l : List UInt8) (w : World) (ht : Tab w)
    (hd : InE w.heap.size w (.slice da dn dc) ld) (ha : InE w.heap.size w (.slice va ln vc) l) (hdn : ld.length = dn) (hln : l.length = ln) (hll : l.length ≤ maxLen) (hld : ld.length ≤ maxLen) :
    Calls Tryd.prog 3 #[.agg (ag key), .agg #[.int .u64 (q : Int), .int .u16 (s : Int), .int .u16 (e : Int), .slice da dn dc], .agg #[.int .u8 (f : Int), .slice va ln vc]] w fun r w' => r = .returned (.bool true) ∧ Below w.heap.size w w' := by
  have hlt := ht.lt
  have B0 : Below w.heap.size w (((w.alloc (.cells (ag key) 23)).alloc (.cells #[.int .u64 (q : Int), .int .u16 (s : Int), .int .u16 (e : Int), .slice da dn dc] 28)).alloc (.cells #[.int .u8 (f : Int), .slice va ln vc] 31)) := (((Below.refl _ _).alloc (Nat.le_refl _) _).alloc (by simp) _).alloc (by simp; omega) _
  have R0 : Row (((w.alloc (.cells (ag key) 23)).alloc (.cells #[.int .u64 (q : Int), .int .u16 (s : Int), .int .u16 (e : Int), .slice da dn dc] 28)).alloc (.cells #[.int .u8 (f : Int), .slice va ln vc] 31)) w.heap.size 23 (ag key) := ((Row.new _ _ _).alloc _).alloc _
  have R1 : Row (((w.alloc (.cells (ag key) 23)).alloc (.cells #[.int .u64 (q : Int), .int .u16 (s : Int), .int .u16 (e : Int), .slice da dn dc] 28)).alloc (.cells #[.int .u8 (f : Int), .slice va ln vc] 31)) (w.heap.size + 1) 28 #[.int .u64 (q : Int), .int .u16 (s : Int), .int .u16 (e : Int), .slice da dn dc] := (Row.made _ _ _ _ _ rfl (by simp)).alloc _
  have R2 : Row (((w.alloc (.cells (ag key) 23)).alloc (.cells #[.int .u64 (q : Int), .int .u16 (s : Int), .int .u16 (e : Int), .slice da dn dc] 28)).alloc (.cells #[.int .u8 (f : Int), .slice va ln vc] 31)) (w.heap.size + 1 + 1) 31 #[.int .u8 (f : Int), .slice va ln vc] := Row.made _ _ _ _ _ rfl (by simp)
  have HL := Box'.mk lgB_any
  have HA := Box'.mk (fun (w1 : World) (hb : Below w.heap.size w w1) => anch_any w1 (ht.below hb hlt))
  have UPD : Box' (∀ W, Below w.heap.size w W → InE W.heap.size W (.slice da dn dc) ld) := ⟨fun W h => (hd.below h (Nat.le_refl _)).up h.size⟩
  have UPA : Box' (∀ W, Below w.heap.size w W → InE W.heap.size W (.slice va ln vc) l) := ⟨fun W h => (ha.below h (Nat.le_refl _)).up h.size⟩
  have HBK := Box'.mk (back_any key hk f hf q s e hs he da dn dc ld va ln vc l _ (ht.below B0 hlt) (UPD.out _ B0) (UPA.out _ B0) hdn hll hld)
  have HBY := Box'.mk (fun (W : World) (h : Below w.heap.size w W) => bytes_any key hk f q s e hs he (.slice da dn dc) ld hld W (ht.below h hlt) (UPD.out W h))
  have HRB := Box'.mk (fun (W : World) (h : Below w.heap.size w W) => refBytes_any key hk f q s e hs he (.slice da dn dc) ld W (UPD.out W h))
  have HDG := Box'.mk (fun (W : World) (h : Below w.heap.size w W) => dgram_any key hk f hf (.slice va ln vc) l hll W (ht.below h hlt) (UPA.out W h).bts)
  have HRD := Box'.mk (fun (W : World) (h : Below w.heap.size w W) => refDgram_any key hk f (.slice va ln vc) l hll W (UPA.out W h).bts)
  unfold dgv at HBY HRB
  rw [hdn] at HBY HRB
  clear hd ha hdn hln hll hld UPD UPA
  generalize Gf.byE f q dn = EB at *
  generalize Gf.byL key f q s e ld = LB at *
  generalize Gf.dgE key f l = E at *
  generalize Gf.dgQ key f l = Q at *
  generalize Gf.dgS key f l = S at *
  generalize Gf.dgO key f l = O at *
  generalize Gf.dgL key f l = L at *
  by_cases hL1 : 4096 < dn ∧ dn ≤ 65000
  · have g1 : lgB dn 65000 = true := decide_eq_true (by omega)
    clear hL1
    go_enter Tryd.func3, Tryd.ntmps3
    go_wp2_with (first | (go_at_call 8; refine (HL.out _ _ _).mono ?_; rintro e1 w1 ⟨rfl, rfl⟩) | (refine wpList_load_row rfl 23 (.tmp 3) rfl _ rfl _ _ R0 _ Tryd.underlying23 rfl 16 Tryd.info23 (by rw [ag_size]; exact hk) ?_) | fail)
    refine HBK.out.mono ?_
    rintro r w1 ⟨rfl, b1⟩
    have B1 := B0.trans (b1.mono B0.size)
    have A1 := Box'.mk (HA.out _ B1)
    clear HBK b1
    go_wp2_with fail
    refine A1.out.mono ?_
    rintro r w2 ⟨rfl, b2⟩
    clear A1
    go_wp2_with fail
    go_ret
    exact ⟨rfl, B1.trans (b2.mono B1.size)⟩
  · have g1 : lgB dn 65000 = false := decide_eq_false (by omega)
    clear hL1
    by_cases hL2 : 4096 < ln ∧ ln ≤ 65028
    · have g2 : lgB ln 65028 = true := decide_eq_true (by omega)
      clear hL2
      go_enter Tryd.func3, Tryd.ntmps3
      go_wp2_with (first | (go_at_call 8; refine (HL.out _ _ _).mono ?_; rintro e1 w1 ⟨rfl, rfl⟩) | (refine wpList_load_row rfl 23 (.tmp 3) rfl _ rfl _ _ R0 _ Tryd.underlying23 rfl 16 Tryd.info23 (by rw [ag_size]; exact hk) ?_) | fail)
      refine HBK.out.mono ?_
      rintro r w1 ⟨rfl, b1⟩
      have B1 := B0.trans (b1.mono B0.size)
      have A1 := Box'.mk (HA.out _ B1)
      clear HBK b1
      go_wp2_with fail
      refine A1.out.mono ?_
      rintro r w2 ⟨rfl, b2⟩
      clear A1
      go_wp2_with fail
      go_ret
      exact ⟨rfl, B1.trans (b2.mono B1.size)⟩
    · have g2 : lgB ln 65028 = false := decide_eq_false (by omega)
      clear hL2 HBK
      go_enter Tryd.func3, Tryd.ntmps3
      have Y0 := Box'.mk (HBY.out _ B0)
      go_wp2_with (first | (go_at_call 8; refine (HL.out _ _ _).mono ?_; rintro e1 w1 ⟨rfl, rfl⟩) | (refine wpList_load_row rfl 23 (.tmp 3) rfl _ rfl _ _ R0 _ Tryd.underlying23 rfl 16 Tryd.info23 (by rw [ag_size]; exact hk) ?_) | fail)
      refine Y0.out.mono ?_
      rintro r w1 ⟨x1, rfl, o1, b1⟩
      clear Y0 HBY
      have B1 := B0.trans (b1.mono B0.size)
      have K1 := R0.below b1 R0.lt
      have D1 := R1.below b1 R1.lt
      have A1 := R2.below b1 R2.lt
      have Y1 := Box'.mk (HRB.out _ B1)
      clear R0 R1 R2 B0 b1 HRB
      have c0 : w1.cell? ⟨w.heap.size + 1, 0, none⟩ = some (.int .u64 (q : Int)) := D1.cell 0
      have c1 : w1.cell? ⟨w.heap.size + 1, 1, none⟩ = some (.int .u16 (s : Int)) := D1.cell 1
      have c2 : w1.cell? ⟨w.heap.size + 1, 2, none⟩ = some (.int .u16 (e : Int)) := D1.cell 2
      have c3 : w1.cell? ⟨w.heap.size + 1, 3, none⟩ = some (.slice da dn dc) := D1.cell 3
      have a0 : w1.cell? ⟨w.heap.size + 1 + 1, 0, none⟩ = some (.int .u8 (f : Int)) := A1.cell 0
      go_wp2_with (first | (refine wpList_load_row rfl 23 (.tmp 3) rfl _ rfl _ _ K1 _ Tryd.underlying23 rfl 16 Tryd.info23 (by rw [ag_size]; exact hk) ?_) | fail)
      refine Y1.out.mono ?_
      rintro r w2 ⟨x2, rfl, o2, b2⟩
      clear Y1 c0 c1 c2 c3 a0
      have B2 := B1.trans (b2.mono B1.size)
      have K2 := K1.below b2 K1.lt
      have A2 := A1.below b2 A1.lt
      have o1' := o1.below b2
      have Y2 := Box'.mk (HDG.out _ B2)
      clear K1 D1 A1 B1 o1 b2 HDG
      have a0 : w2.cell? ⟨w.heap.size + 1 + 1, 0, none⟩ = some (.int .u8 (f : Int)) := A2.cell 0
      have a1 : w2.cell? ⟨w.heap.size + 1 + 1, 1, none⟩ = some (.slice va ln vc) := A2.cell 1
      go_wp2_with (first | (refine wpList_load_row rfl 23 (.tmp 3) rfl _ rfl _ _ K2 _ Tryd.underlying23 rfl 16 Tryd.info23 (by rw [ag_size]; exact hk) ?_) | fail)
      refine Y2.out.mono ?_
      rintro r w3 ⟨u3, rfl, i3, b3⟩
      clear Y2 a0 a1
      obtain ⟨ua, uc, rfl⟩ := i3.slice
      unfold dgv
      have b4 : Below w3.heap.size w3 (w3.alloc (.cells #[.int .u64 (Q : Int), .int .u16 (S : Int), .int .u16 (O : Int), .slice ua L.length uc] 28)) := (Below.refl _ _).alloc (Nat.le_refl _) _
      have x4 : Row (w3.alloc (.cells #[.int .u64 (Q : Int), .int .u16 (S : Int), .int .u16 (O : Int), .slice ua L.length uc] 28)) w3.heap.size 28 #[.int .u64 (Q : Int), .int .u16 (S : Int), .int .u16 (O : Int), .slice ua L.length uc] := Row.new _ _ _
      have b24 := b3.trans (b4.mono b3.size)
      have B4 := B2.trans (b24.mono B2.size)
      have K4 := K2.below b24 K2.lt
      have A4 := A2.below b24 A2.lt
      have p4 := o1'.below b24
      have r4 := o2.below b24
      have i4 := i3.below b4
      clear K2 A2 B2 o1' o2 b3 b4 b24 i3
      go_upto_region 6 with (fail)
      obtain ⟨W4, hW4⟩ : ∃ W4, w3.alloc (.cells #[.int .u64 (Q : Int), .int .u16 (S : Int), .int .u16 (O : Int), .slice ua L.length uc] 28) = W4 := ⟨_, rfl⟩
      rw [hW4] at x4 B4 K4 A4 p4 r4 i4 ⊢
      clear hW4
      have Y4 := Box'.mk (HRD.out _ B4)
      have a0 : W4.cell? ⟨w.heap.size + 1 + 1, 0, none⟩ = some (.int .u8 (f : Int)) := A4.cell 0
      have a1 : W4.cell? ⟨w.heap.size + 1 + 1, 1, none⟩ = some (.slice va ln vc) := A4.cell 1
      go_wp2_with (first | (refine wpList_load_row rfl 23 (.tmp 3) rfl _ rfl _ _ K4 _ Tryd.underlying23 rfl 16 Tryd.info23 (by rw [ag_size]; exact hk) ?_) | fail)
      refine Y4.out.mono ?_
      rintro r w5 ⟨u5, rfl, i5, b5⟩
      clear Y4 a0 a1 HRD
      obtain ⟨ub, ud, rfl⟩ := i5.slice
      unfold dgv
      have b6 : Below w5.heap.size w5 (w5.alloc (.cells #[.int .u64 (Q : Int), .int .u16 (S : Int), .int .u16 (O : Int), .slice ub L.length ud] 28)) := (Below.refl _ _).alloc (Nat.le_refl _) _
      have y6 : Row (w5.alloc (.cells #[.int .u64 (Q : Int), .int .u16 (S : Int), .int .u16 (O : Int), .slice ub L.length ud] 28)) w5.heap.size 28 #[.int .u64 (Q : Int), .int .u16 (S : Int), .int .u16 (O : Int), .slice ub L.length ud] := Row.new _ _ _
      have b46 := b5.trans (b6.mono b5.size)
      have B6 := B4.trans (b46.mono B4.size)
      have x6 := x4.below b46 x4.lt
      have p6 := (p4.below b46).bts
      have r6 := (r4.below b46).bts
      have i6 := (i4.below b46).inE.bts
      have j6 := (i5.below b6).inE.bts
      clear K4 A4 B4 p4 r4 b5 b6 b46 i4 i5 x4
      go_upto_region 7 with (fail)
      obtain ⟨W6, hW6⟩ : ∃ W6, w5.alloc (.cells #[.int .u64 (Q : Int), .int .u16 (S : Int), .int .u16 (O : Int), .slice ub L.length ud] 28) = W6 := ⟨_, rfl⟩
      rw [hW6] at x6 B6 p6 r6 i6 j6 y6 ⊢
      clear hW6
      have SM := refSame_any _ _ _ _ LB LB W6 p6 r6
      rw [decide_eq_true rfl] at SM
      have HSM := Box'.mk SM
      have S8 := same8_any Q S O Q S O _ _ L L W6 i6 j6
      rw [decide_eq_true ⟨rfl, rfl, rfl, rfl⟩] at S8
      unfold dgv at S8
      have HS8 := Box'.mk S8
      have k0 : W6.cell? ⟨w3.heap.size, 0, none⟩ = some (.int .u64 (Q : Int)) := x6.cell 0
      have k1 : W6.cell? ⟨w3.heap.size, 1, none⟩ = some (.int .u16 (S : Int)) := x6.cell 1
      have k2 : W6.cell? ⟨w3.heap.size, 2, none⟩ = some (.int .u16 (O : Int)) := x6.cell 2
      have k3 : W6.cell? ⟨w3.heap.size, 3, none⟩ = some (.slice ua L.length uc) := x6.cell 3
      have l0 : W6.cell? ⟨w5.heap.size, 0, none⟩ = some (.int .u64 (Q : Int)) := y6.cell 0
      have l1 : W6.cell? ⟨w5.heap.size, 1, none⟩ = some (.int .u16 (S : Int)) := y6.cell 1
      have l2 : W6.cell? ⟨w5.heap.size, 2, none⟩ = some (.int .u16 (O : Int)) := y6.cell 2
      have l3 : W6.cell? ⟨w5.heap.size, 3, none⟩ = some (.slice ub L.length ud) := y6.cell 3
      clear SM S8 p6 r6 i6 j6 x6 y6
      go_wp2_with (first | (go_at_call 15; refine HSM.out.mono ?_; rintro e1 w7 ⟨rfl, rfl⟩) | fail)
      refine HS8.out.mono ?_
      rintro r w8 ⟨rfl, b8⟩
      clear HS8 HSM k0 k1 k2 k3 l0 l1 l2 l3
      have B8 := B6.trans (b8.mono B6.size)
      have A8 := Box'.mk (HA.out _ B8)
      go_wp2_with fail
      refine A8.out.mono ?_
      rintro r w9 ⟨rfl, b9⟩
      clear A8
      go_wp2_with fail
      go_ret
      exact ⟨rfl, B8.trans (b9.mono B8.size)⟩
end Go.Proofs.YthcokaffbgbanaaDoor
