/- The walks of long and back. -/
import Derived.Test.YthcokaffbgbanaaDoorZv
namespace Go.Proofs.YthcokaffbgbanaaDoor
open Go.RowKit Go.BigFrame
set_option linter.unusedVariables false

theorem long_any (n m : Nat) (w : World) : Calls Tryd.prog 8 #[.int .i64 (n : Int), .int .i64 (m : Int)] w fun e w' => e = .returned (.bool (decide (4096 < n ∧ n ≤ m))) ∧ w' = w := by
  by_cases h1 : 4096 < n
  · have d1 : decide ((4096 : Int) < (n : Int)) = true := decide_eq_true (by omega)
    by_cases h2 : n ≤ m
    · have d2 : decide ((n : Int) ≤ (m : Int)) = true := decide_eq_true (by omega)
      rw [decide_eq_true ⟨h1, h2⟩]
      have d3 : decide (n ≤ m) = true := decide_eq_true h2
      clear h1 h2
      go_enter Tryd.func8, Tryd.ntmps8
      go_wp2_with fail
      go_ret
      exact ⟨rfl, rfl⟩
    · have d2 : decide ((n : Int) ≤ (m : Int)) = false := decide_eq_false (by omega)
      rw [decide_eq_false (fun h => h2 h.2)]
      have d3 : decide (n ≤ m) = false := decide_eq_false h2
      clear h1 h2
      go_enter Tryd.func8, Tryd.ntmps8
      go_wp2_with fail
      go_ret
      exact ⟨rfl, rfl⟩
  · have d1 : decide ((4096 : Int) < (n : Int)) = false := decide_eq_false (by omega)
    rw [decide_eq_false (fun h => h1 h.1)]
    clear h1
    go_enter Tryd.func8, Tryd.ntmps8
    go_wp2_with fail
    go_ret
    exact ⟨rfl, rfl⟩
set_option maxRecDepth 100000 in
set_option maxHeartbeats 8000000 in
theorem back_A1 (key : List UInt8) (hk : key.length = 16) (f : Nat) (hf : f < 256) (q s e : Nat) (hs : s < 65536) (he : e < 65536) (da : Option Addr) (dn dc : Nat) (ld : List UInt8) (va : Option Addr) (ln vc : Nat) (l : List UInt8) (w : World) (ht : Tab w)
    (hd : InE w.heap.size w (.slice da dn dc) ld) (ha : InE w.heap.size w (.slice va ln vc) l) (hdn : ld.length = dn) (hll : l.length ≤ maxLen) (hld : ld.length ≤ maxLen) (hlong : 4096 < dn ∧ dn ≤ 65000) (h1 : f = 1) :
    Calls Tryd.prog 9 #[.agg (ag key), .agg #[.int .u64 (q : Int), .int .u16 (s : Int), .int .u16 (e : Int), .slice da dn dc], .agg #[.int .u8 (f : Int), .slice va ln vc]] w fun r w' => r = .returned (.bool true) ∧ Below w.heap.size w w' := by
  have hlt := ht.lt
  have B0 : Below w.heap.size w (((w.alloc (.cells (ag key) 23)).alloc (.cells #[.int .u64 (q : Int), .int .u16 (s : Int), .int .u16 (e : Int), .slice da dn dc] 28)).alloc (.cells #[.int .u8 (f : Int), .slice va ln vc] 31)) := (((Below.refl _ _).alloc (Nat.le_refl _) _).alloc (by simp) _).alloc (by simp; omega) _
  have R0 : Row (((w.alloc (.cells (ag key) 23)).alloc (.cells #[.int .u64 (q : Int), .int .u16 (s : Int), .int .u16 (e : Int), .slice da dn dc] 28)).alloc (.cells #[.int .u8 (f : Int), .slice va ln vc] 31)) w.heap.size 23 (ag key) := ((Row.new _ _ _).alloc _).alloc _
  have R1 : Row (((w.alloc (.cells (ag key) 23)).alloc (.cells #[.int .u64 (q : Int), .int .u16 (s : Int), .int .u16 (e : Int), .slice da dn dc] 28)).alloc (.cells #[.int .u8 (f : Int), .slice va ln vc] 31)) (w.heap.size + 1) 28 #[.int .u64 (q : Int), .int .u16 (s : Int), .int .u16 (e : Int), .slice da dn dc] := (Row.made _ _ _ _ _ rfl (by simp)).alloc _
  have R2 : Row (((w.alloc (.cells (ag key) 23)).alloc (.cells #[.int .u64 (q : Int), .int .u16 (s : Int), .int .u16 (e : Int), .slice da dn dc] 28)).alloc (.cells #[.int .u8 (f : Int), .slice va ln vc] 31)) (w.heap.size + 1 + 1) 31 #[.int .u8 (f : Int), .slice va ln vc] := Row.made _ _ _ _ _ rfl (by simp)
  have HID := Box'.mk ((hd.below B0 (Nat.le_refl _)).up B0.size)
  have HIA := Box'.mk ((ha.below B0 (Nat.le_refl _)).up B0.size)
  have HBD := Box'.mk hd
  have HBA := Box'.mk ha
  have HDN := Box'.mk hdn
  have HLl := Box'.mk hll
  have HLd := Box'.mk hld
  clear hd ha hdn hll hld
  have H1 := Box'.mk h1
  have e1 : ((f : Int) == 1) = true := by rw [beq_iff_eq]; omega
  clear h1
  have hL : ∀ w, Calls Tryd.prog 8 #[.int .i64 (dn : Int), .int .i64 65000] w fun e w' => e = .returned (.bool true) ∧ w' = w := fun w => by
    have := long_any dn 65000 w
    rw [decide_eq_true hlong] at this
    exact this
  have HBY := Box'.mk (bytes_any key hk f q s e hs he (.slice da dn dc) ld HLd.out _ (ht.below B0 hlt) HID.out)
  unfold dgv at HBY
  rw [HDN.out] at HBY
  go_enter Tryd.func9, Tryd.ntmps9
  go_wp2_with (first | (go_at_call 8; refine (hL _).mono ?_; rintro e1 w1 ⟨rfl, rfl⟩) | (refine wpList_load_row rfl 23 (.tmp 3) rfl _ rfl _ _ R0 _ Tryd.underlying23 rfl 16 Tryd.info23 (by rw [ag_size]; exact hk) ?_) | fail)
  refine HBY.out.mono ?_
  rintro r w1 ⟨ub, rfl, o1, b1⟩
  clear HBY hL
  have B1 := B0.trans (b1.mono B0.size)
  have K1 := R0.below b1 R0.lt
  have D1 := R1.below b1 R1.lt
  have A1 := R2.below b1 R2.lt
  clear B0 R0 R1 R2 b1
  obtain ⟨uba, ubc, rfl⟩ := o1.slice
  have HO1 := Box'.mk o1
  have c0 : w1.cell? ⟨w.heap.size + 1, 0, none⟩ = some (.int .u64 (q : Int)) := D1.cell 0
  by_cases hby : Gf.byE f q dn = 0
  · obtain ⟨hs1, hq1, hd1⟩ := Gf.byE_ok hby
    have hby' : Gf.byE f q ld.length = 0 := by rw [HDN.out]; exact hby
    have eL : Gf.byL key f q s e ld = Gf.dgB key f q s e ld := if_pos hby'
    have lB := Gf.dgB_len key f q s e ld
    rw [HDN.out] at lB
    obtain ⟨g1, g2, g3, g4, g5⟩ := Gf.dg_by (key := key) hby' hs he
    have DG := dgram_any key hk f hf (.slice uba (Gf.byL key f q s e ld).length ubc) (Gf.byL key f q s e ld) (by rw [eL, lB]; unfold maxLen; omega) w1 (ht.below B1 hlt) HO1.out.bts
    rw [eL, g1, g2, g3, g4, g5, lB] at DG
    rw [hby, eL, lB]
    have HDG := Box'.mk DG
    have dq : decide ((4611686018427387904 : Int) ≤ (q : Int)) = false := decide_eq_false (by omega)
    skip
    clear DG g1 g2 g3 g4 g5 eL lB hs1 hq1
    have cf : w1.cell? ⟨w.heap.size + 1 + 1, 0, none⟩ = some (.int .u8 (f : Int)) := A1.cell 0
    go_wp2_with (first | (refine wpList_load_row rfl 23 (.tmp 3) rfl _ rfl _ _ K1 _ Tryd.underlying23 rfl 16 Tryd.info23 (by rw [ag_size]; exact hk) ?_) | fail)
    refine HDG.out.mono ?_
    rintro r w2 ⟨u2, rfl, i2, b2⟩
    clear HDG c0 cf HO1
    obtain ⟨ua, uc, rfl⟩ := i2.slice
    have B2 := B1.trans (b2.mono B1.size)
    have D2 := D1.below b2 D1.lt
    have hln : ld.length = dn := HDN.out
    rw [hln] at i2 ⊢
    unfold dgv
    have b3 : Below w2.heap.size w2 (w2.alloc (.cells #[.int .u64 (q : Int), .int .u16 (s : Int), .int .u16 (e : Int), .slice ua dn uc] 28)) := (Below.refl _ _).alloc (Nat.le_refl _) _
    have x3 : Row (w2.alloc (.cells #[.int .u64 (q : Int), .int .u16 (s : Int), .int .u16 (e : Int), .slice ua dn uc] 28)) w2.heap.size 28 #[.int .u64 (q : Int), .int .u16 (s : Int), .int .u16 (e : Int), .slice ua dn uc] := Row.new _ _ _
    have B3 := B2.trans (b3.mono B2.size)
    have D3 := D2.below b3 D2.lt
    have i3 := (i2.below b3).inE.bts
    have SM := same8_any q s e q s e _ _ ld ld _ i3 ((HBD.out.below B3 (Nat.le_refl _)).up B3.size).bts
    rw [decide_eq_true ⟨rfl, rfl, rfl, rfl⟩] at SM
    unfold dgv at SM
    have HSM := Box'.mk SM
    have e28 : ((dn + 28 : Nat) : Int) = (dn : Int) + 28 := by omega
    clear SM B2 D2 i2 i3 b3 b2 K1 A1 D1 B1
    go_upto_region 7 with (fail)
    obtain ⟨W3, hW3⟩ : ∃ W3, w2.alloc (.cells #[.int .u64 (q : Int), .int .u16 (s : Int), .int .u16 (e : Int), .slice ua dn uc] 28) = W3 := ⟨_, rfl⟩
    rw [hW3] at B3 D3 x3 HSM ⊢
    clear hW3
    have k0 : W3.cell? ⟨w2.heap.size, 0, none⟩ = some (.int .u64 (q : Int)) := x3.cell 0
    have k1 : W3.cell? ⟨w2.heap.size, 1, none⟩ = some (.int .u16 (s : Int)) := x3.cell 1
    have k2 : W3.cell? ⟨w2.heap.size, 2, none⟩ = some (.int .u16 (e : Int)) := x3.cell 2
    have k3 : W3.cell? ⟨w2.heap.size, 3, none⟩ = some (.slice ua dn uc) := x3.cell 3
    have l0 : W3.cell? ⟨w.heap.size + 1, 0, none⟩ = some (.int .u64 (q : Int)) := D3.cell 0
    have l1 : W3.cell? ⟨w.heap.size + 1, 1, none⟩ = some (.int .u16 (s : Int)) := D3.cell 1
    have l2 : W3.cell? ⟨w.heap.size + 1, 2, none⟩ = some (.int .u16 (e : Int)) := D3.cell 2
    have l3 : W3.cell? ⟨w.heap.size + 1, 3, none⟩ = some (.slice da dn dc) := D3.cell 3
    go_wp2_with fail
    refine HSM.out.mono ?_
    rintro r w4 ⟨rfl, b4⟩
    clear HSM k0 k1 k2 k3 l0 l1 l2 l3
    go_wp2_with fail
    go_ret
    exact ⟨rfl, B3.trans (b4.mono B3.size)⟩
  · have e0 : Gf.byE f q dn = 2 := by
      unfold Gf.byE at hby ⊢
      split
      · rename_i hh; rw [if_pos hh] at hby; exact absurd rfl hby
      · rfl
    have hby' : ¬ (Gf.byE f q ld.length = 0) := by rw [HDN.out]; exact hby
    have eL : Gf.byL key f q s e ld = [] := if_neg hby'
    have eN : (Gf.byL key f q s e ld).length = 0 := by rw [eL]; rfl
    rw [e0, eN]
    have dq : decide ((4611686018427387904 : Int) ≤ (q : Int)) = true := decide_eq_true (by unfold Gf.byE at hby; by_cases hq : q < 4611686018427387904; (exact absurd (if_pos ⟨.inl H1.out, hq, hlong.2⟩) hby); omega)
    clear hby hby' eL eN HO1
    go_wp2_with fail
    go_ret
    exact ⟨rfl, B1⟩
set_option maxRecDepth 100000 in
set_option maxHeartbeats 8000000 in
theorem back_A2 (key : List UInt8) (hk : key.length = 16) (f : Nat) (hf : f < 256) (q s e : Nat) (hs : s < 65536) (he : e < 65536) (da : Option Addr) (dn dc : Nat) (ld : List UInt8) (va : Option Addr) (ln vc : Nat) (l : List UInt8) (w : World) (ht : Tab w)
    (hd : InE w.heap.size w (.slice da dn dc) ld) (ha : InE w.heap.size w (.slice va ln vc) l) (hdn : ld.length = dn) (hll : l.length ≤ maxLen) (hld : ld.length ≤ maxLen) (hlong : 4096 < dn ∧ dn ≤ 65000) (h2 : f = 2) :
    Calls Tryd.prog 9 #[.agg (ag key), .agg #[.int .u64 (q : Int), .int .u16 (s : Int), .int .u16 (e : Int), .slice da dn dc], .agg #[.int .u8 (f : Int), .slice va ln vc]] w fun r w' => r = .returned (.bool true) ∧ Below w.heap.size w w' := by
  have hlt := ht.lt
  have B0 : Below w.heap.size w (((w.alloc (.cells (ag key) 23)).alloc (.cells #[.int .u64 (q : Int), .int .u16 (s : Int), .int .u16 (e : Int), .slice da dn dc] 28)).alloc (.cells #[.int .u8 (f : Int), .slice va ln vc] 31)) := (((Below.refl _ _).alloc (Nat.le_refl _) _).alloc (by simp) _).alloc (by simp; omega) _
  have R0 : Row (((w.alloc (.cells (ag key) 23)).alloc (.cells #[.int .u64 (q : Int), .int .u16 (s : Int), .int .u16 (e : Int), .slice da dn dc] 28)).alloc (.cells #[.int .u8 (f : Int), .slice va ln vc] 31)) w.heap.size 23 (ag key) := ((Row.new _ _ _).alloc _).alloc _
  have R1 : Row (((w.alloc (.cells (ag key) 23)).alloc (.cells #[.int .u64 (q : Int), .int .u16 (s : Int), .int .u16 (e : Int), .slice da dn dc] 28)).alloc (.cells #[.int .u8 (f : Int), .slice va ln vc] 31)) (w.heap.size + 1) 28 #[.int .u64 (q : Int), .int .u16 (s : Int), .int .u16 (e : Int), .slice da dn dc] := (Row.made _ _ _ _ _ rfl (by simp)).alloc _
  have R2 : Row (((w.alloc (.cells (ag key) 23)).alloc (.cells #[.int .u64 (q : Int), .int .u16 (s : Int), .int .u16 (e : Int), .slice da dn dc] 28)).alloc (.cells #[.int .u8 (f : Int), .slice va ln vc] 31)) (w.heap.size + 1 + 1) 31 #[.int .u8 (f : Int), .slice va ln vc] := Row.made _ _ _ _ _ rfl (by simp)
  have HID := Box'.mk ((hd.below B0 (Nat.le_refl _)).up B0.size)
  have HIA := Box'.mk ((ha.below B0 (Nat.le_refl _)).up B0.size)
  have HBD := Box'.mk hd
  have HBA := Box'.mk ha
  have HDN := Box'.mk hdn
  have HLl := Box'.mk hll
  have HLd := Box'.mk hld
  clear hd ha hdn hll hld
  have H2 := Box'.mk h2
  have e1 : ((f : Int) == 1) = false := by rw [beq_eq_false_iff_ne]; omega
  have e2 : ((f : Int) == 2) = true := by rw [beq_iff_eq]; omega
  clear h2
  have hL : ∀ w, Calls Tryd.prog 8 #[.int .i64 (dn : Int), .int .i64 65000] w fun e w' => e = .returned (.bool true) ∧ w' = w := fun w => by
    have := long_any dn 65000 w
    rw [decide_eq_true hlong] at this
    exact this
  have HBY := Box'.mk (bytes_any key hk f q s e hs he (.slice da dn dc) ld HLd.out _ (ht.below B0 hlt) HID.out)
  unfold dgv at HBY
  rw [HDN.out] at HBY
  go_enter Tryd.func9, Tryd.ntmps9
  go_wp2_with (first | (go_at_call 8; refine (hL _).mono ?_; rintro e1 w1 ⟨rfl, rfl⟩) | (refine wpList_load_row rfl 23 (.tmp 3) rfl _ rfl _ _ R0 _ Tryd.underlying23 rfl 16 Tryd.info23 (by rw [ag_size]; exact hk) ?_) | fail)
  refine HBY.out.mono ?_
  rintro r w1 ⟨ub, rfl, o1, b1⟩
  clear HBY hL
  have B1 := B0.trans (b1.mono B0.size)
  have K1 := R0.below b1 R0.lt
  have D1 := R1.below b1 R1.lt
  have A1 := R2.below b1 R2.lt
  clear B0 R0 R1 R2 b1
  obtain ⟨uba, ubc, rfl⟩ := o1.slice
  have HO1 := Box'.mk o1
  have c0 : w1.cell? ⟨w.heap.size + 1, 0, none⟩ = some (.int .u64 (q : Int)) := D1.cell 0
  by_cases hby : Gf.byE f q dn = 0
  · obtain ⟨hs1, hq1, hd1⟩ := Gf.byE_ok hby
    have hby' : Gf.byE f q ld.length = 0 := by rw [HDN.out]; exact hby
    have eL : Gf.byL key f q s e ld = Gf.dgB key f q s e ld := if_pos hby'
    have lB := Gf.dgB_len key f q s e ld
    rw [HDN.out] at lB
    obtain ⟨g1, g2, g3, g4, g5⟩ := Gf.dg_by (key := key) hby' hs he
    have DG := dgram_any key hk f hf (.slice uba (Gf.byL key f q s e ld).length ubc) (Gf.byL key f q s e ld) (by rw [eL, lB]; unfold maxLen; omega) w1 (ht.below B1 hlt) HO1.out.bts
    rw [eL, g1, g2, g3, g4, g5, lB] at DG
    rw [hby, eL, lB]
    have HDG := Box'.mk DG
    have dq : decide ((4611686018427387904 : Int) ≤ (q : Int)) = false := decide_eq_false (by omega)
    skip
    clear DG g1 g2 g3 g4 g5 eL lB hs1 hq1
    have cf : w1.cell? ⟨w.heap.size + 1 + 1, 0, none⟩ = some (.int .u8 (f : Int)) := A1.cell 0
    go_wp2_with (first | (refine wpList_load_row rfl 23 (.tmp 3) rfl _ rfl _ _ K1 _ Tryd.underlying23 rfl 16 Tryd.info23 (by rw [ag_size]; exact hk) ?_) | fail)
    refine HDG.out.mono ?_
    rintro r w2 ⟨u2, rfl, i2, b2⟩
    clear HDG c0 cf HO1
    obtain ⟨ua, uc, rfl⟩ := i2.slice
    have B2 := B1.trans (b2.mono B1.size)
    have D2 := D1.below b2 D1.lt
    have hln : ld.length = dn := HDN.out
    rw [hln] at i2 ⊢
    unfold dgv
    have b3 : Below w2.heap.size w2 (w2.alloc (.cells #[.int .u64 (q : Int), .int .u16 (s : Int), .int .u16 (e : Int), .slice ua dn uc] 28)) := (Below.refl _ _).alloc (Nat.le_refl _) _
    have x3 : Row (w2.alloc (.cells #[.int .u64 (q : Int), .int .u16 (s : Int), .int .u16 (e : Int), .slice ua dn uc] 28)) w2.heap.size 28 #[.int .u64 (q : Int), .int .u16 (s : Int), .int .u16 (e : Int), .slice ua dn uc] := Row.new _ _ _
    have B3 := B2.trans (b3.mono B2.size)
    have D3 := D2.below b3 D2.lt
    have i3 := (i2.below b3).inE.bts
    have SM := same8_any q s e q s e _ _ ld ld _ i3 ((HBD.out.below B3 (Nat.le_refl _)).up B3.size).bts
    rw [decide_eq_true ⟨rfl, rfl, rfl, rfl⟩] at SM
    unfold dgv at SM
    have HSM := Box'.mk SM
    have e28 : ((dn + 28 : Nat) : Int) = (dn : Int) + 28 := by omega
    clear SM B2 D2 i2 i3 b3 b2 K1 A1 D1 B1
    go_upto_region 7 with (fail)
    obtain ⟨W3, hW3⟩ : ∃ W3, w2.alloc (.cells #[.int .u64 (q : Int), .int .u16 (s : Int), .int .u16 (e : Int), .slice ua dn uc] 28) = W3 := ⟨_, rfl⟩
    rw [hW3] at B3 D3 x3 HSM ⊢
    clear hW3
    have k0 : W3.cell? ⟨w2.heap.size, 0, none⟩ = some (.int .u64 (q : Int)) := x3.cell 0
    have k1 : W3.cell? ⟨w2.heap.size, 1, none⟩ = some (.int .u16 (s : Int)) := x3.cell 1
    have k2 : W3.cell? ⟨w2.heap.size, 2, none⟩ = some (.int .u16 (e : Int)) := x3.cell 2
    have k3 : W3.cell? ⟨w2.heap.size, 3, none⟩ = some (.slice ua dn uc) := x3.cell 3
    have l0 : W3.cell? ⟨w.heap.size + 1, 0, none⟩ = some (.int .u64 (q : Int)) := D3.cell 0
    have l1 : W3.cell? ⟨w.heap.size + 1, 1, none⟩ = some (.int .u16 (s : Int)) := D3.cell 1
    have l2 : W3.cell? ⟨w.heap.size + 1, 2, none⟩ = some (.int .u16 (e : Int)) := D3.cell 2
    have l3 : W3.cell? ⟨w.heap.size + 1, 3, none⟩ = some (.slice da dn dc) := D3.cell 3
    go_wp2_with fail
    refine HSM.out.mono ?_
    rintro r w4 ⟨rfl, b4⟩
    clear HSM k0 k1 k2 k3 l0 l1 l2 l3
    go_wp2_with fail
    go_ret
    exact ⟨rfl, B3.trans (b4.mono B3.size)⟩
  · have e0 : Gf.byE f q dn = 2 := by
      unfold Gf.byE at hby ⊢
      split
      · rename_i hh; rw [if_pos hh] at hby; exact absurd rfl hby
      · rfl
    have hby' : ¬ (Gf.byE f q ld.length = 0) := by rw [HDN.out]; exact hby
    have eL : Gf.byL key f q s e ld = [] := if_neg hby'
    have eN : (Gf.byL key f q s e ld).length = 0 := by rw [eL]; rfl
    rw [e0, eN]
    have dq : decide ((4611686018427387904 : Int) ≤ (q : Int)) = true := decide_eq_true (by unfold Gf.byE at hby; by_cases hq : q < 4611686018427387904; (exact absurd (if_pos ⟨.inr H2.out, hq, hlong.2⟩) hby); omega)
    clear hby hby' eL eN HO1
    go_wp2_with fail
    go_ret
    exact ⟨rfl, B1⟩
set_option maxRecDepth 100000 in
set_option maxHeartbeats 8000000 in
theorem back_A3 (key : List UInt8) (hk : key.length = 16) (f : Nat) (hf : f < 256) (q s e : Nat) (hs : s < 65536) (he : e < 65536) (da : Option Addr) (dn dc : Nat) (ld : List UInt8) (va : Option Addr) (ln vc : Nat) (l : List UInt8) (w : World) (ht : Tab w)
    (hd : InE w.heap.size w (.slice da dn dc) ld) (ha : InE w.heap.size w (.slice va ln vc) l) (hdn : ld.length = dn) (hll : l.length ≤ maxLen) (hld : ld.length ≤ maxLen) (hlong : 4096 < dn ∧ dn ≤ 65000) (h1 : ¬ f = 1) (h2 : ¬ f = 2) :
    Calls Tryd.prog 9 #[.agg (ag key), .agg #[.int .u64 (q : Int), .int .u16 (s : Int), .int .u16 (e : Int), .slice da dn dc], .agg #[.int .u8 (f : Int), .slice va ln vc]] w fun r w' => r = .returned (.bool true) ∧ Below w.heap.size w w' := by
  have hlt := ht.lt
  have B0 : Below w.heap.size w (((w.alloc (.cells (ag key) 23)).alloc (.cells #[.int .u64 (q : Int), .int .u16 (s : Int), .int .u16 (e : Int), .slice da dn dc] 28)).alloc (.cells #[.int .u8 (f : Int), .slice va ln vc] 31)) := (((Below.refl _ _).alloc (Nat.le_refl _) _).alloc (by simp) _).alloc (by simp; omega) _
  have R0 : Row (((w.alloc (.cells (ag key) 23)).alloc (.cells #[.int .u64 (q : Int), .int .u16 (s : Int), .int .u16 (e : Int), .slice da dn dc] 28)).alloc (.cells #[.int .u8 (f : Int), .slice va ln vc] 31)) w.heap.size 23 (ag key) := ((Row.new _ _ _).alloc _).alloc _
  have R1 : Row (((w.alloc (.cells (ag key) 23)).alloc (.cells #[.int .u64 (q : Int), .int .u16 (s : Int), .int .u16 (e : Int), .slice da dn dc] 28)).alloc (.cells #[.int .u8 (f : Int), .slice va ln vc] 31)) (w.heap.size + 1) 28 #[.int .u64 (q : Int), .int .u16 (s : Int), .int .u16 (e : Int), .slice da dn dc] := (Row.made _ _ _ _ _ rfl (by simp)).alloc _
  have R2 : Row (((w.alloc (.cells (ag key) 23)).alloc (.cells #[.int .u64 (q : Int), .int .u16 (s : Int), .int .u16 (e : Int), .slice da dn dc] 28)).alloc (.cells #[.int .u8 (f : Int), .slice va ln vc] 31)) (w.heap.size + 1 + 1) 31 #[.int .u8 (f : Int), .slice va ln vc] := Row.made _ _ _ _ _ rfl (by simp)
  have HID := Box'.mk ((hd.below B0 (Nat.le_refl _)).up B0.size)
  have HIA := Box'.mk ((ha.below B0 (Nat.le_refl _)).up B0.size)
  have HBD := Box'.mk hd
  have HBA := Box'.mk ha
  have HDN := Box'.mk hdn
  have HLl := Box'.mk hll
  have HLd := Box'.mk hld
  clear hd ha hdn hll hld
  have e1 : ((f : Int) == 1) = false := by rw [beq_eq_false_iff_ne]; omega
  have e2 : ((f : Int) == 2) = false := by rw [beq_eq_false_iff_ne]; omega
  have hL : ∀ w, Calls Tryd.prog 8 #[.int .i64 (dn : Int), .int .i64 65000] w fun e w' => e = .returned (.bool true) ∧ w' = w := fun w => by
    have := long_any dn 65000 w
    rw [decide_eq_true hlong] at this
    exact this
  have HBY := Box'.mk (bytes_any key hk f q s e hs he (.slice da dn dc) ld HLd.out _ (ht.below B0 hlt) HID.out)
  unfold dgv at HBY
  rw [HDN.out] at HBY
  go_enter Tryd.func9, Tryd.ntmps9
  go_wp2_with (first | (go_at_call 8; refine (hL _).mono ?_; rintro e1 w1 ⟨rfl, rfl⟩) | (refine wpList_load_row rfl 23 (.tmp 3) rfl _ rfl _ _ R0 _ Tryd.underlying23 rfl 16 Tryd.info23 (by rw [ag_size]; exact hk) ?_) | fail)
  refine HBY.out.mono ?_
  rintro r w1 ⟨ub, rfl, o1, b1⟩
  clear HBY hL
  have B1 := B0.trans (b1.mono B0.size)
  have K1 := R0.below b1 R0.lt
  have D1 := R1.below b1 R1.lt
  have A1 := R2.below b1 R2.lt
  clear B0 R0 R1 R2 b1
  obtain ⟨uba, ubc, rfl⟩ := o1.slice
  have HO1 := Box'.mk o1
  have c0 : w1.cell? ⟨w.heap.size + 1, 0, none⟩ = some (.int .u64 (q : Int)) := D1.cell 0
  by_cases hby : Gf.byE f q dn = 0
  · obtain ⟨hs1, hq1, hd1⟩ := Gf.byE_ok hby
    have hby' : Gf.byE f q ld.length = 0 := by rw [HDN.out]; exact hby
    have eL : Gf.byL key f q s e ld = Gf.dgB key f q s e ld := if_pos hby'
    have lB := Gf.dgB_len key f q s e ld
    rw [HDN.out] at lB
    obtain ⟨g1, g2, g3, g4, g5⟩ := Gf.dg_by (key := key) hby' hs he
    have DG := dgram_any key hk f hf (.slice uba (Gf.byL key f q s e ld).length ubc) (Gf.byL key f q s e ld) (by rw [eL, lB]; unfold maxLen; omega) w1 (ht.below B1 hlt) HO1.out.bts
    rw [eL, g1, g2, g3, g4, g5, lB] at DG
    rw [hby, eL, lB]
    have HDG := Box'.mk DG
    have dq : decide ((4611686018427387904 : Int) ≤ (q : Int)) = false := decide_eq_false (by omega)
    exact absurd hs1 (by omega)
  · have e0 : Gf.byE f q dn = 2 := by
      unfold Gf.byE at hby ⊢
      split
      · rename_i hh; rw [if_pos hh] at hby; exact absurd rfl hby
      · rfl
    have hby' : ¬ (Gf.byE f q ld.length = 0) := by rw [HDN.out]; exact hby
    have eL : Gf.byL key f q s e ld = [] := if_neg hby'
    have eN : (Gf.byL key f q s e ld).length = 0 := by rw [eL]; rfl
    rw [e0, eN]
    clear hby hby' eL eN HO1
    go_wp2_with fail
    go_ret
    exact ⟨rfl, B1⟩
set_option maxRecDepth 100000 in
set_option maxHeartbeats 8000000 in
theorem back_B1 (key : List UInt8) (hk : key.length = 16) (f : Nat) (hf : f < 256) (q s e : Nat) (hs : s < 65536) (he : e < 65536) (da : Option Addr) (dn dc : Nat) (ld : List UInt8) (va : Option Addr) (ln vc : Nat) (l : List UInt8) (w : World) (ht : Tab w)
    (hd : InE w.heap.size w (.slice da dn dc) ld) (ha : InE w.heap.size w (.slice va ln vc) l) (hdn : ld.length = dn) (hll : l.length ≤ maxLen) (hld : ld.length ≤ maxLen) (hlong : ¬ (4096 < dn ∧ dn ≤ 65000)) (h1 : f = 1) :
    Calls Tryd.prog 9 #[.agg (ag key), .agg #[.int .u64 (q : Int), .int .u16 (s : Int), .int .u16 (e : Int), .slice da dn dc], .agg #[.int .u8 (f : Int), .slice va ln vc]] w fun r w' => r = .returned (.bool true) ∧ Below w.heap.size w w' := by
  have hlt := ht.lt
  have B0 : Below w.heap.size w (((w.alloc (.cells (ag key) 23)).alloc (.cells #[.int .u64 (q : Int), .int .u16 (s : Int), .int .u16 (e : Int), .slice da dn dc] 28)).alloc (.cells #[.int .u8 (f : Int), .slice va ln vc] 31)) := (((Below.refl _ _).alloc (Nat.le_refl _) _).alloc (by simp) _).alloc (by simp; omega) _
  have R0 : Row (((w.alloc (.cells (ag key) 23)).alloc (.cells #[.int .u64 (q : Int), .int .u16 (s : Int), .int .u16 (e : Int), .slice da dn dc] 28)).alloc (.cells #[.int .u8 (f : Int), .slice va ln vc] 31)) w.heap.size 23 (ag key) := ((Row.new _ _ _).alloc _).alloc _
  have R1 : Row (((w.alloc (.cells (ag key) 23)).alloc (.cells #[.int .u64 (q : Int), .int .u16 (s : Int), .int .u16 (e : Int), .slice da dn dc] 28)).alloc (.cells #[.int .u8 (f : Int), .slice va ln vc] 31)) (w.heap.size + 1) 28 #[.int .u64 (q : Int), .int .u16 (s : Int), .int .u16 (e : Int), .slice da dn dc] := (Row.made _ _ _ _ _ rfl (by simp)).alloc _
  have R2 : Row (((w.alloc (.cells (ag key) 23)).alloc (.cells #[.int .u64 (q : Int), .int .u16 (s : Int), .int .u16 (e : Int), .slice da dn dc] 28)).alloc (.cells #[.int .u8 (f : Int), .slice va ln vc] 31)) (w.heap.size + 1 + 1) 31 #[.int .u8 (f : Int), .slice va ln vc] := Row.made _ _ _ _ _ rfl (by simp)
  have HID := Box'.mk ((hd.below B0 (Nat.le_refl _)).up B0.size)
  have HIA := Box'.mk ((ha.below B0 (Nat.le_refl _)).up B0.size)
  have HBD := Box'.mk hd
  have HBA := Box'.mk ha
  have HDN := Box'.mk hdn
  have HLl := Box'.mk hll
  have HLd := Box'.mk hld
  clear hd ha hdn hll hld
  have H1 := Box'.mk h1
  have e1 : ((f : Int) == 1) = true := by rw [beq_iff_eq]; omega
  clear h1
  have hL : ∀ w, Calls Tryd.prog 8 #[.int .i64 (dn : Int), .int .i64 65000] w fun e w' => e = .returned (.bool false) ∧ w' = w := fun w => by
    have := long_any dn 65000 w
    rw [decide_eq_false hlong] at this
    exact this
  have D0 := Box'.mk (dgram_any key hk f hf (.slice va ln vc) l HLl.out _ (ht.below B0 hlt) HIA.out.bts)
  obtain ⟨E, hE⟩ : ∃ E, Gf.dgE key f l = E := ⟨_, rfl⟩
  obtain ⟨Q, hQ⟩ : ∃ Q, Gf.dgQ key f l = Q := ⟨_, rfl⟩
  obtain ⟨S, hS⟩ : ∃ S, Gf.dgS key f l = S := ⟨_, rfl⟩
  obtain ⟨O, hO⟩ : ∃ O, Gf.dgO key f l = O := ⟨_, rfl⟩
  obtain ⟨L, hL'⟩ : ∃ L, Gf.dgL key f l = L := ⟨_, rfl⟩
  rw [hE, hQ, hS, hO, hL'] at D0
  have HEQ := Box'.mk (And.intro hE (And.intro hQ (And.intro hS (And.intro hO hL'))))
  clear hE hQ hS hO hL'
  go_enter Tryd.func9, Tryd.ntmps9
  go_wp2_with (first | (go_at_call 8; refine (hL _).mono ?_; rintro e1 w1 ⟨rfl, rfl⟩) | (refine wpList_load_row rfl 23 (.tmp 3) rfl _ rfl _ _ R0 _ Tryd.underlying23 rfl 16 Tryd.info23 (by rw [ag_size]; exact hk) ?_) | fail)
  refine D0.out.mono ?_
  rintro r w1 ⟨u1, rfl, i1, b1⟩
  clear D0 hL
  obtain ⟨ua, uc, rfl⟩ := i1.slice
  have B1 := B0.trans (b1.mono B0.size)
  have K1 := R0.below b1 R0.lt
  have A1 := R2.below b1 R2.lt
  clear R0 R1 R2 B0 b1
  unfold dgv
  obtain ⟨C2, hC2⟩ : ∃ C2, w1.alloc (.cells #[.int .u64 (Q : Int), .int .u16 (S : Int), .int .u16 (O : Int), .slice ua L.length uc] 28) = C2 := ⟨_, rfl⟩
  have b2 : Below w1.heap.size w1 C2 := by rw [← hC2]; exact (Below.refl _ _).alloc (Nat.le_refl _) _
  have d2 : Row C2 w1.heap.size 28 #[.int .u64 (Q : Int), .int .u16 (S : Int), .int .u16 (O : Int), .slice ua L.length uc] := by rw [← hC2]; exact Row.new _ _ _
  have B2 := B1.trans (b2.mono B1.size)
  have K2 := K1.below b2 K1.lt
  have A2 := A1.below b2 A1.lt
  have i2 := i1.below b2
  have HC2 := Box'.mk hC2
  clear hC2 K1 A1 i1 B1 b2
  go_upto_region 9 with (fail)
  rw [HC2.out]
  clear HC2
  have k0 : C2.cell? ⟨w1.heap.size, 0, none⟩ = some (.int .u64 (Q : Int)) := d2.cell 0
  have k1 : C2.cell? ⟨w1.heap.size, 1, none⟩ = some (.int .u16 (S : Int)) := d2.cell 1
  have k2 : C2.cell? ⟨w1.heap.size, 2, none⟩ = some (.int .u16 (O : Int)) := d2.cell 2
  have k3 : C2.cell? ⟨w1.heap.size, 3, none⟩ = some (.slice ua L.length uc) := d2.cell 3
  by_cases hE0 : E = 0
  · subst hE0
    obtain ⟨g1, g2, g3, g4, g5⟩ := HEQ.out
    obtain ⟨n1, n2, n3, _⟩ := Gf.dgE_ok g1
    obtain ⟨m1, m2⟩ := Gf.by_dg g1
    rw [g2, g3, g4, g5] at m1
    rw [g2, g5] at m2
    have hSS : S < 65536 := by rw [← g3]; exact Gf.dgS_lt key f l
    have hOO : O < 65536 := by rw [← g4]; exact Gf.dgO_lt key f l
    have hLL : L.length ≤ 65000 := (Gf.byE_ok m2).2.2
    have BY := bytes_any key hk f Q S O hSS hOO (.slice ua L.length uc) L (by unfold maxLen; omega) C2 (ht.below B2 hlt) i2.inE
    have e1 : Gf.byL key f Q S O L = l := by unfold Gf.byL; rw [if_pos m2]; exact m1
    rw [m2, e1] at BY
    unfold dgv at BY
    have HBY := Box'.mk BY
    skip
    clear BY e1 m1 m2 hSS hOO g1 g2 g3 g4 g5
    have c0 : C2.cell? ⟨w.heap.size + 1 + 1, 0, none⟩ = some (.int .u8 (f : Int)) := A2.cell 0
    go_wp2_with (first | (refine wpList_load_row rfl 23 (.tmp 3) rfl _ rfl _ _ K2 _ Tryd.underlying23 rfl 16 Tryd.info23 (by rw [ag_size]; exact hk) ?_) | fail)
    refine HBY.out.mono ?_
    rintro r w3 ⟨ub, rfl, o3, b3⟩
    clear HBY k0 k1 k2 k3 c0
    have B3 := B2.trans (b3.mono B2.size)
    have A3 := A2.below b3 A2.lt
    have c1 : w3.cell? ⟨w.heap.size + 1 + 1, 1, none⟩ = some (.slice va ln vc) := A3.cell 1
    have SM := refSame_any _ _ _ _ l l w3 o3.bts ((HBA.out.below B3 (Nat.le_refl _)).up B3.size).bts
    rw [decide_eq_true rfl] at SM
    have HSM := Box'.mk SM
    clear SM
    go_wp2_with (first | (go_at_call 15; refine HSM.out.mono ?_; rintro e1 w9 ⟨rfl, rfl⟩) | fail)
    go_ret
    exact ⟨rfl, B3⟩
  · obtain ⟨q1, q2, q3, q4⟩ : Q = 0 ∧ S = 0 ∧ O = 0 ∧ L = [] := by
      obtain ⟨g1, g2, g3, g4, g5⟩ := HEQ.out
      have hne : Gf.dgE key f l ≠ 0 := by rw [g1]; exact hE0
      exact ⟨by rw [← g2]; exact if_neg hne, by rw [← g3]; exact if_neg hne, by rw [← g4]; exact if_neg hne, by rw [← g5]; exact if_neg hne⟩
    subst q1 q2 q3 q4
    have dE : (E != 0) = true := by rw [bne_iff_ne]; exact hE0
    have hS : Calls Tryd.prog 16 #[.agg #[.int .u64 0, .int .u16 0, .int .u16 0, .slice ua 0 uc], .agg #[.int .u64 0, .int .u16 0, .int .u16 0, .slice none 0 0]] C2 fun r w' => r = .returned (.bool true) ∧ Below C2.heap.size C2 w' := by
      have := same8_any 0 0 0 0 0 0 _ _ [] [] _ i2.inE.bts (noBts C2)
      rw [decide_eq_true ⟨rfl, rfl, rfl, rfl⟩] at this
      exact this
    have HS := Box'.mk hS
    clear hE0 hS
    go_wp2_with fail
    refine HS.out.mono ?_
    rintro r w4 ⟨rfl, b4⟩
    clear HS k0 k1 k2 k3
    go_wp2_with fail
    go_ret
    exact ⟨rfl, B2.trans (b4.mono B2.size)⟩
set_option maxRecDepth 100000 in
set_option maxHeartbeats 8000000 in
theorem back_B2 (key : List UInt8) (hk : key.length = 16) (f : Nat) (hf : f < 256) (q s e : Nat) (hs : s < 65536) (he : e < 65536) (da : Option Addr) (dn dc : Nat) (ld : List UInt8) (va : Option Addr) (ln vc : Nat) (l : List UInt8) (w : World) (ht : Tab w)
    (hd : InE w.heap.size w (.slice da dn dc) ld) (ha : InE w.heap.size w (.slice va ln vc) l) (hdn : ld.length = dn) (hll : l.length ≤ maxLen) (hld : ld.length ≤ maxLen) (hlong : ¬ (4096 < dn ∧ dn ≤ 65000)) (h2 : f = 2) :
    Calls Tryd.prog 9 #[.agg (ag key), .agg #[.int .u64 (q : Int), .int .u16 (s : Int), .int .u16 (e : Int), .slice da dn dc], .agg #[.int .u8 (f : Int), .slice va ln vc]] w fun r w' => r = .returned (.bool true) ∧ Below w.heap.size w w' := by
  have hlt := ht.lt
  have B0 : Below w.heap.size w (((w.alloc (.cells (ag key) 23)).alloc (.cells #[.int .u64 (q : Int), .int .u16 (s : Int), .int .u16 (e : Int), .slice da dn dc] 28)).alloc (.cells #[.int .u8 (f : Int), .slice va ln vc] 31)) := (((Below.refl _ _).alloc (Nat.le_refl _) _).alloc (by simp) _).alloc (by simp; omega) _
  have R0 : Row (((w.alloc (.cells (ag key) 23)).alloc (.cells #[.int .u64 (q : Int), .int .u16 (s : Int), .int .u16 (e : Int), .slice da dn dc] 28)).alloc (.cells #[.int .u8 (f : Int), .slice va ln vc] 31)) w.heap.size 23 (ag key) := ((Row.new _ _ _).alloc _).alloc _
  have R1 : Row (((w.alloc (.cells (ag key) 23)).alloc (.cells #[.int .u64 (q : Int), .int .u16 (s : Int), .int .u16 (e : Int), .slice da dn dc] 28)).alloc (.cells #[.int .u8 (f : Int), .slice va ln vc] 31)) (w.heap.size + 1) 28 #[.int .u64 (q : Int), .int .u16 (s : Int), .int .u16 (e : Int), .slice da dn dc] := (Row.made _ _ _ _ _ rfl (by simp)).alloc _
  have R2 : Row (((w.alloc (.cells (ag key) 23)).alloc (.cells #[.int .u64 (q : Int), .int .u16 (s : Int), .int .u16 (e : Int), .slice da dn dc] 28)).alloc (.cells #[.int .u8 (f : Int), .slice va ln vc] 31)) (w.heap.size + 1 + 1) 31 #[.int .u8 (f : Int), .slice va ln vc] := Row.made _ _ _ _ _ rfl (by simp)
  have HID := Box'.mk ((hd.below B0 (Nat.le_refl _)).up B0.size)
  have HIA := Box'.mk ((ha.below B0 (Nat.le_refl _)).up B0.size)
  have HBD := Box'.mk hd
  have HBA := Box'.mk ha
  have HDN := Box'.mk hdn
  have HLl := Box'.mk hll
  have HLd := Box'.mk hld
  clear hd ha hdn hll hld
  have H2 := Box'.mk h2
  have e1 : ((f : Int) == 1) = false := by rw [beq_eq_false_iff_ne]; omega
  have e2 : ((f : Int) == 2) = true := by rw [beq_iff_eq]; omega
  clear h2
  have hL : ∀ w, Calls Tryd.prog 8 #[.int .i64 (dn : Int), .int .i64 65000] w fun e w' => e = .returned (.bool false) ∧ w' = w := fun w => by
    have := long_any dn 65000 w
    rw [decide_eq_false hlong] at this
    exact this
  have D0 := Box'.mk (dgram_any key hk f hf (.slice va ln vc) l HLl.out _ (ht.below B0 hlt) HIA.out.bts)
  obtain ⟨E, hE⟩ : ∃ E, Gf.dgE key f l = E := ⟨_, rfl⟩
  obtain ⟨Q, hQ⟩ : ∃ Q, Gf.dgQ key f l = Q := ⟨_, rfl⟩
  obtain ⟨S, hS⟩ : ∃ S, Gf.dgS key f l = S := ⟨_, rfl⟩
  obtain ⟨O, hO⟩ : ∃ O, Gf.dgO key f l = O := ⟨_, rfl⟩
  obtain ⟨L, hL'⟩ : ∃ L, Gf.dgL key f l = L := ⟨_, rfl⟩
  rw [hE, hQ, hS, hO, hL'] at D0
  have HEQ := Box'.mk (And.intro hE (And.intro hQ (And.intro hS (And.intro hO hL'))))
  clear hE hQ hS hO hL'
  go_enter Tryd.func9, Tryd.ntmps9
  go_wp2_with (first | (go_at_call 8; refine (hL _).mono ?_; rintro e1 w1 ⟨rfl, rfl⟩) | (refine wpList_load_row rfl 23 (.tmp 3) rfl _ rfl _ _ R0 _ Tryd.underlying23 rfl 16 Tryd.info23 (by rw [ag_size]; exact hk) ?_) | fail)
  refine D0.out.mono ?_
  rintro r w1 ⟨u1, rfl, i1, b1⟩
  clear D0 hL
  obtain ⟨ua, uc, rfl⟩ := i1.slice
  have B1 := B0.trans (b1.mono B0.size)
  have K1 := R0.below b1 R0.lt
  have A1 := R2.below b1 R2.lt
  clear R0 R1 R2 B0 b1
  unfold dgv
  obtain ⟨C2, hC2⟩ : ∃ C2, w1.alloc (.cells #[.int .u64 (Q : Int), .int .u16 (S : Int), .int .u16 (O : Int), .slice ua L.length uc] 28) = C2 := ⟨_, rfl⟩
  have b2 : Below w1.heap.size w1 C2 := by rw [← hC2]; exact (Below.refl _ _).alloc (Nat.le_refl _) _
  have d2 : Row C2 w1.heap.size 28 #[.int .u64 (Q : Int), .int .u16 (S : Int), .int .u16 (O : Int), .slice ua L.length uc] := by rw [← hC2]; exact Row.new _ _ _
  have B2 := B1.trans (b2.mono B1.size)
  have K2 := K1.below b2 K1.lt
  have A2 := A1.below b2 A1.lt
  have i2 := i1.below b2
  have HC2 := Box'.mk hC2
  clear hC2 K1 A1 i1 B1 b2
  go_upto_region 9 with (fail)
  rw [HC2.out]
  clear HC2
  have k0 : C2.cell? ⟨w1.heap.size, 0, none⟩ = some (.int .u64 (Q : Int)) := d2.cell 0
  have k1 : C2.cell? ⟨w1.heap.size, 1, none⟩ = some (.int .u16 (S : Int)) := d2.cell 1
  have k2 : C2.cell? ⟨w1.heap.size, 2, none⟩ = some (.int .u16 (O : Int)) := d2.cell 2
  have k3 : C2.cell? ⟨w1.heap.size, 3, none⟩ = some (.slice ua L.length uc) := d2.cell 3
  by_cases hE0 : E = 0
  · subst hE0
    obtain ⟨g1, g2, g3, g4, g5⟩ := HEQ.out
    obtain ⟨n1, n2, n3, _⟩ := Gf.dgE_ok g1
    obtain ⟨m1, m2⟩ := Gf.by_dg g1
    rw [g2, g3, g4, g5] at m1
    rw [g2, g5] at m2
    have hSS : S < 65536 := by rw [← g3]; exact Gf.dgS_lt key f l
    have hOO : O < 65536 := by rw [← g4]; exact Gf.dgO_lt key f l
    have hLL : L.length ≤ 65000 := (Gf.byE_ok m2).2.2
    have BY := bytes_any key hk f Q S O hSS hOO (.slice ua L.length uc) L (by unfold maxLen; omega) C2 (ht.below B2 hlt) i2.inE
    have e1 : Gf.byL key f Q S O L = l := by unfold Gf.byL; rw [if_pos m2]; exact m1
    rw [m2, e1] at BY
    unfold dgv at BY
    have HBY := Box'.mk BY
    skip
    clear BY e1 m1 m2 hSS hOO g1 g2 g3 g4 g5
    have c0 : C2.cell? ⟨w.heap.size + 1 + 1, 0, none⟩ = some (.int .u8 (f : Int)) := A2.cell 0
    go_wp2_with (first | (refine wpList_load_row rfl 23 (.tmp 3) rfl _ rfl _ _ K2 _ Tryd.underlying23 rfl 16 Tryd.info23 (by rw [ag_size]; exact hk) ?_) | fail)
    refine HBY.out.mono ?_
    rintro r w3 ⟨ub, rfl, o3, b3⟩
    clear HBY k0 k1 k2 k3 c0
    have B3 := B2.trans (b3.mono B2.size)
    have A3 := A2.below b3 A2.lt
    have c1 : w3.cell? ⟨w.heap.size + 1 + 1, 1, none⟩ = some (.slice va ln vc) := A3.cell 1
    have SM := refSame_any _ _ _ _ l l w3 o3.bts ((HBA.out.below B3 (Nat.le_refl _)).up B3.size).bts
    rw [decide_eq_true rfl] at SM
    have HSM := Box'.mk SM
    clear SM
    go_wp2_with (first | (go_at_call 15; refine HSM.out.mono ?_; rintro e1 w9 ⟨rfl, rfl⟩) | fail)
    go_ret
    exact ⟨rfl, B3⟩
  · obtain ⟨q1, q2, q3, q4⟩ : Q = 0 ∧ S = 0 ∧ O = 0 ∧ L = [] := by
      obtain ⟨g1, g2, g3, g4, g5⟩ := HEQ.out
      have hne : Gf.dgE key f l ≠ 0 := by rw [g1]; exact hE0
      exact ⟨by rw [← g2]; exact if_neg hne, by rw [← g3]; exact if_neg hne, by rw [← g4]; exact if_neg hne, by rw [← g5]; exact if_neg hne⟩
    subst q1 q2 q3 q4
    have dE : (E != 0) = true := by rw [bne_iff_ne]; exact hE0
    have hS : Calls Tryd.prog 16 #[.agg #[.int .u64 0, .int .u16 0, .int .u16 0, .slice ua 0 uc], .agg #[.int .u64 0, .int .u16 0, .int .u16 0, .slice none 0 0]] C2 fun r w' => r = .returned (.bool true) ∧ Below C2.heap.size C2 w' := by
      have := same8_any 0 0 0 0 0 0 _ _ [] [] _ i2.inE.bts (noBts C2)
      rw [decide_eq_true ⟨rfl, rfl, rfl, rfl⟩] at this
      exact this
    have HS := Box'.mk hS
    clear hE0 hS
    go_wp2_with fail
    refine HS.out.mono ?_
    rintro r w4 ⟨rfl, b4⟩
    clear HS k0 k1 k2 k3
    go_wp2_with fail
    go_ret
    exact ⟨rfl, B2.trans (b4.mono B2.size)⟩
set_option maxRecDepth 100000 in
set_option maxHeartbeats 8000000 in
theorem back_B3 (key : List UInt8) (hk : key.length = 16) (f : Nat) (hf : f < 256) (q s e : Nat) (hs : s < 65536) (he : e < 65536) (da : Option Addr) (dn dc : Nat) (ld : List UInt8) (va : Option Addr) (ln vc : Nat) (l : List UInt8) (w : World) (ht : Tab w)
    (hd : InE w.heap.size w (.slice da dn dc) ld) (ha : InE w.heap.size w (.slice va ln vc) l) (hdn : ld.length = dn) (hll : l.length ≤ maxLen) (hld : ld.length ≤ maxLen) (hlong : ¬ (4096 < dn ∧ dn ≤ 65000)) (h1 : ¬ f = 1) (h2 : ¬ f = 2) :
    Calls Tryd.prog 9 #[.agg (ag key), .agg #[.int .u64 (q : Int), .int .u16 (s : Int), .int .u16 (e : Int), .slice da dn dc], .agg #[.int .u8 (f : Int), .slice va ln vc]] w fun r w' => r = .returned (.bool true) ∧ Below w.heap.size w w' := by
  have hlt := ht.lt
  have B0 : Below w.heap.size w (((w.alloc (.cells (ag key) 23)).alloc (.cells #[.int .u64 (q : Int), .int .u16 (s : Int), .int .u16 (e : Int), .slice da dn dc] 28)).alloc (.cells #[.int .u8 (f : Int), .slice va ln vc] 31)) := (((Below.refl _ _).alloc (Nat.le_refl _) _).alloc (by simp) _).alloc (by simp; omega) _
  have R0 : Row (((w.alloc (.cells (ag key) 23)).alloc (.cells #[.int .u64 (q : Int), .int .u16 (s : Int), .int .u16 (e : Int), .slice da dn dc] 28)).alloc (.cells #[.int .u8 (f : Int), .slice va ln vc] 31)) w.heap.size 23 (ag key) := ((Row.new _ _ _).alloc _).alloc _
  have R1 : Row (((w.alloc (.cells (ag key) 23)).alloc (.cells #[.int .u64 (q : Int), .int .u16 (s : Int), .int .u16 (e : Int), .slice da dn dc] 28)).alloc (.cells #[.int .u8 (f : Int), .slice va ln vc] 31)) (w.heap.size + 1) 28 #[.int .u64 (q : Int), .int .u16 (s : Int), .int .u16 (e : Int), .slice da dn dc] := (Row.made _ _ _ _ _ rfl (by simp)).alloc _
  have R2 : Row (((w.alloc (.cells (ag key) 23)).alloc (.cells #[.int .u64 (q : Int), .int .u16 (s : Int), .int .u16 (e : Int), .slice da dn dc] 28)).alloc (.cells #[.int .u8 (f : Int), .slice va ln vc] 31)) (w.heap.size + 1 + 1) 31 #[.int .u8 (f : Int), .slice va ln vc] := Row.made _ _ _ _ _ rfl (by simp)
  have HID := Box'.mk ((hd.below B0 (Nat.le_refl _)).up B0.size)
  have HIA := Box'.mk ((ha.below B0 (Nat.le_refl _)).up B0.size)
  have HBD := Box'.mk hd
  have HBA := Box'.mk ha
  have HDN := Box'.mk hdn
  have HLl := Box'.mk hll
  have HLd := Box'.mk hld
  clear hd ha hdn hll hld
  have e1 : ((f : Int) == 1) = false := by rw [beq_eq_false_iff_ne]; omega
  have e2 : ((f : Int) == 2) = false := by rw [beq_eq_false_iff_ne]; omega
  have hL : ∀ w, Calls Tryd.prog 8 #[.int .i64 (dn : Int), .int .i64 65000] w fun e w' => e = .returned (.bool false) ∧ w' = w := fun w => by
    have := long_any dn 65000 w
    rw [decide_eq_false hlong] at this
    exact this
  have D0 := Box'.mk (dgram_any key hk f hf (.slice va ln vc) l HLl.out _ (ht.below B0 hlt) HIA.out.bts)
  obtain ⟨E, hE⟩ : ∃ E, Gf.dgE key f l = E := ⟨_, rfl⟩
  obtain ⟨Q, hQ⟩ : ∃ Q, Gf.dgQ key f l = Q := ⟨_, rfl⟩
  obtain ⟨S, hS⟩ : ∃ S, Gf.dgS key f l = S := ⟨_, rfl⟩
  obtain ⟨O, hO⟩ : ∃ O, Gf.dgO key f l = O := ⟨_, rfl⟩
  obtain ⟨L, hL'⟩ : ∃ L, Gf.dgL key f l = L := ⟨_, rfl⟩
  rw [hE, hQ, hS, hO, hL'] at D0
  have HEQ := Box'.mk (And.intro hE (And.intro hQ (And.intro hS (And.intro hO hL'))))
  clear hE hQ hS hO hL'
  go_enter Tryd.func9, Tryd.ntmps9
  go_wp2_with (first | (go_at_call 8; refine (hL _).mono ?_; rintro e1 w1 ⟨rfl, rfl⟩) | (refine wpList_load_row rfl 23 (.tmp 3) rfl _ rfl _ _ R0 _ Tryd.underlying23 rfl 16 Tryd.info23 (by rw [ag_size]; exact hk) ?_) | fail)
  refine D0.out.mono ?_
  rintro r w1 ⟨u1, rfl, i1, b1⟩
  clear D0 hL
  obtain ⟨ua, uc, rfl⟩ := i1.slice
  have B1 := B0.trans (b1.mono B0.size)
  have K1 := R0.below b1 R0.lt
  have A1 := R2.below b1 R2.lt
  clear R0 R1 R2 B0 b1
  unfold dgv
  obtain ⟨C2, hC2⟩ : ∃ C2, w1.alloc (.cells #[.int .u64 (Q : Int), .int .u16 (S : Int), .int .u16 (O : Int), .slice ua L.length uc] 28) = C2 := ⟨_, rfl⟩
  have b2 : Below w1.heap.size w1 C2 := by rw [← hC2]; exact (Below.refl _ _).alloc (Nat.le_refl _) _
  have d2 : Row C2 w1.heap.size 28 #[.int .u64 (Q : Int), .int .u16 (S : Int), .int .u16 (O : Int), .slice ua L.length uc] := by rw [← hC2]; exact Row.new _ _ _
  have B2 := B1.trans (b2.mono B1.size)
  have K2 := K1.below b2 K1.lt
  have A2 := A1.below b2 A1.lt
  have i2 := i1.below b2
  have HC2 := Box'.mk hC2
  clear hC2 K1 A1 i1 B1 b2
  go_upto_region 9 with (fail)
  rw [HC2.out]
  clear HC2
  have k0 : C2.cell? ⟨w1.heap.size, 0, none⟩ = some (.int .u64 (Q : Int)) := d2.cell 0
  have k1 : C2.cell? ⟨w1.heap.size, 1, none⟩ = some (.int .u16 (S : Int)) := d2.cell 1
  have k2 : C2.cell? ⟨w1.heap.size, 2, none⟩ = some (.int .u16 (O : Int)) := d2.cell 2
  have k3 : C2.cell? ⟨w1.heap.size, 3, none⟩ = some (.slice ua L.length uc) := d2.cell 3
  by_cases hE0 : E = 0
  · subst hE0
    obtain ⟨g1, g2, g3, g4, g5⟩ := HEQ.out
    obtain ⟨n1, n2, n3, _⟩ := Gf.dgE_ok g1
    obtain ⟨m1, m2⟩ := Gf.by_dg g1
    rw [g2, g3, g4, g5] at m1
    rw [g2, g5] at m2
    have hSS : S < 65536 := by rw [← g3]; exact Gf.dgS_lt key f l
    have hOO : O < 65536 := by rw [← g4]; exact Gf.dgO_lt key f l
    have hLL : L.length ≤ 65000 := (Gf.byE_ok m2).2.2
    have BY := bytes_any key hk f Q S O hSS hOO (.slice ua L.length uc) L (by unfold maxLen; omega) C2 (ht.below B2 hlt) i2.inE
    have e1 : Gf.byL key f Q S O L = l := by unfold Gf.byL; rw [if_pos m2]; exact m1
    rw [m2, e1] at BY
    unfold dgv at BY
    have HBY := Box'.mk BY
    exact absurd n1 (by omega)
  · obtain ⟨q1, q2, q3, q4⟩ : Q = 0 ∧ S = 0 ∧ O = 0 ∧ L = [] := by
      obtain ⟨g1, g2, g3, g4, g5⟩ := HEQ.out
      have hne : Gf.dgE key f l ≠ 0 := by rw [g1]; exact hE0
      exact ⟨by rw [← g2]; exact if_neg hne, by rw [← g3]; exact if_neg hne, by rw [← g4]; exact if_neg hne, by rw [← g5]; exact if_neg hne⟩
    subst q1 q2 q3 q4
    have dE : (E != 0) = true := by rw [bne_iff_ne]; exact hE0
    have hS : Calls Tryd.prog 16 #[.agg #[.int .u64 0, .int .u16 0, .int .u16 0, .slice ua 0 uc], .agg #[.int .u64 0, .int .u16 0, .int .u16 0, .slice none 0 0]] C2 fun r w' => r = .returned (.bool true) ∧ Below C2.heap.size C2 w' := by
      have := same8_any 0 0 0 0 0 0 _ _ [] [] _ i2.inE.bts (noBts C2)
      rw [decide_eq_true ⟨rfl, rfl, rfl, rfl⟩] at this
      exact this
    have HS := Box'.mk hS
    clear hE0 hS
    go_wp2_with fail
    refine HS.out.mono ?_
    rintro r w4 ⟨rfl, b4⟩
    clear HS k0 k1 k2 k3
    go_wp2_with fail
    go_ret
    exact ⟨rfl, B2.trans (b4.mono B2.size)⟩
theorem back_any (key : List UInt8) (hk : key.length = 16) (f : Nat) (hf : f < 256) (q s e : Nat) (hs : s < 65536) (he : e < 65536) (da : Option Addr) (dn dc : Nat) (ld : List UInt8) (va : Option Addr) (ln vc : Nat) (l : List UInt8) (w : World) (ht : Tab w)
    (hd : InE w.heap.size w (.slice da dn dc) ld) (ha : InE w.heap.size w (.slice va ln vc) l) (hdn : ld.length = dn) (hll : l.length ≤ maxLen) (hld : ld.length ≤ maxLen) :
    Calls Tryd.prog 9 #[.agg (ag key), .agg #[.int .u64 (q : Int), .int .u16 (s : Int), .int .u16 (e : Int), .slice da dn dc], .agg #[.int .u8 (f : Int), .slice va ln vc]] w fun r w' => r = .returned (.bool true) ∧ Below w.heap.size w w' := by
  by_cases hlong : 4096 < dn ∧ dn ≤ 65000
  · by_cases h1 : f = 1
    · exact back_A1 key hk f hf q s e hs he da dn dc ld va ln vc l w ht hd ha hdn hll hld hlong h1
    · by_cases h2 : f = 2
      · exact back_A2 key hk f hf q s e hs he da dn dc ld va ln vc l w ht hd ha hdn hll hld hlong h2
      · exact back_A3 key hk f hf q s e hs he da dn dc ld va ln vc l w ht hd ha hdn hll hld hlong h1 h2
  · by_cases h1 : f = 1
    · exact back_B1 key hk f hf q s e hs he da dn dc ld va ln vc l w ht hd ha hdn hll hld hlong h1
    · by_cases h2 : f = 2
      · exact back_B2 key hk f hf q s e hs he da dn dc ld va ln vc l w ht hd ha hdn hll hld hlong h2
      · exact back_B3 key hk f hf q s e hs he da dn dc ld va ln vc l w ht hd ha hdn hll hld hlong h1 h2
end Go.Proofs.YthcokaffbgbanaaDoor
