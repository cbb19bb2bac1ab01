/- goOn. -/
import Derived.Test.YtfnlnbdlahckeaaDoorRb
import Derived.BigRegion
namespace Go.Proofs.YtfnlnbdlahckeaaDoor
open Go.RowKit Go.BigFrame
set_option linter.unusedVariables false
set_option linter.unusedSimpArgs false

theorem FrX.setCell {rb N : Nat} {w w' : World} (h : FrX rb N w w') (o : Nat) (v : Value) : FrX rb N w (w'.setCell ⟨rb, o, none⟩ v) :=
  h.trans (.but ((But.refl rb w').setCell o v))
theorem OwnR.setCell {N rb : Nat} {w : World} {v : Value} {d : List Int} (h : OwnR N w v d) {c : Array Value} (hr : Row w rb 45 c) (o : Nat) (x : Value) : OwnR N (w.setCell ⟨rb, o, none⟩ x) v d := h.but ((But.refl rb w).setCell o x) hr
set_option maxRecDepth 100000 in
set_option maxHeartbeats 4000000 in
theorem goOn_more0 (rb N : Nat) (m : Bool) (a b : UInt8) (w : World) (h : Row w rb 45 (rdC m [a])) (v : Value) (d : List Int) (ho : OwnR N w v d) (z : Nat) (hz : 2 < z) :
    Calls Tryd.prog 31 #[.pointer (some ⟨rb, 0, none⟩), v, .int .i64 (z : Int), .int .u8 (b.toNat : Int)] w fun e w' => ∃ v', e = .returned v' ∧ Row w' rb 45 (rdC m [a, b]) ∧ OwnR N w' v' d ∧ FrX rb N w w' := by
  have c4 : w.cell? ⟨rb, 4, none⟩ = some (.int .i64 1) := by rw [h.cell]; rfl
  have c2 : w.cell? ⟨rb, 2, none⟩ = some (.int .u8 0) := by rw [h.cell]; rfl
  have f2 := h.frozen 2
  have f4 := h.frozen 4
  have HR := Box'.mk h
  have HO := Box'.mk ho
  obtain ⟨a1, c1, hv⟩ := ho.slice
  subst hv
  clear h ho
  generalize d.length = dl at *
  go_enter Tryd.func31, Tryd.ntmps31
  go_wp2_with fail
  go_region
  go_wp2_with fail
  go_ret
  have r1 := (HR.out.setCell 2 (B b)).setCell 4 (.int .i64 2)
  exact ⟨_, rfl, r1, (HO.out.setCell HR.out _ _).setCell (HR.out.setCell _ _) _ _, (((FrX.refl rb N w).setCell _ _).setCell _ _).drewN 1⟩
set_option maxRecDepth 100000 in
set_option maxHeartbeats 4000000 in
theorem goOn_more1 (rb N : Nat) (m : Bool) (a b x : UInt8) (w : World) (h : Row w rb 45 (rdC m [a, x])) (v : Value) (d : List Int) (ho : OwnR N w v d) (z : Nat) (hz : 3 < z) :
    Calls Tryd.prog 31 #[.pointer (some ⟨rb, 0, none⟩), v, .int .i64 (z : Int), .int .u8 (b.toNat : Int)] w fun e w' => ∃ v', e = .returned v' ∧ Row w' rb 45 (rdC m [a, x, b]) ∧ OwnR N w' v' d ∧ FrX rb N w w' := by
  have c4 : w.cell? ⟨rb, 4, none⟩ = some (.int .i64 2) := by rw [h.cell]; rfl
  have c2 : w.cell? ⟨rb, 3, none⟩ = some (.int .u8 0) := by rw [h.cell]; rfl
  have f2 := h.frozen 3
  have f4 := h.frozen 4
  have HR := Box'.mk h
  have HO := Box'.mk ho
  obtain ⟨a1, c1, hv⟩ := ho.slice
  subst hv
  clear h ho
  generalize d.length = dl at *
  go_enter Tryd.func31, Tryd.ntmps31
  go_wp2_with fail
  go_region
  go_wp2_with fail
  go_ret
  have r1 := (HR.out.setCell 3 (B b)).setCell 4 (.int .i64 3)
  exact ⟨_, rfl, r1, (HO.out.setCell HR.out _ _).setCell (HR.out.setCell _ _) _ _, (((FrX.refl rb N w).setCell _ _).setCell _ _).drewN 1⟩
theorem step6 (c x : Nat) (hc : c < 200000) (h1 : 128 ≤ x) (h2 : x ≤ 191) : bits .or .i32 (wrap32 ((c : Int) * 64)) (wrap32 (bits .and .u8 (x : Int) 63)) = ((64 * c + (x - 128) : Nat) : Int) := by
  have e1 : bits .and .u8 (x : Int) 63 = ((x % 64 : Nat) : Int) := by rw [show (63 : Int) = ((63 : Nat) : Int) from rfl, u8_and_nat _ _ (by omega) (by omega), low6]
  have e2 : wrap32 ((c : Int) * 64) = ((64 * c : Nat) : Int) := by unfold wrap32; omega
  have e3 : wrap32 ((x % 64 : Nat) : Int) = ((x % 64 : Nat) : Int) := by unfold wrap32; omega
  rw [e1, e2, e3, i32_or_nat _ _ (by omega) (by omega), or6 _ _ (by omega), show 64 * c + x % 64 = 64 * c + (x - 128) by omega]
theorem bse_lt {a z : Nat} (hs : sz a = z) (hz : 2 ≤ z) : bse a < 32 := by
  have := sz_cases a
  unfold bse
  split
  · omega
  · split <;> omega
theorem mskN0 : (List.range 256).all (fun a => (!(decide (sz a = 2)) || decide (bits .and .u8 (a : Int) 31 = ((bse a : Nat) : Int))) && (!(decide (sz a = 3)) || decide (bits .and .u8 (a : Int) 15 = ((bse a : Nat) : Int))) && (!(decide (sz a = 4)) || decide (bits .and .u8 (a : Int) 7 = ((bse a : Nat) : Int)))) = true := by decide +kernel
theorem msk0 {a : UInt8} (hs : sz a.toNat = 2) : bits .and .u8 (a.toNat : Int) 31 = ((bse a.toNat : Nat) : Int) := by
  have := List.all_eq_true.1 mskN0 a.toNat (by simpa using a.toNat_lt)
  simp only [hs] at this
  simpa using this
theorem msk1 {a : UInt8} (hs : sz a.toNat = 3) : bits .and .u8 (a.toNat : Int) 15 = ((bse a.toNat : Nat) : Int) := by
  have := List.all_eq_true.1 mskN0 a.toNat (by simpa using a.toNat_lt)
  simp only [hs] at this
  simpa using this
theorem msk2 {a : UInt8} (hs : sz a.toNat = 4) : bits .and .u8 (a.toNat : Int) 7 = ((bse a.toNat : Nat) : Int) := by
  have := List.all_eq_true.1 mskN0 a.toNat (by simpa using a.toNat_lt)
  simp only [hs] at this
  simpa using this
set_option maxRecDepth 100000 in
set_option maxHeartbeats 4000000 in
theorem goOn_end0 (rb N : Nat) (m : Bool) (a b : UInt8) (w : World) (h : Row w rb 45 (rdC m [a])) (hb : 128 ≤ b.toNat ∧ b.toNat ≤ 191) (hs : sz a.toNat = 2) (v : Value) (d : List Int) (ho : OwnR N w v d) (hN : N ≤ w.heap.size) (hd : d.length ≤ 1000000000) :
    Calls Tryd.prog 31 #[.pointer (some ⟨rb, 0, none⟩), v, .int .i64 2, .int .u8 (b.toNat : Int)] w fun e w' => ∃ v', e = .returned v' ∧ Row w' rb 45 (rdC m []) ∧ OwnR N w' v' (d ++ [(val (bse a.toNat) [b] : Int)]) ∧ FrX rb N w w' := by
  have c4 : w.cell? ⟨rb, 4, none⟩ = some (.int .i64 1) := by rw [h.cell]; rfl
  have c1 : w.cell? ⟨rb, 1, none⟩ = some (.int .u8 (a.toNat : Int)) := by rw [h.cell]; rfl
  have HF := Box'.mk (fun w' (e : w'.heap = w.heap) => forget_any rb m [a] w' (show w'.heap[rb]? = _ by rw [e]; exact h))
  have HR := Box'.mk h
  have HO := Box'.mk ho
  have HD := Box'.mk hd
  have HN := Box'.mk hN
  obtain ⟨a1, cc, hv⟩ := ho.slice
  subst hv
  clear h ho hd hN
  generalize hdl : d.length = dl at *
  have HDL := Box'.mk hdl
  clear hdl
  have HV : Box' (wrap32 (bits .and .u8 (a.toNat : Int) 31) = ((bse a.toNat : Nat) : Int)) := ⟨by rw [msk0 hs]; have := bse_lt hs (by decide); unfold wrap32; omega⟩
  have hbs : bse a.toNat < 32 := by have := bse_lt hs (by decide); exact this
  clear hs
  obtain ⟨V, hV⟩ : ∃ V : Nat → Nat, ∀ k, V k = val (bse a.toNat) ([].take k) := ⟨_, fun _ => rfl⟩
  have hV0 : V 0 = bse a.toNat := hV 0
  have hVE : val (bse a.toNat) [b] = 64 * V 0 + (b.toNat - 128) := by rw [hV]; rfl
  rw [hVE]
  rw [← hV0] at HV hbs
  have HVV := Box'.mk hV0
  clear hV hVE hV0
  clear HVV
  generalize V 0 = V0 at *
  go_enter Tryd.func31, Tryd.ntmps31
  go_wp2_with fail
  go_quiet (fail)
  go_wp2_with fail
  rw [HV.out]
  go_quiet (fail)
  go_wp2_with fail
  generalize hW0 : World.drewN (World.drewN w _) _ = W0
  have hh : W0.heap = w.heap := by rw [← hW0]; rfl
  have HB0 : Box' (Below w.heap.size w W0) := ⟨by rw [← hW0]; exact Below.drewN (Below.drewN (Below.refl _ _) _) _⟩
  have HF0 := Box'.mk (HF.out W0 hh)
  have HR0 : Box' (Row W0 rb 45 (rdC m [a])) := ⟨HR.out.same (by rw [hh])⟩
  have HO0 : Box' (OwnR N W0 (.slice a1 dl cc) d) := ⟨HO.out.same (fun _ _ => by rw [hh])⟩
  have HN0 : Box' (N ≤ W0.heap.size) := ⟨by rw [hh]; exact HN.out⟩
  clear HF HR HO HN hW0 hh c1 c4
  go_loopw [9, 54] (fun cv iv wr => ((iv = .int .i64 0 ∧ cv = .int .i32 (V0 : Int))) ∧ wr = W0) (fun _ iv _ => 0 - (intOf iv).toNat)
  case atStart => exact ⟨⟨rfl, rfl⟩, rfl⟩
  case round =>
    obtain ⟨hcase, rfl⟩ := hrel
    obtain ⟨rfl, rfl⟩ := hcase
    go_wp2_with fail
    refine HF0.out.mono ?_
    rintro e w1 ⟨rfl, r1, b1⟩
    have o1 := HO0.out.but b1 HR0.out
    have HN1 : Box' (N ≤ w1.heap.size) := ⟨Nat.le_trans HN0.out b1.size⟩
    have HR1 := Box'.mk r1
    have HB1 := Box'.mk b1
    have HO1 := Box'.mk o1
    clear HF0 HR0 HO0 r1 b1 o1
    have ST : Box' ((V0 : Int) * 64 + (b.toNat : Int) % 64 = ((64 * V0 + (b.toNat - 128) : Nat) : Int)) := ⟨by omega⟩
    go_wp2_with (refine wpList_appR rfl _ _ rfl N _ (Nat.le_trans HN1.out (by simp)) _ d rfl (HO1.out.alloc _) _ [((64 * V0 + (b.toNat - 128) : Nat) : Int)] rfl (by rw [ST.out]; exact one_inR w1 _) (by rw [HDL.out]; have := HD.out; simp; omega) ?_; intro v2 w2 o2 f2)
    have F2 : FrR N w1 w2 := ((FrR.refl N w1).alloc _).trans f2
    have R2 := F2.row HR1.out (by decide)
    have X2 := ((FrX.of (rb := rb) (N := N) HB0.out).trans (FrX.but (N := N) HB1.out)).trans (FrX.fr (rb := rb) F2)
    clear f2 F2 HR1 HB1 HO1 ST
    go_wp2_with fail
    go_ret
    exact ⟨_, rfl, R2, o2, X2⟩
set_option maxRecDepth 100000 in
set_option maxHeartbeats 4000000 in
theorem goOn_end1 (rb N : Nat) (m : Bool) (a b x : UInt8) (w : World) (h : Row w rb 45 (rdC m [a, x])) (hx : 128 ≤ x.toNat ∧ x.toNat ≤ 191) (hb : 128 ≤ b.toNat ∧ b.toNat ≤ 191) (hs : sz a.toNat = 3) (v : Value) (d : List Int) (ho : OwnR N w v d) (hN : N ≤ w.heap.size) (hd : d.length ≤ 1000000000) :
    Calls Tryd.prog 31 #[.pointer (some ⟨rb, 0, none⟩), v, .int .i64 3, .int .u8 (b.toNat : Int)] w fun e w' => ∃ v', e = .returned v' ∧ Row w' rb 45 (rdC m []) ∧ OwnR N w' v' (d ++ [(val (bse a.toNat) [x, b] : Int)]) ∧ FrX rb N w w' := by
  have c4 : w.cell? ⟨rb, 4, none⟩ = some (.int .i64 2) := by rw [h.cell]; rfl
  have c1 : w.cell? ⟨rb, 1, none⟩ = some (.int .u8 (a.toNat : Int)) := by rw [h.cell]; rfl
  have c2 : w.cell? ⟨rb, 2, none⟩ = some (.int .u8 (x.toNat : Int)) := by rw [h.cell]; rfl
  have HF := Box'.mk (fun w' (e : w'.heap = w.heap) => forget_any rb m [a, x] w' (show w'.heap[rb]? = _ by rw [e]; exact h))
  have HR := Box'.mk h
  have HO := Box'.mk ho
  have HD := Box'.mk hd
  have HN := Box'.mk hN
  obtain ⟨a1, cc, hv⟩ := ho.slice
  subst hv
  clear h ho hd hN
  generalize hdl : d.length = dl at *
  have HDL := Box'.mk hdl
  clear hdl
  have HV : Box' (wrap32 (bits .and .u8 (a.toNat : Int) 15) = ((bse a.toNat : Nat) : Int)) := ⟨by rw [msk1 hs]; have := bse_lt hs (by decide); unfold wrap32; omega⟩
  have hbs : bse a.toNat < 32 := by have := bse_lt hs (by decide); exact this
  clear hs
  obtain ⟨V, hV⟩ : ∃ V : Nat → Nat, ∀ k, V k = val (bse a.toNat) ([x].take k) := ⟨_, fun _ => rfl⟩
  have hV0 : V 0 = bse a.toNat := hV 0
  have hV1 : V 1 = 64 * V 0 + (x.toNat - 128) := by rw [hV 1, hV 0]; rfl
  have hVE : val (bse a.toNat) [x, b] = 64 * V 1 + (b.toNat - 128) := by rw [hV]; rfl
  rw [hVE]
  rw [← hV0] at HV hbs
  have HVV := Box'.mk hV0
  clear hV hVE hV0
  have HV1 := Box'.mk hV1
  have hv1 : V 1 < 2112 := by omega
  clear hV1
  clear HVV
  generalize V 0 = V0 at *
  generalize V 1 = V1 at *
  go_enter Tryd.func31, Tryd.ntmps31
  go_wp2_with fail
  go_quiet (fail)
  go_wp2_with fail
  rw [HV.out]
  go_quiet (fail)
  go_wp2_with fail
  generalize hW0 : World.drewN (World.drewN w _) _ = W0
  have hh : W0.heap = w.heap := by rw [← hW0]; rfl
  have HB0 : Box' (Below w.heap.size w W0) := ⟨by rw [← hW0]; exact Below.drewN (Below.drewN (Below.refl _ _) _) _⟩
  have HF0 := Box'.mk (HF.out W0 hh)
  have HR0 : Box' (Row W0 rb 45 (rdC m [a, x])) := ⟨HR.out.same (by rw [hh])⟩
  have HO0 : Box' (OwnR N W0 (.slice a1 dl cc) d) := ⟨HO.out.same (fun _ _ => by rw [hh])⟩
  have HN0 : Box' (N ≤ W0.heap.size) := ⟨by rw [hh]; exact HN.out⟩
  have k2 : W0.cell? ⟨rb, 2, none⟩ = some (.int .u8 (x.toNat : Int)) := by have q := c2; unfold World.cell? at q ⊢; rw [hh]; exact q
  clear HF HR HO HN hW0 hh c1 c4 c2
  go_loopw [9, 54] (fun cv iv wr => ((iv = .int .i64 0 ∧ cv = .int .i32 (V0 : Int)) ∨ (iv = .int .i64 1 ∧ cv = .int .i32 (V1 : Int))) ∧ wr = W0) (fun _ iv _ => 1 - (intOf iv).toNat)
  case atStart => exact ⟨.inl ⟨rfl, rfl⟩, rfl⟩
  case round =>
    obtain ⟨hcase, rfl⟩ := hrel
    rcases hcase with ⟨rfl, rfl⟩ | ⟨rfl, rfl⟩
    · have ST : Box' ((V0 : Int) * 64 + (x.toNat : Int) % 64 = (V1 : Int)) := ⟨by rw [HV1.out]; omega⟩
      go_wp2_with fail
      exact ⟨⟨.inr (⟨rfl, by rw [ST.out]⟩), by first | rfl | trivial⟩, by simp [intOf]⟩
    · go_wp2_with fail
      refine HF0.out.mono ?_
      rintro e w1 ⟨rfl, r1, b1⟩
      have o1 := HO0.out.but b1 HR0.out
      have HN1 : Box' (N ≤ w1.heap.size) := ⟨Nat.le_trans HN0.out b1.size⟩
      have HR1 := Box'.mk r1
      have HB1 := Box'.mk b1
      have HO1 := Box'.mk o1
      clear HF0 HR0 HO0 r1 b1 o1
      have ST : Box' ((V1 : Int) * 64 + (b.toNat : Int) % 64 = ((64 * V1 + (b.toNat - 128) : Nat) : Int)) := ⟨by omega⟩
      go_wp2_with (refine wpList_appR rfl _ _ rfl N _ (Nat.le_trans HN1.out (by simp)) _ d rfl (HO1.out.alloc _) _ [((64 * V1 + (b.toNat - 128) : Nat) : Int)] rfl (by rw [ST.out]; exact one_inR w1 _) (by rw [HDL.out]; have := HD.out; simp; omega) ?_; intro v2 w2 o2 f2)
      have F2 : FrR N w1 w2 := ((FrR.refl N w1).alloc _).trans f2
      have R2 := F2.row HR1.out (by decide)
      have X2 := ((FrX.of (rb := rb) (N := N) HB0.out).trans (FrX.but (N := N) HB1.out)).trans (FrX.fr (rb := rb) F2)
      clear f2 F2 HR1 HB1 HO1 ST
      go_wp2_with fail
      go_ret
      exact ⟨_, rfl, R2, o2, X2⟩
set_option maxRecDepth 100000 in
set_option maxHeartbeats 4000000 in
theorem goOn_end2 (rb N : Nat) (m : Bool) (a b x y : UInt8) (w : World) (h : Row w rb 45 (rdC m [a, x, y])) (hx : 128 ≤ x.toNat ∧ x.toNat ≤ 191) (hy : 128 ≤ y.toNat ∧ y.toNat ≤ 191) (hb : 128 ≤ b.toNat ∧ b.toNat ≤ 191) (hs : sz a.toNat = 4) (v : Value) (d : List Int) (ho : OwnR N w v d) (hN : N ≤ w.heap.size) (hd : d.length ≤ 1000000000) :
    Calls Tryd.prog 31 #[.pointer (some ⟨rb, 0, none⟩), v, .int .i64 4, .int .u8 (b.toNat : Int)] w fun e w' => ∃ v', e = .returned v' ∧ Row w' rb 45 (rdC m []) ∧ OwnR N w' v' (d ++ [(val (bse a.toNat) [x, y, b] : Int)]) ∧ FrX rb N w w' := by
  have c4 : w.cell? ⟨rb, 4, none⟩ = some (.int .i64 3) := by rw [h.cell]; rfl
  have c1 : w.cell? ⟨rb, 1, none⟩ = some (.int .u8 (a.toNat : Int)) := by rw [h.cell]; rfl
  have c2 : w.cell? ⟨rb, 2, none⟩ = some (.int .u8 (x.toNat : Int)) := by rw [h.cell]; rfl
  have c3 : w.cell? ⟨rb, 3, none⟩ = some (.int .u8 (y.toNat : Int)) := by rw [h.cell]; rfl
  have HF := Box'.mk (fun w' (e : w'.heap = w.heap) => forget_any rb m [a, x, y] w' (show w'.heap[rb]? = _ by rw [e]; exact h))
  have HR := Box'.mk h
  have HO := Box'.mk ho
  have HD := Box'.mk hd
  have HN := Box'.mk hN
  obtain ⟨a1, cc, hv⟩ := ho.slice
  subst hv
  clear h ho hd hN
  generalize hdl : d.length = dl at *
  have HDL := Box'.mk hdl
  clear hdl
  have HV : Box' (wrap32 (bits .and .u8 (a.toNat : Int) 7) = ((bse a.toNat : Nat) : Int)) := ⟨by rw [msk2 hs]; have := bse_lt hs (by decide); unfold wrap32; omega⟩
  have hbs : bse a.toNat < 32 := by have := bse_lt hs (by decide); exact this
  clear hs
  obtain ⟨V, hV⟩ : ∃ V : Nat → Nat, ∀ k, V k = val (bse a.toNat) ([x, y].take k) := ⟨_, fun _ => rfl⟩
  have hV0 : V 0 = bse a.toNat := hV 0
  have hV1 : V 1 = 64 * V 0 + (x.toNat - 128) := by rw [hV 1, hV 0]; rfl
  have hV2 : V 2 = 64 * V 1 + (y.toNat - 128) := by rw [hV 2, hV 1]; rfl
  have hVE : val (bse a.toNat) [x, y, b] = 64 * V 2 + (b.toNat - 128) := by rw [hV]; rfl
  rw [hVE]
  rw [← hV0] at HV hbs
  have HVV := Box'.mk hV0
  clear hV hVE hV0
  have HV1 := Box'.mk hV1
  have hv1 : V 1 < 2112 := by omega
  clear hV1
  have HV2 := Box'.mk hV2
  have hv2 : V 2 < 135232 := by omega
  clear hV2
  clear HVV
  generalize V 0 = V0 at *
  generalize V 1 = V1 at *
  generalize V 2 = V2 at *
  go_enter Tryd.func31, Tryd.ntmps31
  go_wp2_with fail
  go_quiet (fail)
  go_wp2_with fail
  rw [HV.out]
  go_quiet (fail)
  go_wp2_with fail
  generalize hW0 : World.drewN (World.drewN w _) _ = W0
  have hh : W0.heap = w.heap := by rw [← hW0]; rfl
  have HB0 : Box' (Below w.heap.size w W0) := ⟨by rw [← hW0]; exact Below.drewN (Below.drewN (Below.refl _ _) _) _⟩
  have HF0 := Box'.mk (HF.out W0 hh)
  have HR0 : Box' (Row W0 rb 45 (rdC m [a, x, y])) := ⟨HR.out.same (by rw [hh])⟩
  have HO0 : Box' (OwnR N W0 (.slice a1 dl cc) d) := ⟨HO.out.same (fun _ _ => by rw [hh])⟩
  have HN0 : Box' (N ≤ W0.heap.size) := ⟨by rw [hh]; exact HN.out⟩
  have k2 : W0.cell? ⟨rb, 2, none⟩ = some (.int .u8 (x.toNat : Int)) := by have q := c2; unfold World.cell? at q ⊢; rw [hh]; exact q
  have k3 : W0.cell? ⟨rb, 3, none⟩ = some (.int .u8 (y.toNat : Int)) := by have q := c3; unfold World.cell? at q ⊢; rw [hh]; exact q
  clear HF HR HO HN hW0 hh c1 c4 c2 c3
  go_loopw [9, 54] (fun cv iv wr => ((iv = .int .i64 0 ∧ cv = .int .i32 (V0 : Int)) ∨ (iv = .int .i64 1 ∧ cv = .int .i32 (V1 : Int)) ∨ (iv = .int .i64 2 ∧ cv = .int .i32 (V2 : Int))) ∧ wr = W0) (fun _ iv _ => 2 - (intOf iv).toNat)
  case atStart => exact ⟨.inl ⟨rfl, rfl⟩, rfl⟩
  case round =>
    obtain ⟨hcase, rfl⟩ := hrel
    rcases hcase with ⟨rfl, rfl⟩ | ⟨rfl, rfl⟩ | ⟨rfl, rfl⟩
    · have ST : Box' ((V0 : Int) * 64 + (x.toNat : Int) % 64 = (V1 : Int)) := ⟨by rw [HV1.out]; omega⟩
      go_wp2_with fail
      exact ⟨⟨.inr (.inl ⟨rfl, by rw [ST.out]⟩), by first | rfl | trivial⟩, by simp [intOf]⟩
    · have ST : Box' ((V1 : Int) * 64 + (y.toNat : Int) % 64 = (V2 : Int)) := ⟨by rw [HV2.out]; omega⟩
      go_wp2_with fail
      exact ⟨⟨.inr (.inr ⟨rfl, by rw [ST.out]⟩), by first | rfl | trivial⟩, by simp [intOf]⟩
    · go_wp2_with fail
      refine HF0.out.mono ?_
      rintro e w1 ⟨rfl, r1, b1⟩
      have o1 := HO0.out.but b1 HR0.out
      have HN1 : Box' (N ≤ w1.heap.size) := ⟨Nat.le_trans HN0.out b1.size⟩
      have HR1 := Box'.mk r1
      have HB1 := Box'.mk b1
      have HO1 := Box'.mk o1
      clear HF0 HR0 HO0 r1 b1 o1
      have ST : Box' ((V2 : Int) * 64 + (b.toNat : Int) % 64 = ((64 * V2 + (b.toNat - 128) : Nat) : Int)) := ⟨by omega⟩
      go_wp2_with (refine wpList_appR rfl _ _ rfl N _ (Nat.le_trans HN1.out (by simp)) _ d rfl (HO1.out.alloc _) _ [((64 * V2 + (b.toNat - 128) : Nat) : Int)] rfl (by rw [ST.out]; exact one_inR w1 _) (by rw [HDL.out]; have := HD.out; simp; omega) ?_; intro v2 w2 o2 f2)
      have F2 : FrR N w1 w2 := ((FrR.refl N w1).alloc _).trans f2
      have R2 := F2.row HR1.out (by decide)
      have X2 := ((FrX.of (rb := rb) (N := N) HB0.out).trans (FrX.but (N := N) HB1.out)).trans (FrX.fr (rb := rb) F2)
      clear f2 F2 HR1 HB1 HO1 ST
      go_wp2_with fail
      go_ret
      exact ⟨_, rfl, R2, o2, X2⟩
end Go.Proofs.YtfnlnbdlahckeaaDoor
