/- The reference's begins. -/
import Derived.Test.YtfnlnbdlahckeaaDoorTa
namespace Go.Proofs.YtfnlnbdlahckeaaDoor
open Go.RowKit Go.BigFrame
set_option linter.unusedVariables false
set_option linter.unusedSimpArgs false

set_option maxRecDepth 100000 in
set_option maxHeartbeats 4000000 in
theorem begins_three (S : Nat → Prop) (w : World) (v : Value) (a : UInt8) (t : List UInt8) (hb : Bts S w v (a :: t)) (h1 : 224 ≤ a.toNat) (h2 : a.toNat ≤ 239) (h3 : a.toNat ≠ 224) (h4 : a.toNat ≠ 237) (hl : 3 < t.length + 1) :
    Calls Tryd.prog 33 #[v] w fun e w' => e = .returned (.tuple #[.int .i32 0, .int .i64 0]) ∧ Below w.heap.size w w' := by
  have HB := Box'.mk hb
  obtain ⟨bb, ob, cc, rfl, sb, cl⟩ := hb.cells (by simp)
  have c0 : w.cell? ⟨bb, ob, none⟩ = some (.int .u8 (a.toNat : Int)) := cl 0 (by simp)
  clear hb
  simp only [List.length_cons] at *
  clear cl HB
  generalize a.toNat = A at *
  generalize t.length = n at *
  have hll : (3 : Int) < (n : Int) + 1 := by omega
  go_enter Tryd.func33, Tryd.ntmps33
  go_wp2_with fail
  go_ret2
  exact ⟨rfl, by first | exact Below.refl _ _ | exact Below.drewN (Below.refl _ _) _⟩
set_option maxRecDepth 100000 in
set_option maxHeartbeats 4000000 in
theorem begins_threeA (S : Nat → Prop) (w : World) (v : Value) (a : UInt8) (t : List UInt8) (hb : Bts S w v (a :: t)) (h1 : a.toNat = 224) (hl : 3 < t.length + 1) :
    Calls Tryd.prog 33 #[v] w fun e w' => e = .returned (.tuple #[.int .i32 0, .int .i64 0]) ∧ Below w.heap.size w w' := by
  have HB := Box'.mk hb
  obtain ⟨bb, ob, cc, rfl, sb, cl⟩ := hb.cells (by simp)
  have c0 : w.cell? ⟨bb, ob, none⟩ = some (.int .u8 (a.toNat : Int)) := cl 0 (by simp)
  clear hb
  simp only [List.length_cons] at *
  clear cl HB
  generalize a.toNat = A at *
  generalize t.length = n at *
  have hll : (3 : Int) < (n : Int) + 1 := by omega
  go_enter Tryd.func33, Tryd.ntmps33
  go_wp2_with fail
  go_ret2
  exact ⟨rfl, by first | exact Below.refl _ _ | exact Below.drewN (Below.refl _ _) _⟩
set_option maxRecDepth 100000 in
set_option maxHeartbeats 4000000 in
theorem begins_threeB (S : Nat → Prop) (w : World) (v : Value) (a : UInt8) (t : List UInt8) (hb : Bts S w v (a :: t)) (h1 : a.toNat = 237) (hl : 3 < t.length + 1) :
    Calls Tryd.prog 33 #[v] w fun e w' => e = .returned (.tuple #[.int .i32 0, .int .i64 0]) ∧ Below w.heap.size w w' := by
  have HB := Box'.mk hb
  obtain ⟨bb, ob, cc, rfl, sb, cl⟩ := hb.cells (by simp)
  have c0 : w.cell? ⟨bb, ob, none⟩ = some (.int .u8 (a.toNat : Int)) := cl 0 (by simp)
  clear hb
  simp only [List.length_cons] at *
  clear cl HB
  generalize a.toNat = A at *
  generalize t.length = n at *
  have hll : (3 : Int) < (n : Int) + 1 := by omega
  go_enter Tryd.func33, Tryd.ntmps33
  go_wp2_with fail
  go_ret2
  exact ⟨rfl, by first | exact Below.refl _ _ | exact Below.drewN (Below.refl _ _) _⟩
set_option maxRecDepth 100000 in
set_option maxHeartbeats 4000000 in
theorem beginsL_three (S : Nat → Prop) (w : World) (v : Value) (a : UInt8) (t : List UInt8) (hb : Bts S w v (a :: t)) (h1 : 224 ≤ a.toNat) (h2 : a.toNat ≤ 239) (h3 : a.toNat ≠ 224) (h4 : a.toNat ≠ 237) (hl : t.length + 1 ≤ 3) :
    Calls Tryd.prog 33 #[v] w fun e w' => e = .returned (.tuple #[.int .i32 (if okF a.toNat 1 t then (val (bse a.toNat) t : Int) else 0), .int .i64 (if okF a.toNat 1 t then 3 else 0)]) ∧ Below w.heap.size w w' := by
  have hA : 224 ≤ a.toNat := by omega
  have hB : bse a.toNat = a.toNat - 224 := by unfold bse; rw [if_neg (by omega), if_pos (by omega)]
  have hL : lo a.toNat = 128 := by unfold lo; rw [if_neg (by omega), if_neg (by omega)]
  have hH : hi a.toNat = 191 := by unfold hi; rw [if_neg (by omega), if_neg (by omega)]
  have HB := Box'.mk hb
  obtain ⟨bb, ob, cc, rfl, sb, cl⟩ := hb.cells (by simp)
  have c0 : w.cell? ⟨bb, ob, none⟩ = some (.int .u8 (a.toNat : Int)) := cl 0 (by simp)
  clear hb
  have HCL := Box'.mk cl
  have hll : ¬ ((3 : Int) < (t.length : Int) + 1) := by omega
  simp only [List.length_cons]
  generalize a.toNat = A at *
  obtain ⟨R1, hR1⟩ : ∃ R1 : Int, (if okF A 1 t then (val (bse A) t : Int) else 0) = R1 := ⟨_, rfl⟩
  obtain ⟨R2, hR2⟩ : ∃ R2 : Int, (if okF A 1 t then 3 else 0) = R2 := ⟨_, rfl⟩
  rw [hR1, hR2]
  have HR1 := Box'.mk hR1
  have HR2 := Box'.mk hR2
  clear hR1 hR2
  generalize hn : t.length = n at *
  have HN := Box'.mk hn
  have HBS := Box'.mk hB
  have HLO := Box'.mk hL
  have HHI := Box'.mk hH
  clear hn cl hB hL hH HB
  go_enter Tryd.func33, Tryd.ntmps33
  go_wp2_with fail
  go_loopw [5, 6, 7, 8] (fun lv hv cv iv wr => ∃ (k L H C : Nat), lv = .int .u8 (L : Int) ∧ hv = .int .u8 (H : Int) ∧ cv = .int .i32 (C : Int) ∧ iv = .int .i64 ((k : Int) + 1) ∧ k ≤ n ∧ Box' (∀ x, fol A (k + 1) x = decide (L ≤ x ∧ x ≤ H)) ∧ 128 ≤ L ∧ H ≤ 191 ∧ Box' (C = val (bse A) (t.take k)) ∧ Box' (okF A 1 (t.take k) = true) ∧ C + 1 ≤ 32 * 64 ^ k ∧ wr = w) (fun _ _ _ iv _ => n + 1 - (intOf iv).toNat)
  case atStart => exact ⟨0, 128, 191, A - 224, rfl, rfl, by congr 1; omega, rfl, by omega, ⟨fun x => by unfold fol; rw [if_pos rfl, HLO.out, HHI.out]⟩, by omega, by omega, ⟨HBS.out.symm⟩, ⟨rfl⟩, by omega, rfl⟩
  case round =>
    obtain ⟨k, L, H, C, rfl, rfl, rfl, rfl, hk, HF, hL1, hH1, HV, HOK, hC, rfl⟩ := hrel
    by_cases hlt : k < n
    · have hkt : k < t.length := by rw [HN.out]; exact hlt
      have ck : wr.cell? ⟨bb, ob + (k + 1), none⟩ = some (.int .u8 (((t.getD k 0).toNat : Nat) : Int)) := by
        have := HCL.out (k + 1) (by simp; omega)
        simpa using this
      have hC2 : C < 131072 := by
        have : k = 0 ∨ k = 1 ∨ k = 2 := by omega
        rcases this with rfl | rfl | rfl <;> omega
      have hC3 : ∀ y : Nat, y ≤ 63 → 64 * C + y + 1 ≤ 32 * 64 ^ (k + 1) := fun y hy => by rw [Nat.pow_succ]; omega
      have S1 := Box'.mk (ok_step A hkt)
      have S2 := Box'.mk (val_step (bse A) hkt)
      have S3 : Box' (okF A 1 t = true → fol A (k + 1) (t.getD k 0).toNat = true) := ⟨fun h => by
        have q := okF_take A t 1 (k + 1) h
        rw [S1.out, Bool.and_eq_true] at q
        exact q.2⟩
      rw [← HV.out] at S2
      rw [HOK.out, Bool.true_and] at S1
      generalize t.getD k 0 = x at *
      have hxl := x.toNat_lt
      generalize x.toNat = X at *
      have HC3 := Box'.mk hC3
      clear hC3 HV HOK HCL c0
      have hkk : ((k : Int) + 1) < (n : Int) + 1 := by omega
      by_cases hf1 : L ≤ X
      · by_cases hf2 : X ≤ H
        · have hf : fol A (k + 1) X = true := by rw [HF.out, decide_eq_true (show L ≤ X ∧ X ≤ H from ⟨hf1, hf2⟩)]
          rw [hf] at S1
          have HX := Box'.mk (HC3.out (X - 128) (by omega))
          have EV : Box' (64 * (C : Int) + (X : Int) - 128 = ((64 * C + (X - 128) : Nat) : Int)) := ⟨by omega⟩
          clear HF HC3 S3 hf hC
          go_wp2_with fail
          refine ⟨⟨k + 1, 128, 191, 64 * C + (X - 128), rfl, rfl, by rw [← EV.out], by first | rfl | (congr 1; omega), by omega, ⟨fun y => by unfold fol; rw [if_neg (by omega)]⟩, by omega, by omega, ⟨S2.out.symm⟩, ⟨S1.out⟩, HX.out, by first | rfl | trivial⟩, by simp [intOf]; omega⟩
        · have hno : okF A 1 t = false := by
            rw [← Bool.not_eq_true]; intro h
            have q := S3.out h
            rw [HF.out, decide_eq_true_eq] at q
            exact hf2 q.2
          clear HF HC3 S3 S1 S2 hC
          go_wp2_with fail
          go_ret2
          exact ⟨by rw [← HR1.out, ← HR2.out, hno]; rfl, Below.refl _ _⟩
      · have hno : okF A 1 t = false := by
          rw [← Bool.not_eq_true]; intro h
          have q := S3.out h
          rw [HF.out, decide_eq_true_eq] at q
          exact hf1 q.1
        clear HF HC3 S3 S1 S2 hC
        go_wp2_with fail
        go_ret2
        exact ⟨by rw [← HR1.out, ← HR2.out, hno]; rfl, Below.refl _ _⟩
    · obtain rfl : k = n := by omega
      have htk : t.take k = t := List.take_of_length_le (by rw [HN.out]; exact Nat.le_refl _)
      have e1 := HV.out
      have e2 := HOK.out
      rw [htk] at e1 e2
      have hkk : ¬ (((k : Int) + 1) < (k : Int) + 1) := by omega
      have HE1 := Box'.mk e1
      have HE2 := Box'.mk e2
      clear HV HOK HF HCL c0 hC htk e1 e2
      go_wp2_with fail
      go_ret2
      exact ⟨by rw [← HR1.out, ← HR2.out, HE2.out, ← HE1.out]; rfl, Below.refl _ _⟩
set_option maxRecDepth 100000 in
set_option maxHeartbeats 4000000 in
theorem beginsL_threeA (S : Nat → Prop) (w : World) (v : Value) (a : UInt8) (t : List UInt8) (hb : Bts S w v (a :: t)) (h1 : a.toNat = 224) (hl : t.length + 1 ≤ 3) :
    Calls Tryd.prog 33 #[v] w fun e w' => e = .returned (.tuple #[.int .i32 (if okF a.toNat 1 t then (val (bse a.toNat) t : Int) else 0), .int .i64 (if okF a.toNat 1 t then 3 else 0)]) ∧ Below w.heap.size w w' := by
  have hA : 224 ≤ a.toNat := by omega
  have hB : bse a.toNat = a.toNat - 224 := by unfold bse; rw [if_neg (by omega), if_pos (by omega)]
  have hL : lo a.toNat = 160 := by unfold lo; rw [if_pos (by omega)]
  have hH : hi a.toNat = 191 := by unfold hi; rw [if_neg (by omega), if_neg (by omega)]
  have HB := Box'.mk hb
  obtain ⟨bb, ob, cc, rfl, sb, cl⟩ := hb.cells (by simp)
  have c0 : w.cell? ⟨bb, ob, none⟩ = some (.int .u8 (a.toNat : Int)) := cl 0 (by simp)
  clear hb
  have HCL := Box'.mk cl
  have hll : ¬ ((3 : Int) < (t.length : Int) + 1) := by omega
  simp only [List.length_cons]
  generalize a.toNat = A at *
  obtain ⟨R1, hR1⟩ : ∃ R1 : Int, (if okF A 1 t then (val (bse A) t : Int) else 0) = R1 := ⟨_, rfl⟩
  obtain ⟨R2, hR2⟩ : ∃ R2 : Int, (if okF A 1 t then 3 else 0) = R2 := ⟨_, rfl⟩
  rw [hR1, hR2]
  have HR1 := Box'.mk hR1
  have HR2 := Box'.mk hR2
  clear hR1 hR2
  generalize hn : t.length = n at *
  have HN := Box'.mk hn
  have HBS := Box'.mk hB
  have HLO := Box'.mk hL
  have HHI := Box'.mk hH
  clear hn cl hB hL hH HB
  go_enter Tryd.func33, Tryd.ntmps33
  go_wp2_with fail
  go_loopw [5, 6, 7, 8] (fun lv hv cv iv wr => ∃ (k L H C : Nat), lv = .int .u8 (L : Int) ∧ hv = .int .u8 (H : Int) ∧ cv = .int .i32 (C : Int) ∧ iv = .int .i64 ((k : Int) + 1) ∧ k ≤ n ∧ Box' (∀ x, fol A (k + 1) x = decide (L ≤ x ∧ x ≤ H)) ∧ 128 ≤ L ∧ H ≤ 191 ∧ Box' (C = val (bse A) (t.take k)) ∧ Box' (okF A 1 (t.take k) = true) ∧ C + 1 ≤ 32 * 64 ^ k ∧ wr = w) (fun _ _ _ iv _ => n + 1 - (intOf iv).toNat)
  case atStart => exact ⟨0, 160, 191, A - 224, rfl, rfl, by congr 1; omega, rfl, by omega, ⟨fun x => by unfold fol; rw [if_pos rfl, HLO.out, HHI.out]⟩, by omega, by omega, ⟨HBS.out.symm⟩, ⟨rfl⟩, by omega, rfl⟩
  case round =>
    obtain ⟨k, L, H, C, rfl, rfl, rfl, rfl, hk, HF, hL1, hH1, HV, HOK, hC, rfl⟩ := hrel
    by_cases hlt : k < n
    · have hkt : k < t.length := by rw [HN.out]; exact hlt
      have ck : wr.cell? ⟨bb, ob + (k + 1), none⟩ = some (.int .u8 (((t.getD k 0).toNat : Nat) : Int)) := by
        have := HCL.out (k + 1) (by simp; omega)
        simpa using this
      have hC2 : C < 131072 := by
        have : k = 0 ∨ k = 1 ∨ k = 2 := by omega
        rcases this with rfl | rfl | rfl <;> omega
      have hC3 : ∀ y : Nat, y ≤ 63 → 64 * C + y + 1 ≤ 32 * 64 ^ (k + 1) := fun y hy => by rw [Nat.pow_succ]; omega
      have S1 := Box'.mk (ok_step A hkt)
      have S2 := Box'.mk (val_step (bse A) hkt)
      have S3 : Box' (okF A 1 t = true → fol A (k + 1) (t.getD k 0).toNat = true) := ⟨fun h => by
        have q := okF_take A t 1 (k + 1) h
        rw [S1.out, Bool.and_eq_true] at q
        exact q.2⟩
      rw [← HV.out] at S2
      rw [HOK.out, Bool.true_and] at S1
      generalize t.getD k 0 = x at *
      have hxl := x.toNat_lt
      generalize x.toNat = X at *
      have HC3 := Box'.mk hC3
      clear hC3 HV HOK HCL c0
      have hkk : ((k : Int) + 1) < (n : Int) + 1 := by omega
      by_cases hf1 : L ≤ X
      · by_cases hf2 : X ≤ H
        · have hf : fol A (k + 1) X = true := by rw [HF.out, decide_eq_true (show L ≤ X ∧ X ≤ H from ⟨hf1, hf2⟩)]
          rw [hf] at S1
          have HX := Box'.mk (HC3.out (X - 128) (by omega))
          have EV : Box' (64 * (C : Int) + (X : Int) - 128 = ((64 * C + (X - 128) : Nat) : Int)) := ⟨by omega⟩
          clear HF HC3 S3 hf hC
          go_wp2_with fail
          refine ⟨⟨k + 1, 128, 191, 64 * C + (X - 128), rfl, rfl, by rw [← EV.out], by first | rfl | (congr 1; omega), by omega, ⟨fun y => by unfold fol; rw [if_neg (by omega)]⟩, by omega, by omega, ⟨S2.out.symm⟩, ⟨S1.out⟩, HX.out, by first | rfl | trivial⟩, by simp [intOf]; omega⟩
        · have hno : okF A 1 t = false := by
            rw [← Bool.not_eq_true]; intro h
            have q := S3.out h
            rw [HF.out, decide_eq_true_eq] at q
            exact hf2 q.2
          clear HF HC3 S3 S1 S2 hC
          go_wp2_with fail
          go_ret2
          exact ⟨by rw [← HR1.out, ← HR2.out, hno]; rfl, Below.refl _ _⟩
      · have hno : okF A 1 t = false := by
          rw [← Bool.not_eq_true]; intro h
          have q := S3.out h
          rw [HF.out, decide_eq_true_eq] at q
          exact hf1 q.1
        clear HF HC3 S3 S1 S2 hC
        go_wp2_with fail
        go_ret2
        exact ⟨by rw [← HR1.out, ← HR2.out, hno]; rfl, Below.refl _ _⟩
    · obtain rfl : k = n := by omega
      have htk : t.take k = t := List.take_of_length_le (by rw [HN.out]; exact Nat.le_refl _)
      have e1 := HV.out
      have e2 := HOK.out
      rw [htk] at e1 e2
      have hkk : ¬ (((k : Int) + 1) < (k : Int) + 1) := by omega
      have HE1 := Box'.mk e1
      have HE2 := Box'.mk e2
      clear HV HOK HF HCL c0 hC htk e1 e2
      go_wp2_with fail
      go_ret2
      exact ⟨by rw [← HR1.out, ← HR2.out, HE2.out, ← HE1.out]; rfl, Below.refl _ _⟩
set_option maxRecDepth 100000 in
set_option maxHeartbeats 4000000 in
theorem beginsL_threeB (S : Nat → Prop) (w : World) (v : Value) (a : UInt8) (t : List UInt8) (hb : Bts S w v (a :: t)) (h1 : a.toNat = 237) (hl : t.length + 1 ≤ 3) :
    Calls Tryd.prog 33 #[v] w fun e w' => e = .returned (.tuple #[.int .i32 (if okF a.toNat 1 t then (val (bse a.toNat) t : Int) else 0), .int .i64 (if okF a.toNat 1 t then 3 else 0)]) ∧ Below w.heap.size w w' := by
  have hA : 224 ≤ a.toNat := by omega
  have hB : bse a.toNat = a.toNat - 224 := by unfold bse; rw [if_neg (by omega), if_pos (by omega)]
  have hL : lo a.toNat = 128 := by unfold lo; rw [if_neg (by omega), if_neg (by omega)]
  have hH : hi a.toNat = 159 := by unfold hi; rw [if_pos (by omega)]
  have HB := Box'.mk hb
  obtain ⟨bb, ob, cc, rfl, sb, cl⟩ := hb.cells (by simp)
  have c0 : w.cell? ⟨bb, ob, none⟩ = some (.int .u8 (a.toNat : Int)) := cl 0 (by simp)
  clear hb
  have HCL := Box'.mk cl
  have hll : ¬ ((3 : Int) < (t.length : Int) + 1) := by omega
  simp only [List.length_cons]
  generalize a.toNat = A at *
  obtain ⟨R1, hR1⟩ : ∃ R1 : Int, (if okF A 1 t then (val (bse A) t : Int) else 0) = R1 := ⟨_, rfl⟩
  obtain ⟨R2, hR2⟩ : ∃ R2 : Int, (if okF A 1 t then 3 else 0) = R2 := ⟨_, rfl⟩
  rw [hR1, hR2]
  have HR1 := Box'.mk hR1
  have HR2 := Box'.mk hR2
  clear hR1 hR2
  generalize hn : t.length = n at *
  have HN := Box'.mk hn
  have HBS := Box'.mk hB
  have HLO := Box'.mk hL
  have HHI := Box'.mk hH
  clear hn cl hB hL hH HB
  go_enter Tryd.func33, Tryd.ntmps33
  go_wp2_with fail
  go_loopw [5, 6, 7, 8] (fun lv hv cv iv wr => ∃ (k L H C : Nat), lv = .int .u8 (L : Int) ∧ hv = .int .u8 (H : Int) ∧ cv = .int .i32 (C : Int) ∧ iv = .int .i64 ((k : Int) + 1) ∧ k ≤ n ∧ Box' (∀ x, fol A (k + 1) x = decide (L ≤ x ∧ x ≤ H)) ∧ 128 ≤ L ∧ H ≤ 191 ∧ Box' (C = val (bse A) (t.take k)) ∧ Box' (okF A 1 (t.take k) = true) ∧ C + 1 ≤ 32 * 64 ^ k ∧ wr = w) (fun _ _ _ iv _ => n + 1 - (intOf iv).toNat)
  case atStart => exact ⟨0, 128, 159, A - 224, rfl, rfl, by congr 1; omega, rfl, by omega, ⟨fun x => by unfold fol; rw [if_pos rfl, HLO.out, HHI.out]⟩, by omega, by omega, ⟨HBS.out.symm⟩, ⟨rfl⟩, by omega, rfl⟩
  case round =>
    obtain ⟨k, L, H, C, rfl, rfl, rfl, rfl, hk, HF, hL1, hH1, HV, HOK, hC, rfl⟩ := hrel
    by_cases hlt : k < n
    · have hkt : k < t.length := by rw [HN.out]; exact hlt
      have ck : wr.cell? ⟨bb, ob + (k + 1), none⟩ = some (.int .u8 (((t.getD k 0).toNat : Nat) : Int)) := by
        have := HCL.out (k + 1) (by simp; omega)
        simpa using this
      have hC2 : C < 131072 := by
        have : k = 0 ∨ k = 1 ∨ k = 2 := by omega
        rcases this with rfl | rfl | rfl <;> omega
      have hC3 : ∀ y : Nat, y ≤ 63 → 64 * C + y + 1 ≤ 32 * 64 ^ (k + 1) := fun y hy => by rw [Nat.pow_succ]; omega
      have S1 := Box'.mk (ok_step A hkt)
      have S2 := Box'.mk (val_step (bse A) hkt)
      have S3 : Box' (okF A 1 t = true → fol A (k + 1) (t.getD k 0).toNat = true) := ⟨fun h => by
        have q := okF_take A t 1 (k + 1) h
        rw [S1.out, Bool.and_eq_true] at q
        exact q.2⟩
      rw [← HV.out] at S2
      rw [HOK.out, Bool.true_and] at S1
      generalize t.getD k 0 = x at *
      have hxl := x.toNat_lt
      generalize x.toNat = X at *
      have HC3 := Box'.mk hC3
      clear hC3 HV HOK HCL c0
      have hkk : ((k : Int) + 1) < (n : Int) + 1 := by omega
      by_cases hf1 : L ≤ X
      · by_cases hf2 : X ≤ H
        · have hf : fol A (k + 1) X = true := by rw [HF.out, decide_eq_true (show L ≤ X ∧ X ≤ H from ⟨hf1, hf2⟩)]
          rw [hf] at S1
          have HX := Box'.mk (HC3.out (X - 128) (by omega))
          have EV : Box' (64 * (C : Int) + (X : Int) - 128 = ((64 * C + (X - 128) : Nat) : Int)) := ⟨by omega⟩
          clear HF HC3 S3 hf hC
          go_wp2_with fail
          refine ⟨⟨k + 1, 128, 191, 64 * C + (X - 128), rfl, rfl, by rw [← EV.out], by first | rfl | (congr 1; omega), by omega, ⟨fun y => by unfold fol; rw [if_neg (by omega)]⟩, by omega, by omega, ⟨S2.out.symm⟩, ⟨S1.out⟩, HX.out, by first | rfl | trivial⟩, by simp [intOf]; omega⟩
        · have hno : okF A 1 t = false := by
            rw [← Bool.not_eq_true]; intro h
            have q := S3.out h
            rw [HF.out, decide_eq_true_eq] at q
            exact hf2 q.2
          clear HF HC3 S3 S1 S2 hC
          go_wp2_with fail
          go_ret2
          exact ⟨by rw [← HR1.out, ← HR2.out, hno]; rfl, Below.refl _ _⟩
      · have hno : okF A 1 t = false := by
          rw [← Bool.not_eq_true]; intro h
          have q := S3.out h
          rw [HF.out, decide_eq_true_eq] at q
          exact hf1 q.1
        clear HF HC3 S3 S1 S2 hC
        go_wp2_with fail
        go_ret2
        exact ⟨by rw [← HR1.out, ← HR2.out, hno]; rfl, Below.refl _ _⟩
    · obtain rfl : k = n := by omega
      have htk : t.take k = t := List.take_of_length_le (by rw [HN.out]; exact Nat.le_refl _)
      have e1 := HV.out
      have e2 := HOK.out
      rw [htk] at e1 e2
      have hkk : ¬ (((k : Int) + 1) < (k : Int) + 1) := by omega
      have HE1 := Box'.mk e1
      have HE2 := Box'.mk e2
      clear HV HOK HF HCL c0 hC htk e1 e2
      go_wp2_with fail
      go_ret2
      exact ⟨by rw [← HR1.out, ← HR2.out, HE2.out, ← HE1.out]; rfl, Below.refl _ _⟩
end Go.Proofs.YtfnlnbdlahckeaaDoor
