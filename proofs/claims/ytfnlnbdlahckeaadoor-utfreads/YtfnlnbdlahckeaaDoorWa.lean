/- anchored. -/
import Derived.Test.YtfnlnbdlahckeaaDoorRe
import Derived.Test.YtfnlnbdlahckeaaDoorSc
namespace Go.Proofs.YtfnlnbdlahckeaaDoor
open Go.RowKit Go.BigFrame
set_option linter.unusedVariables false
set_option linter.unusedSimpArgs false

theorem anch_dec : decF [] [97, 195, 169, 255, 226, 130] = [97, 233, 65533, 65533] := by decide +kernel
theorem anch_enc : encF [233, 55296] = [195, 169, 239, 191, 189] := by decide +kernel
theorem Row.btsR {w : World} {g : Nat} {l : List Int} {n : Nat} (h : Row w g 21 (agR l)) (hn : l.length = n) : BtsR (· < w.heap.size) w (.slice (some ⟨g, 0, none⟩) n n) l :=
  ⟨_, _, by rw [hn], by omega, .inr ⟨g, 0, rfl, h.lt, fun j u hu => by rw [Nat.zero_add, h.cell]; simpa [agR] using hu⟩⟩
theorem Tab.alloc {w : World} (h : Tab w) (o : Obj) : Tab (w.alloc o) := h.below ((Below.refl w.heap.size w).alloc (Nat.le_refl _) o) h.lt
set_option maxRecDepth 100000 in
set_option maxHeartbeats 4000000 in
theorem anch_any (w : World) (hT : Tab w) : Calls Tryd.prog 15 #[] w fun e w' => e = .returned (.bool true) ∧ Below w.heap.size w w' := by
  have HT := Box'.mk hT
  have r0 := Row.new w 5 (ag [97, 195, 169, 255, 226, 130])
  have DC := Box'.mk (decode_any _ _ _ _ (hT.alloc _) (r0.bts (n := 6) rfl) (fun b h => h) (by simp))
  rw [anch_dec] at DC
  clear hT r0
  go_enter Tryd.func15, Tryd.ntmps15
  go_wp2_with fail
  refine DC.out.mono ?_
  rintro e w1 ⟨v1, rfl, o1, b1⟩
  have HB1 : Box' (Below w.heap.size w w1) := ⟨((Below.refl w.heap.size w).alloc (Nat.le_refl _) _).trans (b1.mono (by simp))⟩
  have HO1 := Box'.mk (o1.btsR)
  obtain ⟨a1, c1, hv⟩ := o1.slice
  rw [show ([97, 233, 65533, 65533] : List Int).length = 4 from rfl] at hv
  subst hv
  clear DC o1 b1
  have r1 := Row.new w1 21 (agR [97, 233, 65533, 65533])
  have bel1 := (Below.refl w1.heap.size w1).alloc (Nat.le_refl _) (.cells (agR [97, 233, 65533, 65533]) 21)
  have SM := Box'.mk (sameR_any _ _ _ _ _ _ _ (HO1.out.below bel1 (fun b h => h)) (r1.btsR (n := 4) rfl) (fun b h => Nat.lt_of_lt_of_le h bel1.size) (fun b h => h) (by simp) (by simp))
  rw [show decide (([97, 233, 65533, 65533] : List Int) = [97, 233, 65533, 65533]) = true from rfl] at SM
  have HB2 := Box'.mk (HB1.out.trans (bel1.mono HB1.out.size))
  clear HB1 HO1 r1 bel1
  go_wp2_with fail
  refine SM.out.mono ?_
  rintro e w2 ⟨rfl, b2⟩
  have HB3 := Box'.mk (HB2.out.trans (b2.mono HB2.out.size))
  clear HB2 SM b2
  have r2 := Row.new w2 21 (agR [233, 55296])
  have EC := Box'.mk (encode_any _ _ _ _ (r2.btsR (n := 2) rfl) (fun b h => h) (by simp))
  rw [anch_enc] at EC
  clear r2
  go_wp2_with fail
  refine EC.out.mono ?_
  rintro e w3 ⟨v3, rfl, o3, b3⟩
  have HB4 : Box' (Below w.heap.size w w3) := ⟨(HB3.out.alloc HB3.out.size _).trans (b3.mono (by have := HB3.out.size; simp; omega))⟩
  have HO3 := Box'.mk o3.bts
  obtain ⟨a3, c3, hv⟩ := o3.slice
  rw [show ([195, 169, 239, 191, 189] : List UInt8).length = 5 from rfl] at hv
  subst hv
  clear EC o3 b3 HB3
  have r3 := Row.new w3 5 (ag [195, 169, 239, 191, 189])
  have bel3 := (Below.refl w3.heap.size w3).alloc (Nat.le_refl _) (.cells (ag [195, 169, 239, 191, 189]) 5)
  have SM := Box'.mk (refSame_any _ _ _ _ _ _ _ (HO3.out.below bel3 (fun b h => h)) (r3.bts (n := 5) rfl))
  rw [show decide (([195, 169, 239, 191, 189] : List UInt8) = [195, 169, 239, 191, 189]) = true from rfl] at SM
  have HB5 := Box'.mk (HB4.out.trans (bel3.mono HB4.out.size))
  clear HB4 HO3 r3 bel3
  go_wp2_with fail
  refine SM.out.mono ?_
  rintro e w5 ⟨rfl, hw⟩
  subst hw
  have B5 := HB5.out
  clear SM HB5
  go_wp2_with fail
  go_ret
  exact ⟨rfl, B5⟩
end Go.Proofs.YtfnlnbdlahckeaaDoor
