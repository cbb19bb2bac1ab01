/- UtfNil, walked. -/
import Derived.Test.YtionlbgmmpoeeaaDoorWa
import Derived.Test.YtionlbgmmpoeeaaDoorU
namespace Go.Proofs.YtionlbgmmpoeeaaDoor
open Go.RowKit Go.BigFrame
set_option linter.unusedVariables false
set_option linter.unusedSimpArgs false

set_option maxRecDepth 100000 in
set_option maxHeartbeats 4000000 in
theorem nil_any (w : World) (hT : Tab w) (S : Nat → Prop) (vb : Value) (b : List UInt8) (hb : Bts S w vb b) (hS : ∀ b, S b → b < w.heap.size) (hl : b.length ≤ 1000000000) :
    Calls Tryd.prog 6 #[vb] w fun e w' => e = .returned (.bool true) ∧ Below w.heap.size w w' := by
  have HT := Box'.mk hT
  have HB := Box'.mk hb
  have HS := Box'.mk hS
  have CP := Box'.mk (copy_any S vb b w hb hS (by omega))
  obtain ⟨a1, c1, rfl, -, -⟩ := hb
  have h0 := hT.lt
  have HL := Box'.mk hl
  clear hT hS hl
  generalize hn : b.length = n at *
  have HN := Box'.mk hn
  clear hn
  go_enter Tryd.func6, Tryd.ntmps6
  go_wp2_with fail
  refine CP.out.mono ?_
  rintro e w1 ⟨v1, rfl, o1, b1⟩
  have HB1 := Box'.mk b1
  have HO1 := Box'.mk o1
  have HT1 := Box'.mk (HT.out.below b1 h0)
  have DC := Box'.mk (decode_any _ _ _ w1 HT1.out o1.bts (fun b h => h) (by rw [HN.out]; exact HL.out))
  obtain ⟨a2, c2, hv⟩ := o1.slice
  rw [HN.out] at hv
  subst hv
  clear CP o1 b1
  go_wp2_with fail
  refine DC.out.mono ?_
  rintro e w2 ⟨v2, rfl, o2, b2⟩
  have HB2 := Box'.mk (HB1.out.trans (b2.mono HB1.out.size))
  have HT2 := Box'.mk (HT1.out.below b2 (Nat.lt_of_lt_of_le h0 HB1.out.size))
  have SM := Box'.mk (refSame_any S (· < w1.heap.size) _ _ _ _ w2 (HB.out.below HB2.out HS.out) (HO1.out.bts.below b2 (fun b h => h)))
  rw [show decide (b = b) = true by simp] at SM
  have AN := Box'.mk (anch_any w2 HT2.out)
  clear DC HO1 HT1 HB1 o2 b2
  go_wp2_with fail
  refine (take_nil 65 w2).mono ?_
  rintro e w' ⟨rfl, hw⟩
  obtain rfl := hw.symm
  go_wp2_with fail
  refine (end_nil w2).mono ?_
  rintro e w' ⟨rfl, hw⟩
  obtain rfl := hw.symm
  go_wp2_with fail
  refine (waits_nil w2).mono ?_
  rintro e w' ⟨rfl, hw⟩
  obtain rfl := hw.symm
  go_wp2_with fail
  refine SM.out.mono ?_
  rintro e w' ⟨rfl, hw⟩
  obtain rfl := hw.symm
  clear SM
  go_wp2_with fail
  refine AN.out.mono ?_
  rintro e w3 ⟨rfl, b3⟩
  have B3 := HB2.out.trans (b3.mono HB2.out.size)
  clear AN HB2 HB b3
  go_wp2_with fail
  go_ret
  exact ⟨rfl, B3⟩
end Go.Proofs.YtionlbgmmpoeeaaDoor
