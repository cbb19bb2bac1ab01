/- Blank, Mark, May. -/
import Derived.Test.YtepepoabbbjmgaaSEq
import Derived.Test.YtepepoabbbjmgaaSCa
namespace Go.Proofs.Ytepepoabbbjmgaa.Sc
open Go.RowKit Go.BigFrame
set_option linter.unusedVariables false
set_option linter.unusedSimpArgs false
set_option maxRecDepth 100000
set_option maxHeartbeats 4000000
theorem size21 (w : World) : (sizeOf 21).run Try.prog w = .ok 1 w := by
 have := s21
 cases hq : Try.prog.info? 21 with
 | none => simp [hq] at this
 | some i => simp [hq] at this; simp [sizeOf, typeInfo, hq, this]
theorem run_part21 (w : World) (c : Array Value) (i : Nat) (v : Value) (hc : c[i]? = some v) : (part 21 c i).run Try.prog w = .ok v w := by
 simp [part, isAgg, underlying, Try.underlying21, hc]
theorem may_no (x : Cl) (h : mayS x.st = false) (w : World) : Calls Try.prog 34 #[.agg (cA x)] w fun e w' => e = .returned (.bool false) ∧ Below w.heap.size w w' := by
 have MS := Box'.mk (mayStyle_any x.st)
 rw [h] at MS
 have RX := Box'.mk (Row.new w 72 (cA x))
 have BB := Box'.mk ((Below.refl w.heap.size w).alloc (Nat.le_refl _) (.cells (cA x) 72))
 go_enter Try.func34, Try.ntmps34
 go_upto_region 1 with (fail)
 generalize w.alloc (.cells (cA x) 72) = w1 at *
 obtain ⟨c0, c1, c2, c3, c4, c5, c6, c7, c8, c9, c10, c11, c12, c13, c14⟩ := RX.out.c15
 clear RX h
 go_wp2_with fail
 refine (MS.out _).mono ?_
 rintro e w2 ⟨rfl, hb2⟩
 have B2 := Box'.mk (BB.out.trans (hb2.mono BB.out.size))
 clear hb2 BB MS
 go_wp2_with fail
 go_ret
 exact ⟨rfl, B2.out⟩
end Go.Proofs.Ytepepoabbbjmgaa.Sc
