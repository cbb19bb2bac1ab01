/- The plain style; the style of a look. -/
import Derived.Test.YtnbonlkmadmpcaaS
import Derived.Test.YtnbonlkmadmpcaaG
import Derived.BigRegion
import Derived.BigQuiet
import Derived.Deep.QuietTactic
import Derived.Test.YtnbonlkmadmpcaaGk
namespace Go.Proofs.Ytnbonlkmadmpcaa
open Go.RowKit Go.BigFrame
set_option linter.unusedVariables false
set_option linter.unusedSimpArgs false
set_option maxRecDepth 100000 in
theorem s24 : (Try.prog.info? 26).map (·.size) = some 10 := by kernel_rfl
set_option maxRecDepth 100000 in
theorem s26 : (Try.prog.info? 49).map (·.size) = some 15 := by kernel_rfl
theorem one10 (s : St) : (sA s).all (·.oneCell') = true := by simp [sA, Value.oneCell']
theorem lit_p : sA pl = #[.int .i64 (-1), .int .i64 (-1), .bool false, .bool false, .bool false, .bool false, .bool false, .bool false, .bool false, .bool false] := rfl
set_option maxHeartbeats 1000000 in
theorem plain_any (w : World) : Calls Try.prog 61 #[] w fun e w' => e = .returned (.agg (sA pl)) ∧ Below w.heap.size w w' := by
 have RM : Box' (Room (w.alloc (.cells (sA ⟨0, 0, false, false, false, false, false, false, false, false⟩) 26)) w.heap.size 26 10) := ⟨Room.new _ _ _ _ rfl⟩
 have BB := Box'.mk ((Below.refl w.heap.size w).alloc (Nat.le_refl _) (.cells (sA ⟨0, 0, false, false, false, false, false, false, false, false⟩) 26))
 have S24 := Box'.mk s24
 have O := Box'.mk (one10 pl)
 go_enter Try.func61, Try.ntmps61
 go_wp2_with (first
  | (refine wpList_store_row rfl 26 (.tmp 0) (.tmp 1) rfl w.heap.size rfl (sA pl) rfl 26 10 RM.out S24.out rfl O.out ?_))
 exact bodyPost_ret (results_row (p := 0) (ty := 26) (fn := Try.f61) rfl _ w.heap.size rfl 26 (sA pl) (RM.out.setRow _) _ Try.underlying26 rfl 10 s24 rfl) rfl ⟨rfl, below_setRow BB.out (Nat.le_refl _) _⟩
set_option maxHeartbeats 1000000 in
theorem refPlain_any (w : World) : Calls Try.prog 24 #[] w fun e w' => e = .returned (.agg (sA pl)) ∧ Below w.heap.size w w' := by
 have RM : Box' (Room (w.alloc (.cells (sA ⟨0, 0, false, false, false, false, false, false, false, false⟩) 26)) w.heap.size 26 10) := ⟨Room.new _ _ _ _ rfl⟩
 have BB := Box'.mk ((Below.refl w.heap.size w).alloc (Nat.le_refl _) (.cells (sA ⟨0, 0, false, false, false, false, false, false, false, false⟩) 26))
 have S24 := Box'.mk s24
 have O := Box'.mk (one10 pl)
 go_enter Try.func24, Try.ntmps24
 go_wp2_with (first
  | (refine wpList_store_row rfl 26 (.tmp 0) (.tmp 1) rfl w.heap.size rfl (sA pl) rfl 26 10 RM.out S24.out rfl O.out ?_))
 exact bodyPost_ret (results_row (p := 0) (ty := 26) (fn := Try.f24) rfl _ w.heap.size rfl 26 (sA pl) (RM.out.setRow _) _ Try.underlying26 rfl 10 s24 rfl) rfl ⟨rfl, below_setRow BB.out (Nat.le_refl _) _⟩
end Go.Proofs.Ytnbonlkmadmpcaa
