/- The deferred closure of blocks. -/
import Derived.Test.YtbnghmeeddjaoaaFx
import Derived.Defers
import Derived.Recover
import Derived.Laws.Pointers
namespace Go.Proofs.Ytbnghmeeddjaoaa
open Go.RowKit Go.BigFrame Gt

set_option maxRecDepth 100000 in
set_option maxHeartbeats 2000000 in
theorem catch_flt (rb : Nat) (x y : Int) (w : World) (hlt : rb < w.heap.size) (hc : w.cell? ⟨rb, 0, none⟩ = some (.int .i64 y)) (hz : w.frozen? ⟨rb, 0, none⟩ = false) :
    CallsD Try.prog 27 #[.pointer (some ⟨rb, 0, none⟩)] (.panicking [{ v := .iface 60 (.agg #[.int .i64 x]), recovered := false }]) w fun e u' w' =>
      e = .returned (.tuple #[]) ∧ u' = .panicking [{ v := .iface 60 (.agg #[.int .i64 x]), recovered := true }] ∧ w' = (w.setCell ⟨rb, 0, none⟩ (.int .i64 x)).alloc (.cells #[.int .i64 x] 60) := by
  have hne : rb ≠ w.heap.size := by omega
  have hc1 : (w.alloc (.cells #[.int .i64 x] 60)).cell? ⟨rb, 0, none⟩ = some (.int .i64 y) := by
    simp only [World.cell?, Below.heap_alloc _ _ _ hlt] at hc ⊢; exact hc
  have hz1 : (w.alloc (.cells #[.int .i64 x] 60)).frozen? ⟨rb, 0, none⟩ = false := by
    simp only [World.frozen?, Below.heap_alloc _ _ _ hlt] at hz ⊢; exact hz
  refine callsD_of_wpS Try.func27 rfl fun c₀ cs hu => ?_
  apply wpS_seq
  apply wpS_region
  simp [wpOpsS, go_sem, recoverD, hu, Try.ntmps27, Exit.thenS]
  refine wpS_of_wp ?_
  have hta : ∀ w, (Instr.typeAssert (.iface 60 (.agg #[.int .i64 x])) 20 60 true).run Try.prog w = .ok (.tuple #[.agg #[.int .i64 x], .bool true]) w := fun w => by
    simp [Instr.typeAssert, go_sem]
  have e12 : #[Value.pointer (some ⟨rb, 0, none⟩)] ++ (Array.replicate 11 undef).setIfInBounds 3 (Value.iface 60 (Value.agg #[Value.int IntKind.i64 x])) = #[.pointer (some ⟨rb, 0, none⟩), undef, undef, undef, .iface 60 (.agg #[.int .i64 x]), undef, undef, undef, undef, undef, undef, undef] := rfl
  rw [e12]
  go_wp2_with fail
  simp [bodyPostS, results, Try.results27]
set_option maxRecDepth 100000 in
set_option maxHeartbeats 2000000 in
theorem catch_idle (p : Addr) (w : World) :
    CallsD Try.prog 27 #[.pointer (some p)] .returning w fun e u' w' => e = .returned (.tuple #[]) ∧ u' = .returning ∧ w' = w := by
  refine callsD_of_wpS Try.func27 rfl fun c₀ cs hu => ?_
  apply wpS_seq
  apply wpS_region
  simp [wpOpsS, go_sem, recoverD, hu, Try.ntmps27, Exit.thenS]
  refine wpS_of_wp ?_
  have e12 : #[Value.pointer (some p)] ++ (Array.replicate 11 undef).setIfInBounds 3 Value.nilIface = #[.pointer (some p), undef, undef, undef, .nilIface, undef, undef, undef, undef, undef, undef, undef] := rfl
  rw [e12]
  go_wp2_with fail
  cases c₀
  simp_all [bodyPostS, results, Try.results27]
end Go.Proofs.Ytbnghmeeddjaoaa
