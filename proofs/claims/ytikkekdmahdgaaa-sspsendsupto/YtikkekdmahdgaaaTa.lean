/- A text's methods; what is asked of a state, where nothing panics; copies. -/
import Derived.Test.YtikkekdmahdgaaaRa
import Derived.Recover
import Derived.Defers
namespace Go.Proofs.Ytikkekdmahdgaaa
open Go.RowKit Go.BigFrame
set_option linter.unusedSimpArgs false
set_option linter.unusedVariables false
set_option maxRecDepth 100000

theorem ld26 {w : World} {b o : Nat} {v : Value} (h : w.cell? ⟨b, o, none⟩ = some v) : (loadVar 26 (⟨b, o, none⟩ : Addr)).run Try.prog w = .ok (.agg #[v]) w := by simp [go_sem, h]
theorem ld35 {w : World} {b o : Nat} {v : Value} (h : w.cell? ⟨b, o, none⟩ = some v) : (loadVar 35 (⟨b, o, none⟩ : Addr)).run Try.prog w = .ok v w := by simp [go_sem, h]
theorem copy_any (t : List UInt8) (w : World) : Calls Try.prog 70 #[.agg #[sT t]] w fun e w' => e = .returned (.agg #[sT t]) ∧ Below w.heap.size w w' := by
  unfold sT
  have HB : Box' (Below w.heap.size w ((w.alloc (.cells #[.string ⟨t.toArray⟩] 26)).alloc (.cells #[.string ⟨t.toArray⟩] 26))) := ⟨((Below.refl _ _).alloc (Nat.le_refl _) _).alloc (by simp) _⟩
  go_enter Try.func70, Try.ntmps70
  go_wp2_with fail
  refine bodyPost_ret (v := .agg #[.string ⟨t.toArray⟩]) ?_ rfl ⟨rfl, HB.out⟩
  simp [results, Try.results70, asAddr, go_sem]
theorem same_any (s t : List UInt8) (w : World) : Calls Try.prog 72 #[.agg #[sT s], .agg #[sT t]] w fun e w' => e = .returned (.bool (s == t)) ∧ Below w.heap.size w w' := by
  unfold sT
  have HB : Box' (Below w.heap.size w ((w.alloc (.cells #[.string ⟨s.toArray⟩] 26)).alloc (.cells #[.string ⟨t.toArray⟩] 26))) := ⟨((Below.refl _ _).alloc (Nat.le_refl _) _).alloc (by simp) _⟩
  go_enter Try.func72, Try.ntmps72
  go_wp2_with fail
  go_ret
  exact ⟨by simp, HB.out⟩
theorem catch52_idle (p : Addr) (w : World) :
    CallsD Try.prog 52 #[.pointer (some p)] .returning w fun e u' w' => e = .returned (.tuple #[]) ∧ u' = .returning ∧ w' = w := by
  refine callsD_of_wpS Try.func52 rfl fun c₀ cs hu => ?_
  apply wpS_seq
  apply wpS_region
  simp [wpOpsS, go_sem, recoverD, hu, Try.ntmps52, Exit.thenS]
  refine wpS_of_wp ?_
  rw [show #[Value.pointer (some p)] ++ ((Array.replicate 2 undef).setIfInBounds 0 Value.nilIface).setIfInBounds 1 (Value.bool false) = #[.pointer (some p), .nilIface, .bool false] from rfl]
  go_wp2_with fail
  cases c₀
  simp_all [bodyPostS, results, Try.results52]
theorem catch44_idle (p : Addr) (w : World) :
    CallsD Try.prog 44 #[.pointer (some p)] .returning w fun e u' w' => e = .returned (.tuple #[]) ∧ u' = .returning ∧ w' = w := by
  refine callsD_of_wpS Try.func44 rfl fun c₀ cs hu => ?_
  apply wpS_seq
  apply wpS_region
  simp [wpOpsS, go_sem, recoverD, hu, Try.ntmps44, Exit.thenS]
  refine wpS_of_wp ?_
  rw [show #[Value.pointer (some p)] ++ ((Array.replicate 2 undef).setIfInBounds 0 Value.nilIface).setIfInBounds 1 (Value.bool false) = #[.pointer (some p), .nilIface, .bool false] from rfl]
  go_wp2_with fail
  cases c₀
  simp_all [bodyPostS, results, Try.results44]
/-- The copy that a closure is asked for. -/
theorem ask43_any (b : Nat) (t : List UInt8) (w : World) (hb : b < w.heap.size) (h : w.cell? ⟨b, 0, none⟩ = some (sT t)) : Calls Try.prog 43 #[.pointer (some ⟨b, 0, none⟩)] w fun e w' => e = .returned (.tuple #[.agg #[sT t], .int .i64 0]) ∧ Below w.heap.size w w' := by
  have cp := copy_any t (w.alloc (.cells #[.string ⟨#[]⟩] 26))
  have B0 : Box' (Below w.heap.size w (w.alloc (.cells #[.string ⟨#[]⟩] 26))) := ⟨(Below.refl _ _).alloc (Nat.le_refl _) _⟩
  have R0 := Box'.mk (Row.new w 26 #[.string ⟨#[]⟩])
  have h1 := (B0.out.cell (p := ⟨b, 0, none⟩) hb).trans h
  clear h
  have hm : ∀ (v : Value) (w : World), (method 232 26 v "Copy").run Try.prog w = .ok (70, v) w := fun _ _ => by kernel_rfl
  unfold sT at *
  go_enter Try.func43, Try.ntmps43
  go_wp2_with fail
  refine cp.mono ?_
  rintro e w2 ⟨rfl, hw⟩
  have r2 := R0.out.below hw R0.out.lt
  have c2 := r2.cell 0
  have f2 := r2.frozen 0
  have HB : Box' (Below w.heap.size w (w2.setCell ⟨w.heap.size, 0, none⟩ (.string ⟨t.toArray⟩))) := ⟨(B0.out.trans (hw.mono B0.out.size)).setCell (p := ⟨w.heap.size, 0, none⟩) (Nat.le_refl _) _⟩
  have HC := Box'.mk ((r2.setCell 0 (.string ⟨t.toArray⟩)).cell 0)
  clear hw r2 cp B0 R0 h1
  go_wp2_with fail
  refine bodyPost_ret (v := .tuple #[.agg #[.string ⟨t.toArray⟩], .int .i64 0]) ?_ rfl ⟨rfl, HB.out⟩
  simp [results, Try.results43, asAddr, ld26 HC.out]
theorem asked43_any (b : Nat) (t : List UInt8) (w : World) (hb : b < w.heap.size) (h : w.cell? ⟨b, 0, none⟩ = some (sT t)) : Calls Try.prog 42 #[.func (.func 43) #[] #[.pointer (some ⟨b, 0, none⟩)]] w fun e w' => e = .returned (.tuple #[.agg #[sT t], .int .i64 0]) ∧ Below w.heap.size w w' := by
  obtain ⟨w1, hw1⟩ : ∃ w1, w1 = (w.alloc (.cells #[.string ⟨#[]⟩] 26)).alloc (.cells #[.int .i64 0] 35) := ⟨_, rfl⟩
  have b1 : Below w.heap.size w w1 := by rw [hw1]; exact ((Below.refl _ _).alloc (Nat.le_refl _) _).alloc (by simp) _
  have rA : Row w1 w.heap.size 26 #[.string ⟨#[]⟩] := by rw [hw1]; exact (Row.new _ _ _).alloc _
  have rB : Row w1 (w.heap.size + 1) 35 #[.int .i64 0] := by rw [hw1]; exact Row.made _ _ _ _ _ rfl (by simp)
  have ak := ask43_any b t w1 (Nat.lt_of_lt_of_le hb b1.size) ((b1.cell (p := ⟨b, 0, none⟩) hb).trans h)
  have B1 := Box'.mk b1
  have RA := Box'.mk rA
  have RB := Box'.mk rB
  have hmf : ∀ (fn : Fn) (first cap : Array Value) (w : World), (Instr.makeFunc fn first cap).run Try.prog w = .ok (.func fn first cap) w := fun _ _ _ _ => rfl
  clear h b1 rA rB
  unfold sT at *
  go_enter_defers Try.func42, Try.ntmps42
  go_wp2_with fail
  rw [← hw1]
  refine ak.mono ?_
  rintro e w2 ⟨rfl, hw⟩
  have ra := RA.out.below hw RA.out.lt
  have rb := RB.out.below hw RB.out.lt
  have b2 := B1.out.trans (hw.mono B1.out.size)
  have ca := ra.cell 0
  have fa := ra.frozen 0
  have cb := rb.cell 0
  have fb := rb.frozen 0
  have rb2 := (rb.setOther ⟨w.heap.size, 0, none⟩ (.string ⟨t.toArray⟩) (by simp))
  have cb2 := rb2.cell 0
  have fb2 := rb2.frozen 0
  have HB : Box' (Below w.heap.size w ((w2.setCell ⟨w.heap.size, 0, none⟩ (.string ⟨t.toArray⟩)).setCell ⟨w.heap.size + 1, 0, none⟩ (.int .i64 0))) := ⟨(b2.setCell (p := ⟨w.heap.size, 0, none⟩) (Nat.le_refl _) _).setCell (p := ⟨w.heap.size + 1, 0, none⟩) (by simp) _⟩
  have CA := Box'.mk (((ra.setCell 0 (.string ⟨t.toArray⟩)).setOther ⟨w.heap.size + 1, 0, none⟩ (.int .i64 0) (by simp)).cell 0)
  have CB := Box'.mk ((rb2.setCell 0 (.int .i64 0)).cell 0)
  clear hw hw1 ak b2 ra rb rb2 RA RB B1
  go_wp2_with fail
  refine leaves_cons (f := 52) (args := #[.pointer (some ⟨w.heap.size + 1, 0, none⟩)]) (by simp) (by simp [go_sem]) ?_
  refine (catch52_idle _ _).mono ?_
  rintro e u' w'' ⟨rfl, rfl, rfl⟩
  refine ⟨.tuple #[.agg #[.string ⟨t.toArray⟩], .int .i64 0], ?_, rfl, HB.out⟩
  simp [results, Try.results42, asAddr, ld26 CA.out, ld35 CB.out]
theorem copied_any (t : List UInt8) (w : World) : Calls Try.prog 24 #[.agg #[sT t]] w fun e w' => e = .returned (.tuple #[.agg #[sT t], .int .i64 0]) ∧ Below w.heap.size w w' := by
  obtain ⟨w1, hw1⟩ : ∃ w1, w1 = (w.alloc (.cells #[sT t] 26)).alloc (.cells #[.string ⟨#[]⟩] 26) := ⟨_, rfl⟩
  have b1 : Below w.heap.size w w1 := by rw [hw1]; exact ((Below.refl _ _).alloc (Nat.le_refl _) _).alloc (by simp) _
  have rA : Row w1 w.heap.size 26 #[sT t] := by rw [hw1]; exact (Row.new _ _ _).alloc _
  have rB : Row w1 (w.heap.size + 1) 26 #[.string ⟨#[]⟩] := by rw [hw1]; exact Row.made _ _ _ _ _ rfl (by simp)
  have ak := asked43_any w.heap.size t w1 rA.lt (rA.cell 0)
  have hmf : ∀ (fn : Fn) (first cap : Array Value) (w : World), (Instr.makeFunc fn first cap).run Try.prog w = .ok (.func fn first cap) w := fun _ _ _ _ => rfl
  have RB := Box'.mk rB
  have B1 := Box'.mk b1
  clear rA rB b1
  unfold sT at *
  go_enter Try.func24, Try.ntmps24
  go_wp2_with fail
  rw [← hw1]
  refine ak.mono ?_
  rintro e w2 ⟨rfl, hw⟩
  have rb := RB.out.below hw RB.out.lt
  have cb := rb.cell 0
  have fb := rb.frozen 0
  have HB : Box' (Below w.heap.size w (w2.setCell ⟨w.heap.size + 1, 0, none⟩ (.string ⟨t.toArray⟩))) := ⟨(B1.out.trans (hw.mono B1.out.size)).setCell (p := ⟨w.heap.size + 1, 0, none⟩) (by simp) _⟩
  have CB := Box'.mk ((rb.setCell 0 (.string ⟨t.toArray⟩)).cell 0)
  clear hw hw1 ak rb RB B1
  go_wp2_with fail
  refine bodyPost_ret (v := .tuple #[.agg #[.string ⟨t.toArray⟩], .int .i64 0]) ?_ rfl ⟨rfl, HB.out⟩
  simp [results, Try.results24, asAddr, ld26 CB.out]

end Go.Proofs.Ytikkekdmahdgaaa
