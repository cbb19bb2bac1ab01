/- Asked for an instruction, where nothing panics. -/
import Derived.Test.YtikkekdmahdgaaaTi
namespace Go.Proofs.Ytikkekdmahdgaaa
open Go.RowKit Go.BigFrame
set_option linter.unusedSimpArgs false
set_option linter.unusedVariables false
set_option maxRecDepth 100000
set_option maxHeartbeats 4000000

theorem ld41 {w : World} {b : Nat} {A : Array Value} (h : Row w b 41 A) (hA : A.size = 5) : (loadVar 41 (⟨b, 0, none⟩ : Addr)).run Try.prog w = .ok (.agg A) w :=
  run_loadVar_row (P := Try.prog) w b 41 41 A (0, 0) _ h Try.underlying41 rfl (by rw [hA]; kernel_rfl)
theorem asked27_any (caps : Array Value) (b11 : Nat) (w : World) (i : Int) (P : Array Value → World → Prop) (h11 : b11 < w.heap.size)
    (hc : ∀ w1, Below w.heap.size w w1 → w1.heap.size = w.heap.size + 2 → Calls Try.prog 28 caps w1 fun e w' => ∃ A, e = .returned (.tuple #[.agg A, .int .i64 i]) ∧ A.size = 5 ∧ A.all (·.oneCell') = true ∧ P A w' ∧ Tch (fun k => k = b11) w1 w') :
    Calls Try.prog 27 #[.func (.func 28) #[] caps] w fun e w' => ∃ A w1 w2, e = .returned (.tuple #[.agg A, .int .i64 i]) ∧ P A w2 ∧ Below w.heap.size w w1 ∧ w1.heap.size = w.heap.size + 2 ∧ Tch (fun k => k = b11) w1 w2 ∧ Tch (fun k => k = w.heap.size ∨ k = w.heap.size + 1) w2 w' := by
  obtain ⟨w1, hw1⟩ : ∃ w1, w1 = (w.alloc (.cells z41 41)).alloc (.cells #[.int .i64 0] 35) := ⟨_, rfl⟩
  have b1 : Below w.heap.size w w1 := by rw [hw1]; exact ((Below.refl _ _).alloc (Nat.le_refl _) _).alloc (by simp) _
  have z1 : w1.heap.size = w.heap.size + 2 := by rw [hw1]; simp
  have rA : Row w1 w.heap.size 41 z41 := by rw [hw1]; exact (Row.new _ _ _).alloc _
  have rB : Row w1 (w.heap.size + 1) 35 #[.int .i64 0] := by rw [hw1]; exact Row.made _ _ _ _ _ rfl (by simp)
  have ak := hc w1 b1 z1
  have B1 := Box'.mk b1
  have Z1 := Box'.mk z1
  have RA := Box'.mk rA
  have RB := Box'.mk rB
  have hmf : ∀ (fn : Fn) (first cap : Array Value) (w : World), (Instr.makeFunc fn first cap).run Try.prog w = .ok (.func fn first cap) w := fun _ _ _ _ => rfl
  clear hc b1 z1 rA rB
  unfold z41 at hw1
  go_enter_defers Try.func27, Try.ntmps27
  go_upto_region 2 with (fail)
  rw [← hw1]
  clear hw1
  go_wp2_with fail
  refine ak.mono ?_
  rintro e w2 ⟨A, rfl, hA5, hA1, hP, ht⟩
  have za := RA.out.lt
  have zb := RB.out.lt
  have rmA : Room w2 w.heap.size 41 5 := (RA.out.same (ht.block _ za (by show ¬ w.heap.size = b11; omega))).room rfl
  have rb2 := RB.out.same (ht.block _ zb (by show ¬ w.heap.size + 1 = b11; omega))
  obtain ⟨w3, hw3⟩ : ∃ w3, w3 = w2.setRow w.heap.size A := ⟨_, rfl⟩
  have ra3 : Row w3 w.heap.size 41 A := by rw [hw3]; exact rmA.setRow _
  have rb3 : Row w3 (w.heap.size + 1) 35 #[.int .i64 0] := by rw [hw3]; exact rb2.setRowOther _ _ (by omega)
  have c3 := rb3.cell 0
  have f3 := rb3.frozen 0
  have RA4 : Box' (Row (w3.setCell ⟨w.heap.size + 1, 0, none⟩ (.int .i64 i)) w.heap.size 41 A) := ⟨ra3.setOther _ _ (by show w.heap.size ≠ w.heap.size + 1; omega)⟩
  have RB4 := Box'.mk ((rb3.setCell 0 (.int .i64 i)).cell 0)
  have T4 : Box' (Tch (fun k => k = w.heap.size ∨ k = w.heap.size + 1) w2 (w3.setCell ⟨w.heap.size + 1, 0, none⟩ (.int .i64 i))) := ⟨by
    have t1 : Tch (fun k => k = w.heap.size ∨ k = w.heap.size + 1) w2 (w2.setRow w.heap.size A) := ⟨rfl, rfl, rfl, by simp [World.setRow], fun k _ hk => setRow_other w2 w.heap.size k A (by omega)⟩
    rw [hw3]
    exact t1.set ⟨w.heap.size + 1, 0, none⟩ _ (.inl (.inr rfl))⟩
  have HP := Box'.mk hP
  have HT := Box'.mk ht
  have HA5 := Box'.mk hA5
  clear ak ht hP ra3 rb3 rb2 hA5 RA RB
  go_wp2_with (refine wpList_store_row rfl 41 (.tmp 2) (.tmp 7) rfl w.heap.size rfl A rfl 41 5 rmA (by kernel_rfl) HA5.out hA1 ?_; rw [← hw3]; clear hw3 rmA hA1)
  refine leaves_cons (f := 44) (args := #[.pointer (some ⟨w.heap.size + 1, 0, none⟩)]) (by simp) (by simp [go_sem]) ?_
  refine (catch44_idle _ _).mono ?_
  rintro e u' w'' ⟨rfl, rfl, rfl⟩
  refine ⟨.tuple #[.agg A, .int .i64 i], ?_, A, w1, w2, rfl, HP.out, B1.out, Z1.out, HT.out, T4.out⟩
  simp [results, Try.results27, asAddr, ld41 RA4.out HA5.out, ld35 RB4.out]
end Go.Proofs.Ytikkekdmahdgaaa
