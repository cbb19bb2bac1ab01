/- The walks of the reference's New and NewOpen. -/
import Derived.Test.YthcokaffbgbanaaDoorXi
import Derived.Test.YthcokaffbgbanaaDoorZg
namespace Go.Proofs.YthcokaffbgbanaaDoor
open Go.RowKit Go.BigFrame
set_option linter.unusedVariables false

set_option maxRecDepth 100000 in
set_option maxHeartbeats 4000000 in
theorem rsNew_any (key : List UInt8) (hk : key.length = 16) (f n : Nat) (hf : f = 1 ∨ f = 2) (hn : n ≤ 4611686018427387904) (w : World) : Calls Tryd.prog 18 #[.agg (ag key), .int .u8 (f : Int), .int .u64 (n : Int)] w fun e w' => ∃ p, e = .returned (.tuple #[.pointer (some ⟨p, 0, none⟩), .int .i64 0]) ∧ Row w' p 72 (slO key f n) ∧ w.heap.size ≤ p ∧ Below w.heap.size w w' := by
  have hS := fun w => refSide_any f w
  rw [decide_eq_true hf] at hS
  have d1 : decide ((4611686018427387904 : Int) < (n : Int)) = false := decide_eq_false (by omega)
  obtain ⟨k0, k1, k2, k3, k4, k5, k6, k7, k8, k9, k10, k11, k12, k13, k14, k15, rfl⟩ := list16 key hk
  have ea : ag [k0, k1, k2, k3, k4, k5, k6, k7, k8, k9, k10, k11, k12, k13, k14, k15] = #[B k0, B k1, B k2, B k3, B k4, B k5, B k6, B k7, B k8, B k9, B k10, B k11, B k12, B k13, B k14, B k15] := rfl
  have eb : slO [k0, k1, k2, k3, k4, k5, k6, k7, k8, k9, k10, k11, k12, k13, k14, k15] f n = #[B k0, B k1, B k2, B k3, B k4, B k5, B k6, B k7, B k8, B k9, B k10, B k11, B k12, B k13, B k14, B k15, .int .u8 (f : Int), .int .u64 (n : Int)] := rfl
  rw [ea, eb]
  clear ea eb hf hk
  have h1 : Box' (Below w.heap.size w ((w.alloc (.cells #[B k0, B k1, B k2, B k3, B k4, B k5, B k6, B k7, B k8, B k9, B k10, B k11, B k12, B k13, B k14, B k15] 23)).alloc (.cells #[B k0, B k1, B k2, B k3, B k4, B k5, B k6, B k7, B k8, B k9, B k10, B k11, B k12, B k13, B k14, B k15, .int .u8 (f : Int), .int .u64 (n : Int)] 72))) := ⟨((Below.refl _ _).alloc (Nat.le_refl _) _).alloc (by simp) _⟩
  have h2 : Box' (Row ((w.alloc (.cells #[B k0, B k1, B k2, B k3, B k4, B k5, B k6, B k7, B k8, B k9, B k10, B k11, B k12, B k13, B k14, B k15] 23)).alloc (.cells #[B k0, B k1, B k2, B k3, B k4, B k5, B k6, B k7, B k8, B k9, B k10, B k11, B k12, B k13, B k14, B k15, .int .u8 (f : Int), .int .u64 (n : Int)] 72)) (w.heap.size + 1) 72 #[B k0, B k1, B k2, B k3, B k4, B k5, B k6, B k7, B k8, B k9, B k10, B k11, B k12, B k13, B k14, B k15, .int .u8 (f : Int), .int .u64 (n : Int)]) := ⟨Row.made _ _ _ _ _ rfl (by simp)⟩
  unfold B at *
  go_enter Tryd.func18, Tryd.ntmps18
  go_wp2_with (first | (go_at_call 34; refine (hS _).mono ?_; rintro e1 w1 ⟨rfl, rfl⟩) | fail)
  go_ret2
  exact ⟨_, rfl, h2.out, by omega, h1.out⟩
set_option maxRecDepth 100000 in
set_option maxHeartbeats 4000000 in
theorem roNew_any (key : List UInt8) (hk : key.length = 16) (f : Nat) (hf : f = 1 ∨ f = 2)  (w : World) : Calls Tryd.prog 20 #[.agg (ag key), .int .u8 (f : Int)] w fun e w' => ∃ p, e = .returned (.tuple #[.pointer (some ⟨p, 0, none⟩), .int .i64 0]) ∧ Row w' p 69 (opO key f 0 0 0 0) ∧ w.heap.size ≤ p ∧ Below w.heap.size w w' := by
  have hS := fun w => refSide_any f w
  rw [decide_eq_true hf] at hS
  obtain ⟨k0, k1, k2, k3, k4, k5, k6, k7, k8, k9, k10, k11, k12, k13, k14, k15, rfl⟩ := list16 key hk
  have ea : ag [k0, k1, k2, k3, k4, k5, k6, k7, k8, k9, k10, k11, k12, k13, k14, k15] = #[B k0, B k1, B k2, B k3, B k4, B k5, B k6, B k7, B k8, B k9, B k10, B k11, B k12, B k13, B k14, B k15] := rfl
  have eb : opO [k0, k1, k2, k3, k4, k5, k6, k7, k8, k9, k10, k11, k12, k13, k14, k15] f 0 0 0 0 = #[B k0, B k1, B k2, B k3, B k4, B k5, B k6, B k7, B k8, B k9, B k10, B k11, B k12, B k13, B k14, B k15, .int .u8 (f : Int), .int .u64 0, .int .i64 0, .int .i64 0, .int .i64 0] := rfl
  rw [ea, eb]
  clear ea eb hf hk
  have h1 : Box' (Below w.heap.size w ((w.alloc (.cells #[B k0, B k1, B k2, B k3, B k4, B k5, B k6, B k7, B k8, B k9, B k10, B k11, B k12, B k13, B k14, B k15] 23)).alloc (.cells #[B k0, B k1, B k2, B k3, B k4, B k5, B k6, B k7, B k8, B k9, B k10, B k11, B k12, B k13, B k14, B k15, .int .u8 (f : Int), .int .u64 0, .int .i64 0, .int .i64 0, .int .i64 0] 69))) := ⟨((Below.refl _ _).alloc (Nat.le_refl _) _).alloc (by simp) _⟩
  have h2 : Box' (Row ((w.alloc (.cells #[B k0, B k1, B k2, B k3, B k4, B k5, B k6, B k7, B k8, B k9, B k10, B k11, B k12, B k13, B k14, B k15] 23)).alloc (.cells #[B k0, B k1, B k2, B k3, B k4, B k5, B k6, B k7, B k8, B k9, B k10, B k11, B k12, B k13, B k14, B k15, .int .u8 (f : Int), .int .u64 0, .int .i64 0, .int .i64 0, .int .i64 0] 69)) (w.heap.size + 1) 69 #[B k0, B k1, B k2, B k3, B k4, B k5, B k6, B k7, B k8, B k9, B k10, B k11, B k12, B k13, B k14, B k15, .int .u8 (f : Int), .int .u64 0, .int .i64 0, .int .i64 0, .int .i64 0]) := ⟨Row.made _ _ _ _ _ rfl (by simp)⟩
  unfold B at *
  go_enter Tryd.func20, Tryd.ntmps20
  go_wp2_with (first | (go_at_call 34; refine (hS _).mono ?_; rintro e1 w1 ⟨rfl, rfl⟩) | fail)
  go_ret2
  exact ⟨_, rfl, h2.out, by omega, h1.out⟩
set_option maxRecDepth 100000 in
theorem sNew_bad (key : List UInt8) (f n : Nat) (hf : ¬ (f = 1 ∨ f = 2)) (w : World) : Calls Tryd.prog 17 #[.agg (ag key), .int .u8 (f : Int), .int .u64 (n : Int)] w fun e w' => e = .returned (.tuple #[.pointer none, .int .i64 2]) ∧ Below w.heap.size w w' := by
  have hS := fun w => isSide_any f w
  rw [decide_eq_false hf] at hS
  have h1 : Box' (Below w.heap.size w (w.alloc (.cells (ag key) 23))) := ⟨(Below.refl _ _).alloc (Nat.le_refl _) _⟩
  clear hf
  go_enter Tryd.func17, Tryd.ntmps17
  go_wp2_with (first | (go_at_call 28; refine (hS _).mono ?_; rintro e1 w1 ⟨rfl, rfl⟩) | fail)
  go_ret2
  exact ⟨rfl, h1.out⟩
set_option maxRecDepth 100000 in
theorem rsNew_bad (key : List UInt8) (f n : Nat) (hf : ¬ (f = 1 ∨ f = 2)) (w : World) : Calls Tryd.prog 18 #[.agg (ag key), .int .u8 (f : Int), .int .u64 (n : Int)] w fun e w' => e = .returned (.tuple #[.pointer none, .int .i64 2]) ∧ Below w.heap.size w w' := by
  have hS := fun w => refSide_any f w
  rw [decide_eq_false hf] at hS
  have h1 : Box' (Below w.heap.size w (w.alloc (.cells (ag key) 23))) := ⟨(Below.refl _ _).alloc (Nat.le_refl _) _⟩
  clear hf
  go_enter Tryd.func18, Tryd.ntmps18
  go_wp2_with (first | (go_at_call 34; refine (hS _).mono ?_; rintro e1 w1 ⟨rfl, rfl⟩) | fail)
  go_ret2
  exact ⟨rfl, h1.out⟩
set_option maxRecDepth 100000 in
theorem oNew_bad (key : List UInt8) (f : Nat) (hf : ¬ (f = 1 ∨ f = 2)) (w : World) : Calls Tryd.prog 19 #[.agg (ag key), .int .u8 (f : Int)] w fun e w' => e = .returned (.tuple #[.pointer none, .int .i64 2]) ∧ Below w.heap.size w w' := by
  have hS := fun w => isSide_any f w
  rw [decide_eq_false hf] at hS
  have h1 : Box' (Below w.heap.size w (w.alloc (.cells (ag key) 23))) := ⟨(Below.refl _ _).alloc (Nat.le_refl _) _⟩
  clear hf
  go_enter Tryd.func19, Tryd.ntmps19
  go_wp2_with (first | (go_at_call 28; refine (hS _).mono ?_; rintro e1 w1 ⟨rfl, rfl⟩) | fail)
  go_ret2
  exact ⟨rfl, h1.out⟩
set_option maxRecDepth 100000 in
theorem roNew_bad (key : List UInt8) (f : Nat) (hf : ¬ (f = 1 ∨ f = 2)) (w : World) : Calls Tryd.prog 20 #[.agg (ag key), .int .u8 (f : Int)] w fun e w' => e = .returned (.tuple #[.pointer none, .int .i64 2]) ∧ Below w.heap.size w w' := by
  have hS := fun w => refSide_any f w
  rw [decide_eq_false hf] at hS
  have h1 : Box' (Below w.heap.size w (w.alloc (.cells (ag key) 23))) := ⟨(Below.refl _ _).alloc (Nat.le_refl _) _⟩
  clear hf
  go_enter Tryd.func20, Tryd.ntmps20
  go_wp2_with (first | (go_at_call 34; refine (hS _).mono ?_; rintro e1 w1 ⟨rfl, rfl⟩) | fail)
  go_ret2
  exact ⟨rfl, h1.out⟩
end Go.Proofs.YthcokaffbgbanaaDoor
