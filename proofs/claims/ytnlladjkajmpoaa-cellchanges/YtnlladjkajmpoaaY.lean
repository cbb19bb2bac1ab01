/- The reference's flag. -/
import Derived.Test.YtnlladjkajmpoaaX
namespace Go.Proofs.Ytnlladjkajmpoaa
open Go.RowKit Go.BigFrame
set_option linter.unusedVariables false
set_option linter.unusedSimpArgs false

theorem results31 (tmps : Array Value) (b : Nat) (hx : tmps.getD 6 undef = .pointer (some ⟨b, 0, none⟩)) (w : World) (c : Array Value) (hr : Row w b 24 c) (hn : c.size = 10) : (results Try.f31 tmps).run Try.prog w = .ok (.agg c) w :=
  results_row (p := 6) (ty := 24) rfl tmps b hx 24 c hr _ Try.underlying24 rfl 10 s24 hn
set_option maxHeartbeats 2000000 in
theorem flag_1 (fg bg : Int) (y1 y2 y3 y4 y5 y7 y8 y9 : Bool) (p : Int) (on : Bool)  (w : World) :
    Calls Try.prog 31 #[.agg #[.int .i64 fg, .int .i64 bg, .bool y1, .bool y2, .bool y3, .bool y4, .bool y5, .bool y7, .bool y8, .bool y9], .int .i64 1, .bool on] w fun e w' => e = .returned (.agg #[.int .i64 fg, .int .i64 bg, .bool on, .bool y2, .bool y3, .bool y4, .bool y5, .bool y7, .bool y8, .bool y9]) ∧ Below w.heap.size w w' := by
  have S24 := Box'.mk s24
  have O : Box' ((#[.int .i64 fg, .int .i64 bg, .bool on, .bool y2, .bool y3, .bool y4, .bool y5, .bool y7, .bool y8, .bool y9] : Array Value).all (·.oneCell') = true) := ⟨by simp [Value.oneCell']⟩
  go_enter Try.func31, Try.ntmps31
  go_wp2_with fail
  exact bodyPost_ret (results31 _ (w.heap.size + 1) rfl _ _ (Row.made _ _ _ _ _ rfl (by simp)) rfl) rfl ⟨rfl, ((Below.refl w.heap.size w).alloc (Nat.le_refl _) _).alloc (by simp) _⟩
set_option maxHeartbeats 2000000 in
theorem flag_2 (fg bg : Int) (y1 y2 y3 y4 y5 y7 y8 y9 : Bool) (p : Int) (on : Bool)  (w : World) :
    Calls Try.prog 31 #[.agg #[.int .i64 fg, .int .i64 bg, .bool y1, .bool y2, .bool y3, .bool y4, .bool y5, .bool y7, .bool y8, .bool y9], .int .i64 2, .bool on] w fun e w' => e = .returned (.agg #[.int .i64 fg, .int .i64 bg, .bool y1, .bool on, .bool y3, .bool y4, .bool y5, .bool y7, .bool y8, .bool y9]) ∧ Below w.heap.size w w' := by
  have S24 := Box'.mk s24
  have O : Box' ((#[.int .i64 fg, .int .i64 bg, .bool y1, .bool on, .bool y3, .bool y4, .bool y5, .bool y7, .bool y8, .bool y9] : Array Value).all (·.oneCell') = true) := ⟨by simp [Value.oneCell']⟩
  go_enter Try.func31, Try.ntmps31
  go_wp2_with fail
  exact bodyPost_ret (results31 _ (w.heap.size + 1) rfl _ _ (Row.made _ _ _ _ _ rfl (by simp)) rfl) rfl ⟨rfl, ((Below.refl w.heap.size w).alloc (Nat.le_refl _) _).alloc (by simp) _⟩
set_option maxHeartbeats 2000000 in
theorem flag_3 (fg bg : Int) (y1 y2 y3 y4 y5 y7 y8 y9 : Bool) (p : Int) (on : Bool)  (w : World) :
    Calls Try.prog 31 #[.agg #[.int .i64 fg, .int .i64 bg, .bool y1, .bool y2, .bool y3, .bool y4, .bool y5, .bool y7, .bool y8, .bool y9], .int .i64 3, .bool on] w fun e w' => e = .returned (.agg #[.int .i64 fg, .int .i64 bg, .bool y1, .bool y2, .bool on, .bool y4, .bool y5, .bool y7, .bool y8, .bool y9]) ∧ Below w.heap.size w w' := by
  have S24 := Box'.mk s24
  have O : Box' ((#[.int .i64 fg, .int .i64 bg, .bool y1, .bool y2, .bool on, .bool y4, .bool y5, .bool y7, .bool y8, .bool y9] : Array Value).all (·.oneCell') = true) := ⟨by simp [Value.oneCell']⟩
  go_enter Try.func31, Try.ntmps31
  go_wp2_with fail
  exact bodyPost_ret (results31 _ (w.heap.size + 1) rfl _ _ (Row.made _ _ _ _ _ rfl (by simp)) rfl) rfl ⟨rfl, ((Below.refl w.heap.size w).alloc (Nat.le_refl _) _).alloc (by simp) _⟩
set_option maxHeartbeats 2000000 in
theorem flag_4 (fg bg : Int) (y1 y2 y3 y4 y5 y7 y8 y9 : Bool) (p : Int) (on : Bool)  (w : World) :
    Calls Try.prog 31 #[.agg #[.int .i64 fg, .int .i64 bg, .bool y1, .bool y2, .bool y3, .bool y4, .bool y5, .bool y7, .bool y8, .bool y9], .int .i64 4, .bool on] w fun e w' => e = .returned (.agg #[.int .i64 fg, .int .i64 bg, .bool y1, .bool y2, .bool y3, .bool on, .bool y5, .bool y7, .bool y8, .bool y9]) ∧ Below w.heap.size w w' := by
  have S24 := Box'.mk s24
  have O : Box' ((#[.int .i64 fg, .int .i64 bg, .bool y1, .bool y2, .bool y3, .bool on, .bool y5, .bool y7, .bool y8, .bool y9] : Array Value).all (·.oneCell') = true) := ⟨by simp [Value.oneCell']⟩
  go_enter Try.func31, Try.ntmps31
  go_wp2_with fail
  exact bodyPost_ret (results31 _ (w.heap.size + 1) rfl _ _ (Row.made _ _ _ _ _ rfl (by simp)) rfl) rfl ⟨rfl, ((Below.refl w.heap.size w).alloc (Nat.le_refl _) _).alloc (by simp) _⟩
set_option maxHeartbeats 2000000 in
theorem flag_5 (fg bg : Int) (y1 y2 y3 y4 y5 y7 y8 y9 : Bool) (p : Int) (on : Bool)  (w : World) :
    Calls Try.prog 31 #[.agg #[.int .i64 fg, .int .i64 bg, .bool y1, .bool y2, .bool y3, .bool y4, .bool y5, .bool y7, .bool y8, .bool y9], .int .i64 5, .bool on] w fun e w' => e = .returned (.agg #[.int .i64 fg, .int .i64 bg, .bool y1, .bool y2, .bool y3, .bool y4, .bool on, .bool y7, .bool y8, .bool y9]) ∧ Below w.heap.size w w' := by
  have S24 := Box'.mk s24
  have O : Box' ((#[.int .i64 fg, .int .i64 bg, .bool y1, .bool y2, .bool y3, .bool y4, .bool on, .bool y7, .bool y8, .bool y9] : Array Value).all (·.oneCell') = true) := ⟨by simp [Value.oneCell']⟩
  go_enter Try.func31, Try.ntmps31
  go_wp2_with fail
  exact bodyPost_ret (results31 _ (w.heap.size + 1) rfl _ _ (Row.made _ _ _ _ _ rfl (by simp)) rfl) rfl ⟨rfl, ((Below.refl w.heap.size w).alloc (Nat.le_refl _) _).alloc (by simp) _⟩
set_option maxHeartbeats 2000000 in
theorem flag_7 (fg bg : Int) (y1 y2 y3 y4 y5 y7 y8 y9 : Bool) (p : Int) (on : Bool)  (w : World) :
    Calls Try.prog 31 #[.agg #[.int .i64 fg, .int .i64 bg, .bool y1, .bool y2, .bool y3, .bool y4, .bool y5, .bool y7, .bool y8, .bool y9], .int .i64 7, .bool on] w fun e w' => e = .returned (.agg #[.int .i64 fg, .int .i64 bg, .bool y1, .bool y2, .bool y3, .bool y4, .bool y5, .bool on, .bool y8, .bool y9]) ∧ Below w.heap.size w w' := by
  have S24 := Box'.mk s24
  have O : Box' ((#[.int .i64 fg, .int .i64 bg, .bool y1, .bool y2, .bool y3, .bool y4, .bool y5, .bool on, .bool y8, .bool y9] : Array Value).all (·.oneCell') = true) := ⟨by simp [Value.oneCell']⟩
  go_enter Try.func31, Try.ntmps31
  go_wp2_with fail
  exact bodyPost_ret (results31 _ (w.heap.size + 1) rfl _ _ (Row.made _ _ _ _ _ rfl (by simp)) rfl) rfl ⟨rfl, ((Below.refl w.heap.size w).alloc (Nat.le_refl _) _).alloc (by simp) _⟩
set_option maxHeartbeats 2000000 in
theorem flag_8 (fg bg : Int) (y1 y2 y3 y4 y5 y7 y8 y9 : Bool) (p : Int) (on : Bool)  (w : World) :
    Calls Try.prog 31 #[.agg #[.int .i64 fg, .int .i64 bg, .bool y1, .bool y2, .bool y3, .bool y4, .bool y5, .bool y7, .bool y8, .bool y9], .int .i64 8, .bool on] w fun e w' => e = .returned (.agg #[.int .i64 fg, .int .i64 bg, .bool y1, .bool y2, .bool y3, .bool y4, .bool y5, .bool y7, .bool on, .bool y9]) ∧ Below w.heap.size w w' := by
  have S24 := Box'.mk s24
  have O : Box' ((#[.int .i64 fg, .int .i64 bg, .bool y1, .bool y2, .bool y3, .bool y4, .bool y5, .bool y7, .bool on, .bool y9] : Array Value).all (·.oneCell') = true) := ⟨by simp [Value.oneCell']⟩
  go_enter Try.func31, Try.ntmps31
  go_wp2_with fail
  exact bodyPost_ret (results31 _ (w.heap.size + 1) rfl _ _ (Row.made _ _ _ _ _ rfl (by simp)) rfl) rfl ⟨rfl, ((Below.refl w.heap.size w).alloc (Nat.le_refl _) _).alloc (by simp) _⟩
set_option maxHeartbeats 2000000 in
theorem flag_9 (fg bg : Int) (y1 y2 y3 y4 y5 y7 y8 y9 : Bool) (p : Int) (on : Bool)  (w : World) :
    Calls Try.prog 31 #[.agg #[.int .i64 fg, .int .i64 bg, .bool y1, .bool y2, .bool y3, .bool y4, .bool y5, .bool y7, .bool y8, .bool y9], .int .i64 9, .bool on] w fun e w' => e = .returned (.agg #[.int .i64 fg, .int .i64 bg, .bool y1, .bool y2, .bool y3, .bool y4, .bool y5, .bool y7, .bool y8, .bool on]) ∧ Below w.heap.size w w' := by
  have S24 := Box'.mk s24
  have O : Box' ((#[.int .i64 fg, .int .i64 bg, .bool y1, .bool y2, .bool y3, .bool y4, .bool y5, .bool y7, .bool y8, .bool on] : Array Value).all (·.oneCell') = true) := ⟨by simp [Value.oneCell']⟩
  go_enter Try.func31, Try.ntmps31
  go_wp2_with fail
  exact bodyPost_ret (results31 _ (w.heap.size + 1) rfl _ _ (Row.made _ _ _ _ _ rfl (by simp)) rfl) rfl ⟨rfl, ((Below.refl w.heap.size w).alloc (Nat.le_refl _) _).alloc (by simp) _⟩
set_option maxHeartbeats 2000000 in
theorem flag_no (fg bg : Int) (y1 y2 y3 y4 y5 y7 y8 y9 : Bool) (p : Int) (on : Bool) (n1 : ¬ p = 1) (n2 : ¬ p = 2) (n3 : ¬ p = 3) (n4 : ¬ p = 4) (n5 : ¬ p = 5) (n7 : ¬ p = 7) (n8 : ¬ p = 8) (n9 : ¬ p = 9) (w : World) :
    Calls Try.prog 31 #[.agg #[.int .i64 fg, .int .i64 bg, .bool y1, .bool y2, .bool y3, .bool y4, .bool y5, .bool y7, .bool y8, .bool y9], .int .i64 p, .bool on] w fun e w' => e = .returned (.agg #[.int .i64 fg, .int .i64 bg, .bool y1, .bool y2, .bool y3, .bool y4, .bool y5, .bool y7, .bool y8, .bool y9]) ∧ Below w.heap.size w w' := by
  have S24 := Box'.mk s24
  have O : Box' ((#[.int .i64 fg, .int .i64 bg, .bool y1, .bool y2, .bool y3, .bool y4, .bool y5, .bool y7, .bool y8, .bool y9] : Array Value).all (·.oneCell') = true) := ⟨by simp [Value.oneCell']⟩
  go_enter Try.func31, Try.ntmps31
  go_wp2_with fail
  exact bodyPost_ret (results31 _ (w.heap.size + 1) rfl _ _ (Row.made _ _ _ _ _ rfl (by simp)) rfl) rfl ⟨rfl, ((Below.refl w.heap.size w).alloc (Nat.le_refl _) _).alloc (by simp) _⟩
theorem flag_any (s : St) (p : Int) (on : Bool) (w : World) : Calls Try.prog 31 #[.agg (sA s), .int .i64 p, .bool on] w fun e w' => e = .returned (.agg (sA (sf s p on))) ∧ Below w.heap.size w w' := by
  by_cases n1 : p = 1
  · subst n1; exact flag_1 s.fg s.bg s.b1 s.b2 s.b3 s.b4 s.b5 s.b7 s.b8 s.b9 1 on w
  by_cases n2 : p = 2
  · subst n2; exact flag_2 s.fg s.bg s.b1 s.b2 s.b3 s.b4 s.b5 s.b7 s.b8 s.b9 2 on w
  by_cases n3 : p = 3
  · subst n3; exact flag_3 s.fg s.bg s.b1 s.b2 s.b3 s.b4 s.b5 s.b7 s.b8 s.b9 3 on w
  by_cases n4 : p = 4
  · subst n4; exact flag_4 s.fg s.bg s.b1 s.b2 s.b3 s.b4 s.b5 s.b7 s.b8 s.b9 4 on w
  by_cases n5 : p = 5
  · subst n5; exact flag_5 s.fg s.bg s.b1 s.b2 s.b3 s.b4 s.b5 s.b7 s.b8 s.b9 5 on w
  by_cases n7 : p = 7
  · subst n7; exact flag_7 s.fg s.bg s.b1 s.b2 s.b3 s.b4 s.b5 s.b7 s.b8 s.b9 7 on w
  by_cases n8 : p = 8
  · subst n8; exact flag_8 s.fg s.bg s.b1 s.b2 s.b3 s.b4 s.b5 s.b7 s.b8 s.b9 8 on w
  by_cases n9 : p = 9
  · subst n9; exact flag_9 s.fg s.bg s.b1 s.b2 s.b3 s.b4 s.b5 s.b7 s.b8 s.b9 9 on w
  have e : sf s p on = s := by unfold sf; rw [if_neg n1, if_neg n2, if_neg n3, if_neg n4, if_neg n5, if_neg n7, if_neg n8, if_neg n9]
  rw [e]
  exact flag_no s.fg s.bg s.b1 s.b2 s.b3 s.b4 s.b5 s.b7 s.b8 s.b9 p on n1 n2 n3 n4 n5 n7 n8 n9 w
end Go.Proofs.Ytnlladjkajmpoaa
