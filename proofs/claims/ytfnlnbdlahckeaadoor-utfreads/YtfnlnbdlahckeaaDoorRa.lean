/- mayFollow, lowest, isThere, forget, finish. -/
import Derived.Test.YtfnlnbdlahckeaaDoorQ
namespace Go.Proofs.YtfnlnbdlahckeaaDoor
open Go.RowKit Go.BigFrame
set_option linter.unusedVariables false
set_option linter.unusedSimpArgs false

theorem ofInt_i32 (a : Nat) (ha : a < 2147483648) : (BitVec.ofInt 32 (a : Int)).toNat = a := by
  rw [BitVec.ofInt_natCast, BitVec.toNat_ofNat]; exact Nat.mod_eq_of_lt (by omega)
theorem wrap_i32n (a : Nat) (ha : a < 2147483648) : IntKind.i32.wrap (a : Int) = (a : Int) := by
  rw [IntKind.wrap_i32]; omega
theorem i32_and_nat (a b : Nat) (ha : a < 2147483648) (hb : b < 2147483648) : bits .and .i32 (a : Int) (b : Int) = ((a &&& b : Nat) : Int) := by
  have hx : a &&& b < 2 ^ 31 := Nat.and_lt_two_pow _ (by omega)
  show IntKind.i32.wrap ((BitVec.ofInt 32 (a : Int) &&& BitVec.ofInt 32 (b : Int)).toNat : Int) = _
  rw [BitVec.toNat_and, ofInt_i32 a ha, ofInt_i32 b hb, wrap_i32n _ (by omega)]
theorem i32_or_nat (a b : Nat) (ha : a < 2147483648) (hb : b < 2147483648) : bits .or .i32 (a : Int) (b : Int) = ((a ||| b : Nat) : Int) := by
  have hx : a ||| b < 2 ^ 31 := Nat.or_lt_two_pow (by omega) (by omega)
  show IntKind.i32.wrap ((BitVec.ofInt 32 (a : Int) ||| BitVec.ofInt 32 (b : Int)).toNat : Int) = _
  rw [BitVec.toNat_or, ofInt_i32 a ha, ofInt_i32 b hb, wrap_i32n _ (by omega)]
theorem low6 (c : Nat) : c &&& 63 = c % 64 := by rw [show (63 : Nat) = 2 ^ 6 - 1 from rfl, Nat.and_two_pow_sub_one_eq_mod]
theorem or6 (c x : Nat) (hx : x < 64) : (64 * c ||| x) = 64 * c + x := by
  have := Nat.two_pow_add_eq_or_of_lt (i := 6) (b := x) (by omega) c
  rw [show 64 * c = 2 ^ 6 * c by omega, ← this]
theorem or7 (x : Nat) (hx : x < 64) : (128 ||| x) = 128 + x := by have := or6 2 x hx; simpa using this
theorem folN0 : (List.range 256).all (fun b => (bits .andNot .u8 (b : Int) 63 == 128) == decide (128 ≤ b ∧ b ≤ 191)) = true := by decide +kernel
theorem folN {b : Nat} (hb : b < 256) : (bits .andNot .u8 (b : Int) 63 == 128) = decide (128 ≤ b ∧ b ≤ 191) := by
  have := List.all_eq_true.1 folN0 b (by simpa using hb)
  simpa using this
theorem lowN (c : Nat) (hc : c < 2147483648) : bits .or .u8 128 (bits .and .i32 (c : Int) 63 % 256) = (((UInt8.ofNat (128 + c % 64)).toNat : Nat) : Int) := by
  rw [show (63 : Int) = ((63 : Nat) : Int) from rfl, i32_and_nat _ _ hc (by omega), low6, show ((c % 64 : Nat) : Int) % 256 = ((c % 64 : Nat) : Int) by omega, show (128 : Int) = ((128 : Nat) : Int) from rfl, u8_or_nat _ _ (by omega) (by omega), or7 _ (by omega), u8n (by omega)]
set_option maxRecDepth 100000 in
set_option maxHeartbeats 4000000 in
theorem mayFollow_any (a : Nat) (v : Value) (hv : LdOk a v) (h2 : 2 ≤ sz a) (k b : Nat) (hb : b < 256) (w : World) : Calls Tryd.prog 30 #[v, .int .i64 (k : Int), .int .u8 (b : Int)] w fun e w' => e = .returned (.bool (fol a k b)) ∧ Below w.heap.size w w' := by
  obtain ⟨f, l, o, h, rfl, hoh⟩ := hv
  obtain ⟨rfl, rfl⟩ := hoh h2
  have HF : Box' (fol a k b = if k = 1 then decide (lo a ≤ b ∧ b ≤ hi a) else decide (128 ≤ b ∧ b ≤ 191)) := ⟨rfl⟩
  generalize fol a k b = F at *
  generalize lo a = L at *
  generalize hi a = H at *
  generalize sz a = z at *
  clear hoh h2
  by_cases hk : k = 1
  · have e := HF.out
    rw [if_pos hk] at e
    subst hk
    clear HF
    by_cases h1 : L ≤ b
    · by_cases h2 : b ≤ H
      · rw [decide_eq_true (show L ≤ b ∧ b ≤ H from ⟨h1, h2⟩)] at e
        subst e
        go_enter Tryd.func30, Tryd.ntmps30
        go_wp2_with fail
        go_ret
        exact ⟨rfl, by first | exact Below.refl _ _ | exact (Below.refl _ _).alloc (Nat.le_refl _) _⟩
      · rw [decide_eq_false (fun h : L ≤ b ∧ b ≤ H => h2 h.2)] at e
        subst e
        go_enter Tryd.func30, Tryd.ntmps30
        go_wp2_with fail
        go_ret
        exact ⟨rfl, by first | exact Below.refl _ _ | exact (Below.refl _ _).alloc (Nat.le_refl _) _⟩
    · rw [decide_eq_false (fun h : L ≤ b ∧ b ≤ H => h1 h.1)] at e
      subst e
      go_enter Tryd.func30, Tryd.ntmps30
      go_wp2_with fail
      go_ret
      exact ⟨rfl, by first | exact Below.refl _ _ | exact (Below.refl _ _).alloc (Nat.le_refl _) _⟩
  · have e := HF.out
    rw [if_neg hk] at e
    have hk' : ¬ ((k : Int) = 1) := by omega
    clear HF
    rw [← folN hb] at e
    go_enter Tryd.func30, Tryd.ntmps30
    go_wp2_with fail
    go_ret
    exact ⟨by rw [e]; rfl, by first | exact Below.refl _ _ | exact (Below.refl _ _).alloc (Nat.le_refl _) _⟩

set_option maxRecDepth 100000 in
set_option maxHeartbeats 4000000 in
theorem lowest_any (c : Nat) (hc : c < 2147483648) (w : World) : Calls Tryd.prog 34 #[.int .i32 (c : Int)] w fun e w' => e = .returned (B (UInt8.ofNat (128 + c % 64))) ∧ w' = w := by
  go_enter Tryd.func34, Tryd.ntmps34
  go_wp2_with fail
  go_ret
  exact ⟨by show Ending.returned (Value.int IntKind.u8 (bits BinOp.or IntKind.u8 128 (bits BinOp.and IntKind.i32 (c : Int) 63 % 256))) = _; rw [lowN c hc]; rfl, rfl⟩
end Go.Proofs.YtfnlnbdlahckeaaDoor
