/- The walks of rankOf and of the noughts at a number's end. -/
import Derived.Test.YtmolhljgmaoflaaDoorOa
namespace Go.Proofs.YtmolhljgmaoflaaDoor
open Go.RowKit Go.BigFrame

def Gf.tab64 : List UInt8 := [0, 1, 56, 2, 57, 49, 28, 3, 61, 58, 42, 50, 38, 29, 17, 4, 62, 47, 59, 36, 45, 43, 51, 22, 53, 39, 33, 30, 24, 18, 12, 5, 63, 55, 48, 27, 60, 41, 37, 16, 46, 35, 44, 21, 52, 32, 23, 11, 54, 26, 40, 15, 34, 20, 31, 10, 25, 14, 19, 9, 13, 8, 7, 6]
def Gf.slotOf (i : Nat) : Nat := ((i &&& (18446744073709551616 - i)) * 285870213051353865 % 18446744073709551616) / 288230376151711744
theorem Gf.slotOf_lt (i : Nat) : Gf.slotOf i < 64 := by
  unfold Gf.slotOf
  have := Nat.mod_lt ((i &&& (18446744073709551616 - i)) * 285870213051353865) (show 0 < 18446744073709551616 by decide)
  omega
def Gf.ntz (i : Nat) : Nat := (Gf.tab64.getD (Gf.slotOf i) 0).toNat
/-- The library's table lies in its variable. -/
structure Tab (w : World) : Prop where
  cell : ∀ k, k < 64 → w.cell? ⟨1, k, none⟩ = some (.int .u8 ((Gf.tab64.getD k 0).toNat : Int))
  lt : 1 < w.heap.size

theorem and_neg (i : Nat) (h0 : 0 < i) (h : i < 18446744073709551616) : bits .and .u64 (i : Int) (18446744073709551616 - (i : Int)) = ((i &&& (18446744073709551616 - i) : Nat) : Int) := by
  have e : (18446744073709551616 - (i : Int)) = ((18446744073709551616 - i : Nat) : Int) := by omega
  rw [e, u64_and_nat _ _ h (by omega)]

theorem slot_int (i : Nat) (h0 : 0 < i) (h : i < 18446744073709551616) : IntKind.u64.wrap (bits .and .u64 (i : Int) (IntKind.u64.wrap (-(i : Int))) * 285870213051353865) / 288230376151711744 = (Gf.slotOf i : Int) := by
  have e : IntKind.u64.wrap (-(i : Int)) = 18446744073709551616 - (i : Int) := by
    have : ∀ x : Int, IntKind.u64.wrap x = x % 18446744073709551616 := fun x => by simp [IntKind.wrap, IntKind.bits, IntKind.signed]
    rw [this]
    omega
  rw [e, and_neg i h0 h]
  unfold Gf.slotOf
  generalize i &&& (18446744073709551616 - i) = m
  have e2 : (m : Int) * 285870213051353865 = ((m * 285870213051353865 : Nat) : Int) := by omega
  rw [e2, wrap_nat]
  generalize m * 285870213051353865 % 18446744073709551616 = y
  omega

set_option maxHeartbeats 400000 in
theorem zeros64_aux (i sl z : Nat) (q : Int) (h0 : 0 < i) (h1 : i < 18446744073709551616) (w : World) (hs : sl < 64) (hz : z < 256) (hc : w.cell? ⟨1, sl, none⟩ = some (.int .u8 (z : Int)))
    (hq : IntKind.u64.wrap (bits .and .u64 (i : Int) (IntKind.u64.wrap (-(i : Int))) * 285870213051353865) = q) (ha : q / 288230376151711744 = (sl : Int)) :
    Calls Tryd.prog 63 #[.int .u64 (i : Int)] w fun e w' => e = .returned (.int .i64 (z : Int)) ∧ w' = w := by
  go_enter Tryd.func63, Tryd.ntmps63
  go_wp2
  go_ret
  exact ⟨rfl, rfl⟩
theorem zeros64_any (i : Nat) (h0 : 0 < i) (h1 : i < 18446744073709551616) (w : World) (ht : Tab w) :
    Calls Tryd.prog 63 #[.int .u64 (i : Int)] w fun e w' => e = .returned (.int .i64 (Gf.ntz i : Int)) ∧ w' = w :=
  zeros64_aux i (Gf.slotOf i) (Gf.ntz i) _ h0 h1 w (Gf.slotOf_lt i) (UInt8.toNat_lt _) (ht.cell _ (Gf.slotOf_lt i)) rfl (slot_int i h0 h1)
set_option maxHeartbeats 400000 in
theorem zeros_any (i : Nat) (h0 : 0 < i) (h1 : i < 18446744073709551616) (w : World) (ht : Tab w) :
    Calls Tryd.prog 55 #[.int .u64 (i : Int)] w fun e w' => e = .returned (.int .i64 (Gf.ntz i : Int)) ∧ w' = w := by
  have hC := zeros64_any i h0 h1 w ht
  generalize Gf.ntz i = z at *
  clear ht
  go_enter Tryd.func55, Tryd.ntmps55
  go_wp2_with (go_at_call 63; refine hC.mono ?_; rintro e w' ⟨rfl, rfl⟩)
  go_ret
  exact ⟨rfl, rfl⟩
set_option maxHeartbeats 400000 in
theorem rank_any (i : Nat) (h0 : 0 < i) (h1 : i < 9223372036854775808) (w : World) (ht : Tab w) :
    Calls Tryd.prog 41 #[.int .i64 (i : Int)] w fun e w' => e = .returned (.int .i64 ((2 + Gf.ntz i : Nat) : Int)) ∧ w' = w := by
  have hC := zeros_any i h0 (by omega) w ht
  have hz : Gf.ntz i < 256 := UInt8.toNat_lt _
  generalize Gf.ntz i = z at *
  clear ht
  go_enter Tryd.func41, Tryd.ntmps41
  go_wp2_with (go_at_call 55; refine hC.mono ?_; rintro e w' ⟨rfl, rfl⟩)
  go_ret
  exact ⟨by go_num, rfl⟩
end Go.Proofs.YtmolhljgmaoflaaDoor
