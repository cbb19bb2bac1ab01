/- The walks of ocb's functions on blocks: split, join, Double, against. -/
import Derived.Test.YthcokaffbgbanaaDoorXa
import Derived.Test.YthcokaffbgbanaaDoorRows
import Derived.BigQuiet
import Derived.Deep.QuietTactic
namespace Go.Proofs.YthcokaffbgbanaaDoor
open Go.RowKit Go.BigFrame

theorem or_byte (h : Nat) (x : UInt8) (hh : h < 72057594037927936) : bits .or .u64 ((h : Int) * 256) (x.toNat : Int) = ((h * 256 + x.toNat : Nat) : Int) := by
  have hx := x.toNat_lt
  have e : ((h : Int) * 256) = ((h * 256 : Nat) : Int) := by simp
  rw [e, u64_or_nat _ _ (by omega) (by omega)]
  congr 1
  have := Nat.shiftLeft_add_eq_or_of_lt (i := 8) (show x.toNat < 2 ^ 8 from hx) h
  rw [Nat.shiftLeft_eq] at this
  exact this.symm

set_option maxHeartbeats 400000 in
theorem split_any (b : List UInt8) (hb : b.length = 16) (w : World) :
    Calls Tryd.prog 74 #[.agg (ag b)] w fun e w' => e = .returned (.tuple #[.int .u64 (Gf.half b 0 : Nat), .int .u64 (Gf.half b 8 : Nat)]) ∧ Below w.heap.size w w' := by
  obtain ⟨H, hH⟩ : ∃ H, Gf.half b 0 = H := ⟨_, rfl⟩
  obtain ⟨L, hL⟩ : ∃ L, Gf.half b 8 = L := ⟨_, rfl⟩
  have HH : Box' (Gf.numTo b 0 8 = H) := ⟨hH⟩
  have HL : Box' (Gf.numTo b 8 8 = L) := ⟨hL⟩
  rw [hH, hL]
  clear hH hL
  go_enter Tryd.func74, Tryd.ntmps74
  go_wp2
  go_loopw [2, 3, 5] (fun h l i wr => ∃ k : Nat, k ≤ 8 ∧ i = .int .i64 k ∧ h = .int .u64 (Gf.numTo b 0 k : Nat) ∧ l = .int .u64 (Gf.numTo b 8 k : Nat) ∧ Row wr w.heap.size 23 (ag b) ∧ Below w.heap.size w wr) (fun _ _ i _ => 8 - (intOf i).toNat)
  case atStart => exact ⟨0, by omega, rfl, rfl, rfl, Row.new _ _ _, (Below.refl _ _).alloc (Nat.le_refl _) _⟩
  case round =>
    obtain ⟨k, hk, rfl, rfl, rfl, h1, hbl⟩ := hrel
    by_cases hlt : k < 8
    · have c1 := h1.byte (k := k) (by omega)
      have c2 := h1.byte (k := k + 8) (by omega)
      have g1 := Gf.numTo_lt7 b 0 k hlt
      have g2 := Gf.numTo_lt7 b 8 k hlt
      have E1 : Box' (Gf.numTo b 0 (k + 1) = Gf.numTo b 0 k * 256 + (b.getD k 0).toNat) := ⟨by rw [Gf.numTo, Nat.zero_add]⟩
      have E2 : Box' (Gf.numTo b 8 (k + 1) = Gf.numTo b 8 k * 256 + (b.getD (k + 8) 0).toNat) := ⟨by rw [Gf.numTo, Nat.add_comm 8 k]⟩
      generalize b.getD k 0 = x at *
      generalize b.getD (k + 8) 0 = y at *
      have hx := x.toNat_lt
      have hy := y.toNat_lt
      generalize hn1 : Gf.numTo b 0 k = n1 at *
      generalize hn2 : Gf.numTo b 8 k = n2 at *
      have o1 := or_byte n1 x g1
      have o2 := or_byte n2 y g2
      clear hn1 hn2
      go_wp2
      go_roundw
      case rel => exact ⟨k + 1, by omega, by go_num, by rw [E1.out]; go_num, by rw [E2.out]; go_num, h1, hbl⟩
      case measure => simp [intOf]; omega
    · have hk' : k = 8 := by omega
      subst hk'
      rw [HH.out, HL.out]
      go_wp2
      go_ret2
      exact ⟨rfl, hbl⟩
set_option maxHeartbeats 400000 in
theorem ocbAgainst_any (a b : List UInt8) (ha : a.length = 16) (hb : b.length = 16) (w : World) :
    Calls Tryd.prog 66 #[.agg (ag a), .agg (ag b)] w fun e w' => e = .returned (.agg (ag (Gf.bxor a b))) ∧ Below w.heap.size w w' := by
  have hF : Gf.fill a (fun i => a.getD i 0 ^^^ b.getD i 0) 16 = Gf.bxor a b := Gf.fill_full _ _ _ ha
  have HF := show Hid _ from hF
  clear hF
  go_enter Tryd.func66, Tryd.ntmps66
  go_wp2
  go_loopw [6] (fun i wr => ∃ k : Nat, k ≤ 16 ∧ i = .int .i64 k ∧ Row wr w.heap.size 23 (ag (Gf.fill a (fun i => a.getD i 0 ^^^ b.getD i 0) k)) ∧ Row wr (w.heap.size + 1) 23 (ag b) ∧ Room wr (w.heap.size + 1 + 1) 23 16 ∧ Below w.heap.size w wr) (fun i _ => 16 - (intOf i).toNat)
  case atStart =>
    refine ⟨0, by omega, rfl, ?_, ?_, ?_, ?_⟩
    · exact ((Row.new _ _ _).alloc _).alloc _
    · simpa using (Row.new (w.alloc (.cells (ag a) 23)) 23 (ag b)).alloc _
    · simpa using Room.new ((w.alloc (.cells (ag a) 23)).alloc (.cells (ag b) 23)) 23 _ 16 rfl
    · exact (((Below.refl _ _).alloc (Nat.le_refl _) _).alloc (by simp) _).alloc (by simp; omega) _
  case round =>
    obtain ⟨k, hk, rfl, h1, h2, h3, hbl⟩ := hrel
    by_cases hlt : k < 16
    · have c1 := h1.byte (k := k) (by rw [Gf.fill_len, ha]; exact hlt)
      have f1 := h1.frozen k
      have c2 := h2.byte (k := k) (by rw [hb]; exact hlt)
      rw [Gf.fill_get _ _ _ _ (Nat.le_refl _)] at c1
      go_wp2
      go_region
      go_wp2
      go_roundw
      case rel =>
        refine ⟨k + 1, by omega, by go_num, ?_, ?_, ?_, ?_⟩
        · have e : Gf.fill a (fun i => a.getD i 0 ^^^ b.getD i 0) (k + 1) = (Gf.fill a (fun i => a.getD i 0 ^^^ b.getD i 0) k).set k (a[k] ^^^ b[k]) := by simp [Gf.fill, ha, hb, hlt]
          rw [e, xor_u8]; exact (h1.setByte k _).drew
        · exact (h2.setOther _ _ (by simp)).drew
        · exact (h3.setOther _ _ (by simp; omega)).drew
        · exact (hbl.setCell (Nat.le_refl _) _).drew
      case measure => simp [intOf]; omega
    · have hk' : k = 16 := by omega
      subst hk'
      rw [HF.out] at h1
      have hl := Gf.bxor_len a b
      go_wp2_with (first
        | (refine wpList_load_row rfl 23 _ rfl _ rfl _ _ h1 _ Tryd.underlying23 rfl 16 Tryd.info23 (by rw [ag_size, hl]) ?_)
        | (refine wpList_store_row rfl 23 _ _ rfl _ rfl _ rfl _ _ h3 Tryd.info23 (by rw [ag_size, hl]) (ag_one _) ?_))
      exact bodyPost_ret (results_row rfl _ _ rfl _ _ (h3.setRow _) _ Tryd.underlying23 rfl 16 Tryd.info23 (by rw [ag_size, hl])) rfl ⟨rfl, below_setRow hbl (by omega) _⟩

theorem shr_byte (h k : Nat) : (h : Int) / 2 ^ k % 256 = (((UInt8.ofNat (h / 2 ^ k)).toNat : Nat) : Int) := by
  have e : ((h : Int) / 2 ^ k) = ((h / 2 ^ k : Nat) : Int) := by simp
  rw [e]
  simp

set_option maxHeartbeats 400000 in
theorem ocbJoin_any (h l : Nat) (w : World) :
    Calls Tryd.prog 75 #[.int .u64 (h : Int), .int .u64 (l : Int)] w fun e w' => e = .returned (.agg (ag (Gf.joinL h l))) ∧ Below w.heap.size w w' := by
  obtain ⟨R, hR⟩ : ∃ R, Gf.joinL h l = R := ⟨_, rfl⟩
  have HR : Box' (Gf.jTo h l 8 = R) := ⟨hR⟩
  have lR : R.length = 16 := by rw [← hR]; exact Gf.joinL_len h l
  rw [hR]
  clear hR
  go_enter Tryd.func75, Tryd.ntmps75
  go_wp2
  go_loopw [7] (fun i wr => ∃ k : Nat, k ≤ 8 ∧ i = .int .i64 k ∧ Room wr w.heap.size 23 16 ∧ Row wr (w.heap.size + 1) 23 (ag (Gf.jTo h l k)) ∧ Below w.heap.size w wr) (fun i _ => 8 - (intOf i).toNat)
  case atStart => exact ⟨0, by omega, rfl, (Room.new _ _ _ _ rfl).alloc _, Row.made _ _ _ _ _ rfl (by simp), ((Below.refl _ _).alloc (Nat.le_refl _) _).alloc (by simp) _⟩
  case round =>
    obtain ⟨k, hk, rfl, h1, h2, hbl⟩ := hrel
    by_cases hlt : k < 8
    · have c1 := h2.byte (k := k) (by rw [Gf.jTo_len]; omega)
      have f1 := h2.frozen k
      have c2 := h2.byte (k := k + 8) (by rw [Gf.jTo_len]; omega)
      have f2 := h2.frozen (k + 8)
      have h4 := (h2.setByte k (UInt8.ofNat (h / 2 ^ (56 - 8 * k)))).setByte (k + 8) (UInt8.ofNat (l / 2 ^ (56 - 8 * k)))
      have E : Box' (Gf.jTo h l (k + 1) = ((Gf.jTo h l k).set k (UInt8.ofNat (h / 2 ^ (56 - 8 * k)))).set (k + 8) (UInt8.ofNat (l / 2 ^ (56 - 8 * k)))) := ⟨rfl⟩
      rw [← shr_byte, ← shr_byte] at h4
      go_wp2
      refine ⟨⟨k + 1, by omega, by go_num, ?_, ?_, ?_⟩, by simp [intOf]; omega⟩
      · exact (h1.setOther _ _ (by simp)).setOther _ _ (by simp)
      · rw [E.out]; exact h4
      · exact (hbl.setCell (by simp) _).setCell (by simp) _
    · have hk' : k = 8 := by omega
      subst hk'
      rw [HR.out] at h2
      go_wp2_with (first
        | (refine wpList_load_row rfl 23 _ rfl _ rfl _ _ h2 _ Tryd.underlying23 rfl 16 Tryd.info23 (by rw [ag_size]; exact lR) ?_)
        | (refine wpList_store_row rfl 23 _ _ rfl _ rfl _ rfl _ _ h1 Tryd.info23 (by rw [ag_size]; exact lR) (ag_one _) ?_))
      exact bodyPost_ret (results_row rfl _ _ rfl _ _ (h1.setRow _) _ Tryd.underlying23 rfl 16 Tryd.info23 (by rw [ag_size]; exact lR)) rfl ⟨rfl, below_setRow hbl (by omega) _⟩

theorem wrap_nat (n : Nat) : IntKind.u64.wrap ((n : Nat) : Int) = ((n % 18446744073709551616 : Nat) : Int) := by
  simp [IntKind.wrap, IntKind.bits, IntKind.signed]
theorem dbl_hi (H L : Nat) (h2 : L < 18446744073709551616) : bits .or .u64 (IntKind.u64.wrap ((H : Int) * 2)) ((L : Int) / 9223372036854775808) = (((H * 2 % 2 ^ 64) ||| (L / 2 ^ 63) : Nat) : Int) := by
  have e1 : (H : Int) * 2 = ((H * 2 : Nat) : Int) := by simp
  have e2 : (L : Int) / 9223372036854775808 = ((L / 9223372036854775808 : Nat) : Int) := by simp
  rw [e1, e2, wrap_nat, u64_or_nat _ _ (Nat.mod_lt _ (by decide)) (by omega)]
theorem dbl_lo (H L : Nat) (h1 : H < 18446744073709551616) : bits .xor .u64 (IntKind.u64.wrap ((L : Int) * 2)) ((H : Int) / 9223372036854775808 * 135) = (((L * 2 % 2 ^ 64) ^^^ (H / 2 ^ 63 * 135) : Nat) : Int) := by
  have e1 : (L : Int) * 2 = ((L * 2 : Nat) : Int) := by simp
  have e2 : (H : Int) / 9223372036854775808 * 135 = ((H / 9223372036854775808 * 135 : Nat) : Int) := by simp
  rw [e1, e2, wrap_nat, u64_xor_nat _ _ (Nat.mod_lt _ (by decide)) (by omega)]
theorem half_lt (b : List UInt8) (o : Nat) : Gf.half b o < 18446744073709551616 := Gf.numTo_lt8 b o
set_option maxHeartbeats 400000 in
theorem ocbDouble_any (b : List UInt8) (hb : b.length = 16) (w : World) :
    Calls Tryd.prog 64 #[.agg (ag b)] w fun e w' => e = .returned (.agg (ag (Gf.dblk b))) ∧ Below w.heap.size w w' := by
  have g1 := half_lt b 0
  have g2 := half_lt b 8
  have hR : Gf.dblk b = Gf.joinL ((Gf.half b 0 * 2 % 2 ^ 64) ||| (Gf.half b 8 / 2 ^ 63)) ((Gf.half b 8 * 2 % 2 ^ 64) ^^^ (Gf.half b 0 / 2 ^ 63 * 135)) := rfl
  have hS := split_any b hb
  generalize Gf.half b 0 = H at *
  generalize Gf.half b 8 = L at *
  generalize Gf.dblk b = R at *
  have HR := Box'.mk hR
  have lR : R.length = 16 := by rw [hR]; exact Gf.joinL_len _ _
  clear hR
  go_enter Tryd.func64, Tryd.ntmps64
  have r1 : Row ((w.alloc (.cells (ag b) 23)).alloc (.cells (ag (Gf.zeros 16)) 23)) w.heap.size 23 (ag b) := (Row.new _ _ _).alloc _
  go_wp2_with (first
    | (refine wpList_load_row rfl 23 _ rfl _ rfl _ _ r1 _ Tryd.underlying23 rfl 16 Tryd.info23 (by rw [ag_size]; exact hb) ?_)
    | fail)
  refine (hS _).mono ?_
  rintro e w1 ⟨rfl, hb1⟩
  have q2 : Room w1 (w.heap.size + 1) 23 16 := Room.below (Room.made _ _ _ _ _ rfl (by simp)) hb1 (by simp)
  have hbl : Below w.heap.size w w1 := (((Below.refl _ _).alloc (Nat.le_refl _) _).alloc (by simp) _).trans (hb1.mono (by simp; omega))
  have hz := q2.elim fun _ h => h.1.lt
  clear hb1 r1
  go_wp2_with fail
  rw [dbl_hi H L g2, dbl_lo H L g1]
  refine (ocbJoin_any _ _ _).mono ?_
  rintro e w2 ⟨rfl, hb2⟩
  rw [← HR.out]
  have q3 := q2.below hb2 hz
  have hbl2 : Below w.heap.size w w2 := hbl.trans (hb2.mono (by omega))
  clear hb2 q2 hbl
  go_wp2_with (refine wpList_store_row rfl 23 _ _ rfl _ rfl _ rfl _ _ q3 Tryd.info23 (by rw [ag_size]; exact lR) (ag_one _) ?_)
  exact bodyPost_ret (results_row rfl _ _ rfl _ _ (q3.setRow _) _ Tryd.underlying23 rfl 16 Tryd.info23 (by rw [ag_size]; exact lR)) rfl ⟨rfl, below_setRow hbl2 (by omega) _⟩
end Go.Proofs.YthcokaffbgbanaaDoor

/- The walks of rankOf and of the noughts at a number's end. -/
namespace Go.Proofs.YthcokaffbgbanaaDoor
open Go.RowKit Go.BigFrame

def Gf.tab64 : List UInt8 := [0, 1, 56, 2, 57, 49, 28, 3, 61, 58, 42, 50, 38, 29, 17, 4, 62, 47, 59, 36, 45, 43, 51, 22, 53, 39, 33, 30, 24, 18, 12, 5, 63, 55, 48, 27, 60, 41, 37, 16, 46, 35, 44, 21, 52, 32, 23, 11, 54, 26, 40, 15, 34, 20, 31, 10, 25, 14, 19, 9, 13, 8, 7, 6]
def Gf.slotOf (i : Nat) : Nat := ((i &&& (18446744073709551616 - i)) * 285870213051353865 % 18446744073709551616) / 288230376151711744
theorem Gf.slotOf_lt (i : Nat) : Gf.slotOf i < 64 := by
  unfold Gf.slotOf
  have := Nat.mod_lt ((i &&& (18446744073709551616 - i)) * 285870213051353865) (show 0 < 18446744073709551616 by decide)
  omega
def Gf.ntz (i : Nat) : Nat := (Gf.tab64.getD (Gf.slotOf i) 0).toNat
/-- The library's table lies in its variable. -/
structure Tab (w : World) : Prop where
  cell : ∀ k, k < 64 → w.cell? ⟨1, k, none⟩ = some (.int .u8 ((Gf.tab64.getD k 0).toNat : Int))
  lt : 1 < w.heap.size

theorem and_neg (i : Nat) (h0 : 0 < i) (h : i < 18446744073709551616) : bits .and .u64 (i : Int) (18446744073709551616 - (i : Int)) = ((i &&& (18446744073709551616 - i) : Nat) : Int) := by
  have e : (18446744073709551616 - (i : Int)) = ((18446744073709551616 - i : Nat) : Int) := by omega
  rw [e, u64_and_nat _ _ h (by omega)]

theorem slot_int (i : Nat) (h0 : 0 < i) (h : i < 18446744073709551616) : IntKind.u64.wrap (bits .and .u64 (i : Int) (IntKind.u64.wrap (-(i : Int))) * 285870213051353865) / 288230376151711744 = (Gf.slotOf i : Int) := by
  have e : IntKind.u64.wrap (-(i : Int)) = 18446744073709551616 - (i : Int) := by
    have : ∀ x : Int, IntKind.u64.wrap x = x % 18446744073709551616 := fun x => by simp [IntKind.wrap, IntKind.bits, IntKind.signed]
    rw [this]
    omega
  rw [e, and_neg i h0 h]
  unfold Gf.slotOf
  generalize i &&& (18446744073709551616 - i) = m
  have e2 : (m : Int) * 285870213051353865 = ((m * 285870213051353865 : Nat) : Int) := by omega
  rw [e2, wrap_nat]
  generalize m * 285870213051353865 % 18446744073709551616 = y
  omega

set_option maxHeartbeats 400000 in
theorem zeros64_aux (i sl z : Nat) (q : Int) (h0 : 0 < i) (h1 : i < 18446744073709551616) (w : World) (hs : sl < 64) (hz : z < 256) (hc : w.cell? ⟨1, sl, none⟩ = some (.int .u8 (z : Int)))
    (hq : IntKind.u64.wrap (bits .and .u64 (i : Int) (IntKind.u64.wrap (-(i : Int))) * 285870213051353865) = q) (ha : q / 288230376151711744 = (sl : Int)) :
    Calls Tryd.prog 92 #[.int .u64 (i : Int)] w fun e w' => e = .returned (.int .i64 (z : Int)) ∧ w' = w := by
  go_enter Tryd.func92, Tryd.ntmps92
  go_wp2
  go_ret
  exact ⟨rfl, rfl⟩
theorem zeros64_any (i : Nat) (h0 : 0 < i) (h1 : i < 18446744073709551616) (w : World) (ht : Tab w) :
    Calls Tryd.prog 92 #[.int .u64 (i : Int)] w fun e w' => e = .returned (.int .i64 (Gf.ntz i : Int)) ∧ w' = w :=
  zeros64_aux i (Gf.slotOf i) (Gf.ntz i) _ h0 h1 w (Gf.slotOf_lt i) (UInt8.toNat_lt _) (ht.cell _ (Gf.slotOf_lt i)) rfl (slot_int i h0 h1)
set_option maxHeartbeats 400000 in
theorem zeros_any (i : Nat) (h0 : 0 < i) (h1 : i < 18446744073709551616) (w : World) (ht : Tab w) :
    Calls Tryd.prog 84 #[.int .u64 (i : Int)] w fun e w' => e = .returned (.int .i64 (Gf.ntz i : Int)) ∧ w' = w := by
  have hC := zeros64_any i h0 h1 w ht
  generalize Gf.ntz i = z at *
  clear ht
  go_enter Tryd.func84, Tryd.ntmps84
  go_wp2_with (go_at_call 92; refine hC.mono ?_; rintro e w' ⟨rfl, rfl⟩)
  go_ret
  exact ⟨rfl, rfl⟩
set_option maxHeartbeats 400000 in
theorem rank_any (i : Nat) (h0 : 0 < i) (h1 : i < 9223372036854775808) (w : World) (ht : Tab w) :
    Calls Tryd.prog 67 #[.int .i64 (i : Int)] w fun e w' => e = .returned (.int .i64 ((2 + Gf.ntz i : Nat) : Int)) ∧ w' = w := by
  have hC := zeros_any i h0 (by omega) w ht
  have hz : Gf.ntz i < 256 := UInt8.toNat_lt _
  generalize Gf.ntz i = z at *
  clear ht
  go_enter Tryd.func67, Tryd.ntmps67
  go_wp2_with (go_at_call 84; refine hC.mono ?_; rintro e w' ⟨rfl, rfl⟩)
  go_ret
  exact ⟨by go_num, rfl⟩
end Go.Proofs.YthcokaffbgbanaaDoor

/- What a key's L's are in memory, and what stays while they are made. -/
namespace Go.Proofs.YthcokaffbgbanaaDoor
open Go.RowKit

/-- The L of a rank. -/
def Gf.ell (l0 : List UInt8) : Nat → List UInt8
  | 0 => l0
  | k + 1 => Gf.dblk (Gf.ell l0 k)
theorem Gf.ell_len (l0 : List UInt8) (h : l0.length = 16) (k : Nat) : (Gf.ell l0 k).length = 16 := by
  cases k
  · exact h
  · exact Gf.dblk_len _
/-- The first so many L's, one behind the other. -/
def Gf.ells (l0 : List UInt8) : Nat → List UInt8
  | 0 => []
  | k + 1 => Gf.ells l0 k ++ Gf.ell l0 k
theorem Gf.ells_len (l0 : List UInt8) (h : l0.length = 16) (k : Nat) : (Gf.ells l0 k).length = k * 16 := by
  induction k with
  | zero => rfl
  | succ k ih => simp only [Gf.ells, List.length_append, ih, Gf.ell_len l0 h]; omega
theorem Gf.ells_at (l0 : List UInt8) (h : l0.length = 16) (n k : Nat) (hk : k < n) : ((Gf.ells l0 n).drop (k * 16)).take 16 = Gf.ell l0 k := by
  induction n with
  | zero => omega
  | succ n ih =>
    simp only [Gf.ells]
    by_cases e : k = n
    · subst e
      rw [List.drop_append, Gf.ells_len l0 h, Nat.sub_self, List.drop_eq_nil_of_le (by rw [Gf.ells_len l0 h]; omega)]
      have := Gf.ell_len l0 h k
      simp [← this]
    · have := Gf.ells_len l0 h n
      rw [List.drop_append_of_le_length (by omega), List.take_append_of_le_length (by rw [List.length_drop]; omega)]
      exact ih (by omega)

/-- The L's of a key, as the closure holds them: the variable, and the row behind it. -/
structure Msk (mb : Nat) (l0 : List UInt8) (w : World) (bb : Nat) : Prop where
  mk' ::
  ex : ∃ n cap, Row w mb 114 #[.slice (some ⟨bb, 0, none⟩) n cap] ∧ 1 ≤ n ∧ n ≤ 300 ∧ w.ownsRow 0 23 16 (.slice (some ⟨bb, 0, none⟩) n cap) n ((Gf.ells l0 n).map B)
  ne : mb ≠ bb
  lt : bb < w.heap.size

theorem Msk.one {mb : Nat} {l0 l1 : List UInt8} {w : World} {bb bb' : Nat} (h : Msk mb l0 w bb) (h' : Msk mb l1 w bb') : bb = bb' := by
  obtain ⟨n, c, h1, _⟩ := h.ex
  obtain ⟨n', c', h1', _⟩ := h'.ex
  unfold Row at h1 h1'
  rw [h1] at h1'
  injection h1' with e
  injection e with e1
  injection e1 with e2
  simp at e2
  exact e2.1
theorem Msk.mlt {mb : Nat} {l0 : List UInt8} {w : World} {bb : Nat} (h : Msk mb l0 w bb) : mb < w.heap.size := by
  obtain ⟨_, _, h1, _⟩ := h.ex
  exact h1.lt
theorem Msk.same {mb : Nat} {l0 : List UInt8} {w w' : World} {bb : Nat} (h : Msk mb l0 w bb) (hs : w.heap.size ≤ w'.heap.size) (h1 : w'.heap[mb]? = w.heap[mb]?) (h2 : w'.heap[bb]? = w.heap[bb]?) : Msk mb l0 w' bb := by
  obtain ⟨n, c, r1, r2, r3, r4⟩ := h.ex
  refine ⟨⟨n, c, ?_, r2, r3, r4.1, ?_⟩, h.ne, by have := h.lt; omega⟩
  · unfold Row at *; rw [h1]; exact r1
  · rcases r4.2 with ⟨e, _⟩ | ⟨g, cap, cur, e1, e2, e3, e4, e5, e6, e7⟩
    · cases e
    · have : g = bb := by injection e1 with e; injection e with e; injection e with e; exact e.symm
      subst this
      exact .inr ⟨g, cap, cur, e1, e2, by rw [h2]; exact e3, e4, e5, e6, e7⟩

/-- What a call that may make L's leaves as it was. -/
structure Gm (mb : Nat) (l0 : List UInt8) (w w' : World) : Prop where
  os : w'.os = w.os
  tape : w'.tape = w.tape
  output : w'.output = w.output
  size : w.heap.size ≤ w'.heap.size
  to : ∀ bb, Msk mb l0 w bb → ∃ bb', Msk mb l0 w' bb' ∧ (bb' = bb ∨ w.heap.size ≤ bb') ∧ ∀ k, k < w.heap.size → k ≠ mb → k ≠ bb → w'.heap[k]? = w.heap[k]?
theorem Gm.refl (mb : Nat) (l0 : List UInt8) (w : World) : Gm mb l0 w w := ⟨rfl, rfl, rfl, Nat.le_refl _, fun bb h => ⟨bb, h, .inl rfl, fun _ _ _ _ => rfl⟩⟩
theorem Gm.trans {mb : Nat} {l0 : List UInt8} {a b c : World} (h : Gm mb l0 a b) (h' : Gm mb l0 b c) : Gm mb l0 a c := by
  refine ⟨h'.os.trans h.os, h'.tape.trans h.tape, h'.output.trans h.output, Nat.le_trans h.size h'.size, fun bb hm => ?_⟩
  obtain ⟨b1, m1, e1, k1⟩ := h.to bb hm
  obtain ⟨b2, m2, e2, k2⟩ := h'.to b1 m1
  have hs := h.size
  refine ⟨b2, m2, ?_, fun k hk hk1 hk2 => ?_⟩
  · rcases e2 with rfl | e2
    · exact e1
    · exact .inr (by omega)
  · rw [k2 k (by omega) hk1 (by rcases e1 with rfl | e1 <;> omega), k1 k hk hk1 hk2]
theorem Gm.of {mb : Nat} {l0 : List UInt8} {w w' : World} (h : Below w.heap.size w w') : Gm mb l0 w w' :=
  ⟨h.os, h.tape, h.output, h.size, fun bb hm => ⟨bb, hm.same h.size (h.block mb hm.mlt) (h.block bb hm.lt), .inl rfl, fun k hk _ _ => h.block k hk⟩⟩
theorem Gm.drew {mb : Nat} {l0 : List UInt8} {a w : World} (h : Gm mb l0 a w) : Gm mb l0 a w.drew := h.trans (Gm.of (Below.refl _ _).drew)

/-- A block that is none of the L's. -/
structure Sf (mb : Nat) (l0 : List UInt8) (w : World) (p : Nat) : Prop where
  lt : p < w.heap.size
  ne : p ≠ mb
  off : ∀ bb, Msk mb l0 w bb → p ≠ bb
  is : ∃ bb, Msk mb l0 w bb
theorem Sf.keep {mb : Nat} {l0 : List UInt8} {w w' : World} {p : Nat} (h : Sf mb l0 w p) (g : Gm mb l0 w w') : Sf mb l0 w' p ∧ w'.heap[p]? = w.heap[p]? := by
  obtain ⟨bb, hm⟩ := h.is
  obtain ⟨b1, m1, e1, k1⟩ := g.to bb hm
  have hs := g.size
  have hl := h.lt
  have ho := h.off bb hm
  refine ⟨⟨by omega, h.ne, fun b2 m2 => ?_, b1, m1⟩, k1 p hl h.ne ho⟩
  rw [← m1.one m2]
  rcases e1 with rfl | e1 <;> omega
theorem Sf.go {mb : Nat} {l0 : List UInt8} {w w' : World} {p : Nat} (h : Sf mb l0 w p) (g : Gm mb l0 w w') : Sf mb l0 w' p := (h.keep g).1
theorem Sf.row {mb : Nat} {l0 : List UInt8} {w w' : World} {p : Nat} (h : Sf mb l0 w p) (g : Gm mb l0 w w') {t : TypeId} {c : Array Value} (hr : Row w p t c) : Row w' p t c := by
  unfold Row at *
  rw [(h.keep g).2]; exact hr
theorem Sf.room {mb : Nat} {l0 : List UInt8} {w w' : World} {p : Nat} (h : Sf mb l0 w p) (g : Gm mb l0 w w') {t : TypeId} {n : Nat} (hr : Room w p t n) : Room w' p t n := let ⟨c, h1, h2⟩ := hr; ⟨c, h.row g h1, h2⟩
theorem Sf.cell {mb : Nat} {l0 : List UInt8} {w w' : World} {p : Nat} (h : Sf mb l0 w p) (g : Gm mb l0 w w') (o : Nat) : w'.cell? ⟨p, o, none⟩ = w.cell? ⟨p, o, none⟩ := by
  have := (h.keep g).2
  simp only [World.cell?, this]
/-- A store into such a block. -/
theorem Gm.setRow {mb : Nat} {l0 : List UInt8} {a w : World} {p : Nat} (g : Gm mb l0 a w) (h : Sf mb l0 w p) (ha : a.heap.size ≤ p) (c : Array Value) : Gm mb l0 a (w.setRow p c) := by
  have hz : (w.setRow p c).heap.size = w.heap.size := by simp [World.setRow]
  refine ⟨g.os, g.tape, g.output, by rw [hz]; exact g.size, fun bb hm => ?_⟩
  obtain ⟨b1, m1, e1, k1⟩ := g.to bb hm
  have hne := h.off b1 m1
  refine ⟨b1, m1.same (by rw [hz]; exact Nat.le_refl _) (setRow_other _ _ _ _ (Ne.symm h.ne)) (setRow_other _ _ _ _ (Ne.symm hne)), e1, fun k hk h1 h2 => ?_⟩
  rw [setRow_other _ _ _ _ (by omega)]
  exact k1 k hk h1 h2
theorem Sf.new {mb : Nat} {l0 : List UInt8} {w : World} {bb : Nat} (hm : Msk mb l0 w bb) (o : Obj) : Sf mb l0 (w.alloc o) w.heap.size := by
  have h1 := hm.mlt
  have h2 := hm.lt
  have m' : Msk mb l0 (w.alloc o) bb := hm.same (by simp) (Below.heap_alloc _ _ _ h1) (Below.heap_alloc _ _ _ h2)
  exact ⟨by simp, by omega, fun b2 m2 => by rw [← m'.one m2]; omega, bb, m'⟩
end Go.Proofs.YthcokaffbgbanaaDoor

/- The walks of the byte functions of package aes: products, doubles, scattered bytes, joined words. -/
namespace Go.Proofs.YthcokaffbgbanaaDoor
open Go.RowKit

theorem dbl_int : ∀ n : Nat, n < 256 → bits .xor .u16 ((n : Int) * 2) ((n : Int) * 2 / 256 * 283) % 256 = ((Gf.dblN n : Nat) : Int) := by decide +kernel
theorem sct_int : ∀ n : Nat, n < 256 → bits .xor .u8 (bits .xor .u16 (bits .xor .u16 (bits .xor .u16 (bits .xor .u16 (bits .or .u16 ((n : Int) * 256) (n : Int)) (bits .or .u16 ((n : Int) * 256) (n : Int) / 16)) (bits .or .u16 ((n : Int) * 256) (n : Int) / 32)) (bits .or .u16 ((n : Int) * 256) (n : Int) / 64)) (bits .or .u16 ((n : Int) * 256) (n : Int) / 128) % 256) 99 = ((Gf.sctN n : Nat) : Int) := by decide +kernel

theorem xor_bx (x y : UInt8) : bits .xor .u8 (x.toNat : Int) (y.toNat : Int) = ((Gf.bx x y).toNat : Int) := xor_u8 x y
theorem ret_int {k : IntKind} {a b : Int} (h : a = b) : Ending.returned (.int k a) = .returned (.int k b) := by rw [h]

set_option maxHeartbeats 400000 in
theorem double_any (b : UInt8) (w : World) :
    Calls Tryd.prog 85 #[.int .u8 (b.toNat : Int)] w fun e w' => e = .returned (.int .u8 ((Gf.dbl b).toNat : Int)) ∧ w' = w := by
  have hb := b.toNat_lt
  go_enter Tryd.func85, Tryd.ntmps85
  go_wp2
  go_ret
  exact ⟨ret_int (by rw [Gf.dbl_toNat]; exact dbl_int _ hb), rfl⟩

set_option maxHeartbeats 400000 in
theorem scatter_any (b : UInt8) (w : World) :
    Calls Tryd.prog 86 #[.int .u8 (b.toNat : Int)] w fun e w' => e = .returned (.int .u8 ((Gf.sct b).toNat : Int)) ∧ w' = w := by
  have hb := b.toNat_lt
  go_enter Tryd.func86, Tryd.ntmps86
  go_wp2
  go_ret
  exact ⟨ret_int (by rw [Gf.sct_toNat]; exact sct_int _ hb), rfl⟩

theorem jn_int (a b c d : Nat) (ha : a < 256) (hb : b < 256) (hc : c < 256) (hd : d < 256) :
    bits .or .u32 (bits .or .u32 (bits .or .u32 ((a : Int) * 16777216) ((b : Int) * 65536)) ((c : Int) * 256)) (d : Int) = ((Gf.jnN a b c d : Nat) : Int) := by
  have e1 : ((a : Int) * 16777216) = ((a * 16777216 : Nat) : Int) := by simp
  have e2 : ((b : Int) * 65536) = ((b * 65536 : Nat) : Int) := by simp
  have e3 : ((c : Int) * 256) = ((c * 256 : Nat) : Int) := by simp
  rw [e1, e2, e3, u32_or_nat _ _ (by omega) (by omega), u32_or_nat _ _ (Nat.or_lt_two_pow (n := 32) (by omega) (by omega)) (by omega),
    u32_or_nat _ _ (Nat.or_lt_two_pow (n := 32) (Nat.or_lt_two_pow (n := 32) (by omega) (by omega)) (by omega)) (by omega)]
  rfl

set_option maxHeartbeats 400000 in
theorem join_any (a b c d : UInt8) (w : World) :
    Calls Tryd.prog 87 #[.int .u8 (a.toNat : Int), .int .u8 (b.toNat : Int), .int .u8 (c.toNat : Int), .int .u8 (d.toNat : Int)] w fun e w' => e = .returned (.int .u32 ((Gf.jn a b c d).toNat : Int)) ∧ w' = w := by
  have ha := a.toNat_lt
  have hb := b.toNat_lt
  have hc := c.toNat_lt
  have hd := d.toNat_lt
  go_enter Tryd.func87, Tryd.ntmps87
  go_wp2
  go_ret
  exact ⟨ret_int (by rw [Gf.jn_toNat]; exact jn_int _ _ _ _ ha hb hc hd), rfl⟩

/-! Products. -/
theorem and1_u8 (n : Nat) (h : n < 256) : bits .and .u8 (n : Int) 1 = ((n % 2 : Nat) : Int) := by
  have := u8_and_nat n 1 h (by decide)
  rw [Nat.and_one_is_mod] at this; exact this
theorem and1_u16 (n : Nat) (h : n < 65536) : bits .and .u16 (n : Int) 1 = ((n % 2 : Nat) : Int) := by
  have := u16_and_nat n 1 h (by decide)
  rw [Nat.and_one_is_mod] at this; exact this
theorem test_u8 (b k : Nat) (hb : b < 256) : (bits .and .u8 ((b : Int) / 2 ^ k) 1 == 1) = b.testBit k := by
  have e : ((b : Int) / 2 ^ k) = ((b / 2 ^ k : Nat) : Int) := by simp
  rw [e, and1_u8 _ (Nat.lt_of_le_of_lt (Nat.div_le_self _ _) hb), Nat.testBit_eq_decide_div_mod_eq]
  rw [Bool.eq_iff_iff]; simp; omega
theorem test_u16 (b k : Nat) (hb : b < 65536) : (bits .and .u16 ((b : Int) / 2 ^ k) 1 == 1) = b.testBit k := by
  have e : ((b : Int) / 2 ^ k) = ((b / 2 ^ k : Nat) : Int) := by simp
  rw [e, and1_u16 _ (Nat.lt_of_le_of_lt (Nat.div_le_self _ _) hb), Nat.testBit_eq_decide_div_mod_eq]
  rw [Bool.eq_iff_iff]; simp; omega
theorem prodN_lt (a b k : Nat) (ha : a < 256) (hk : k ≤ 8) : Gf.prodN a b k < 65536 := by
  induction k with
  | zero => simp [Gf.prodN]
  | succ k ih =>
    have := ih (by omega)
    simp only [Gf.prodN]
    split
    · refine Nat.xor_lt_two_pow (n := 16) this ?_
      rw [Nat.shiftLeft_eq]
      calc a * 2 ^ k < 256 * 2 ^ k := Nat.mul_lt_mul_of_pos_right ha (Nat.two_pow_pos _)
        _ ≤ 256 * 2 ^ 8 := Nat.mul_le_mul_left _ (Nat.pow_le_pow_right (by decide) (by omega))
    · exact this
theorem redN_lt (q j : Nat) (hq : q < 65536) (hj : j ≤ 7) : Gf.redN q j < 65536 := by
  induction j with
  | zero => exact hq
  | succ j ih =>
    have := ih (by omega)
    simp only [Gf.redN]
    split
    · refine Nat.xor_lt_two_pow (n := 16) this ?_
      rw [Nat.shiftLeft_eq]
      calc 283 * 2 ^ (6 - j) ≤ 283 * 2 ^ 6 := Nat.mul_le_mul_left _ (Nat.pow_le_pow_right (by decide) (by omega))
        _ < 2 ^ 16 := by decide
    · exact this
theorem shl_int (a k : Nat) (ha : a < 256) (hk : k < 8) : IntKind.u16.wrap ((a : Int) * 2 ^ k) = ((a <<< k : Nat) : Int) := by
  have h : a * 2 ^ k < 65536 := by
    calc a * 2 ^ k < 256 * 2 ^ k := Nat.mul_lt_mul_of_pos_right ha (Nat.two_pow_pos _)
      _ ≤ 256 * 2 ^ 8 := Nat.mul_le_mul_left _ (Nat.pow_le_pow_right (by decide) (by omega))
  have e : ((a : Int) * 2 ^ k) = ((a * 2 ^ k : Nat) : Int) := by simp
  rw [e, IntKind.wrap_u16, Nat.shiftLeft_eq]
  omega
theorem prod_step1 (a b k : Nat) (ha : a < 256) (hk : k < 8) (h : b.testBit k = true) : bits .xor .u16 ((Gf.prodN a b k : Nat) : Int) (IntKind.u16.wrap ((a : Int) * 2 ^ k)) = ((Gf.prodN a b (k + 1) : Nat) : Int) := by
  rw [shl_int a k ha hk, u16_xor_nat _ _ (prodN_lt _ _ _ ha (by omega))]
  · simp [Gf.prodN, h]
  · rw [Nat.shiftLeft_eq]
    calc a * 2 ^ k < 256 * 2 ^ k := Nat.mul_lt_mul_of_pos_right ha (Nat.two_pow_pos _)
      _ ≤ 256 * 2 ^ 8 := Nat.mul_le_mul_left _ (Nat.pow_le_pow_right (by decide) (by omega))
theorem prod_step0 (a b k : Nat) (h : b.testBit k = false) : Gf.prodN a b k = Gf.prodN a b (k + 1) := by simp [Gf.prodN, h]

theorem mul_int (j : Nat) (hj : j < 7) : IntKind.u16.wrap (283 * 2 ^ (14 - j - 8)) = ((283 <<< (6 - j) : Nat) : Int) := by
  have : j = 0 ∨ j = 1 ∨ j = 2 ∨ j = 3 ∨ j = 4 ∨ j = 5 ∨ j = 6 := by omega
  rcases this with rfl | rfl | rfl | rfl | rfl | rfl | rfl <;> decide +kernel
theorem red_step1 (q j : Nat) (hq : q < 65536) (hj : j < 7) (h : (Gf.redN q j).testBit (14 - j) = true) : bits .xor .u16 ((Gf.redN q j : Nat) : Int) ((283 <<< (6 - j) : Nat) : Int) = ((Gf.redN q (j + 1) : Nat) : Int) := by
  rw [u16_xor_nat _ _ (redN_lt _ _ hq (by omega))]
  · simp [Gf.redN, h]
  · rw [Nat.shiftLeft_eq]
    calc 283 * 2 ^ (6 - j) ≤ 283 * 2 ^ 6 := Nat.mul_le_mul_left _ (Nat.pow_le_pow_right (by decide) (by omega))
      _ < 65536 := by decide
theorem red_step0 (q j : Nat) (h : (Gf.redN q j).testBit (14 - j) = false) : Gf.redN q j = Gf.redN q (j + 1) := by simp [Gf.redN, h]

end Go.Proofs.YthcokaffbgbanaaDoor

/- The walks of substitutes and origins of package aes: the tables. -/
namespace Go.Proofs.YthcokaffbgbanaaDoor
open Go.RowKit Go.BigFrame

theorem Tryd.zero118 : (Tryd.prog.info? 118).map (fun i => (i.zero, i.size)) = some (some (.agg (ag (Gf.zeros 256))), 256) := by kernel_rfl
theorem Tryd.zero131 : (Tryd.prog.info? 131).map (fun i => (i.zero, i.size)) = some (some (.agg (ag (Gf.zeros 255))), 255) := by kernel_rfl
theorem Tryd.info118 : (Tryd.prog.info? 118).map (·.size) = some 256 := by kernel_rfl
theorem Tryd.info131 : (Tryd.prog.info? 131).map (·.size) = some 255 := by kernel_rfl
theorem scatter_zero (w : World) : Calls Tryd.prog 86 #[.int .u8 0] w fun e w' => e = .returned (.int .u8 ((Gf.sct 0).toNat : Int)) ∧ w' = w := scatter_any 0 w

set_option maxRecDepth 100000 in
set_option maxHeartbeats 1000000 in
theorem substitutes_any (w : World) :
    Calls Tryd.prog 68 #[] w fun e w' => e = .returned (.agg (ag Gf.sbox)) ∧ Below w.heap.size w w' := by
  have hx : ∀ x y : UInt8, bits .xor .u8 (x.toNat : Int) (y.toNat : Int) = ((Gf.bx x y).toNat : Int) := xor_bx
  go_enter Tryd.func68, Tryd.ntmps68
  go_wp2_with (first
    | (refine wpList_alloc_row rfl 118 rfl _ _ Tryd.zero118 ?_)
    | (refine wpList_alloc_row rfl 131 rfl _ _ Tryd.zero131 ?_))
  go_loopw [2, 7] (fun p i wr => ∃ k : Nat, k ≤ 255 ∧ i = .int .i64 k ∧ p = .int .u8 ((Gf.pk k).toNat : Int) ∧ Room wr w.heap.size 118 256 ∧ Row wr (w.heap.size + 1) 131 (ag (Gf.fill (Gf.zeros 255) Gf.pk k)) ∧ wr.heap.size = w.heap.size + 2 ∧ Below w.heap.size w wr) (fun _ i _ => 255 - (intOf i).toNat)
  case atStart =>
    refine ⟨0, by omega, rfl, rfl, ?_, ?_, by simp, ?_⟩
    · exact (Room.new _ _ _ _ (by rw [ag_size]; exact List.length_replicate)).alloc _
    · exact Row.made _ _ _ _ _ rfl (by simp)
    · exact ((Below.refl _ _).alloc (Nat.le_refl _) _).alloc (by simp) _
  case round =>
    obtain ⟨k, hk, rfl, rfl, h0, h1, hsz, hbl⟩ := hrel
    by_cases hlt : k < 255
    · have c1 := h1.byte (k := k) (by rw [Gf.fill_len]; exact hlt)
      have f1 := h1.frozen k
      go_wp2_with (go_at_call 85; refine (double_any _ _).mono ?_; rintro e w' ⟨rfl, rfl⟩)
      go_roundw
      case rel =>
        refine ⟨k + 1, by omega, by go_num, rfl, ?_, ?_, by simpa using hsz, ?_⟩
        · exact h0.setOther _ _ (by simp)
        · exact h1.setByte k _
        · exact hbl.setCell (by simp) _
      case measure => simp [intOf]; omega
    · have hk' : k = 255 := by omega
      subst hk'
      rw [Gf.fill_full (Gf.zeros 255) Gf.pk 255 List.length_replicate] at h1
      have hz0 : (ag (Gf.zeros 256))[0]? = some (.int .u8 0) := by kernel_rfl
      have hp : Row wr (w.heap.size + 1) 131 (ag Gf.pows) := h1
      clear h1
      have hpl := Gf.pows_len
      have HP := show Hid _ from hpl
      clear hpl
      go_wp2_with (first
        | (refine wpList_alloc_row rfl 118 rfl _ _ Tryd.zero118 ?_)
        | (go_at_call 86; refine (scatter_zero _).mono ?_; rintro e w' ⟨rfl, rfl⟩)
        | (refine wpList_load_row rfl 131 _ rfl _ rfl _ _ (hp.alloc _) _ Tryd.underlying131 rfl 255 Tryd.info131 (by rw [ag_size]; exact HP.out) ?_))
      go_loopw [21] (fun i wr => ∃ k : Nat, k ≤ 255 ∧ i = .int .i64 k ∧ Room wr w.heap.size 118 256 ∧ Row wr (w.heap.size + 1) 131 (ag Gf.pows) ∧ Row wr (w.heap.size + 2) 118 (ag (Gf.subTo k)) ∧ Below w.heap.size w wr) (fun i _ => 255 - (intOf i).toNat)
      case atStart =>
        refine ⟨0, by omega, rfl, ?_, ?_, ?_, ?_⟩
        · exact h0.alloc _
        · exact hp.alloc _
        · exact Row.made _ _ _ _ _ (ag_set _ _ _) hsz.symm
        · exact hbl.alloc (by omega) _
      case round =>
        clear h0 hsz hp hbl hz0
        obtain ⟨k, hk, rfl, h0, h1, h2, hbl⟩ := hrel
        by_cases hlt : k < 255
        · obtain ⟨x, hxe⟩ : ∃ x, Gf.pows.getD k 0 = x := ⟨_, rfl⟩
          obtain ⟨y, hye⟩ : ∃ y, Gf.pows.getD ((255 - k) % 255) 0 = y := ⟨_, rfl⟩
          have hE : Hid (Gf.subTo (k + 1) = (Gf.subTo k).set x.toNat (Gf.sct y)) := by
            show _ = _
            rw [← hxe, ← hye]; rfl
          have hi : (ag Gf.pows)[k]? = some (.int .u8 (x.toNat : Int)) := by rw [ag_get (by rw [HP.out]; exact hlt), hxe]
          have hix : (Instr.index 131 (.agg (ag Gf.pows)) (.int .i64 (k : Int))).run Tryd.prog wr = .ok (.int .u8 (x.toNat : Int)) wr := run_index_arr wr 131 5 255 _ k _ .i64 .u8 Tryd.underlying131 Tryd.underlying5 (by kernel_rfl) hlt hi
          clear hi
          have c1 := cell_form (h1.byte (k := (255 - k) % 255) (by rw [HP.out]; omega)) hye
          have hxl : x.toNat < 256 := x.toNat_lt
          have c2 := h2.byte (k := x.toNat) (by rw [Gf.subTo_len]; exact hxl)
          have f2 := h2.frozen x.toNat
          obtain ⟨j, hj⟩ : ∃ j, (255 - k) % 255 = j := ⟨_, rfl⟩
          rw [hj] at c1
          have hj2 : ((255 : Int) - (k : Int)) % 255 = (j : Int) := by omega
          have hj3 : j < 255 := by omega
          clear hxe hye hj
          go_wp2_with (go_at_call 86; refine (scatter_any _ _).mono ?_; rintro e w' ⟨rfl, rfl⟩)
          refine ⟨⟨k + 1, by omega, by go_num, h0.setOther _ _ (by simp), h1.setOther _ _ (by simp), ?_, hbl.setCell (by simp) _⟩, by simp [intOf]; omega⟩
          rw [hE.out]; exact h2.setByte _ _
        · have hk' : k = 255 := by omega
          subst hk'
          have hs : Row wr (w.heap.size + 2) 118 (ag Gf.sbox) := h2
          have hsl := Gf.sbox_len
          have HS := show Hid _ from hsl
          clear hsl h2
          go_wp2_with (first
            | (refine wpList_load_row rfl 118 _ rfl _ rfl _ _ hs _ Tryd.underlying118 rfl 256 Tryd.info118 (by rw [ag_size]; exact HS.out) ?_)
            | (refine wpList_store_row rfl 118 _ _ rfl _ rfl _ rfl _ _ h0 Tryd.info118 (by rw [ag_size]; exact HS.out) (ag_one _) ?_))
          exact bodyPost_ret (results_row rfl _ _ rfl _ _ (h0.setRow _) _ Tryd.underlying118 rfl 256 Tryd.info118 (by rw [ag_size]; exact HS.out)) rfl ⟨rfl, below_setRow hbl (by omega) _⟩

set_option maxRecDepth 100000 in
set_option maxHeartbeats 1000000 in
theorem origins_any (t : List UInt8) (ht : t.length = 256) (w : World) (tb : Nat) (tt : TypeId) (htb : Row w tb tt (ag t)) :
    Calls Tryd.prog 82 #[.pointer (some ⟨tb, 0, none⟩)] w fun e w' => e = .returned (.agg (ag (Gf.orig t))) ∧ Below w.heap.size w w' := by
  have hlt0 := htb.lt
  go_enter Tryd.func82, Tryd.ntmps82
  go_wp2_with (refine wpList_alloc_row rfl 118 rfl _ _ Tryd.zero118 ?_)
  go_loopw [7] (fun i wr => ∃ k : Nat, k ≤ 256 ∧ i = .int .i64 k ∧ Room wr w.heap.size 118 256 ∧ Row wr (w.heap.size + 1) 118 (ag (Gf.origTo t k)) ∧ Below w.heap.size w wr) (fun i _ => 256 - (intOf i).toNat)
  case atStart =>
    refine ⟨0, by omega, rfl, ?_, ?_, ?_⟩
    · exact (Room.new _ _ _ _ (by rw [ag_size]; exact List.length_replicate)).alloc _
    · exact Row.made _ _ _ _ _ rfl (by simp)
    · exact ((Below.refl _ _).alloc (Nat.le_refl _) _).alloc (by simp) _
  case round =>
    obtain ⟨k, hk, rfl, h0, h1, hbl⟩ := hrel
    by_cases hlt : k < 256
    · have c0 := (htb.below hbl hlt0).byte (k := k) (by rw [ht]; exact hlt)
      have hE : Hid (Gf.origTo t (k + 1) = (Gf.origTo t k).set (t.getD k 0).toNat (UInt8.ofNat k)) := rfl
      generalize t.getD k 0 = x at *
      have hxl : x.toNat < 256 := x.toNat_lt
      have c1 := h1.byte (k := x.toNat) (by rw [Gf.origTo_len]; exact hxl)
      have f1 := h1.frozen x.toNat
      have hu : Hid ((UInt8.ofNat k).toNat = k) := UInt8.toNat_ofNat_of_lt' hlt
      go_wp2
      go_quiet (fail)
      go_wp2
      refine ⟨⟨k + 1, by omega, by go_num, (h0.drewN nq).setOther _ _ (by simp), ?_, (Below.drewN hbl nq).setCell (by simp) _⟩, by simp [intOf]; omega⟩
      have := (h1.drewN nq).setByte x.toNat (UInt8.ofNat k)
      rw [hu.out] at this
      rw [hE.out]; exact this
    · have hk' : k = 256 := by omega
      subst hk'
      have hs : Row wr (w.heap.size + 1) 118 (ag (Gf.orig t)) := h1
      have HS : Hid ((Gf.orig t).length = 256) := Gf.origTo_len t 256
      clear h1
      go_wp2_with (first
        | (refine wpList_load_row rfl 118 _ rfl _ rfl _ _ hs _ Tryd.underlying118 rfl 256 Tryd.info118 (by rw [ag_size]; exact HS.out) ?_)
        | (refine wpList_store_row rfl 118 _ _ rfl _ rfl _ rfl _ _ h0 Tryd.info118 (by rw [ag_size]; exact HS.out) (ag_one _) ?_))
      exact bodyPost_ret (results_row rfl _ _ rfl _ _ (h0.setRow _) _ Tryd.underlying118 rfl 256 Tryd.info118 (by rw [ag_size]; exact HS.out)) rfl ⟨rfl, below_setRow hbl (by omega) _⟩

end Go.Proofs.YthcokaffbgbanaaDoor

/- The walk of expand of package aes: the round keys. -/
namespace Go.Proofs.YthcokaffbgbanaaDoor
open Go.RowKit Go.BigFrame

theorem Tryd.zero106 : (Tryd.prog.info? 106).map (fun i => (i.zero, i.size)) = some (some (.agg (ag (Gf.zeros 176))), 176) := by kernel_rfl
theorem Tryd.zero134 : (Tryd.prog.info? 134).map (fun i => (i.zero, i.size)) = some (some (.agg (ag32 (Gf.zeros32 44))), 44) := by kernel_rfl
theorem Tryd.info106 : (Tryd.prog.info? 106).map (·.size) = some 176 := by kernel_rfl
theorem Tryd.info134 : (Tryd.prog.info? 134).map (·.size) = some 44 := by kernel_rfl

theorem xor_bx32 (x y : UInt32) : bits .xor .u32 (x.toNat : Int) (y.toNat : Int) = ((Gf.bx32 x y).toNat : Int) := xor_u32 x y

set_option maxRecDepth 100000 in
set_option maxHeartbeats 2000000 in
theorem expand_any (key t : List UInt8) (hkey : key.length = 16) (ht : t.length = 256) (w : World) (tb : Nat) (tt : TypeId) (htb : Row w tb tt (ag t)) :
    Calls Tryd.prog 69 #[.agg (ag key), .pointer (some ⟨tb, 0, none⟩)] w fun e w' => e = .returned (.agg (ag (Gf.keys t key))) ∧ Below w.heap.size w w' := by
  have hlt0 := htb.lt
  go_enter Tryd.func69, Tryd.ntmps69
  go_wp2_with (first
    | (refine wpList_alloc_row rfl 106 rfl _ _ Tryd.zero106 ?_)
    | (refine wpList_alloc_row rfl 134 rfl _ _ Tryd.zero134 ?_))
  go_loopw [6, 13] (fun p i wr => ∃ (k : Nat) (l : List UInt32) (q : UInt8), k ≤ 44 ∧ Hid (l = (Gf.wTo t key k).1) ∧ Hid (q = (Gf.wTo t key k).2) ∧ l.length = 44 ∧ i = .int .i64 k ∧ p = .int .u8 (q.toNat : Int) ∧ Row wr w.heap.size 23 (ag key) ∧ Room wr (w.heap.size + 1) 106 176 ∧ Row wr (w.heap.size + 1 + 1) 134 (ag32 l) ∧ wr.heap.size = w.heap.size + 1 + 1 + 1 ∧ Below w.heap.size w wr) (fun _ i _ => 44 - (intOf i).toNat)
  case atStart =>
    refine ⟨0, Gf.zeros32 44, 1, by omega, rfl, rfl, List.length_replicate, rfl, rfl, ?_, ?_, ?_, by simp, ?_⟩
    · exact ((Row.new _ _ _).alloc _).alloc _
    · exact (Room.made _ _ _ _ _ (by rw [ag_size]; exact List.length_replicate) (by simp)).alloc _
    · exact Row.made _ _ _ _ _ rfl (by simp)
    · exact (((Below.refl _ _).alloc (Nat.le_refl _) _).alloc (by simp) _).alloc (by simp; omega) _
  case round =>
    obtain ⟨k, l, q, hk, hL, hQ, hl, rfl, rfl, h0, h1, h2, hsz, hbl⟩ := hrel
    by_cases hlt : k < 44
    · have c2 := h2.word (k := k) (by omega)
      have f2 := h2.frozen k
      by_cases h4 : k < 4
      · have d0 := h0.byte (k := 4 * k) (by omega)
        have d1 := h0.byte (k := 4 * k + 1) (by omega)
        have d2 := h0.byte (k := 4 * k + 2) (by omega)
        have d3 := h0.byte (k := 4 * k + 3) (by omega)
        have hE : Hid ((Gf.wTo t key (k + 1)).1 = l.set k (Gf.jn (key.getD (4 * k) 0) (key.getD (4 * k + 1) 0) (key.getD (4 * k + 2) 0) (key.getD (4 * k + 3) 0)) ∧ (Gf.wTo t key (k + 1)).2 = q) := by
          have e1 := hL.out
          have e2 := hQ.out
          show _ ∧ _
          rw [e1, e2]
          simp [Gf.wTo, h4, Gf.wordAt]
        generalize key.getD (4 * k) 0 = x0 at *
        generalize key.getD (4 * k + 1) 0 = x1 at *
        generalize key.getD (4 * k + 2) 0 = x2 at *
        generalize key.getD (4 * k + 3) 0 = x3 at *
        obtain ⟨m, hm⟩ : ∃ m, m = 4 * k := ⟨_, rfl⟩
        have hm' : (4 : Int) * (k : Int) = (m : Int) := by omega
        rw [← hm] at d0 d1 d2 d3
        have hm12 : m ≤ 12 := by omega
        clear hm
        go_wp2
        refine wp_region_tail 21 (by kernel_rfl) (by kernel_rfl) ?_
        simp only [List.take_succ_cons, List.take_zero, List.drop_succ_cons, List.drop_zero]
        repeat (first | go_big_quiet_step (fail) | (go_big_quiet_want; go_big_quiet_op; refine ⟨_, join_any _ _ _ _ _, ?_⟩; go_big_quiet_on))
        refine wpQuiet_nil ?_
        go_wp2
        go_roundw
        case rel =>
          refine ⟨k + 1, _, _, by omega, hE.out.1.symm, hE.out.2.symm, by simp [hl], by go_num, rfl, ?_, ?_, ?_, by simpa using hsz, ?_⟩
          · exact (h0.setOther _ _ (by simp; omega)).drew
          · exact (h1.setOther _ _ (by simp)).drew
          · exact (h2.setWord k _).drew
          · exact (hbl.setCell (by simp; omega) _).drew
        case measure => simp [intOf]; omega
      · have c3 := h2.word (k := k - 1) (by omega)
        have c4 := h2.word (k := k - 4) (by omega)
        have hrow := htb.below hbl hlt0
        by_cases hm4 : k % 4 = 0
        · have hE : Hid ((Gf.wTo t key (k + 1)).1 = l.set k (Gf.bx32 (l.getD (k - 4) 0) (Gf.turned t (l.getD (k - 1) 0) q)) ∧ (Gf.wTo t key (k + 1)).2 = Gf.dbl q) := by
            have e1 := hL.out
            have e2 := hQ.out
            show _ ∧ _
            rw [e1, e2]
            simp [Gf.wTo, h4, hm4]
          generalize l.getD (k - 1) 0 = x at *
          generalize l.getD (k - 4) 0 = y at *
          have hx : ∀ x y : UInt8, bits .xor .u8 (x.toNat : Int) (y.toNat : Int) = ((Gf.bx x y).toNat : Int) := xor_bx
          have hx32 : ∀ x y : UInt32, bits .xor .u32 (x.toNat : Int) (y.toNat : Int) = ((Gf.bx32 x y).toNat : Int) := xor_bx32
          have t16 := hrow.byte (k := (Gf.byt x 65536).toNat) (by rw [ht]; exact UInt8.toNat_lt _)
          have t8 := hrow.byte (k := (Gf.byt x 256).toNat) (by rw [ht]; exact UInt8.toNat_lt _)
          have t0 := hrow.byte (k := (Gf.byt x 1).toNat) (by rw [ht]; exact UInt8.toNat_lt _)
          have t24 := hrow.byte (k := (Gf.byt x 16777216).toNat) (by rw [ht]; exact UInt8.toNat_lt _)
          have b16 : (Gf.byt x 65536).toNat < 256 := UInt8.toNat_lt _
          have b8 : (Gf.byt x 256).toNat < 256 := UInt8.toNat_lt _
          have b0 : (Gf.byt x 1).toNat < 256 := UInt8.toNat_lt _
          have b24 : (Gf.byt x 16777216).toNat < 256 := UInt8.toNat_lt _
          have hxl : x.toNat < 4294967296 := x.toNat_lt
          have r16 : (x.toNat : Int) / 65536 % 256 = ((Gf.byt x 65536).toNat : Int) := by rw [Gf.byt_toNat]; omega
          have r8 : (x.toNat : Int) / 256 % 256 = ((Gf.byt x 256).toNat : Int) := by rw [Gf.byt_toNat]; omega
          have r0 : (x.toNat : Int) % 256 = ((Gf.byt x 1).toNat : Int) := by rw [Gf.byt_toNat]; omega
          have r24 : (x.toNat : Int) / 16777216 = ((Gf.byt x 16777216).toNat : Int) := by rw [Gf.byt_toNat]; omega
          change Hid ((Gf.wTo t key (k + 1)).1 = l.set k (Gf.bx32 y (Gf.jn (Gf.bx (t.getD (Gf.byt x 65536).toNat 0) q) (t.getD (Gf.byt x 256).toNat 0) (t.getD (Gf.byt x 1).toNat 0) (t.getD (Gf.byt x 16777216).toNat 0))) ∧ (Gf.wTo t key (k + 1)).2 = Gf.dbl q) at hE
          generalize t.getD (Gf.byt x 65536).toNat 0 = z0 at *
          generalize t.getD (Gf.byt x 256).toNat 0 = z1 at *
          generalize t.getD (Gf.byt x 1).toNat 0 = z2 at *
          generalize t.getD (Gf.byt x 16777216).toNat 0 = z3 at *
          generalize (Gf.byt x 65536).toNat = i0 at *
          generalize (Gf.byt x 256).toNat = i1 at *
          generalize (Gf.byt x 1).toNat = i2 at *
          generalize (Gf.byt x 16777216).toNat = i3 at *
          obtain ⟨k1, hk1⟩ : ∃ k1, k1 = k - 1 := ⟨_, rfl⟩
          obtain ⟨k4, hk4⟩ : ∃ k4, k4 = k - 4 := ⟨_, rfl⟩
          have hk1' : (k : Int) - 1 = (k1 : Int) := by omega
          have hk4' : (k : Int) - 4 = (k4 : Int) := by omega
          have hmi : (k : Int) % 4 = 0 := by omega
          have hb1 : k1 < 44 := by omega
          have hb4 : k4 < 44 := by omega
          rw [← hk1] at c3
          rw [← hk4] at c4
          clear hk1 hk4 hm4
          go_wp2
          go_quiet ((go_at_call 87; exact Calls.quiet_of_same (join_any _ _ _ _ _)))
          go_wp2_with (go_at_call 85; refine (double_any _ _).mono ?_; rintro e w' ⟨rfl, rfl⟩)
          go_roundw
          case rel =>
            refine ⟨k + 1, _, _, by omega, hE.out.1.symm, hE.out.2.symm, by simp [hl], by go_num, rfl, ?_, ?_, ?_, by simpa using hsz, ?_⟩
            · exact (h0.drewN nq).setOther _ _ (by simp; omega)
            · exact (h1.drewN nq).setOther _ _ (by simp)
            · exact (h2.drewN nq).setWord k _
            · exact (Below.drewN hbl nq).setCell (by simp; omega) _
          case measure => simp [intOf]; omega
        · have hE : Hid ((Gf.wTo t key (k + 1)).1 = l.set k (Gf.bx32 (l.getD (k - 4) 0) (l.getD (k - 1) 0)) ∧ (Gf.wTo t key (k + 1)).2 = q) := by
            have e1 := hL.out
            have e2 := hQ.out
            show _ ∧ _
            rw [e1, e2]
            simp [Gf.wTo, h4, hm4]
          generalize l.getD (k - 1) 0 = x at *
          generalize l.getD (k - 4) 0 = y at *
          have hx32 : ∀ x y : UInt32, bits .xor .u32 (x.toNat : Int) (y.toNat : Int) = ((Gf.bx32 x y).toNat : Int) := xor_bx32
          obtain ⟨k1, hk1⟩ : ∃ k1, k1 = k - 1 := ⟨_, rfl⟩
          obtain ⟨k4, hk4⟩ : ∃ k4, k4 = k - 4 := ⟨_, rfl⟩
          have hk1' : (k : Int) - 1 = (k1 : Int) := by omega
          have hk4' : (k : Int) - 4 = (k4 : Int) := by omega
          have hmi : ((k : Int) % 4 == 0) = false := by rw [beq_eq_false_iff_ne]; omega
          have hb1 : k1 < 44 := by omega
          have hb4 : k4 < 44 := by omega
          rw [← hk1] at c3
          rw [← hk4] at c4
          clear hk1 hk4 hm4
          go_wp2
          go_roundw
          case rel =>
            refine ⟨k + 1, _, _, by omega, hE.out.1.symm, hE.out.2.symm, by simp [hl], by go_num, rfl, ?_, ?_, ?_, by simpa using hsz, ?_⟩
            · exact h0.setOther _ _ (by simp; omega)
            · exact h1.setOther _ _ (by simp)
            · exact h2.setWord k _
            · exact hbl.setCell (by simp; omega) _
          case measure => simp [intOf]; omega
    · have HK : Hid (k = 44) := by show _ = _; omega
      clear hQ
      go_wp2_with (first
        | (refine wpList_alloc_row rfl 106 rfl _ _ Tryd.zero106 ?_)
        | (refine wpList_load_row rfl 134 _ rfl _ rfl _ _ (h2.alloc _) _ Tryd.underlying134 rfl 44 Tryd.info134 (by rw [ag32_size]; exact hl) ?_))
      go_loopw [89] (fun i wr => ∃ k : Nat, k ≤ 44 ∧ i = .int .i64 k ∧ Room wr (w.heap.size + 1) 106 176 ∧ Row wr (w.heap.size + 1 + 1 + 1) 106 (ag (Gf.fill (Gf.zeros 176) (Gf.keyByte l) (4 * k))) ∧ Below w.heap.size w wr) (fun i _ => 44 - (intOf i).toNat)
      case atStart =>
        refine ⟨0, by omega, rfl, ?_, ?_, ?_⟩
        · exact h1.alloc _
        · exact Row.made _ _ _ _ _ rfl hsz.symm
        · exact hbl.alloc (by omega) _
      case round =>
        clear h0 h1 h2 hsz hbl hlt
        obtain ⟨k, hk, rfl, h1, h2, hbl⟩ := hrel
        by_cases hlt : k < 44
        · obtain ⟨x, hxe⟩ : ∃ x, l.getD k 0 = x := ⟨_, rfl⟩
          have hix : (Instr.index 134 (.agg (ag32 l)) (.int .i64 (k : Int))).run Tryd.prog wr = .ok (.int .u32 (x.toNat : Int)) wr := run_index_arr wr 134 133 44 _ k _ .i64 .u32 Tryd.underlying134 Tryd.underlying133 (by kernel_rfl) hlt (by rw [ag32_get (by omega), hxe])
          have HX := show Hid _ from hxe
          clear hxe
          have hxl : x.toNat < 4294967296 := x.toNat_lt
          go_wp2
          go_loopw [93] (fun i wr => ∃ n : Nat, n ≤ 4 ∧ i = .int .i64 n ∧ Room wr (w.heap.size + 1) 106 176 ∧ Row wr (w.heap.size + 1 + 1 + 1) 106 (ag (Gf.fill (Gf.zeros 176) (Gf.keyByte l) (4 * k + n))) ∧ Below w.heap.size w wr) (fun i _ => 4 - (intOf i).toNat)
          case atStart => exact ⟨0, by omega, rfl, h1, h2, hbl⟩
          case round =>
            clear h1 h2 hbl
            obtain ⟨n, hn, rfl, h1, h2, hbl⟩ := hrel
            by_cases hn4 : n < 4
            · obtain ⟨q4, hq4⟩ : ∃ q4, k / 4 = q4 := ⟨_, rfl⟩
              obtain ⟨m4, hm4⟩ : ∃ m4, k % 4 = m4 := ⟨_, rfl⟩
              have i1 : (k : Int) / 4 = (q4 : Int) := by omega
              have i2 : (k : Int) % 4 = (m4 : Int) := by omega
              have i3 : q4 < 11 := by omega
              have i4 : m4 < 4 := by omega
              have ho : Hid (q4 * 16 + (m4 * 4 + n) = 4 * k + n) := by show _ = _; omega
              have c2 := h2.byte (k := q4 * 16 + (m4 * 4 + n)) (by rw [Gf.fill_len]; show _ < (Gf.zeros 176).length; rw [show (Gf.zeros 176).length = 176 from List.length_replicate]; omega)
              have f2 := h2.frozen (q4 * 16 + (m4 * 4 + n))
              clear hq4 hm4
              go_wp2
              refine wp_region_tail 14 (by kernel_rfl) (by kernel_rfl) ?_
              simp only [List.take_succ_cons, List.take_zero, List.drop_succ_cons, List.drop_zero]
              repeat (go_big_quiet_step (fail))
              refine wpQuiet_nil ?_
              go_wp2
              refine ⟨⟨n + 1, by omega, by go_num, ?_, ?_, ?_⟩, by simp [intOf]; omega⟩
              · exact (h1.setOther _ _ (by simp)).drew
              · have hv : ((x.toNat : Int) / 2 ^ (24 - 8 * n) % 256) = (((Gf.keyByte l (4 * k + n)).toNat : Nat) : Int) := by
                  have e1 : (4 * k + n) / 4 = k := by omega
                  have e2 : (4 * k + n) % 4 = n := by omega
                  unfold Gf.keyByte
                  rw [Gf.byt_toNat, e1, e2, HX.out]; simp
                rw [hv, ho.out]
                exact (h2.setByte (4 * k + n) _).drew
              · exact (hbl.setCell (by simp; omega) _).drew
            · have hn' : n = 4 := by omega
              subst hn'
              go_wp2
              go_roundw
              case rel => exact ⟨k + 1, by omega, by go_num, h1, h2, hbl⟩
              case measure => simp [intOf]; omega
        · have hk' : k = 44 := by omega
          subst hk'
          have hs : Row wr (w.heap.size + 1 + 1 + 1) 106 (ag (Gf.keys t key)) := by
            have hl' : l = Gf.words t key := by
              have := hL.out
              rw [HK.out] at this; exact this
            have hF := Gf.fill_full (Gf.zeros 176) (Gf.keyByte l) 176 List.length_replicate
            have hG : (List.range 176).map (Gf.keyByte l) = Gf.keys t key := by rw [hl']; rfl
            rw [hG] at hF
            rw [← hF]; exact h2
          clear h2
          go_wp2_with (first
            | (refine wpList_load_row rfl 106 _ rfl _ rfl _ _ hs _ Tryd.underlying106 rfl 176 Tryd.info106 (by rw [ag_size]; exact Gf.keys_len t key) ?_)
            | (refine wpList_store_row rfl 106 _ _ rfl _ rfl _ rfl _ _ h1 Tryd.info106 (by rw [ag_size]; exact Gf.keys_len t key) (ag_one _) ?_))
          exact bodyPost_ret (results_row rfl _ _ rfl _ _ (h1.setRow _) _ Tryd.underlying106 rfl 176 Tryd.info106 (by rw [ag_size]; exact Gf.keys_len t key)) rfl ⟨rfl, below_setRow hbl (by omega) _⟩
end Go.Proofs.YthcokaffbgbanaaDoor

/- The walks of mix and unmix of package aes. -/
namespace Go.Proofs.YthcokaffbgbanaaDoor
open Go.RowKit Go.BigFrame


set_option maxHeartbeats 1000000 in
set_option maxRecDepth 100000 in
theorem mix_any (b : List UInt8) (hb : b.length = 16) (w : World) :
    Calls Tryd.prog 73 #[.agg (ag b)] w fun e w' => e = .returned (.agg (ag (Gf.mixL b))) ∧ Below w.heap.size w w' := by
  go_enter Tryd.func73, Tryd.ntmps73
  go_wp2
  go_loopw [3] (fun i wr => ∃ (m k : Nat) (l : List UInt8), m ≤ 16 ∧ Hid (m = 4 * k) ∧ Hid (l = Gf.mixTo b k) ∧ l.length = 16 ∧ i = .int .i64 (m : Int) ∧ Row wr w.heap.size 23 (ag l) ∧ Room wr (w.heap.size + 1) 23 16 ∧ Below w.heap.size w wr) (fun i _ => 16 - (intOf i).toNat)
  case atStart =>
    refine ⟨0, 0, b, by omega, rfl, rfl, hb, rfl, ?_, ?_, ?_⟩
    · exact (Row.new _ _ _).alloc _
    · exact Room.made _ _ _ _ _ rfl (by simp)
    · exact ((Below.refl _ _).alloc (Nat.le_refl _) _).alloc (by simp) _
  case round =>
    obtain ⟨m, k, l, hm, hm4, hlk, hl, rfl, h1, h2, hbl⟩ := hrel
    by_cases hlt : m < 16
    · have hlt : m ≤ 12 := by have := hm4.out; omega
      have c0 := h1.byte (k := m) (by omega)
      have c1 := h1.byte (k := m + 1) (by omega)
      have c2 := h1.byte (k := m + 2) (by omega)
      have c3 := h1.byte (k := m + 3) (by omega)
      have f0 := h1.frozen m
      have f1 := h1.frozen (m + 1)
      have f2 := h1.frozen (m + 2)
      have f3 := h1.frozen (m + 3)
      have hE : Hid (Gf.mixTo b (k + 1) = Gf.mcol l m (l.getD m 0) (l.getD (m + 1) 0) (l.getD (m + 2) 0) (l.getD (m + 3) 0)) := by
        have e1 := hlk.out
        have e2 := hm4.out
        show _ = _
        rw [e1, e2]; rfl
      generalize l.getD m 0 = x0 at *
      generalize l.getD (m + 1) 0 = x1 at *
      generalize l.getD (m + 2) 0 = x2 at *
      generalize l.getD (m + 3) 0 = x3 at *
      have hx : ∀ x y : UInt8, bits .xor .u8 (x.toNat : Int) (y.toNat : Int) = ((Gf.bx x y).toNat : Int) := xor_bx
      go_wp2
      go_quiet (fail)
      go_wp2
      refine wp_region_tail 15 (by kernel_rfl) (by kernel_rfl) ?_
      simp only [List.take_succ_cons, List.take_zero, List.drop_succ_cons, List.drop_zero]
      repeat (first | go_big_quiet_step (fail) | (go_big_quiet_want; go_big_quiet_op; refine ⟨_, double_any _ _, ?_⟩; go_big_quiet_on))
      refine wpQuiet_nil ?_
      go_wp2
      refine wp_region_tail 17 (by kernel_rfl) (by kernel_rfl) ?_
      simp only [List.take_succ_cons, List.take_zero, List.drop_succ_cons, List.drop_zero]
      repeat (first | go_big_quiet_step (fail) | (go_big_quiet_want; go_big_quiet_op; refine ⟨_, double_any _ _, ?_⟩; go_big_quiet_on))
      refine wpQuiet_nil ?_
      go_wp2
      refine wp_region_tail 17 (by kernel_rfl) (by kernel_rfl) ?_
      simp only [List.take_succ_cons, List.take_zero, List.drop_succ_cons, List.drop_zero]
      repeat (first | go_big_quiet_step (fail) | (go_big_quiet_want; go_big_quiet_op; refine ⟨_, double_any _ _, ?_⟩; go_big_quiet_on))
      refine wpQuiet_nil ?_
      go_wp2
      refine wp_region_tail 14 (by kernel_rfl) (by kernel_rfl) ?_
      simp only [List.take_succ_cons, List.take_zero, List.drop_succ_cons, List.drop_zero]
      repeat (first | go_big_quiet_step (fail) | (go_big_quiet_want; go_big_quiet_op; refine ⟨_, double_any _ _, ?_⟩; go_big_quiet_on))
      refine wpQuiet_nil ?_
      go_wp2
      refine ⟨⟨m + 4, k + 1, Gf.mixTo b (k + 1), by omega, ?_, rfl, ?_, by go_num, ?_, ?_, ?_⟩, by simp [intOf]; omega⟩
      · have := hm4.out; show _ = _; omega
      · rw [Gf.mixTo_len]; exact hb
      · rw [hE.out]; exact ((((h1.drewN (nq + 1)).setByte m _).setByte (m + 1) _).setByte (m + 2) _).setByte (m + 3) _
      · exact ((((h2.drewN (nq + 1)).setOther _ _ (by simp)).setOther _ _ (by simp)).setOther _ _ (by simp)).setOther _ _ (by simp)
      · exact (((((Below.drewN hbl (nq + 1)).setCell (Nat.le_refl _) _).setCell (Nat.le_refl _) _).setCell (Nat.le_refl _) _).setCell (Nat.le_refl _) _).drew.drew.drew
    · have hk' : k = 4 := by have := hm4.out; omega
      subst hk'
      have hl' : l = Gf.mixL b := hlk.out
      clear hlk
      subst hl'
      go_wp2_with (first
        | (refine wpList_load_row rfl 23 _ rfl _ rfl _ _ h1 _ Tryd.underlying23 rfl 16 Tryd.info23 (by rw [ag_size, hl]) ?_)
        | (refine wpList_store_row rfl 23 _ _ rfl _ rfl _ rfl _ _ h2 Tryd.info23 (by rw [ag_size, hl]) (ag_one _) ?_))
      exact bodyPost_ret (results_row rfl _ _ rfl _ _ (h2.setRow _) _ Tryd.underlying23 rfl 16 Tryd.info23 (by rw [ag_size, hl])) rfl ⟨rfl, below_setRow hbl (by omega) _⟩

end Go.Proofs.YthcokaffbgbanaaDoor

/- The walks of turnRows of package aes, at one place and at three. -/
namespace Go.Proofs.YthcokaffbgbanaaDoor
open Go.RowKit

set_option maxHeartbeats 400000 in
theorem turn1_any (b : List UInt8) (hb : b.length = 16) (w : World) :
    Calls Tryd.prog 71 #[.agg (ag b), .int .i64 1] w fun e w' => e = .returned (.agg (ag (Gf.turn b 1))) ∧ Below w.heap.size w w' := by
  have hF : Gf.fill (Gf.zeros 16) (fun i => b.getD ((i + 4 * (i % 4) * 1) % 16) 0) 16 = Gf.turn b 1 := Gf.fill_full _ _ _ rfl
  have HF := show Hid _ from hF
  clear hF
  go_enter Tryd.func71, Tryd.ntmps71
  go_wp2
  go_loopw [8] (fun i wr => ∃ k : Nat, k ≤ 16 ∧ i = .int .i64 k ∧ Row wr w.heap.size 23 (ag b) ∧ Room wr (w.heap.size + 1) 23 16 ∧ Row wr (w.heap.size + 1 + 1) 23 (ag (Gf.fill (Gf.zeros 16) (fun i => b.getD ((i + 4 * (i % 4) * 1) % 16) 0) k)) ∧ Below w.heap.size w wr) (fun i _ => 16 - (intOf i).toNat)
  case atStart =>
    refine ⟨0, by omega, rfl, ?_, ?_, ?_, ?_⟩
    · exact ((Row.new _ _ _).alloc _).alloc _
    · simpa using (Room.new (w.alloc (.cells (ag b) 23)) 23 _ 16 rfl).alloc _
    · exact Row.made _ _ _ _ _ rfl (by simp)
    · exact (((Below.refl _ _).alloc (Nat.le_refl _) _).alloc (by simp) _).alloc (by simp; omega) _
  case round =>
    obtain ⟨k, hk, rfl, h1, h2, h3, hbl⟩ := hrel
    by_cases hlt : k < 16
    · have c3 := h3.byte (k := k) (by rw [Gf.fill_len]; exact hlt)
      have f3 := h3.frozen k
      obtain ⟨y, hy⟩ : ∃ y, b.getD ((k + 4 * (k % 4)) % 16) 0 = y := ⟨_, rfl⟩
      have c1 := cell_form (h1.byte (k := (k + 4 * (k % 4)) % 16) (by rw [hb]; omega)) hy
      have e : Gf.fill (Gf.zeros 16) (fun i => b.getD ((i + 4 * (i % 4) * 1) % 16) 0) (k + 1) = (Gf.fill (Gf.zeros 16) (fun i => b.getD ((i + 4 * (i % 4) * 1) % 16) 0) k).set k y := by rw [← hy]; simp only [Gf.fill, Nat.mul_one]
      have HE := show Hid _ from e
      clear hy e
      go_wp2
      go_roundw
      case rel =>
        refine ⟨k + 1, by omega, by go_num, ?_, ?_, ?_, ?_⟩
        · exact h1.setOther _ _ (by simp; omega)
        · exact h2.setOther _ _ (by simp)
        · rw [HE.out]; exact h3.setByte k _
        · exact hbl.setCell (by simp; omega) _
      case measure => simp [intOf]; omega
    · have hk' : k = 16 := by omega
      subst hk'
      rw [HF.out] at h3
      have hl := Gf.turn_len b 1
      go_wp2_with (first
        | (refine wpList_load_row rfl 23 _ rfl _ rfl _ _ h3 _ Tryd.underlying23 rfl 16 Tryd.info23 (by rw [ag_size, hl]) ?_)
        | (refine wpList_store_row rfl 23 _ _ rfl _ rfl _ rfl _ _ h2 Tryd.info23 (by rw [ag_size, hl]) (ag_one _) ?_))
      exact bodyPost_ret (results_row rfl _ _ rfl _ _ (h2.setRow _) _ Tryd.underlying23 rfl 16 Tryd.info23 (by rw [ag_size, hl])) rfl ⟨rfl, below_setRow hbl (by omega) _⟩
set_option maxHeartbeats 400000 in
theorem turn3_any (b : List UInt8) (hb : b.length = 16) (w : World) :
    Calls Tryd.prog 71 #[.agg (ag b), .int .i64 3] w fun e w' => e = .returned (.agg (ag (Gf.turn b 3))) ∧ Below w.heap.size w w' := by
  have hF : Gf.fill (Gf.zeros 16) (fun i => b.getD ((i + 4 * (i % 4) * 3) % 16) 0) 16 = Gf.turn b 3 := Gf.fill_full _ _ _ rfl
  have HF := show Hid _ from hF
  clear hF
  go_enter Tryd.func71, Tryd.ntmps71
  go_wp2
  go_loopw [8] (fun i wr => ∃ k : Nat, k ≤ 16 ∧ i = .int .i64 k ∧ Row wr w.heap.size 23 (ag b) ∧ Room wr (w.heap.size + 1) 23 16 ∧ Row wr (w.heap.size + 1 + 1) 23 (ag (Gf.fill (Gf.zeros 16) (fun i => b.getD ((i + 4 * (i % 4) * 3) % 16) 0) k)) ∧ Below w.heap.size w wr) (fun i _ => 16 - (intOf i).toNat)
  case atStart =>
    refine ⟨0, by omega, rfl, ?_, ?_, ?_, ?_⟩
    · exact ((Row.new _ _ _).alloc _).alloc _
    · simpa using (Room.new (w.alloc (.cells (ag b) 23)) 23 _ 16 rfl).alloc _
    · exact Row.made _ _ _ _ _ rfl (by simp)
    · exact (((Below.refl _ _).alloc (Nat.le_refl _) _).alloc (by simp) _).alloc (by simp; omega) _
  case round =>
    obtain ⟨k, hk, rfl, h1, h2, h3, hbl⟩ := hrel
    by_cases hlt : k < 16
    · have c3 := h3.byte (k := k) (by rw [Gf.fill_len]; exact hlt)
      have f3 := h3.frozen k
      obtain ⟨y, hy⟩ : ∃ y, b.getD ((k + 4 * (k % 4) * 3) % 16) 0 = y := ⟨_, rfl⟩
      have c1 := cell_form (h1.byte (k := (k + 4 * (k % 4) * 3) % 16) (by rw [hb]; omega)) hy
      have e : Gf.fill (Gf.zeros 16) (fun i => b.getD ((i + 4 * (i % 4) * 3) % 16) 0) (k + 1) = (Gf.fill (Gf.zeros 16) (fun i => b.getD ((i + 4 * (i % 4) * 3) % 16) 0) k).set k y := by rw [← hy]; simp only [Gf.fill]
      have HE := show Hid _ from e
      clear hy e
      go_wp2
      go_roundw
      case rel =>
        refine ⟨k + 1, by omega, by go_num, ?_, ?_, ?_, ?_⟩
        · exact h1.setOther _ _ (by simp; omega)
        · exact h2.setOther _ _ (by simp)
        · rw [HE.out]; exact h3.setByte k _
        · exact hbl.setCell (by simp; omega) _
      case measure => simp [intOf]; omega
    · have hk' : k = 16 := by omega
      subst hk'
      rw [HF.out] at h3
      have hl := Gf.turn_len b 3
      go_wp2_with (first
        | (refine wpList_load_row rfl 23 _ rfl _ rfl _ _ h3 _ Tryd.underlying23 rfl 16 Tryd.info23 (by rw [ag_size, hl]) ?_)
        | (refine wpList_store_row rfl 23 _ _ rfl _ rfl _ rfl _ _ h2 Tryd.info23 (by rw [ag_size, hl]) (ag_one _) ?_))
      exact bodyPost_ret (results_row rfl _ _ rfl _ _ (h2.setRow _) _ Tryd.underlying23 rfl 16 Tryd.info23 (by rw [ag_size, hl])) rfl ⟨rfl, below_setRow hbl (by omega) _⟩
end Go.Proofs.YthcokaffbgbanaaDoor

/- The walk of Encrypt of package aes. -/
namespace Go.Proofs.YthcokaffbgbanaaDoor
open Go.RowKit Go.BigFrame

/-- What stands while a block goes through its rounds: the block's own variable, the result's, the table, the round keys. -/
structure Env (N sb kb : Nat) (T KK : List UInt8) (w0 w : World) : Prop where
  blk : Room w (N + 1) 23 16
  res : Room w (N + 1 + 1) 23 16
  tab : Row w sb 118 (ag T)
  kys : Row w kb 106 (ag KK)
  bel : Below N w0 w
theorem Env.below {N sb kb : Nat} {T KK : List UInt8} {w0 w w' : World} (h : Env N sb kb T KK w0 w) (hb : Below w.heap.size w w') : Env N sb kb T KK w0 w' :=
  have hN : N + 1 < w.heap.size := h.blk.elim fun _ h => h.1.lt
  ⟨h.blk.below hb hN, h.res.below hb (h.res.elim fun _ h => h.1.lt), h.tab.below hb h.tab.lt, h.kys.below hb h.kys.lt, h.bel.trans (hb.mono (by omega))⟩
theorem Env.store {N sb kb : Nat} {T KK : List UInt8} {w0 w : World} (h : Env N sb kb T KK w0 w) (h1 : N + 1 + 1 < sb) (h2 : sb < kb) (s : List UInt8) (hs : s.length = 16) : Env N sb kb T KK w0 (w.setRow (N + 1) (ag s)) :=
  ⟨(h.blk.setRow _).room (by rw [ag_size]; exact hs), h.res.setRowOther _ _ (by omega), h.tab.setRowOther _ _ (by omega), h.kys.setRowOther _ _ (by omega), below_setRow h.bel (by omega) _⟩
theorem Env.drew {N sb kb : Nat} {T KK : List UInt8} {w0 w : World} (h : Env N sb kb T KK w0 w) : Env N sb kb T KK w0 w.drew := ⟨h.blk, h.res, h.tab, h.kys, h.bel.drew⟩

set_option maxRecDepth 100000 in
set_option maxHeartbeats 2000000 in
theorem encrypt_any (key b : List UInt8) (hkey : key.length = 16) (hb : b.length = 16) (w : World) :
    Calls Tryd.prog 48 #[.agg (ag key), .agg (ag b)] w fun e w' => e = .returned (.agg (ag (Gf.encrypt key b))) ∧ Below w.heap.size w w' := by
  go_enter Tryd.func48, Tryd.ntmps48
  go_wp2_with fail
  refine (substitutes_any _).mono ?_
  rintro e w1 ⟨rfl, hb1⟩
  have r1 : Row w1 w.heap.size 23 (ag key) := Row.below (((Row.new _ _ _).alloc _).alloc _) hb1 (by simp; omega)
  have r2 : Row w1 (w.heap.size + 1) 23 (ag b) := Row.below ((Row.made _ _ _ _ _ rfl (by simp)).alloc _) hb1 (by simp)
  have r3 : Room w1 (w.heap.size + 1 + 1) 23 16 := Room.below (Room.made _ _ _ _ _ rfl (by simp)) hb1 (by simp)
  have hbl : Below w.heap.size w w1 := ((((Below.refl _ _).alloc (Nat.le_refl _) _).alloc (by simp) _).alloc (by simp; omega) _).trans (hb1.mono (by simp; omega))
  have hz1 : w.heap.size + 1 + 1 < w1.heap.size := r3.elim fun _ h => h.1.lt
  clear hb1
  have HS : Hid (Gf.sbox.length = 256) := Gf.sbox_len
  have HR : Hid (Gf.encrypt key b = Gf.encTo Gf.sbox (Gf.keys Gf.sbox key) b 10) := rfl
  generalize Gf.sbox = T at *
  go_wp2_with (first
    | (refine wpList_alloc_row rfl 118 rfl _ _ Tryd.zero118 ?_)
    | (refine wpList_store_row rfl 118 _ _ rfl _ rfl _ rfl _ _ (Room.new _ _ _ _ (by rw [ag_size]; exact List.length_replicate)) Tryd.info118 (by rw [ag_size]; exact HS.out) (ag_one _) ?_; rw [World.setRow_alloc_new])
    | (refine wpList_load_row rfl 23 _ rfl _ rfl _ _ (r1.alloc _) _ Tryd.underlying23 rfl 16 Tryd.info23 (by rw [ag_size]; exact hkey) ?_)
    | fail)
  refine (expand_any key T hkey HS.out _ _ _ (Row.new _ _ _)).mono ?_
  rintro e w2 ⟨rfl, hb2⟩
  have q2 : Row w2 (w.heap.size + 1) 23 (ag b) := (r2.alloc _).below hb2 (by simp; omega)
  have q3 : Room w2 (w.heap.size + 1 + 1) 23 16 := (r3.alloc _).below hb2 (by simp; omega)
  have q4 : Row w2 w1.heap.size 118 (ag T) := (Row.new _ _ _).below hb2 (by simp)
  have hbl2 : Below w.heap.size w w2 := (hbl.alloc (by omega) _).trans (hb2.mono (by simp; omega))
  clear r1 r2 r3 hbl hb2
  generalize w1.heap.size = sb at *
  have hz2 : sb < w2.heap.size := q4.lt
  have HK : Hid ((Gf.keys T key).length = 176) := Gf.keys_len T key
  generalize Gf.keys T key = KK at *
  go_wp2_with (first
    | (refine wpList_alloc_row rfl 106 rfl _ _ Tryd.zero106 ?_)
    | (refine wpList_store_row rfl 106 _ _ rfl _ rfl _ rfl _ _ (Room.new _ _ _ _ (by rw [ag_size]; exact List.length_replicate)) Tryd.info106 (by rw [ag_size]; exact HK.out) (ag_one _) ?_; rw [World.setRow_alloc_new])
    | (refine wpList_load_row rfl 23 _ rfl _ rfl _ _ (q2.alloc _) _ Tryd.underlying23 rfl 16 Tryd.info23 (by rw [ag_size]; exact hb) ?_)
    | (refine wpList_load_part rfl 23 _ rfl _ _ rfl _ _ (Row.new _ _ _) _ Tryd.underlying23 rfl 16 Tryd.info23 (by rw [HK.out]; omega) ?_)
    | fail)
  refine (against_any b (List.take 16 KK) hb (by rw [List.length_take, HK.out]; rfl) _).mono ?_
  rintro e w3 ⟨rfl, hb3⟩
  have p2 : Room w3 (w.heap.size + 1) 23 16 := ((q2.alloc _).below hb3 (by simp; omega)).room (by rw [ag_size]; exact hb)
  have p3 : Room w3 (w.heap.size + 1 + 1) 23 16 := (q3.alloc _).below hb3 (by simp; omega)
  have p4 : Row w3 sb 118 (ag T) := (q4.alloc _).below hb3 (by simp; omega)
  have p5 : Row w3 w2.heap.size 106 (ag KK) := (Row.new _ _ _).below hb3 (by simp)
  have hbl3 : Below w.heap.size w w3 := (hbl2.alloc (by omega) _).trans (hb3.mono (by simp; omega))
  clear q2 q3 q4 hbl2 hb3
  generalize w2.heap.size = kb at *
  have H0 : Hid (Gf.bxor b (List.take 16 KK) = Gf.encTo T KK b 0) := rfl
  have HL : Hid ((Gf.bxor b (List.take 16 KK)).length = 16) := Gf.bxor_len _ _
  generalize Gf.bxor b (List.take 16 KK) = s0 at *
  go_wp2_with (refine wpList_store_row rfl 23 _ _ rfl _ rfl _ rfl _ _ p2 Tryd.info23 (by rw [ag_size]; exact HL.out) (ag_one _) ?_)
  go_loopw [7] (fun i wr => ∃ (j : Nat) (s : List UInt8), j ≤ 10 ∧ Hid (s = Gf.encTo T KK b j) ∧ s.length = 16 ∧ i = .int .i64 ((j : Int) + 1) ∧ Row wr (w.heap.size + 1) 23 (ag s) ∧ Env w.heap.size sb kb T KK w wr) (fun i _ => 11 - (intOf i).toNat)
  case atStart =>
    exact ⟨0, s0, by omega, H0, HL.out, rfl, p2.setRow _, Env.store ⟨p2, p3, p4, p5, hbl3⟩ hz1 hz2 _ HL.out⟩
  case round =>
    clear p2 p3 p4 p5 hbl3 H0 HL
    obtain ⟨j, s, hj, hs, hl, rfl, h2, hv⟩ := hrel
    by_cases hlt : j < 10
    · by_cases h9 : j < 9
      · have hE : Hid (Gf.encTo T KK b (j + 1) = Gf.bxor (Gf.mixL (Gf.turn (Gf.subst T s) 1)) (Gf.rk KK (j + 1))) := by
          have e := hs.out
          show _ = _
          have h9' : j + 1 < 10 := by omega
          rw [e]; simp only [Gf.encTo, h9', if_true]
        go_wp2_with (first
          | (refine wpList_load_row rfl 23 _ rfl _ rfl _ _ h2 _ Tryd.underlying23 rfl 16 Tryd.info23 (by rw [ag_size]; exact hl) ?_)
          | fail)
        refine (replace_any s T hl HS.out _ _ _ hv.tab).mono ?_
        rintro e w4 ⟨rfl, hb4⟩
        have hv4 := hv.below hb4
        clear hb4 hv h2
        go_wp2_with fail
        refine (turn1_any (Gf.subst T s) (Gf.subst_len _ _) _).mono ?_
        rintro e w5 ⟨rfl, hb5⟩
        have hv5 := hv4.below hb5
        clear hb5 hv4
        have hv6 := hv5.store hz1 hz2 (Gf.turn (Gf.subst T s) 1) (Gf.turn_len _ _)
        have h6 := hv5.blk.setRow (ag (Gf.turn (Gf.subst T s) 1))
        have l6 := Gf.turn_len (Gf.subst T s) 1
        generalize Gf.turn (Gf.subst T s) 1 = s1 at *
        go_wp2_with (first
          | (refine wpList_store_row rfl 23 _ _ rfl _ rfl _ rfl _ _ hv5.blk Tryd.info23 (by rw [ag_size]; exact l6) (ag_one _) ?_)
          | (refine wpList_load_row rfl 23 _ rfl _ rfl _ _ h6 _ Tryd.underlying23 rfl 16 Tryd.info23 (by rw [ag_size]; exact l6) ?_)
          | fail)
        clear h6 hv5
        refine (mix_any s1 l6 _).mono ?_
        rintro e w7 ⟨rfl, hb7⟩
        have hv7 := hv6.below hb7
        have l8 : (Gf.mixL s1).length = 16 := by rw [Gf.mixL_len]; exact l6
        have hv8 := hv7.store hz1 hz2 (Gf.mixL s1) l8
        have h8 := hv7.blk.setRow (ag (Gf.mixL s1))
        clear hb7 hv6
        generalize Gf.mixL s1 = s2 at *
        go_wp2_with (refine wpList_store_row rfl 23 _ _ rfl _ rfl _ rfl _ _ hv7.blk Tryd.info23 (by rw [ag_size]; exact l8) (ag_one _) ?_)
        refine wp_region_tail 4 (by kernel_rfl) (by kernel_rfl) ?_
        simp only [List.take_succ_cons, List.take_zero, List.drop_succ_cons, List.drop_zero, Act.put]
        go_big_quiet_want
        refine quiet_load_row 23 _ rfl _ rfl _ _ (fun w' hw' => by rw [hw']; exact h8) _ Tryd.underlying23 rfl 16 Tryd.info23 (by rw [ag_size]; exact l8) ?_
        go_big_quiet_on
        simp only [Act.put, List.setIfInBounds_toArray, List.set_cons_succ, List.set_cons_zero]
        repeat (go_big_quiet_step (fail))
        go_big_quiet_want
        refine quiet_load_part 23 _ rfl _ _ rfl _ _ (fun w' hw' => by rw [hw']; exact hv8.kys) _ Tryd.underlying23 rfl 16 Tryd.info23 (by rw [HK.out]; omega) ?_
        go_big_quiet_on
        simp only [Act.put, List.setIfInBounds_toArray, List.set_cons_succ, List.set_cons_zero]
        refine wpQuiet_nil ?_
        go_wp2_with fail
        refine (against_any s2 (Gf.rk KK (j + 1)) l8 (Gf.rk_len _ _ HK.out (by omega)) _).mono ?_
        rintro e w9 ⟨rfl, hb9⟩
        have hv9 := hv8.drew.below hb9
        have l9 := Gf.bxor_len s2 (Gf.rk KK (j + 1))
        have hv10 := hv9.store hz1 hz2 (Gf.bxor s2 (Gf.rk KK (j + 1))) l9
        have h10 := hv9.blk.setRow (ag (Gf.bxor s2 (Gf.rk KK (j + 1))))
        clear hb9 hv8
        generalize Gf.bxor s2 (Gf.rk KK (j + 1)) = s3 at *
        go_wp2_with (refine wpList_store_row rfl 23 _ _ rfl _ rfl _ rfl _ _ hv9.blk Tryd.info23 (by rw [ag_size]; exact l9) (ag_one _) ?_)
        go_roundw
        case rel => exact ⟨j + 1, s3, by omega, hE.out.symm, l9, by go_num, h10, hv10⟩
        case measure => simp [intOf]; omega
      · have hE : Hid (Gf.encTo T KK b (j + 1) = Gf.bxor (Gf.turn (Gf.subst T s) 1) (Gf.rk KK (j + 1))) := by
          have e := hs.out
          show _ = _
          have h9' : ¬ j + 1 < 10 := by omega
          rw [e]; simp only [Gf.encTo, h9', if_false]
        go_wp2_with (first
          | (refine wpList_load_row rfl 23 _ rfl _ rfl _ _ h2 _ Tryd.underlying23 rfl 16 Tryd.info23 (by rw [ag_size]; exact hl) ?_)
          | fail)
        refine (replace_any s T hl HS.out _ _ _ hv.tab).mono ?_
        rintro e w4 ⟨rfl, hb4⟩
        have hv4 := hv.below hb4
        clear hb4 hv h2
        go_wp2_with fail
        refine (turn1_any (Gf.subst T s) (Gf.subst_len _ _) _).mono ?_
        rintro e w5 ⟨rfl, hb5⟩
        have hv5 := hv4.below hb5
        clear hb5 hv4
        have hv8 := hv5.store hz1 hz2 (Gf.turn (Gf.subst T s) 1) (Gf.turn_len _ _)
        have h8 := hv5.blk.setRow (ag (Gf.turn (Gf.subst T s) 1))
        have l8 := Gf.turn_len (Gf.subst T s) 1
        generalize Gf.turn (Gf.subst T s) 1 = s2 at *
        go_wp2_with (first
          | (refine wpList_store_row rfl 23 _ _ rfl _ rfl _ rfl _ _ hv5.blk Tryd.info23 (by rw [ag_size]; exact l8) (ag_one _) ?_)
          | fail)
        refine wp_region_tail 4 (by kernel_rfl) (by kernel_rfl) ?_
        simp only [List.take_succ_cons, List.take_zero, List.drop_succ_cons, List.drop_zero]
        go_big_quiet_want
        refine quiet_load_row 23 _ rfl _ rfl _ _ (fun w' hw' => by rw [hw']; exact h8) _ Tryd.underlying23 rfl 16 Tryd.info23 (by rw [ag_size]; exact l8) ?_
        go_big_quiet_on
        simp only [Act.put, List.setIfInBounds_toArray, List.set_cons_succ, List.set_cons_zero]
        repeat (go_big_quiet_step (fail))
        go_big_quiet_want
        refine quiet_load_part 23 _ rfl _ _ rfl _ _ (fun w' hw' => by rw [hw']; exact hv8.kys) _ Tryd.underlying23 rfl 16 Tryd.info23 (by rw [HK.out]; omega) ?_
        go_big_quiet_on
        simp only [Act.put, List.setIfInBounds_toArray, List.set_cons_succ, List.set_cons_zero]
        refine wpQuiet_nil ?_
        go_wp2_with fail
        refine (against_any s2 (Gf.rk KK (j + 1)) l8 (Gf.rk_len _ _ HK.out (by omega)) _).mono ?_
        rintro e w9 ⟨rfl, hb9⟩
        have hv9 := hv8.drew.below hb9
        have l9 := Gf.bxor_len s2 (Gf.rk KK (j + 1))
        have hv10 := hv9.store hz1 hz2 (Gf.bxor s2 (Gf.rk KK (j + 1))) l9
        have h10 := hv9.blk.setRow (ag (Gf.bxor s2 (Gf.rk KK (j + 1))))
        clear hb9 hv8
        generalize Gf.bxor s2 (Gf.rk KK (j + 1)) = s3 at *
        go_wp2_with (refine wpList_store_row rfl 23 _ _ rfl _ rfl _ rfl _ _ hv9.blk Tryd.info23 (by rw [ag_size]; exact l9) (ag_one _) ?_)
        go_roundw
        case rel => exact ⟨j + 1, s3, by omega, hE.out.symm, l9, by go_num, h10, hv10⟩
        case measure => simp [intOf]; omega
    · have hj10 : j = 10 := by omega
      have hR : s = Gf.encrypt key b := by rw [HR.out, hs.out, hj10]
      clear hs hj10
      subst hR
      go_wp2_with (first
        | (refine wpList_load_row rfl 23 _ rfl _ rfl _ _ h2 _ Tryd.underlying23 rfl 16 Tryd.info23 (by rw [ag_size]; exact hl) ?_)
        | (refine wpList_store_row rfl 23 _ _ rfl _ rfl _ rfl _ _ hv.res Tryd.info23 (by rw [ag_size]; exact hl) (ag_one _) ?_))
      exact bodyPost_ret (results_row rfl _ _ rfl _ _ (hv.res.setRow _) _ Tryd.underlying23 rfl 16 Tryd.info23 (by rw [ag_size]; exact hl)) rfl ⟨rfl, below_setRow hv.bel (by omega) _⟩
end Go.Proofs.YthcokaffbgbanaaDoor
