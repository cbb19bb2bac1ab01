/- The walks of ocb's functions on blocks: split, join, Double, against. -/
import Derived.Test.YtmolhljgmaoflaaDoorC
import Derived.Test.YtmolhljgmaoflaaDoorG
import Derived.Test.YtmolhljgmaoflaaDoorGw
import Derived.Test.YtmolhljgmaoflaaDoorOm
namespace Go.Proofs.YtmolhljgmaoflaaDoor
open Go.RowKit Go.BigFrame

theorem or_byte (h : Nat) (x : UInt8) (hh : h < 72057594037927936) : bits .or .u64 ((h : Int) * 256) (x.toNat : Int) = ((h * 256 + x.toNat : Nat) : Int) := by
  have hx := x.toNat_lt
  have e : ((h : Int) * 256) = ((h * 256 : Nat) : Int) := by simp
  rw [e, u64_or_nat _ _ (by omega) (by omega)]
  congr 1
  have := Nat.shiftLeft_add_eq_or_of_lt (i := 8) (show x.toNat < 2 ^ 8 from hx) h
  rw [Nat.shiftLeft_eq] at this
  exact this.symm

set_option maxHeartbeats 400000 in
theorem split_any (b : List UInt8) (hb : b.length = 16) (w : World) :
    Calls Tryd.prog 34 #[.agg (ag b)] w fun e w' => e = .returned (.tuple #[.int .u64 (Gf.half b 0 : Nat), .int .u64 (Gf.half b 8 : Nat)]) ∧ Below w.heap.size w w' := by
  obtain ⟨H, hH⟩ : ∃ H, Gf.half b 0 = H := ⟨_, rfl⟩
  obtain ⟨L, hL⟩ : ∃ L, Gf.half b 8 = L := ⟨_, rfl⟩
  have HH : Box' (Gf.numTo b 0 8 = H) := ⟨hH⟩
  have HL : Box' (Gf.numTo b 8 8 = L) := ⟨hL⟩
  rw [hH, hL]
  clear hH hL
  go_enter Tryd.func34, Tryd.ntmps34
  go_wp2
  go_loopw [2, 3, 5] (fun h l i wr => ∃ k : Nat, k ≤ 8 ∧ i = .int .i64 k ∧ h = .int .u64 (Gf.numTo b 0 k : Nat) ∧ l = .int .u64 (Gf.numTo b 8 k : Nat) ∧ Row wr w.heap.size 23 (ag b) ∧ Below w.heap.size w wr) (fun _ _ i _ => 8 - (intOf i).toNat)
  case atStart => exact ⟨0, by omega, rfl, rfl, rfl, Row.new _ _ _, (Below.refl _ _).alloc (Nat.le_refl _) _⟩
  case round =>
    obtain ⟨k, hk, rfl, rfl, rfl, h1, hbl⟩ := hrel
    by_cases hlt : k < 8
    · have c1 := h1.byte (k := k) (by omega)
      have c2 := h1.byte (k := k + 8) (by omega)
      have g1 := Gf.numTo_lt7 b 0 k hlt
      have g2 := Gf.numTo_lt7 b 8 k hlt
      have E1 : Box' (Gf.numTo b 0 (k + 1) = Gf.numTo b 0 k * 256 + (b.getD k 0).toNat) := ⟨by rw [Gf.numTo, Nat.zero_add]⟩
      have E2 : Box' (Gf.numTo b 8 (k + 1) = Gf.numTo b 8 k * 256 + (b.getD (k + 8) 0).toNat) := ⟨by rw [Gf.numTo, Nat.add_comm 8 k]⟩
      generalize b.getD k 0 = x at *
      generalize b.getD (k + 8) 0 = y at *
      have hx := x.toNat_lt
      have hy := y.toNat_lt
      generalize hn1 : Gf.numTo b 0 k = n1 at *
      generalize hn2 : Gf.numTo b 8 k = n2 at *
      have o1 := or_byte n1 x g1
      have o2 := or_byte n2 y g2
      clear hn1 hn2
      go_wp2
      go_roundw
      case rel => exact ⟨k + 1, by omega, by go_num, by rw [E1.out]; go_num, by rw [E2.out]; go_num, h1, hbl⟩
      case measure => simp [intOf]; omega
    · have hk' : k = 8 := by omega
      subst hk'
      rw [HH.out, HL.out]
      go_wp2
      go_ret2
      exact ⟨rfl, hbl⟩
set_option maxHeartbeats 400000 in
theorem ocbAgainst_any (a b : List UInt8) (ha : a.length = 16) (hb : b.length = 16) (w : World) :
    Calls Tryd.prog 40 #[.agg (ag a), .agg (ag b)] w fun e w' => e = .returned (.agg (ag (Gf.bxor a b))) ∧ Below w.heap.size w w' := by
  have hF : Gf.fill a (fun i => a.getD i 0 ^^^ b.getD i 0) 16 = Gf.bxor a b := Gf.fill_full _ _ _ ha
  have HF := show Hid _ from hF
  clear hF
  go_enter Tryd.func40, Tryd.ntmps40
  go_wp2
  go_loopw [6] (fun i wr => ∃ k : Nat, k ≤ 16 ∧ i = .int .i64 k ∧ Row wr w.heap.size 23 (ag (Gf.fill a (fun i => a.getD i 0 ^^^ b.getD i 0) k)) ∧ Row wr (w.heap.size + 1) 23 (ag b) ∧ Room wr (w.heap.size + 1 + 1) 23 16 ∧ Below w.heap.size w wr) (fun i _ => 16 - (intOf i).toNat)
  case atStart =>
    refine ⟨0, by omega, rfl, ?_, ?_, ?_, ?_⟩
    · exact ((Row.new _ _ _).alloc _).alloc _
    · simpa using (Row.new (w.alloc (.cells (ag a) 23)) 23 (ag b)).alloc _
    · simpa using Room.new ((w.alloc (.cells (ag a) 23)).alloc (.cells (ag b) 23)) 23 _ 16 rfl
    · exact (((Below.refl _ _).alloc (Nat.le_refl _) _).alloc (by simp) _).alloc (by simp; omega) _
  case round =>
    obtain ⟨k, hk, rfl, h1, h2, h3, hbl⟩ := hrel
    by_cases hlt : k < 16
    · have c1 := h1.byte (k := k) (by rw [Gf.fill_len, ha]; exact hlt)
      have f1 := h1.frozen k
      have c2 := h2.byte (k := k) (by rw [hb]; exact hlt)
      rw [Gf.fill_get _ _ _ _ (Nat.le_refl _)] at c1
      go_wp2
      go_region
      go_wp2
      go_roundw
      case rel =>
        refine ⟨k + 1, by omega, by go_num, ?_, ?_, ?_, ?_⟩
        · have e : Gf.fill a (fun i => a.getD i 0 ^^^ b.getD i 0) (k + 1) = (Gf.fill a (fun i => a.getD i 0 ^^^ b.getD i 0) k).set k (a[k] ^^^ b[k]) := by simp [Gf.fill, ha, hb, hlt]
          rw [e, xor_u8]; exact (h1.setByte k _).drew
        · exact (h2.setOther _ _ (by simp)).drew
        · exact (h3.setOther _ _ (by simp; omega)).drew
        · exact (hbl.setCell (Nat.le_refl _) _).drew
      case measure => simp [intOf]; omega
    · have hk' : k = 16 := by omega
      subst hk'
      rw [HF.out] at h1
      have hl := Gf.bxor_len a b
      go_wp2_with (first
        | (refine wpList_load_row rfl 23 _ rfl _ rfl _ _ h1 _ Tryd.underlying23 rfl 16 Tryd.info23 (by rw [ag_size, hl]) ?_)
        | (refine wpList_store_row rfl 23 _ _ rfl _ rfl _ rfl _ _ h3 Tryd.info23 (by rw [ag_size, hl]) (ag_one _) ?_))
      exact bodyPost_ret (results_row rfl _ _ rfl _ _ (h3.setRow _) _ Tryd.underlying23 rfl 16 Tryd.info23 (by rw [ag_size, hl])) rfl ⟨rfl, below_setRow hbl (by omega) _⟩

theorem shr_byte (h k : Nat) : (h : Int) / 2 ^ k % 256 = (((UInt8.ofNat (h / 2 ^ k)).toNat : Nat) : Int) := by
  have e : ((h : Int) / 2 ^ k) = ((h / 2 ^ k : Nat) : Int) := by simp
  rw [e]
  simp

set_option maxHeartbeats 400000 in
theorem ocbJoin_any (h l : Nat) (w : World) :
    Calls Tryd.prog 35 #[.int .u64 (h : Int), .int .u64 (l : Int)] w fun e w' => e = .returned (.agg (ag (Gf.joinL h l))) ∧ Below w.heap.size w w' := by
  obtain ⟨R, hR⟩ : ∃ R, Gf.joinL h l = R := ⟨_, rfl⟩
  have HR : Box' (Gf.jTo h l 8 = R) := ⟨hR⟩
  have lR : R.length = 16 := by rw [← hR]; exact Gf.joinL_len h l
  rw [hR]
  clear hR
  go_enter Tryd.func35, Tryd.ntmps35
  go_wp2
  go_loopw [7] (fun i wr => ∃ k : Nat, k ≤ 8 ∧ i = .int .i64 k ∧ Room wr w.heap.size 23 16 ∧ Row wr (w.heap.size + 1) 23 (ag (Gf.jTo h l k)) ∧ Below w.heap.size w wr) (fun i _ => 8 - (intOf i).toNat)
  case atStart => exact ⟨0, by omega, rfl, (Room.new _ _ _ _ rfl).alloc _, Row.made _ _ _ _ _ rfl (by simp), ((Below.refl _ _).alloc (Nat.le_refl _) _).alloc (by simp) _⟩
  case round =>
    obtain ⟨k, hk, rfl, h1, h2, hbl⟩ := hrel
    by_cases hlt : k < 8
    · have c1 := h2.byte (k := k) (by rw [Gf.jTo_len]; omega)
      have f1 := h2.frozen k
      have c2 := h2.byte (k := k + 8) (by rw [Gf.jTo_len]; omega)
      have f2 := h2.frozen (k + 8)
      have h4 := (h2.setByte k (UInt8.ofNat (h / 2 ^ (56 - 8 * k)))).setByte (k + 8) (UInt8.ofNat (l / 2 ^ (56 - 8 * k)))
      have E : Box' (Gf.jTo h l (k + 1) = ((Gf.jTo h l k).set k (UInt8.ofNat (h / 2 ^ (56 - 8 * k)))).set (k + 8) (UInt8.ofNat (l / 2 ^ (56 - 8 * k)))) := ⟨rfl⟩
      rw [← shr_byte, ← shr_byte] at h4
      go_wp2
      refine ⟨⟨k + 1, by omega, by go_num, ?_, ?_, ?_⟩, by simp [intOf]; omega⟩
      · exact (h1.setOther _ _ (by simp)).setOther _ _ (by simp)
      · rw [E.out]; exact h4
      · exact (hbl.setCell (by simp) _).setCell (by simp) _
    · have hk' : k = 8 := by omega
      subst hk'
      rw [HR.out] at h2
      go_wp2_with (first
        | (refine wpList_load_row rfl 23 _ rfl _ rfl _ _ h2 _ Tryd.underlying23 rfl 16 Tryd.info23 (by rw [ag_size]; exact lR) ?_)
        | (refine wpList_store_row rfl 23 _ _ rfl _ rfl _ rfl _ _ h1 Tryd.info23 (by rw [ag_size]; exact lR) (ag_one _) ?_))
      exact bodyPost_ret (results_row rfl _ _ rfl _ _ (h1.setRow _) _ Tryd.underlying23 rfl 16 Tryd.info23 (by rw [ag_size]; exact lR)) rfl ⟨rfl, below_setRow hbl (by omega) _⟩

theorem wrap_nat (n : Nat) : IntKind.u64.wrap ((n : Nat) : Int) = ((n % 18446744073709551616 : Nat) : Int) := by
  simp [IntKind.wrap, IntKind.bits, IntKind.signed]
theorem dbl_hi (H L : Nat) (h2 : L < 18446744073709551616) : bits .or .u64 (IntKind.u64.wrap ((H : Int) * 2)) ((L : Int) / 9223372036854775808) = (((H * 2 % 2 ^ 64) ||| (L / 2 ^ 63) : Nat) : Int) := by
  have e1 : (H : Int) * 2 = ((H * 2 : Nat) : Int) := by simp
  have e2 : (L : Int) / 9223372036854775808 = ((L / 9223372036854775808 : Nat) : Int) := by simp
  rw [e1, e2, wrap_nat, u64_or_nat _ _ (Nat.mod_lt _ (by decide)) (by omega)]
theorem dbl_lo (H L : Nat) (h1 : H < 18446744073709551616) : bits .xor .u64 (IntKind.u64.wrap ((L : Int) * 2)) ((H : Int) / 9223372036854775808 * 135) = (((L * 2 % 2 ^ 64) ^^^ (H / 2 ^ 63 * 135) : Nat) : Int) := by
  have e1 : (L : Int) * 2 = ((L * 2 : Nat) : Int) := by simp
  have e2 : (H : Int) / 9223372036854775808 * 135 = ((H / 9223372036854775808 * 135 : Nat) : Int) := by simp
  rw [e1, e2, wrap_nat, u64_xor_nat _ _ (Nat.mod_lt _ (by decide)) (by omega)]
theorem half_lt (b : List UInt8) (o : Nat) : Gf.half b o < 18446744073709551616 := Gf.numTo_lt8 b o
set_option maxHeartbeats 400000 in
theorem ocbDouble_any (b : List UInt8) (hb : b.length = 16) (w : World) :
    Calls Tryd.prog 11 #[.agg (ag b)] w fun e w' => e = .returned (.agg (ag (Gf.dblk b))) ∧ Below w.heap.size w w' := by
  have g1 := half_lt b 0
  have g2 := half_lt b 8
  have hR : Gf.dblk b = Gf.joinL ((Gf.half b 0 * 2 % 2 ^ 64) ||| (Gf.half b 8 / 2 ^ 63)) ((Gf.half b 8 * 2 % 2 ^ 64) ^^^ (Gf.half b 0 / 2 ^ 63 * 135)) := rfl
  have hS := split_any b hb
  generalize Gf.half b 0 = H at *
  generalize Gf.half b 8 = L at *
  generalize Gf.dblk b = R at *
  have HR := Box'.mk hR
  have lR : R.length = 16 := by rw [hR]; exact Gf.joinL_len _ _
  clear hR
  go_enter Tryd.func11, Tryd.ntmps11
  have r1 : Row ((w.alloc (.cells (ag b) 23)).alloc (.cells (ag (Gf.zeros 16)) 23)) w.heap.size 23 (ag b) := (Row.new _ _ _).alloc _
  go_wp2_with (first
    | (refine wpList_load_row rfl 23 _ rfl _ rfl _ _ r1 _ Tryd.underlying23 rfl 16 Tryd.info23 (by rw [ag_size]; exact hb) ?_)
    | fail)
  refine (hS _).mono ?_
  rintro e w1 ⟨rfl, hb1⟩
  have q2 : Room w1 (w.heap.size + 1) 23 16 := Room.below (Room.made _ _ _ _ _ rfl (by simp)) hb1 (by simp)
  have hbl : Below w.heap.size w w1 := (((Below.refl _ _).alloc (Nat.le_refl _) _).alloc (by simp) _).trans (hb1.mono (by simp; omega))
  have hz := q2.elim fun _ h => h.1.lt
  clear hb1 r1
  go_wp2_with fail
  rw [dbl_hi H L g2, dbl_lo H L g1]
  refine (ocbJoin_any _ _ _).mono ?_
  rintro e w2 ⟨rfl, hb2⟩
  rw [← HR.out]
  have q3 := q2.below hb2 hz
  have hbl2 : Below w.heap.size w w2 := hbl.trans (hb2.mono (by omega))
  clear hb2 q2 hbl
  go_wp2_with (refine wpList_store_row rfl 23 _ _ rfl _ rfl _ rfl _ _ q3 Tryd.info23 (by rw [ag_size]; exact lR) (ag_one _) ?_)
  exact bodyPost_ret (results_row rfl _ _ rfl _ _ (q3.setRow _) _ Tryd.underlying23 rfl 16 Tryd.info23 (by rw [ag_size]; exact lR)) rfl ⟨rfl, below_setRow hbl2 (by omega) _⟩
end Go.Proofs.YtmolhljgmaoflaaDoor
