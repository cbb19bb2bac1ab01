/- The walks of the reference's functions on bytes, and of Sub and Unsub of package aes. -/
import Derived.Test.YtmolhljgmaoflaaDoorS
import Derived.Test.YtmolhljgmaoflaaDoorBm
namespace Go.Proofs.YtmolhljgmaoflaaDoor
open Go.RowKit Go.BigFrame

theorem xd_int : ∀ n : Nat, n < 256 → bits .xor .u8 ((n : Int) * 2 % 256) ((n : Int) / 128 * 27) = ((Gf.dblN n : Nat) : Int) := by decide +kernel

set_option maxHeartbeats 800000 in
theorem refTimes_any (a b : UInt8) (w : World) :
    Calls Tryd.prog 52 #[.int .u8 (a.toNat : Int), .int .u8 (b.toNat : Int)] w fun e w' => e = .returned (.int .u8 ((Gf.times a b).toNat : Int)) ∧ w' = w := by
  have hb : b.toNat < 256 := b.toNat_lt
  go_enter Tryd.func52, Tryd.ntmps52
  go_wp2
  go_loop [0, 5, 6] (fun x s i => ∃ k : Nat, k ≤ 8 ∧ i = .int .i64 k ∧ x = .int .u8 ((Gf.xt a k).toNat : Int) ∧ s = .int .u8 ((Gf.rs a b k).toNat : Int)) (fun _ _ i => 8 - (intOf i).toNat)
  case atStart => exact ⟨0, by omega, rfl, rfl, rfl⟩
  case round =>
    obtain ⟨k, hk, rfl, rfl, rfl⟩ := hrel
    by_cases hlt : k < 8
    · have ht := test_u8 b.toNat k hb
      have hx : ∀ x y : UInt8, bits .xor .u8 (x.toNat : Int) (y.toNat : Int) = ((Gf.bx x y).toNat : Int) := xor_bx
      have hxl : (Gf.xt a k).toNat < 256 := UInt8.toNat_lt _
      cases hbit : b.toNat.testBit k
      · rw [hbit] at ht
        have HS : Hid (Gf.rs a b (k + 1) = Gf.rs a b k) := by show _ = _; simp [Gf.rs, hbit]
        clear hbit
        go_wp2
        go_round
        case rel => exact ⟨k + 1, by omega, by go_num, by rw [xd_int _ hxl, ← Gf.dbl_toNat]; rfl, by rw [HS.out]⟩
        case measure => simp [intOf]; omega
      · rw [hbit] at ht
        have HS : Hid (Gf.rs a b (k + 1) = Gf.bx (Gf.rs a b k) (Gf.xt a k)) := by show _ = _; simp [Gf.rs, hbit]
        clear hbit
        go_wp2
        go_round
        case rel => exact ⟨k + 1, by omega, by go_num, by rw [xd_int _ hxl, ← Gf.dbl_toNat]; rfl, by rw [HS.out]⟩
        case measure => simp [intOf]; omega
    · have hk8 : k = 8 := by omega
      subst hk8
      rw [Gf.rs_times]
      go_wp2
      go_ret
      exact ⟨rfl, rfl⟩

theorem and1_i64 : ∀ n : Nat, n < 256 → bits .and .i64 (n : Int) 1 = ((n % 2 : Nat) : Int) := by decide +kernel
theorem xor_i64 : ∀ a : Nat, a < 2 → ∀ b : Nat, b < 2 → bits .xor .i64 (a : Int) (b : Int) = ((a ^^^ b : Nat) : Int) := by decide +kernel
theorem w64 : ∀ n : Nat, n < 256 → wrap64 (n : Int) = (n : Int) := by decide +kernel
theorem bit0_int (c i : Nat) : bits .and .i64 ((99 : Int) / 2 ^ i) 1 = ((Gf.bt c i 0 : Nat) : Int) := by
  have e : ((99 : Int) / 2 ^ i) = ((99 / 2 ^ i : Nat) : Int) := by simp
  rw [e, and1_i64 _ (Nat.lt_of_le_of_lt (Nat.div_le_self _ _) (by decide))]; rfl
theorem bitk_int (c i k m : Nat) (hc : c < 256) (hm : Gf.atOf i k = m) : bits .xor .i64 ((Gf.bt c i k : Nat) : Int) (bits .and .i64 (wrap64 ((c : Int) / 2 ^ m)) 1) = ((Gf.bt c i (k + 1) : Nat) : Int) := by
  have e : ((c : Int) / 2 ^ m) = ((c / 2 ^ m : Nat) : Int) := by simp
  rw [e, w64 _ (Nat.lt_of_le_of_lt (Nat.div_le_self _ _) hc), and1_i64 _ (Nat.lt_of_le_of_lt (Nat.div_le_self _ _) hc), xor_i64 _ (Gf.bt_lt _ _ _) _ (Nat.mod_lt _ (by decide)), ← hm]; rfl
theorem put_int (c i : Nat) (hi : i < 8) : bits .or .u8 ((Gf.sTo c i : Nat) : Int) (wrap64 (((Gf.bt c i 5 : Nat) : Int) * 2 ^ i) % 256) = ((Gf.sTo c (i + 1) : Nat) : Int) := by
  have e : (((Gf.bt c i 5 : Nat) : Int) * 2 ^ i) = ((Gf.bt c i 5 <<< i : Nat) : Int) := by rw [Nat.shiftLeft_eq]; simp
  have h1 := Gf.bt_lt c i 5
  have h2 : 2 ^ i ≤ 2 ^ 7 := Nat.pow_le_pow_right (by decide) (by omega)
  have h3 : Gf.bt c i 5 * 2 ^ i ≤ 1 * 2 ^ i := Nat.mul_le_mul_right _ (by omega)
  have h4 : (2 : Nat) ^ 7 = 128 := by decide
  have h5 : Gf.bt c i 5 <<< i < 256 := by rw [Nat.shiftLeft_eq]; omega
  have h6 : (((Gf.bt c i 5 <<< i : Nat) : Int)) % 256 = ((Gf.bt c i 5 <<< i : Nat) : Int) := by omega
  rw [e, w64 _ h5, h6, u8_or_nat _ _ (Gf.sTo_lt c i (by omega)) (by rw [Nat.shiftLeft_eq]; omega)]; rfl

theorem mod_byte (k : Nat) (hk : k < 256) : (((UInt8.ofNat k).toNat : Nat) : Int) = (k : Int) := by
  rw [UInt8.toNat_ofNat_of_lt' hk]

theorem refTimes_k (a : UInt8) (k : Nat) (hk : k < 256) (w : World) :
    Calls Tryd.prog 52 #[.int .u8 (a.toNat : Int), .int .u8 (k : Int)] w fun e w' => e = .returned (.int .u8 ((Gf.times a (UInt8.ofNat k)).toNat : Int)) ∧ w' = w := by
  have h := refTimes_any a (UInt8.ofNat k) w
  rw [mod_byte k hk] at h; exact h

set_option maxRecDepth 100000 in
set_option maxHeartbeats 2000000 in
theorem refSub_any (b : UInt8) (w : World) :
    Calls Tryd.prog 64 #[.int .u8 (b.toNat : Int)] w fun e w' => e = .returned (.int .u8 ((Gf.look Gf.sbox b).toNat : Int)) ∧ w' = w := by
  have hbl : b.toNat < 256 := b.toNat_lt
  obtain ⟨M, hM⟩ : ∃ M, M = 256 := ⟨_, rfl⟩
  have HR : Hid ((Gf.sTo (Gf.fnd b M).toNat 8 : Nat) = (Gf.look Gf.sbox b).toNat) := by rw [hM]; exact Gf.ref_sub b
  have HM256 := show Hid _ from hM
  clear hM
  generalize Gf.look Gf.sbox b = res at *
  go_enter Tryd.func64, Tryd.ntmps64
  go_wp2
  go_loop [3, 4] (fun c i => ∃ k : Nat, 1 ≤ k ∧ k ≤ 256 ∧ i = .int .i64 k ∧ c = .int .u8 ((Gf.fnd b k).toNat : Int)) (fun _ i => 256 - (intOf i).toNat)
  case atStart => exact ⟨1, by omega, by omega, rfl, rfl⟩
  case round =>
    obtain ⟨k, hk1, hk, rfl, rfl⟩ := hrel
    by_cases hgo : k < 256 ∧ b ≠ 0
    · obtain ⟨hlt, hb0⟩ := hgo
      have hb1 : ((b.toNat : Int) == 0) = false := by
        rw [beq_eq_false_iff_ne]; intro h; exact hb0 (UInt8.toNat_inj.1 (by simp; omega))
      have hb2 : ((b.toNat : Int) != 0) = true := by simp [bne, hb1]
      have hbn : ¬ (b.toNat : Int) = 0 := by simpa using hb1
      by_cases h1 : Gf.times b (UInt8.ofNat k) = 1
      · have ht : (((Gf.times b (UInt8.ofNat k)).toNat : Int) == 1) = true := by rw [h1]; rfl
        have HS : Hid (Gf.fnd b (k + 1) = UInt8.ofNat k) := by show _ = _; simp [Gf.fnd, hk1, h1]
        have HM : Hid ((((UInt8.ofNat k).toNat : Nat) : Int) = (k : Int)) := mod_byte k hlt
        clear h1 hb0
        go_wp2_with (go_at_call 52; refine (refTimes_k b k hlt _).mono ?_; rintro e w' ⟨rfl, rfl⟩)
        go_round
        case rel => exact ⟨k + 1, by omega, by omega, by go_num, by rw [HS.out, HM.out]⟩
        case measure => simp [intOf]; omega
      · have ht : (((Gf.times b (UInt8.ofNat k)).toNat : Int) == 1) = false := by
          rw [beq_eq_false_iff_ne]; intro h; exact h1 (UInt8.toNat_inj.1 (by simp; omega))
        have HS : Hid (Gf.fnd b (k + 1) = Gf.fnd b k) := by show _ = _; simp [Gf.fnd, h1]
        clear h1 hb0
        go_wp2_with (go_at_call 52; refine (refTimes_k b k hlt _).mono ?_; rintro e w' ⟨rfl, rfl⟩)
        go_round
        case rel => exact ⟨k + 1, by omega, by omega, by go_num, by rw [HS.out]⟩
        case measure => simp [intOf]; omega
    · have hc : Gf.fnd b k = Gf.fnd b M := by
        by_cases hb0 : b = 0
        · subst hb0; rw [Gf.fnd_zero, Gf.fnd_zero]
        · have : k = 256 := by
            rcases Nat.lt_or_ge k 256 with h | h
            · exact absurd ⟨h, hb0⟩ hgo
            · omega
          rw [this, HM256.out]
      have hor : ¬ k < 256 ∨ (k < 256 ∧ (b.toNat : Int) = 0) := by
        rcases Nat.lt_or_ge k 256 with h | h
        · right
          by_cases hb0 : b = 0
          · subst hb0; exact ⟨h, rfl⟩
          · exact absurd ⟨h, hb0⟩ hgo
        · left; omega
      rw [hc]
      clear hc hgo
      generalize Gf.fnd b M = c at *
      have hcl : c.toNat < 256 := c.toNat_lt
      rcases hor with hor | hor
      · go_wp2
        go_loop [5, 6] (fun s i => ∃ k : Nat, k ≤ 8 ∧ i = .int .i64 k ∧ s = .int .u8 ((Gf.sTo c.toNat k : Nat) : Int)) (fun _ i => 8 - (intOf i).toNat)
        case atStart => exact ⟨0, by omega, rfl, rfl⟩
        case round =>
          clear hk1 hk
          obtain ⟨i, hi, rfl, rfl⟩ := hrel
          by_cases hi8 : i < 8
          · have e0 := bit0_int c.toNat i
            go_wp2
            go_loop [7, 8] (fun t j => ∃ k : Nat, k ≤ 5 ∧ j = .int .i64 k ∧ t = .int .i64 ((Gf.bt c.toNat i k : Nat) : Int)) (fun _ j => 5 - (intOf j).toNat)
            case atStart => exact ⟨0, by omega, rfl, rfl⟩
            case round =>
              clear e0
              obtain ⟨j, hj, rfl, rfl⟩ := hrel
              by_cases hj5 : j < 5
              · have hbt := Gf.bt_lt c.toNat i j
                by_cases hj0 : j = 0
                · subst hj0
                  have e1 := bitk_int c.toNat i 0 i hcl rfl
                  go_wp2
                  go_round
                  case rel => exact ⟨0 + 1, by omega, by go_num, rfl⟩
                  case measure => simp [intOf]
                · obtain ⟨m, hm⟩ : ∃ m, (i + 3 + j) % 8 = m := ⟨_, rfl⟩
                  have hm2 : ((i : Int) + 3 + (j : Int)) % 8 = (m : Int) := by omega
                  have hm8 : m < 8 := by omega
                  have e1 := bitk_int c.toNat i j m hcl (by unfold Gf.atOf; rw [if_neg hj0]; exact hm)
                  have hj1 : 0 < j := by omega
                  clear hm hj0
                  go_wp2
                  go_round
                  case rel => exact ⟨j + 1, by omega, by go_num, rfl⟩
                  case measure => simp [intOf]; omega
              · have hj' : j = 5 := by omega
                subst hj'
                have e2 := put_int c.toNat i hi8
                have hbt := Gf.bt_lt c.toNat i 5
                go_wp2
                go_round
                case rel => exact ⟨i + 1, by omega, by go_num, rfl⟩
                case measure => simp [intOf]; omega
          · have hi' : i = 8 := by omega
            subst hi'
            rw [HR.out]
            go_wp2
            go_ret
            exact ⟨rfl, rfl⟩
      · have hk256 : k < 256 := hor.1
        have hb3 : (b.toNat : Int) = 0 := hor.2
        have hb4 : b.toNat = 0 := by omega
        have hb2 : ((b.toNat : Int) != 0) = false := by simp [hb4]
        have hb5 : ((b.toNat : Int) == 0) = true := by simp [hb4]
        clear hor hb3 hb4
        go_wp2
        go_loop [5, 6] (fun s i => ∃ k : Nat, k ≤ 8 ∧ i = .int .i64 k ∧ s = .int .u8 ((Gf.sTo c.toNat k : Nat) : Int)) (fun _ i => 8 - (intOf i).toNat)
        case atStart => exact ⟨0, by omega, rfl, rfl⟩
        case round =>
          clear hk1 hk
          obtain ⟨i, hi, rfl, rfl⟩ := hrel
          by_cases hi8 : i < 8
          · have e0 := bit0_int c.toNat i
            go_wp2
            go_loop [7, 8] (fun t j => ∃ k : Nat, k ≤ 5 ∧ j = .int .i64 k ∧ t = .int .i64 ((Gf.bt c.toNat i k : Nat) : Int)) (fun _ j => 5 - (intOf j).toNat)
            case atStart => exact ⟨0, by omega, rfl, rfl⟩
            case round =>
              clear e0
              obtain ⟨j, hj, rfl, rfl⟩ := hrel
              by_cases hj5 : j < 5
              · have hbt := Gf.bt_lt c.toNat i j
                by_cases hj0 : j = 0
                · subst hj0
                  have e1 := bitk_int c.toNat i 0 i hcl rfl
                  go_wp2
                  go_round
                  case rel => exact ⟨0 + 1, by omega, by go_num, rfl⟩
                  case measure => simp [intOf]
                · obtain ⟨m, hm⟩ : ∃ m, (i + 3 + j) % 8 = m := ⟨_, rfl⟩
                  have hm2 : ((i : Int) + 3 + (j : Int)) % 8 = (m : Int) := by omega
                  have hm8 : m < 8 := by omega
                  have e1 := bitk_int c.toNat i j m hcl (by unfold Gf.atOf; rw [if_neg hj0]; exact hm)
                  have hj1 : 0 < j := by omega
                  clear hm hj0
                  go_wp2
                  go_round
                  case rel => exact ⟨j + 1, by omega, by go_num, rfl⟩
                  case measure => simp [intOf]; omega
              · have hj' : j = 5 := by omega
                subst hj'
                have e2 := put_int c.toNat i hi8
                have hbt := Gf.bt_lt c.toNat i 5
                go_wp2
                go_round
                case rel => exact ⟨i + 1, by omega, by go_num, rfl⟩
                case measure => simp [intOf]; omega
          · have hi' : i = 8 := by omega
            subst hi'
            rw [HR.out]
            go_wp2
            go_ret
            exact ⟨rfl, rfl⟩

set_option maxRecDepth 100000 in
set_option maxHeartbeats 1000000 in
theorem refTable_any (w : World) :
    Calls Tryd.prog 60 #[] w fun e w' => e = .returned (.agg (ag Gf.sbox)) ∧ Below w.heap.size w w' := by
  have HF : Hid (Gf.fill (Gf.zeros 256) (fun i => Gf.look Gf.sbox (UInt8.ofNat i)) 256 = Gf.sbox) := (Gf.fill_full (Gf.zeros 256) _ 256 List.length_replicate).trans Gf.sbox_map
  have HS : Hid (Gf.sbox.length = 256) := Gf.sbox_len
  have HQ : Hid (∀ (b : UInt8) (w : World), Calls Tryd.prog 64 #[.int .u8 (b.toNat : Int)] w fun e w' => e = .returned (.int .u8 ((Gf.look Gf.sbox b).toNat : Int)) ∧ w' = w) := refSub_any
  go_enter Tryd.func60, Tryd.ntmps60
  generalize Gf.sbox = T at *
  obtain ⟨M, hM⟩ : ∃ M, M = 256 := ⟨_, rfl⟩
  have HFM : Hid (Gf.fill (Gf.zeros M) (fun i => Gf.look T (UInt8.ofNat i)) M = T) := by rw [hM]; exact HF
  have HM256 := show Hid _ from hM
  clear hM HF
  go_wp2_with (refine wpList_alloc_row rfl 66 rfl _ _ Tryd.zero66 ?_)
  go_loopw [2] (fun i wr => ∃ k : Nat, k ≤ 256 ∧ i = .int .i64 k ∧ Room wr w.heap.size 66 256 ∧ Row wr (w.heap.size + 1) 66 (ag (Gf.fill (Gf.zeros M) (fun i => Gf.look T (UInt8.ofNat i)) k)) ∧ Below w.heap.size w wr) (fun i _ => 256 - (intOf i).toNat)
  case atStart =>
    refine ⟨0, by omega, rfl, ?_, ?_, ?_⟩
    · exact (Room.new _ _ _ _ (by rw [ag_size]; exact List.length_replicate)).alloc _
    · exact Row.made _ _ _ _ _ (by rw [HM256.out]; rfl) (by simp)
    · exact ((Below.refl _ _).alloc (Nat.le_refl _) _).alloc (by simp) _
  case round =>
    obtain ⟨k, hk, rfl, h0, h1, hbl⟩ := hrel
    by_cases hlt : k < 256
    · have c1 := h1.byte (k := k) (by rw [Gf.fill_len]; show k < (List.replicate M (0 : UInt8)).length; rw [List.length_replicate, HM256.out]; exact hlt)
      have f1 := h1.frozen k
      have HK : Hid ((((UInt8.ofNat k).toNat : Nat) : Int) = (k : Int)) := mod_byte k hlt
      go_wp2_with fail
      have hcall := HQ.out (UInt8.ofNat k) wr
      rw [HK.out] at hcall
      refine hcall.mono ?_
      clear hcall
      rintro e w' ⟨rfl, rfl⟩
      go_wp2
      go_roundw
      case rel => exact ⟨k + 1, by omega, by go_num, h0.setOther _ _ (by simp), h1.setByte k _, hbl.setCell (by simp) _⟩
      case measure => simp [intOf]; omega
    · have hk' : k = M := by rw [HM256.out]; omega
      subst hk'
      rw [HFM.out] at h1
      go_wp2_with (first
        | (refine wpList_load_row rfl 66 _ rfl _ rfl _ _ h1 _ Tryd.underlying66 rfl 256 Tryd.info66 (by rw [ag_size]; exact HS.out) ?_)
        | (refine wpList_store_row rfl 66 _ _ rfl _ rfl _ rfl _ _ h0 Tryd.info66 (by rw [ag_size]; exact HS.out) (ag_one _) ?_))
      exact bodyPost_ret (results_row rfl _ _ rfl _ _ (h0.setRow _) _ Tryd.underlying66 rfl 256 Tryd.info66 (by rw [ag_size]; exact HS.out)) rfl ⟨rfl, below_setRow hbl (by omega) _⟩

end Go.Proofs.YtmolhljgmaoflaaDoor
