/- The walk of the reference's Read. -/
import Derived.Test.YtbnghmeeddjaoaaD
namespace Go.Proofs.Ytbnghmeeddjaoaa
open Go.RowKit Go.BigFrame

theorem bit_u8 (x : UInt8) (r : Nat) : bits .and .u8 ((x.toNat : Int) / 2 ^ r) 1 = ((x.toNat / 2 ^ r % 2 : Nat) : Int) := by
  have hx : x.toNat < 256 := x.toNat_lt
  have e : ((x.toNat : Int) / 2 ^ r) = ((x.toNat / 2 ^ r : Nat) : Int) := by simp
  have h2 : x.toNat / 2 ^ r < 256 := Nat.lt_of_le_of_lt (Nat.div_le_self _ _) hx
  have := u8_and_nat (x.toNat / 2 ^ r) 1 h2 (by decide)
  rw [Nat.and_one_is_mod] at this
  rw [e]; exact this
theorem read_step (X k d : Nat) (hk : k < 64) (hd : d = X / 2 ^ k % 2) : bits .or .u64 ((X % 2 ^ k : Nat) : Int) (IntKind.u64.wrap ((d : Int) * 2 ^ k)) = ((X % 2 ^ (k + 1) : Nat) : Int) := by
  have h1 : X % 2 ^ k < 18446744073709551616 := Nat.lt_of_lt_of_le (Nat.mod_lt _ (Nat.two_pow_pos _)) (show 2 ^ k ≤ 2 ^ 64 from Nat.pow_le_pow_right (by decide) (by omega))
  rw [or_shl _ _ _ h1, ← Gf.mod_step X k, hd]
  have h2 : X / 2 ^ k % 2 * 2 ^ k < 2 ^ 64 := by
    have h3 : X / 2 ^ k % 2 ≤ 1 := by omega
    calc X / 2 ^ k % 2 * 2 ^ k ≤ 1 * 2 ^ k := Nat.mul_le_mul_right _ h3
      _ = 2 ^ k := Nat.one_mul _
      _ < 2 ^ 64 := Nat.pow_lt_pow_right (by decide) hk
  rw [Nat.mod_eq_of_lt h2]

theorem read_stepI (X p k : Nat) (x : UInt8) (hk : k < 64) (hd : x.toNat / 2 ^ ((p + k) % 8) % 2 = X / 2 ^ (p + k) % 2) :
    bits .or .u64 ((X : Int) / 2 ^ p % 2 ^ k) (IntKind.u64.wrap (IntKind.u64.wrap (bits .and .u8 ((x.toNat : Int) / 2 ^ ((p + k) % 8)) 1) * 2 ^ k)) = ((X / 2 ^ p % 2 ^ (k + 1) : Nat) : Int) := by
  have e : (X : Int) / 2 ^ p % 2 ^ k = ((X / 2 ^ p % 2 ^ k : Nat) : Int) := by simp
  rw [bit_u8, wrap_nat, Nat.mod_eq_of_lt (Nat.lt_trans (Nat.mod_lt _ (by decide)) (by decide)), e]
  exact read_step (X / 2 ^ p) k _ hk (by rw [hd, Nat.div_div_eq_div_mul, ← Nat.pow_add])
set_option maxHeartbeats 1000000 in
theorem refRead_any (S : Nat → Prop) (v : Value) (l : List UInt8) (at' size : Int) (hl : l.length ≤ 140737488355328) (w : World) (h : Bts S w v l) :
    Calls Try.prog 30 #[v, .int .i64 at', .int .i64 size] w fun e w' => e = .returned (.tuple #[.int .u64 ((Gf.rdV l at' size : Nat) : Int), .int .i64 (Gf.rdE l.length at' size)]) ∧ w' = w := by
  by_cases h1 : at' < 0 ∨ size < 0 ∨ 64 < size
  · have hE : Gf.rdE l.length at' size = 2 := if_pos h1
    rw [show Gf.rdV l at' size = 0 from if_neg (by rw [hE]; decide), hE]
    obtain ⟨a, c, rfl, hc, h3⟩ := h
    clear hE
    by_cases h2 : at' < 0
    · go_enter Try.func30, Try.ntmps30
      go_wp2_with fail
      go_ret2
      exact ⟨rfl, rfl⟩
    · by_cases h4 : size < 0
      · go_enter Try.func30, Try.ntmps30
        go_wp2_with fail
        go_ret2
        exact ⟨rfl, rfl⟩
      · have h5 : 64 < size := by omega
        clear h1
        go_enter Try.func30, Try.ntmps30
        go_wp2_with fail
        go_ret2
        exact ⟨rfl, rfl⟩
  · obtain ⟨p, rfl⟩ : ∃ p : Nat, at' = (p : Int) := ⟨at'.toNat, by omega⟩
    obtain ⟨s, rfl⟩ : ∃ s : Nat, size = (s : Int) := ⟨size.toNat, by omega⟩
    have hE : Gf.rdE l.length (p : Int) (s : Int) = if 8 * (l.length : Int) < (p : Int) + (s : Int) then 7 else 0 := by unfold Gf.rdE; rw [if_neg h1]
    have hs : s ≤ 64 := by omega
    have i1 : ¬ (p : Int) < 0 := by omega
    have i2 : ¬ (s : Int) < 0 := by omega
    have i3 : ¬ (64 : Int) < (s : Int) := by omega
    clear h1
    by_cases h3 : 8 * (l.length : Int) < (p : Int) + (s : Int)
    · rw [if_pos h3] at hE
      rw [show Gf.rdV l (p : Int) (s : Int) = 0 from if_neg (by rw [hE]; decide), hE]
      obtain ⟨a, c, rfl, hc, h4⟩ := h
      clear hE h4
      by_cases h4 : 8 * (l.length : Int) < (p : Int)
      · clear h3
        go_enter Try.func30, Try.ntmps30
        go_wp2_with fail
        go_ret2
        exact ⟨rfl, rfl⟩
      · have h5 : 8 * (l.length : Int) - (p : Int) < (s : Int) := by omega
        clear h3
        go_enter Try.func30, Try.ntmps30
        go_wp2_with fail
        go_ret2
        exact ⟨rfl, rfl⟩
    · rw [if_neg h3] at hE
      rw [show Gf.rdV l (p : Int) (s : Int) = Gf.num l / 2 ^ p % 2 ^ s from if_pos hE, hE]
      obtain ⟨a, c, rfl, hc, h4⟩ := h
      have hcl : ∀ k, k < l.length → ∃ b o, a = some ⟨b, o, none⟩ ∧ w.cell? ⟨b, o + k, none⟩ = some (.int .u8 ((l.getD k 0).toNat : Int)) := by
        intro k hk
        rcases h4 with rfl | ⟨b, o, rfl, _, hr⟩
        · simp at hk
        exact ⟨b, o, rfl, hr k _ (by simp [hk]; rfl)⟩
      have HCL := Box'.mk hcl
      have BIT := Box'.mk (Gf.bit_at l)
      have h5 : ¬ 8 * (l.length : Int) < (p : Int) := by omega
      have h6 : ¬ 8 * (l.length : Int) - (p : Int) < (s : Int) := by omega
      have h7 : p + s ≤ 8 * l.length := by omega
      generalize hn : l.length = n at *
      generalize hX : Gf.num l = X at *
      clear hE h3 hcl h4 hn hX
      go_enter Try.func30, Try.ntmps30
      go_wp2_with fail
      go_loop [8, 9] (fun t i => ∃ k : Nat, k ≤ s ∧ i = .int .i64 k ∧ t = .int .u64 ((X / 2 ^ p % 2 ^ k : Nat) : Int)) (fun _ i => s - (intOf i).toNat)
      case atStart => exact ⟨0, by omega, rfl, by rw [Nat.pow_zero, Nat.mod_one]; rfl⟩
      case round =>
        obtain ⟨k, hk, rfl, rfl⟩ := hrel
        by_cases hlt : k < s
        · obtain ⟨b, o, rfl, c1⟩ := HCL.out ((p + k) / 8) (by omega)
          have E := Box'.mk (BIT.out (p + k))
          have h8 : ((p : Int) + (k : Int)) / 8 < (n : Int) := by omega
          generalize l.getD ((p + k) / 8) 0 = x at *
          have hx := x.toNat_lt
          go_wp2_with fail
          exact ⟨⟨k + 1, by omega, by go_num, by rw [read_stepI X p k x (by omega) E.out]⟩, by simp [intOf]; omega⟩
        · have hkn : k = s := by omega
          subst hkn
          go_wp2_with fail
          go_ret2
          exact ⟨rfl, rfl⟩
end Go.Proofs.Ytbnghmeeddjaoaa
