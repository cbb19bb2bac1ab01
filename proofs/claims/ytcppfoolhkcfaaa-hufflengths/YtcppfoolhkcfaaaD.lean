/- The walks of gather and of Read, the program's and the reference's. -/
import Derived.Test.YtcppfoolhkcfaaaC
namespace Go.Proofs.Ytcppfoolhkcfaaa
open Go.RowKit Go.BigFrame

theorem or_shl (g x m : Nat) (hg : g < 18446744073709551616) : bits .or .u64 (g : Int) (IntKind.u64.wrap ((x : Int) * 2 ^ m)) = ((g ||| x * 2 ^ m % 2 ^ 64 : Nat) : Int) := by
  have e1 : (x : Int) * 2 ^ m = ((x * 2 ^ m : Nat) : Int) := by simp
  rw [e1, wrap_nat, u64_or_nat _ _ hg (Nat.mod_lt _ (by decide))]
set_option maxHeartbeats 1000000 in
theorem gather_any (S : Nat → Prop) (v : Value) (l : List UInt8) (r : Nat) (hl : l.length ≤ 9) (hr : r < 8) (w : World) (h : Bts S w v l) :
    Calls Try.prog 46 #[v, .int .i64 (r : Int)] w fun e w' => e = .returned (.int .u64 ((Gf.gat l r l.length : Nat) : Int)) ∧ w' = w := by
  obtain ⟨a, c, rfl, hc, h3⟩ := h
  have hcl : ∀ k, k < l.length → ∃ b o, a = some ⟨b, o, none⟩ ∧ w.cell? ⟨b, o + k, none⟩ = some (.int .u8 ((l.getD k 0).toNat : Int)) := by
    intro k hk
    rcases h3 with rfl | ⟨b, o, rfl, _, hr⟩
    · simp at hk
    exact ⟨b, o, rfl, hr k _ (by simp [hk]; rfl)⟩
  have HCL := Box'.mk hcl
  have G0 : Box' (Gf.gat l r 0 = 0) := ⟨by simp [Gf.gat, Gf.num]⟩
  have G1 : Box' (0 < l.length → Gf.gat l r 1 = (l.getD 0 0).toNat / 2 ^ r) := ⟨Gf.gat_one l r⟩
  have G2 : Box' (∀ k, k < l.length → 0 < k → Gf.gat l r k ||| (l.getD k 0).toNat * 2 ^ (8 * k - r) % 2 ^ 64 = Gf.gat l r (k + 1)) := ⟨fun k h1 h2 => Gf.gat_step l r k h1 h2 hr⟩
  have G3 : Box' (∀ k, Gf.gat l r k < 18446744073709551616) := ⟨fun k => Nat.mod_lt _ (by decide)⟩
  generalize l.length = n at *
  clear hcl h3
  go_enter Try.func46, Try.ntmps46
  go_wp2_with fail
  go_loop [5, 10] (fun t i => ∃ k : Nat, k ≤ n ∧ i = .int .i64 k ∧ t = .int .u64 ((Gf.gat l r k : Nat) : Int)) (fun _ i => n - (intOf i).toNat)
  case atStart => exact ⟨0, by omega, rfl, by rw [G0.out]; rfl⟩
  case round =>
    obtain ⟨k, hk, rfl, rfl⟩ := hrel
    by_cases hlt : k < n
    · obtain ⟨b, o, rfl, c1⟩ := HCL.out k hlt
      by_cases h0 : k = 0
      · subst h0
        rw [Nat.add_zero] at c1
        have E := Box'.mk (G1.out hlt)
        generalize l.getD 0 0 = x at *
        have hx := x.toNat_lt
        go_wp2_with fail
        exact ⟨⟨1, by omega, rfl, by rw [E.out]; simp⟩, by simp [intOf]; omega⟩
      · have i0 : ((k : Int) == 0) = false := by rw [beq_eq_false_iff_ne]; omega
        have E := Box'.mk (G2.out k hlt (by omega))
        have g3 := G3.out k
        generalize l.getD k 0 = x at *
        have hx := x.toNat_lt
        go_wp2_with fail
        exact ⟨⟨k + 1, by omega, by go_num, by rw [or_shl _ _ _ g3, E.out]⟩, by simp [intOf]; omega⟩
    · have hkn : k = n := by omega
      subst hkn
      go_wp2_with fail
      go_ret
      exact ⟨rfl, rfl⟩

theorem and_low (g s : Nat) (hg : g < 18446744073709551616) (hs : s ≤ 64) : bits .and .u64 (g : Int) ((lowN s : Nat) : Int) = ((g % 2 ^ s : Nat) : Int) := by
  have h1 : lowN s < 18446744073709551616 := by
    unfold lowN
    have : 2 ^ s ≤ 2 ^ 64 := Nat.pow_le_pow_right (by decide) hs
    have := Nat.two_pow_pos s
    omega
  rw [u64_and_nat _ _ hg h1]
  unfold lowN
  rw [Nat.and_two_pow_sub_one_eq_mod]

set_option maxHeartbeats 1000000 in
theorem read_any (S : Nat → Prop) (v : Value) (l : List UInt8) (at' size : Int) (hl : l.length ≤ 140737488355328) (w : World) (h : Bts S w v l) (ha : at' ≤ 9223372036854775807) :
    Calls Try.prog 31 #[v, .int .i64 at', .int .i64 size] w fun e w' => e = .returned (.tuple #[.int .u64 ((Gf.rdV l at' size : Nat) : Int), .int .i64 (Gf.rdE l.length at' size)]) ∧ w' = w := by
  have hi := fun w => isSize_any size w
  by_cases h1 : at' < 0
  · rw [show Gf.rdE l.length at' size = 2 from if_pos (.inl h1), show Gf.rdV l at' size = 0 from if_neg (by rw [show Gf.rdE l.length at' size = 2 from if_pos (.inl h1)]; decide)]
    obtain ⟨a, c, rfl, hc, h3⟩ := h
    go_enter Try.func31, Try.ntmps31
    go_wp2_with fail
    go_ret2
    exact ⟨rfl, rfl⟩
  by_cases h2 : 0 ≤ size ∧ size ≤ 64
  · obtain ⟨p, rfl⟩ : ∃ p : Nat, at' = (p : Int) := ⟨at'.toNat, by omega⟩
    obtain ⟨s, rfl⟩ : ∃ s : Nat, size = (s : Int) := ⟨size.toNat, by omega⟩
    have hE : Gf.rdE l.length (p : Int) (s : Int) = if 8 * (l.length : Int) < (p : Int) + (s : Int) then 7 else 0 := by unfold Gf.rdE; rw [if_neg (by omega)]
    rw [show sizeB (s : Int) = true from decide_eq_true h2] at hi
    have hs : s ≤ 64 := by omega
    have hp : p ≤ 9223372036854775807 := by omega
    obtain ⟨C, hC⟩ : ∃ C, C = (p % 8 + s + 7) / 8 := ⟨_, rfl⟩
    have hf : ∀ w, Calls Try.prog 45 #[.int .i64 ((p : Int) % 8 + (s : Int))] w fun e w' => e = .returned (.int .i64 (C : Int)) ∧ w' = w := fun w => by
      have := bytesFor_any (p % 8 + s) (by omega) w
      rw [← hC] at this
      have e : (((p % 8 + s : Nat) : Nat) : Int) = (p : Int) % 8 + (s : Int) := by omega
      rw [e] at this
      exact this
    have hC1 : p % 8 + s ≤ 8 * C := by omega
    have hC2 : 8 * C < p % 8 + s + 8 := by omega
    clear hC
    by_cases h3 : 8 * (l.length : Int) < (p : Int) + (s : Int)
    · rw [if_pos h3] at hE
      rw [show Gf.rdV l (p : Int) (s : Int) = 0 from if_neg (by rw [hE]; decide), hE]
      obtain ⟨a, c, rfl, hc, h4⟩ := h
      have h5 : (l.length : Int) - (p : Int) / 8 < (C : Int) := by omega
      clear h1 h2 hE h4
      go_enter Try.func31, Try.ntmps31
      go_wp2_with (first | (go_at_call 44; refine (hi _).mono ?_; rintro e w' ⟨rfl, rfl⟩) | (go_at_call 45; refine (hf _).mono ?_; rintro e w' ⟨rfl, rfl⟩) | fail)
      go_ret2
      exact ⟨rfl, rfl⟩
    · rw [if_neg h3] at hE
      rw [show Gf.rdV l (p : Int) (s : Int) = Gf.num l / 2 ^ p % 2 ^ s from if_pos hE, hE]
      have hG := Gf.read_gat l p s C hs (by omega)
      have hll := fun w => lowest_any s hs w
      obtain ⟨a, c, rfl, hc, h4⟩ := h
      have h5 : (C : Int) ≤ (l.length : Int) - (p : Int) / 8 := by omega
      have h6 : ¬ (l.length : Int) - (p : Int) / 8 < (C : Int) := by omega
      have hps : (p : Int) + (s : Int) ≤ 8 * (l.length : Int) := by omega
      have hpe : (((p % 8 : Nat) : Nat) : Int) = (p : Int) % 8 := by omega
      have hgl : Gf.gat ((l.drop (p / 8)).take C) (p % 8) C < 18446744073709551616 := Nat.mod_lt _ (by decide)
      have hA := and_low _ s hgl hs
      rw [hG] at hA
      have HA := Box'.mk hA
      clear h1 h2 hE hG hA h3
      by_cases h0 : C = 0
      · subst h0
        obtain rfl : s = 0 := by omega
        rw [show Gf.num l / 2 ^ p % 2 ^ 0 = 0 from Nat.mod_one _]
        have hg0 := fun v w h => gather_any (fun _ => False) v [] (p % 8) (by simp) (Nat.mod_lt _ (by decide)) w h
        rw [hpe, show Gf.gat [] (p % 8) ([] : List UInt8).length = 0 by simp [Gf.gat, Gf.num]] at hg0
        clear HA hgl
        rcases h4 with rfl | ⟨b, o, rfl, hS, hr⟩
        · obtain rfl : p = 0 := by simp at hps; omega
          cases a with
          | none =>
            have hg := hg0 _ w ⟨none, 0, rfl, by simp, .inl rfl⟩
            clear hg0 hl hp hs hps ha hC1 hC2 h5 h6 hpe
            go_enter Try.func31, Try.ntmps31
            go_wp2_with (first | (go_at_call 44; refine (hi _).mono ?_; rintro e w' ⟨rfl, rfl⟩) | (go_at_call 45; refine (hf _).mono ?_; rintro e w' ⟨rfl, rfl⟩) | (go_at_call 46; refine hg.mono ?_; rintro e w' ⟨rfl, rfl⟩) | (go_at_call 47; refine (hll _).mono ?_; rintro e w' ⟨rfl, rfl⟩) | fail)
            go_ret2
            exact ⟨rfl, rfl⟩
          | some a =>
            have hg := hg0 _ w ⟨some a, 0, rfl, by simp, .inl rfl⟩
            clear hg0 hl hp hs hps ha hC1 hC2 h5 h6 hpe
            go_enter Try.func31, Try.ntmps31
            go_wp2_with (first | (go_at_call 44; refine (hi _).mono ?_; rintro e w' ⟨rfl, rfl⟩) | (go_at_call 45; refine (hf _).mono ?_; rintro e w' ⟨rfl, rfl⟩) | (go_at_call 46; refine hg.mono ?_; rintro e w' ⟨rfl, rfl⟩) | (go_at_call 47; refine (hll _).mono ?_; rintro e w' ⟨rfl, rfl⟩) | fail)
            go_ret2
            exact ⟨rfl, rfl⟩
        · have hg := hg0 _ w ⟨some ⟨b, o, none⟩, 0, rfl, by simp, .inl rfl⟩
          clear hg0
          go_enter Try.func31, Try.ntmps31
          go_wp2_with (first | (go_at_call 44; refine (hi _).mono ?_; rintro e w' ⟨rfl, rfl⟩) | (go_at_call 45; refine (hf _).mono ?_; rintro e w' ⟨rfl, rfl⟩) | (go_at_call 46; refine hg.mono ?_; rintro e w' ⟨rfl, rfl⟩) | (go_at_call 47; refine (hll _).mono ?_; rintro e w' ⟨rfl, rfl⟩) | fail)
          go_ret2
          exact ⟨rfl, rfl⟩
      · rcases h4 with rfl | ⟨b, o, rfl, hS, hr⟩
        · simp at h5; omega
        have hlen : ((l.drop (p / 8)).take C).length = C := by rw [List.length_take, List.length_drop]; omega
        have hb : Bts S w (.slice (some ⟨b, o + p / 8, none⟩) C C) ((l.drop (p / 8)).take C) := by
          refine ⟨_, _, by rw [hlen], by rw [hlen]; exact Nat.le_refl _, .inr ⟨b, o + p / 8, rfl, hS, fun j u hu => ?_⟩⟩
          rw [List.map_take, List.getElem?_take] at hu
          split at hu
          · rw [List.map_drop, List.getElem?_drop] at hu
            have := hr (p / 8 + j) u hu
            rw [← Nat.add_assoc] at this; exact this
          · cases hu
        have hg := gather_any S _ _ (p % 8) (by rw [hlen]; omega) (Nat.mod_lt _ (by decide)) w hb
        rw [hlen, hpe] at hg
        generalize Gf.gat ((l.drop (p / 8)).take C) (p % 8) C = G at *
        generalize lowN s = L at *
        generalize Gf.num l / 2 ^ p % 2 ^ s = R at *
        clear hb hr hlen
        go_enter Try.func31, Try.ntmps31
        go_wp2_with (first | (go_at_call 44; refine (hi _).mono ?_; rintro e w' ⟨rfl, rfl⟩) | (go_at_call 45; refine (hf _).mono ?_; rintro e w' ⟨rfl, rfl⟩) | (go_at_call 46; refine hg.mono ?_; rintro e w' ⟨rfl, rfl⟩) | (go_at_call 47; refine (hll _).mono ?_; rintro e w' ⟨rfl, rfl⟩) | fail)
        go_ret2
        exact ⟨by rw [← HA.out]; rfl, rfl⟩
  · rw [show sizeB size = false from decide_eq_false h2] at hi
    have hE : Gf.rdE l.length at' size = 2 := if_pos (by omega)
    rw [show Gf.rdV l at' size = 0 from if_neg (by rw [hE]; decide), hE]
    obtain ⟨a, c, rfl, hc, h3⟩ := h
    clear hE h2
    go_enter Try.func31, Try.ntmps31
    go_wp2_with (first | (go_at_call 44; refine (hi _).mono ?_; rintro e w' ⟨rfl, rfl⟩) | fail)
    go_ret2
    exact ⟨rfl, rfl⟩
end Go.Proofs.Ytcppfoolhkcfaaa
