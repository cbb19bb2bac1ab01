/- The walks of gather and of Read, the program's and the reference's. -/
import Derived.Test.YtcjfaahlchbcmaaK06
import Derived.Test.YtcjfaahlchbcmaaK05
import Derived.Test.YtcjfaahlchbcmaaK01
import Derived.Test.YtcjfaahlchbcmaaK07
namespace Go.Proofs.Ytcjfaahlchbcmaa
open Go.RowKit Go.BigFrame
theorem or_shl (g x m : Nat) (hg : g < 18446744073709551616) : bits .or .u64 (g : Int) (IntKind.u64.wrap ((x : Int) * 2 ^ m)) = ((g ||| x * 2 ^ m % 2 ^ 64 : Nat) : Int) := by
  have e1 : (x : Int) * 2 ^ m = ((x * 2 ^ m : Nat) : Int) := by simp
  rw [e1, wrap_nat, u64_or_nat _ _ hg (Nat.mod_lt _ (by decide))]
theorem bit_u8 (x : UInt8) (r : Nat) : bits .and .u8 ((x.toNat : Int) / 2 ^ r) 1 = ((x.toNat / 2 ^ r % 2 : Nat) : Int) := by
  have hx : x.toNat < 256 := x.toNat_lt
  have e : ((x.toNat : Int) / 2 ^ r) = ((x.toNat / 2 ^ r : Nat) : Int) := by simp
  have h2 : x.toNat / 2 ^ r < 256 := Nat.lt_of_le_of_lt (Nat.div_le_self _ _) hx
  have := u8_and_nat (x.toNat / 2 ^ r) 1 h2 (by decide)
  rw [Nat.and_one_is_mod] at this
  rw [e]; exact this
theorem read_step (X k d : Nat) (hk : k < 64) (hd : d = X / 2 ^ k % 2) : bits .or .u64 ((X % 2 ^ k : Nat) : Int) (IntKind.u64.wrap ((d : Int) * 2 ^ k)) = ((X % 2 ^ (k + 1) : Nat) : Int) := by
  have h1 : X % 2 ^ k < 18446744073709551616 := Nat.lt_of_lt_of_le (Nat.mod_lt _ (Nat.two_pow_pos _)) (show 2 ^ k ≤ 2 ^ 64 from Nat.pow_le_pow_right (by decide) (by omega))
  rw [or_shl _ _ _ h1, ← Gf.mod_step X k, hd]
  have h2 : X / 2 ^ k % 2 * 2 ^ k < 2 ^ 64 := by
    have h3 : X / 2 ^ k % 2 ≤ 1 := by omega
    calc X / 2 ^ k % 2 * 2 ^ k ≤ 1 * 2 ^ k := Nat.mul_le_mul_right _ h3
      _ = 2 ^ k := Nat.one_mul _
      _ < 2 ^ 64 := Nat.pow_lt_pow_right (by decide) hk
  rw [Nat.mod_eq_of_lt h2]
theorem read_stepI (X p k : Nat) (x : UInt8) (hk : k < 64) (hd : x.toNat / 2 ^ ((p + k) % 8) % 2 = X / 2 ^ (p + k) % 2) :
    bits .or .u64 ((X : Int) / 2 ^ p % 2 ^ k) (IntKind.u64.wrap (IntKind.u64.wrap (bits .and .u8 ((x.toNat : Int) / 2 ^ ((p + k) % 8)) 1) * 2 ^ k)) = ((X / 2 ^ p % 2 ^ (k + 1) : Nat) : Int) := by
  have e : (X : Int) / 2 ^ p % 2 ^ k = ((X / 2 ^ p % 2 ^ k : Nat) : Int) := by simp
  rw [bit_u8, wrap_nat, Nat.mod_eq_of_lt (Nat.lt_trans (Nat.mod_lt _ (by decide)) (by decide)), e]
  exact read_step (X / 2 ^ p) k _ hk (by rw [hd, Nat.div_div_eq_div_mul, ← Nat.pow_add])
set_option maxHeartbeats 1000000 in
theorem refRead_any (S : Nat → Prop) (v : Value) (l : List UInt8) (at' size : Int) (hl : l.length ≤ 140737488355328) (w : World) (h : Bts S w v l) :
    Calls Try.prog 47 #[v, .int .i64 at', .int .i64 size] w fun e w' => e = .returned (.tuple #[.int .u64 ((Gf.rdV l at' size : Nat) : Int), .int .i64 (Gf.rdE l.length at' size)]) ∧ w' = w := by
  by_cases h1 : at' < 0 ∨ size < 0 ∨ 64 < size
  · have hE : Gf.rdE l.length at' size = 2 := if_pos h1
    rw [show Gf.rdV l at' size = 0 from if_neg (by rw [hE]; decide), hE]
    obtain ⟨a, c, rfl, hc, h3⟩ := h
    clear hE
    by_cases h2 : at' < 0
    · go_enter Try.func47, Try.ntmps47
      go_wp2_with fail
      go_ret2
      exact ⟨rfl, rfl⟩
    · by_cases h4 : size < 0
      · go_enter Try.func47, Try.ntmps47
        go_wp2_with fail
        go_ret2
        exact ⟨rfl, rfl⟩
      · have h5 : 64 < size := by omega
        clear h1
        go_enter Try.func47, Try.ntmps47
        go_wp2_with fail
        go_ret2
        exact ⟨rfl, rfl⟩
  · obtain ⟨p, rfl⟩ : ∃ p : Nat, at' = (p : Int) := ⟨at'.toNat, by omega⟩
    obtain ⟨s, rfl⟩ : ∃ s : Nat, size = (s : Int) := ⟨size.toNat, by omega⟩
    have hE : Gf.rdE l.length (p : Int) (s : Int) = if 8 * (l.length : Int) < (p : Int) + (s : Int) then 7 else 0 := by unfold Gf.rdE; rw [if_neg h1]
    have hs : s ≤ 64 := by omega
    have i1 : ¬ (p : Int) < 0 := by omega
    have i2 : ¬ (s : Int) < 0 := by omega
    have i3 : ¬ (64 : Int) < (s : Int) := by omega
    clear h1
    by_cases h3 : 8 * (l.length : Int) < (p : Int) + (s : Int)
    · rw [if_pos h3] at hE
      rw [show Gf.rdV l (p : Int) (s : Int) = 0 from if_neg (by rw [hE]; decide), hE]
      obtain ⟨a, c, rfl, hc, h4⟩ := h
      clear hE h4
      by_cases h4 : 8 * (l.length : Int) < (p : Int)
      · clear h3
        go_enter Try.func47, Try.ntmps47
        go_wp2_with fail
        go_ret2
        exact ⟨rfl, rfl⟩
      · have h5 : 8 * (l.length : Int) - (p : Int) < (s : Int) := by omega
        clear h3
        go_enter Try.func47, Try.ntmps47
        go_wp2_with fail
        go_ret2
        exact ⟨rfl, rfl⟩
    · rw [if_neg h3] at hE
      rw [show Gf.rdV l (p : Int) (s : Int) = Gf.num l / 2 ^ p % 2 ^ s from if_pos hE, hE]
      obtain ⟨a, c, rfl, hc, h4⟩ := h
      have hcl : ∀ k, k < l.length → ∃ b o, a = some ⟨b, o, none⟩ ∧ w.cell? ⟨b, o + k, none⟩ = some (.int .u8 ((l.getD k 0).toNat : Int)) := by
        intro k hk
        rcases h4 with rfl | ⟨b, o, rfl, _, hr⟩
        · simp at hk
        exact ⟨b, o, rfl, hr k _ (by simp [hk]; rfl)⟩
      have HCL := Box'.mk hcl
      have BIT := Box'.mk (Gf.bit_at l)
      have h5 : ¬ 8 * (l.length : Int) < (p : Int) := by omega
      have h6 : ¬ 8 * (l.length : Int) - (p : Int) < (s : Int) := by omega
      have h7 : p + s ≤ 8 * l.length := by omega
      generalize hn : l.length = n at *
      generalize hX : Gf.num l = X at *
      clear hE h3 hcl h4 hn hX
      go_enter Try.func47, Try.ntmps47
      go_wp2_with fail
      go_loop [8, 9] (fun t i => ∃ k : Nat, k ≤ s ∧ i = .int .i64 k ∧ t = .int .u64 ((X / 2 ^ p % 2 ^ k : Nat) : Int)) (fun _ i => s - (intOf i).toNat)
      case atStart => exact ⟨0, by omega, rfl, by rw [Nat.pow_zero, Nat.mod_one]; rfl⟩
      case round =>
        obtain ⟨k, hk, rfl, rfl⟩ := hrel
        by_cases hlt : k < s
        · obtain ⟨b, o, rfl, c1⟩ := HCL.out ((p + k) / 8) (by omega)
          have E := Box'.mk (BIT.out (p + k))
          have h8 : ((p : Int) + (k : Int)) / 8 < (n : Int) := by omega
          generalize l.getD ((p + k) / 8) 0 = x at *
          have hx := x.toNat_lt
          go_wp2_with fail
          exact ⟨⟨k + 1, by omega, by go_num, by rw [read_stepI X p k x (by omega) E.out]⟩, by simp [intOf]; omega⟩
        · have hkn : k = s := by omega
          subst hkn
          go_wp2_with fail
          go_ret2
          exact ⟨rfl, rfl⟩
theorem cdi_get (l : List Int) (k : Nat) (hk : k < l.length) : (cdi l).getD k 0 = (Gf.cod l k : Int) := by simp [cdi, hk]
theorem cdi_len (l : List Int) : (cdi l).length = l.length := by simp [cdi]
def sv (R : Nat × Nat × Int) : Value := .tuple #[.int .i64 (R.1 : Int), .int .i64 (R.2.1 : Int), .int .i64 R.2.2]
theorem bit_short {b : List UInt8} {p n : Nat} (h : 8 * (b.length : Int) < ((p + n : Nat) : Int) + 1) : Gf.rdE b.length ((p + n : Nat) : Int) 1 = 7 ∧ Gf.rdV b ((p + n : Nat) : Int) 1 = 0 ∧ Gf.bitAt b p n = none := by
  have e : Gf.rdE b.length ((p + n : Nat) : Int) 1 = 7 := by unfold Gf.rdE; rw [if_neg (by omega), if_pos h]
  refine ⟨e, ?_, ?_⟩
  · unfold Gf.rdV; rw [if_neg (by rw [e]; decide)]
  · unfold Gf.bitAt; rw [if_neg (by omega)]
theorem bit_there {b : List UInt8} {p n : Nat} (h : ¬ 8 * (b.length : Int) < ((p + n : Nat) : Int) + 1) : ∃ v, v < 2 ∧ Gf.rdE b.length ((p + n : Nat) : Int) 1 = 0 ∧ Gf.rdV b ((p + n : Nat) : Int) 1 = v ∧ Gf.bitAt b p n = some v := by
  have e : Gf.rdE b.length ((p + n : Nat) : Int) 1 = 0 := by unfold Gf.rdE; rw [if_neg (by omega), if_neg h]
  refine ⟨Gf.num b / 2 ^ (p + n) % 2, Nat.mod_lt _ (by decide), e, ?_, ?_⟩
  · unfold Gf.rdV; rw [if_pos e, Int.toNat_natCast]; rfl
  · unfold Gf.bitAt; rw [if_pos (by omega)]
theorem hitB_no {l : List Int} {n c k : Nat} (h : Gf.ln l k = 0 ∨ Gf.ln l k ≠ n ∨ Gf.cod l k ≠ c) : Gf.hitB l n c k = false := decide_eq_false fun hh => by omega
theorem liveB_no {l : List Int} {n c k : Nat} (h : Gf.ln l k ≤ n ∨ Gf.cod l k / 2 ^ (Gf.ln l k - n) ≠ c) : Gf.liveB l n c k = false := decide_eq_false fun hh => by
  rcases h with h | h
  · omega
  · exact h hh.2
set_option maxRecDepth 100000 in
set_option maxHeartbeats 4000000 in
theorem refSymbol_good (v vb : Value) (l : List Int) (b : List UInt8) (p : Nat) (hl : l.length ≤ 17592186044416) (hb : b.length ≤ 140737488355328) (hp : p ≤ 9223372036854775807) (h0 : Gf.chkE l = 0) (w : World) (h : Ints w.heap.size w v l) (hB : Bts (· < w.heap.size) w vb b) (R : Nat × Nat × Int) (hR : Gf.symF l (Gf.bitAt b p) 17 0 0 = R) :
    Calls Try.prog 67 #[v, vb, .int .i64 (p : Int)] w fun e w' => e = .returned (.tuple #[.int .i64 (R.1 : Int), .int .i64 (R.2.1 : Int), .int .i64 R.2.2]) ∧ Below w.heap.size w w' := by
  obtain ⟨hA, hW, h512⟩ := good_of h0
  have hck := refBad_any v l hl w h
  rw [h0] at hck
  have hhi := high_any v l hA hW h512 w h
  have hrd : ∀ {W : World} (q : Nat), Below w.heap.size w W → _ := fun {W} q hb' => refRead_any _ vb b (q : Int) 1 hb W (hB.below hb' fun _ h => h)
  have HRD := Box'.mk @hrd
  have LL : Box' (∀ n c, Gf.live l n c l.length = true → n < 15) := ⟨fun n c h => Gf.live_lt hA h⟩
  have LN : Box' (∀ k, l.getD k 0 = (Gf.ln l k : Int) ∧ Gf.ln l k ≤ 15) := ⟨fun k => ⟨(Gf.ln_le l hA k).2, (Gf.ln_le l hA k).1⟩⟩
  have CS := Box'.mk (cod_small l hA hW)
  have IG := Box'.mk (cdi_get l)
  have IL := Box'.mk (cdi_len l)
  have HS : Box' (∀ n c i, i < l.length → Gf.hitB l n c i = true → Gf.hit l n c = some i) := ⟨fun n c i hi hh => Gf.hit_some hA hi hh⟩
  have HN : Box' (∀ n c, (∀ i, i < l.length → Gf.hitB l n c i = false) → Gf.hit l n c = none) := ⟨fun n c hh => Gf.hit_none hh⟩
  have LS := Box'.mk (Gf.live_succ l)
  have HR := Box'.mk hR
  obtain ⟨a, c, rfl, hc, h3⟩ := h
  have HCL := Box'.mk (Ints.cells h3)
  obtain ⟨ab, cb, rfl, hcb, hb3⟩ := hB
  have SD : Box' (∀ f n c, Gf.hit l n c = none → Gf.live l n c l.length = false → Gf.symF l (Gf.bitAt b p) (f + 1) n c = (0, 0, 8)) := ⟨fun f n c h1 h2 => Gf.symF_dead h1 h2⟩
  have SS : Box' (∀ f n c, Gf.hit l n c = none → Gf.live l n c l.length = true → Gf.bitAt b p n = none → Gf.symF l (Gf.bitAt b p) (f + 1) n c = (0, 0, 7)) := ⟨fun f n c h1 h2 h3 => Gf.symF_short h1 h2 h3⟩
  have SO : Box' (∀ f n c v, Gf.hit l n c = none → Gf.live l n c l.length = true → Gf.bitAt b p n = some v → Gf.symF l (Gf.bitAt b p) (f + 1) n c = Gf.symF l (Gf.bitAt b p) f (n + 1) (2 * c + v)) := ⟨fun f n c v h1 h2 h3 => Gf.symF_on h1 h2 h3⟩
  generalize hN : l.length = N at *
  clear h3 hb3 hA hW hrd hR h0 hN
  go_enter Try.func67, Try.ntmps67
  go_wp2_with (go_at_call 52; refine hck.mono ?_; rintro e w' ⟨rfl, hw'⟩; rw [hw'])
  refine hhi.mono ?_
  rintro e w1 ⟨gh, rfl, hg, r1, b1⟩
  clear hhi hck
  go_wp2_with fail
  go_loopw [11, 12] (fun t j wr => ∃ n c : Nat, n ≤ 15 ∧ c < 2 ^ n ∧ p + n ≤ 9223372036854775807 ∧ j = .int .i64 (n : Int) ∧ t = .int .i64 (c : Int) ∧ Row wr gh 3 (ai (cdi l)) ∧ Below w.heap.size w wr ∧ Box' (R = Gf.symF l (Gf.bitAt b p) (17 - n) n c)) (fun _ j _ => 16 - (intOf j).toNat)
  case atStart => exact ⟨0, 0, by omega, by decide, by omega, rfl, rfl, r1, b1, ⟨HR.out.symm⟩⟩
  case round =>
    clear r1 b1 HR
    obtain ⟨n, q, hn, hq, hpn, rfl, rfl, r1, hbl, HR⟩ := hrel
    have hq15 : q < 32768 := Nat.lt_of_lt_of_le hq (show 2 ^ n ≤ 2 ^ 15 from Nat.pow_le_pow_right (by decide) hn)
    go_wp2_with fail
    go_loopw [13, 14] (fun t i wr => ∃ k : Nat, k ≤ N ∧ i = .int .i64 (k : Int) ∧ t = .bool (Gf.live l n q k) ∧ Row wr gh 3 (ai (cdi l)) ∧ Below w.heap.size w wr ∧ Box' (∀ i, i < k → Gf.hitB l n q i = false)) (fun _ i _ => N - (intOf i).toNat)
    case atStart => exact ⟨0, by omega, rfl, rfl, r1, hbl, ⟨fun i hi => absurd hi (Nat.not_lt_zero _)⟩⟩
    case round =>
      clear r1 hbl
      obtain ⟨k, hk, rfl, rfl, r1, hbl, HH⟩ := hrel
      have upH : Gf.hitB l n q k = false → Box' (∀ i, i < k + 1 → Gf.hitB l n q i = false) := fun h => ⟨fun i hi => by
        rcases Nat.lt_or_ge i k with h1 | h1
        · exact HH.out i h1
        · have : i = k := by omega
          subst this; exact h⟩
      have UPH := Box'.mk upH
      by_cases hlt : k < N
      · obtain ⟨b', o', rfl, hbw, c0⟩ := HCL.out k hlt
        obtain ⟨hx, hx15⟩ := LN.out k
        obtain ⟨hc0, -⟩ := bcell hbl
        rw [← hc0 _ _ hbw, hx] at c0
        have c1 := r1.int (k := k) (by rw [IL.out]; omega)
        rw [IG.out k hlt] at c1
        have hcs := CS.out k hlt
        have LSk := Box'.mk (LS.out n q k)
        have HSk := Box'.mk (HS.out n q k hlt)
        by_cases hz : Gf.ln l k = 0
        · have e1 := Box'.mk (hitB_no (l := l) (n := n) (c := q) (k := k) (.inl hz))
          have e2 := Box'.mk (liveB_no (l := l) (n := n) (c := q) (k := k) (.inl (by omega)))
          rw [hz] at c0
          clear LL LN CS IG IL HS HN LS HCL SD SS SO HRD hc0 hx c1 upH
          go_wp2_with fail
          go_quiet (fail)
          go_wp2_with fail
          exact ⟨⟨k + 1, by omega, by go_num, by rw [LSk.out, e2.out, Bool.or_false], r1.drewN nq, Below.drewN hbl nq, UPH.out e1.out⟩, by simp [intOf]; omega⟩
        · by_cases hlow : Gf.ln l k < n
          · have e1 := Box'.mk (hitB_no (l := l) (n := n) (c := q) (k := k) (.inr (.inl (by omega))))
            have e2 := Box'.mk (liveB_no (l := l) (n := n) (c := q) (k := k) (.inl (by omega)))
            have i0 : ((Gf.ln l k : Int) == 0) = false := by rw [beq_eq_false_iff_ne]; omega
            have i1 : (Gf.ln l k : Int) < (n : Int) := by omega
            generalize Gf.ln l k = s at *
            clear LL LN CS IG IL HS HN LS HCL SD SS SO HRD hc0 hx c1 upH
            go_wp2_with fail
            go_quiet (fail)
            go_wp2_with fail
            exact ⟨⟨k + 1, by omega, by go_num, by rw [LSk.out, e2.out, Bool.or_false], r1.drewN nq, Below.drewN hbl nq, UPH.out e1.out⟩, by simp [intOf]; omega⟩
          · have i0 : ((Gf.ln l k : Int) == 0) = false := by rw [beq_eq_false_iff_ne]; omega
            have i1 : ¬ (Gf.ln l k : Int) < (n : Int) := by omega
            have i2 : n ≤ Gf.ln l k := by omega
            have hd : ((Gf.cod l k : Int) / 2 ^ (Gf.ln l k - n)) = ((Gf.cod l k / 2 ^ (Gf.ln l k - n) : Nat) : Int) := by simp
            by_cases hne : Gf.cod l k / 2 ^ (Gf.ln l k - n) = q
            · have i3 : ((Gf.cod l k : Int) / 2 ^ (Gf.ln l k - n) != (q : Int)) = false := by rw [hd, hne]; simp
              by_cases heq : Gf.ln l k = n
              · have hhit : Gf.hitB l n q k = true := decide_eq_true ⟨heq, by omega, by rw [← hne, heq, Nat.sub_self, Nat.pow_zero, Nat.div_one]⟩
                have e5 : R = (k, n, 0) := by
                  rw [HR.out, show 17 - n = (16 - n) + 1 by omega]
                  exact Gf.symF_hit (HSk.out hhit)
                subst e5
                rw [heq] at c0 i0 i1 i3
                rw [Nat.sub_self] at i3
                generalize Gf.cod l k = x at *
                clear LL LN CS IG IL HS HN LS HCL SD SS SO HRD hc0 hx upH HSk hhit hd hne heq i2 hz hlow UPH HH HR LSk
                go_wp2_with fail
                go_quiet (fail)
                go_wp2_with fail
                go_ret3
                exact ⟨rfl, Below.drewN hbl nq⟩
              · have e1 := Box'.mk (hitB_no (l := l) (n := n) (c := q) (k := k) (.inr (.inl heq)))
                have e2 : Box' (Gf.liveB l n q k = true) := ⟨decide_eq_true ⟨by omega, hne⟩⟩
                have i4 : ((Gf.ln l k : Int) == (n : Int)) = false := by rw [beq_eq_false_iff_ne]; omega
                generalize Gf.cod l k = x at *
                generalize Gf.ln l k = s at *
                clear LL LN CS IG IL HS HN LS HCL SD SS SO HRD hc0 hx upH HSk hd hne
                go_wp2_with fail
                go_quiet (fail)
                go_wp2_with fail
                exact ⟨⟨k + 1, by omega, by go_num, by rw [LSk.out, e2.out, Bool.or_true], r1.drewN nq, Below.drewN hbl nq, UPH.out e1.out⟩, by simp [intOf]; omega⟩
            · have i3 : ((Gf.cod l k : Int) / 2 ^ (Gf.ln l k - n) != (q : Int)) = true := by rw [hd, bne_iff_ne]; omega
              have e1 : Gf.hitB l n q k = false := by
                by_cases heq : Gf.ln l k = n
                · refine hitB_no (.inr (.inr ?_))
                  rw [heq, Nat.sub_self, Nat.pow_zero, Nat.div_one] at hne; exact hne
                · exact hitB_no (.inr (.inl heq))
              have e1 := Box'.mk e1
              have e2 := Box'.mk (liveB_no (l := l) (n := n) (c := q) (k := k) (.inr hne))
              generalize Gf.cod l k = x at *
              generalize Gf.ln l k = s at *
              clear LL LN CS IG IL HS HN LS HCL SD SS SO HRD hc0 hx upH HSk hd hne
              go_wp2_with fail
              go_quiet (fail)
              go_wp2_with fail
              exact ⟨⟨k + 1, by omega, by go_num, by rw [LSk.out, e2.out, Bool.or_false], r1.drewN nq, Below.drewN hbl nq, UPH.out e1.out⟩, by simp [intOf]; omega⟩
      · obtain rfl : k = N := by omega
        have hnone := HN.out n q HH.out
        have hrd := HRD.out (p + n) hbl
        cases hlv : Gf.live l n q k with
        | false =>
          have e1 : R = (0, 0, 8) := by
            rw [HR.out, show 17 - n = (16 - n) + 1 by omega]
            exact SD.out _ _ _ hnone hlv
          subst e1
          clear LL LN CS IG IL HS HN LS HCL SD SS SO HRD upH UPH HH HR hlv hnone hrd
          go_wp2_with fail
          go_ret3
          exact ⟨rfl, hbl⟩
        | true =>
          have hn15 := LL.out n q hlv
          by_cases hsh : 8 * (b.length : Int) < ((p + n : Nat) : Int) + 1
          · obtain ⟨e1, e2, e3⟩ := bit_short hsh
            rw [e1, e2] at hrd
            have e4 : R = (0, 0, 7) := by
              rw [HR.out, show 17 - n = (16 - n) + 1 by omega]
              exact SS.out _ _ _ hnone hlv e3
            subst e4
            have hrd' : Calls Try.prog 47 #[.slice ab b.length cb, .int .i64 ((p : Int) + (n : Int)), .int .i64 1] wr _ := hrd
            have i9 : ¬ (p : Int) + (n : Int) < 0 := by omega
            clear LL LN CS IG IL HS HN LS HCL SD SS SO HRD upH UPH HH HR hlv hnone hrd e1 e2 e3
            go_wp2_with (go_at_call 47; refine hrd'.mono ?_; rintro e w' ⟨rfl, hw'⟩; rw [hw'])
            go_ret3
            exact ⟨rfl, hbl⟩
          · obtain ⟨v, hv, e1, e2, e3⟩ := bit_there hsh
            rw [e1, e2] at hrd
            have e4 : R = Gf.symF l (Gf.bitAt b p) (17 - (n + 1)) (n + 1) (2 * q + v) := by
              rw [HR.out, show 17 - n = (17 - (n + 1)) + 1 by omega]
              exact SO.out _ _ _ _ hnone hlv e3
            have e4 := Box'.mk e4
            have hrd' : Calls Try.prog 47 #[.slice ab b.length cb, .int .i64 ((p : Int) + (n : Int)), .int .i64 1] wr _ := hrd
            have i9 : ¬ (p : Int) + (n : Int) < 0 := by omega
            have hc2 : 2 * q + v < 2 ^ (n + 1) := by rw [Nat.pow_succ]; omega
            have hpn2 : p + (n + 1) ≤ 9223372036854775807 := by omega
            have HC2 := Box'.mk hc2
            clear LL LN CS IG IL HS HN LS HCL SD SS SO HRD upH UPH HH HR hlv hnone hrd e1 e2 e3 hc2
            go_wp2_with (go_at_call 47; refine hrd'.mono ?_; rintro e w' ⟨rfl, hw'⟩; rw [hw'])
            exact ⟨⟨n + 1, 2 * q + v, by omega, HC2.out, hpn2, by go_num, by go_num, r1, hbl, e4⟩, by simp [intOf]; omega⟩
set_option maxHeartbeats 1000000 in
theorem refSymbol_any (v vb : Value) (l : List Int) (b : List UInt8) (at' : Int) (hl : l.length ≤ 17592186044416) (hb : b.length ≤ 140737488355328) (hp : at' ≤ 9223372036854775807) (w : World) (h : Ints w.heap.size w v l) (hB : Bts (· < w.heap.size) w vb b) :
    Calls Try.prog 67 #[v, vb, .int .i64 at'] w fun e w' => e = .returned (sv (Gf.symR l b at')) ∧ Below w.heap.size w w' := by
  have hck := refBad_any v l hl w h
  by_cases h1 : at' < 0
  · rw [show Gf.symR l b at' = (0, 0, 2) from if_pos h1]
    obtain ⟨a, c, rfl, hc, h3⟩ := h
    obtain ⟨ab, cb, rfl, hcb, hb3⟩ := hB
    clear h3 hb3
    by_cases h2 : Gf.chkE l = 2
    · rw [h2] at hck
      clear h2
      go_enter Try.func67, Try.ntmps67
      go_wp2_with (go_at_call 52; refine hck.mono ?_; rintro e w' ⟨rfl, hw'⟩; rw [hw'])
      go_ret3
      exact ⟨rfl, Below.refl _ _⟩
    · have i0 : (Gf.chkE l == 2) = false := by rw [beq_eq_false_iff_ne]; exact h2
      generalize Gf.chkE l = E at *
      clear h2
      go_enter Try.func67, Try.ntmps67
      go_wp2_with (go_at_call 52; refine hck.mono ?_; rintro e w' ⟨rfl, hw'⟩; rw [hw'])
      go_ret3
      exact ⟨rfl, Below.refl _ _⟩
  · obtain ⟨p, rfl⟩ : ∃ p : Nat, at' = (p : Int) := ⟨at'.toNat, by omega⟩
    by_cases h0 : Gf.chkE l = 0
    · have hR : Gf.symR l b (p : Int) = Gf.symF l (Gf.bitAt b p) 17 0 0 := by unfold Gf.symR; rw [if_neg h1, if_pos h0, Int.toNat_natCast]
      rw [hR]
      exact refSymbol_good v vb l b p hl hb (by omega) h0 w h hB _ rfl
    · rw [show Gf.symR l b (p : Int) = (0, 0, Gf.chkE l) by unfold Gf.symR; rw [if_neg h1, if_neg h0]]
      obtain ⟨a, c, rfl, hc, h3⟩ := h
      obtain ⟨ab, cb, rfl, hcb, hb3⟩ := hB
      clear h3 hb3
      by_cases h2 : Gf.chkE l = 2
      · rw [h2] at hck ⊢
        clear h2 h0
        go_enter Try.func67, Try.ntmps67
        go_wp2_with (go_at_call 52; refine hck.mono ?_; rintro e w' ⟨rfl, hw'⟩; rw [hw'])
        go_ret3
        exact ⟨rfl, Below.refl _ _⟩
      · have i2 : (Gf.chkE l == 2) = false := by rw [beq_eq_false_iff_ne]; exact h2
        have i0 : (Gf.chkE l == 0) = false := by rw [beq_eq_false_iff_ne]; exact h0
        generalize Gf.chkE l = E at *
        clear h2 h0
        go_enter Try.func67, Try.ntmps67
        go_wp2_with (go_at_call 52; refine hck.mono ?_; rintro e w' ⟨rfl, hw'⟩; rw [hw'])
        go_ret3
        exact ⟨rfl, Below.refl _ _⟩
end Go.Proofs.Ytcjfaahlchbcmaa
