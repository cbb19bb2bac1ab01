/- The walk of HuffFree. -/
import Derived.Test.YtkabpnheipnnaaaH
namespace Go.Proofs.Ytkabpnheipnnaaa
open Go.RowKit Go.BigFrame

theorem Gf.rev_split (v d : Nat) : ∀ m, Gf.rev v (m + d) = Gf.rev v d * 2 ^ m + Gf.rev (v / 2 ^ d) m
  | 0 => by simp [Gf.rev]
  | m + 1 => by
    rw [show m + 1 + d = (m + d) + 1 by omega, Gf.rev, Gf.rev_split v d m, Gf.rev, Nat.pow_succ]
    have e : v / 2 ^ (m + d) = v / 2 ^ d / 2 ^ m := by rw [Nat.div_div_eq_div_mul, ← Nat.pow_add, Nat.add_comm]
    rw [e]
    generalize v / 2 ^ d / 2 ^ m % 2 = z
    generalize Gf.rev (v / 2 ^ d) m = y
    generalize Gf.rev v d = x
    rw [Nat.mul_add, Nat.mul_comm (2 ^ m) 2, ← Nat.mul_assoc, Nat.mul_comm 2 x, Nat.mul_assoc]
    omega
theorem Gf.rev_mod (v n m : Nat) (h : m ≤ n) : Gf.rev v n % 2 ^ m = Gf.rev (v / 2 ^ (n - m)) m := by
  have := Gf.rev_split v (n - m) m
  rw [show m + (n - m) = n by omega] at this
  rw [this, Nat.mul_comm, Nat.mul_add_mod, Nat.mod_eq_of_lt (Gf.rev_lt _ _)]
theorem Gf.rev_eq {a b n : Nat} (ha : a < 2 ^ n) (hb : b < 2 ^ n) (h : Gf.rev a n = Gf.rev b n) : a = b := by
  rw [← Gf.rev_rev a n ha, h, Gf.rev_rev b n hb]
theorem rev_free (l : List Int) (hA : l.all Gf.lenB = true) (hW : Gf.wgt l ≤ 32768) (i k : Nat) (hi : i < l.length) (hk : k < l.length) (hik : i ≠ k) (h0 : Gf.ln l i ≠ 0) (hl : Gf.ln l i ≤ Gf.ln l k) :
    Gf.rev (Gf.cod l k) (Gf.ln l k) % 2 ^ Gf.ln l i ≠ Gf.rev (Gf.cod l i) (Gf.ln l i) := by
  rw [Gf.rev_mod _ _ _ hl]
  intro he
  have h1 := Gf.cod_lt l hA hW k hk
  have h2 : Gf.cod l k / 2 ^ (Gf.ln l k - Gf.ln l i) < 2 ^ Gf.ln l i := by
    rw [Nat.div_lt_iff_lt_mul (Nat.two_pow_pos _), ← Nat.pow_add, show Gf.ln l i + (Gf.ln l k - Gf.ln l i) = Gf.ln l k by omega]; exact h1
  exact Gf.free l hA i k hi hk hik h0 hl (Gf.rev_eq h2 (Gf.cod_lt l hA hW i hi) he)

set_option maxRecDepth 100000 in
set_option maxHeartbeats 4000000 in
theorem free_any (v vb : Value) (l : List Int) (b : List UInt8) (hl : l.length ≤ 17592186044416) (hb : b.length ≤ 140737488355328) (w : World) (h : Ints w.heap.size w v l) (hB : Bts (· < w.heap.size) w vb b) :
    Calls Try.prog 7 #[v, vb] w fun e w' => e = .returned (.bool true) ∧ Below w.heap.size w w' := by
  have hc1 := codes_any v l hl w h
  have hw1 : ∀ {W : World}, Below w.heap.size w W → _ := fun {W} hb' => weight_any v l hl W (h.on hb')
  have HW1 := Box'.mk @hw1
  have hs1 : ∀ {W : World}, Below w.heap.size w W → _ := fun {W} hb' => symbol_any v vb l b 0 hl hb (by decide) W (h.on hb') ((hB.keep fun b hs => ⟨Nat.lt_of_lt_of_le hs hb'.size, hb'.block b hs⟩ : Bts (· < W.heap.size) W vb b))
  have HS1 := Box'.mk @hs1
  have ha := fun w => anchored_any w
  clear hw1 hs1
  by_cases h0 : Gf.chkE l = 0
  · obtain ⟨hA, hW, h512⟩ := good_of h0
    have wE : Gf.wgtE l = 0 := by unfold Gf.wgtE; rw [if_neg (by simp [hA]), if_neg (by omega)]
    have wN : Gf.wgtN l = Gf.wgt l := if_pos wE
    rw [h0] at hc1
    rw [wE, wN] at HW1
    have hco : ∀ W' u, Coded w W' l u → ∃ g, u = .slice (some ⟨g, 0, none⟩) l.length l.length ∧ w.heap.size ≤ g ∧ Row W' g 51 (agp (cds l l.length)) := fun W' u hh => by
      rcases hh with ⟨_, hh⟩ | ⟨hh, _⟩
      · exact hh
      · exact absurd h0 hh
    have HCO := Box'.mk hco
    have CF := Box'.mk (cds_full l)
    have CL := Box'.mk (cds_len l)
    have LN : Box' (∀ k, l.getD k 0 = (Gf.ln l k : Int) ∧ Gf.ln l k ≤ 15) := ⟨fun k => ⟨(Gf.ln_le l hA k).2, (Gf.ln_le l hA k).1⟩⟩
    have RF := Box'.mk (rev_free l hA hW)
    have RS := Box'.mk (rev_small l hA)
    have CP : Box' (∀ k, cdp l k = (Gf.rev (Gf.cod l k) (Gf.ln l k), l.getD k 0)) := ⟨fun _ => rfl⟩
    have WH : Box' (Gf.wgt l = 32768 → 2 ≤ b.length → ∃ i, i < l.length ∧ Gf.symR l b 0 = (i, Gf.ln l i, 0)) := ⟨fun hw hb2 => by
      have hR : Gf.symR l b 0 = Gf.symF l (Gf.bitAt b 0) 17 0 0 := by unfold Gf.symR; rw [if_neg (by decide), if_pos h0]; rfl
      rw [hR]
      exact Gf.whole hA hw (Gf.bitAt b 0) (fun n hn => ⟨_, Nat.mod_lt _ (by decide), if_pos (by omega)⟩) 17 0 0 rfl (by decide) (by decide) (Gf.hit_zero l 0) (Gf.np_zero l)⟩
    obtain ⟨a, c, rfl, hc, h3⟩ := h
    have HCL := Box'.mk (Ints.cells h3)
    obtain ⟨ab, cb, rfl, hcb, hb3⟩ := hB
    generalize hSR : Gf.symR l b 0 = SR at *
    generalize hwg : Gf.wgt l = WG at *
    generalize hnb : b.length = nb at *
    generalize hn : l.length = n at *
    clear h3 hb3 hA hW h0 wE wN hco hSR hwg hnb hn
    go_enter Try.func7, Try.ntmps7
    go_wp2_with fail
    refine hc1.mono ?_
    rintro e w1 ⟨u1, rfl, p1, b1⟩
    obtain ⟨g, rfl, hg, r1⟩ := HCO.out _ _ p1
    have hw1 := HW1.out b1
    clear p1 HCO hc1 HW1
    go_wp2_with (go_at_call 10; refine hw1.mono ?_; rintro e w' ⟨rfl, hw'⟩; rw [hw'])
    clear hw1
    go_loopw [9] (fun i wr => ∃ k : Nat, k ≤ n ∧ i = .int .i64 (k : Int) ∧ Row wr g 51 (agp (cds l n)) ∧ Below w.heap.size w wr) (fun i _ => n - (intOf i).toNat)
    case atStart => exact ⟨0, by omega, rfl, r1, b1⟩
    case round =>
      clear r1 b1
      obtain ⟨i, hi, rfl, r1, hbl⟩ := hrel
      by_cases hlt : i < n
      · go_wp2_with fail
        go_loopw [10] (fun j wr => ∃ k : Nat, k ≤ n ∧ j = .int .i64 (k : Int) ∧ Row wr g 51 (agp (cds l n)) ∧ Below w.heap.size w wr) (fun j _ => n - (intOf j).toNat)
        case atStart => exact ⟨0, by omega, rfl, r1, hbl⟩
        case round =>
          clear r1 hbl
          obtain ⟨k, hk, rfl, r1, hbl⟩ := hrel
          by_cases hlk : k < n
          · by_cases hik : i = k
            · subst hik
              clear HS1 CF CL LN RF RS CP WH HCL
              go_wp2_with fail
              go_quiet (fail)
              go_wp2_with fail
              exact ⟨⟨i + 1, by omega, by go_num, r1.drewN nq, Below.drewN hbl nq⟩, by simp [intOf]; omega⟩
            · have p0 := r1.pr0 (k := i) (by rw [CL.out]; omega)
              have p1 := r1.pr1 (k := i) (by rw [CL.out]; omega)
              have q0 := r1.pr0 (k := k) (by rw [CL.out]; omega)
              have q1 := r1.pr1 (k := k) (by rw [CL.out]; omega)
              rw [CF.out i hlt, CP.out] at p0 p1
              rw [CF.out k hlk, CP.out] at q0 q1
              obtain ⟨hxi, hi15⟩ := LN.out i
              obtain ⟨hxk, hk15⟩ := LN.out k
              rw [hxi] at p1
              rw [hxk] at q1
              simp only at p0 p1 q0 q1
              have ik0 : ((i : Int) == (k : Int)) = false := by rw [beq_eq_false_iff_ne]; omega
              have ik1 : ((i : Int) != (k : Int)) = true := by rw [bne_iff_ne]; omega
              by_cases hz : Gf.ln l i = 0
              · rw [hz] at p1
                clear HS1 CF CL LN RF RS CP WH HCL hxi hxk p0 q0 q1
                go_wp2_with fail
                go_quiet (fail)
                go_wp2_with fail
                exact ⟨⟨k + 1, by omega, by go_num, r1.drewN nq, Below.drewN hbl nq⟩, by simp [intOf]; omega⟩
              · by_cases hle : Gf.ln l i ≤ Gf.ln l k
                · have RFk := RF.out i k hlt hlk hik hz hle
                  have hy1 := RS.out i
                  have hy2 := RS.out k
                  have i0 : (0 : Int) < (Gf.ln l i : Int) := by omega
                  have i1 : (Gf.ln l i : Int) ≤ (Gf.ln l k : Int) := by omega
                  have i2 : 0 < Gf.ln l i := by omega
                  generalize Gf.rev (Gf.cod l i) (Gf.ln l i) = x at *
                  generalize Gf.rev (Gf.cod l k) (Gf.ln l k) = y at *
                  generalize Gf.ln l i = s at *
                  generalize Gf.ln l k = t at *
                  have hbf : (bits .and .u64 (y : Int) (IntKind.u64.wrap (IntKind.u64.wrap (2 ^ s) - 1)) == (x : Int)) = false := by
                    rw [low_int s (by omega), and_low y s (by omega) (by omega), beq_eq_false_iff_ne]
                    omega
                  clear HS1 CF CL LN RF RS CP WH HCL hxi hxk RFk
                  go_wp2_with fail
                  go_quiet (fail)
                  go_wp2_with fail
                  exact ⟨⟨k + 1, by omega, by go_num, r1.drewN nq, Below.drewN hbl nq⟩, by simp [intOf]; omega⟩
                · have i0 : (0 : Int) < (Gf.ln l i : Int) := by omega
                  have i1 : ¬ (Gf.ln l i : Int) ≤ (Gf.ln l k : Int) := by omega
                  have i2 : 0 < Gf.ln l i := by omega
                  generalize Gf.ln l i = s at *
                  generalize Gf.ln l k = t at *
                  clear HS1 CF CL LN RF RS CP WH HCL hxi hxk
                  go_wp2_with fail
                  go_quiet (fail)
                  go_wp2_with fail
                  exact ⟨⟨k + 1, by omega, by go_num, r1.drewN nq, Below.drewN hbl nq⟩, by simp [intOf]; omega⟩
          · obtain rfl : k = n := by omega
            clear HS1 CF CL LN RF RS CP WH HCL
            go_wp2_with fail
            exact ⟨⟨i + 1, by omega, by go_num, r1, hbl⟩, by simp [intOf]; omega⟩
      · obtain rfl : i = n := by omega
        have hsy := HS1.out hbl
        clear HS1 CF CL RF RS CP
        unfold sv at hsy
        go_wp2_with fail
        refine hsy.mono ?_
        rintro e w2 ⟨rfl, b2⟩
        have bl2 := hbl.trans (b2.mono hbl.size)
        clear b2 hbl r1 hsy
        by_cases hw5 : WG = 32768
        · by_cases hb5 : 2 ≤ nb
          · obtain ⟨j, hj, rfl⟩ := WH.out hw5 hb5
            subst hw5
            obtain ⟨b', o', rfl, hbw, c0⟩ := HCL.out j hj
            obtain ⟨hx, hx15⟩ := LN.out j
            obtain ⟨hc0, -⟩ := bcell bl2
            rw [← hc0 _ _ hbw, hx] at c0
            have i2 : (2 : Int) ≤ (nb : Int) := by omega
            have i3 : ¬ (j : Int) < 0 := by omega
            have i4 : ¬ (i : Int) ≤ (j : Int) := by omega
            clear HCL LN WH hc0 hx
            go_wp2_with (first | (go_at_call 15; refine (ha _).mono ?_; rintro e w3 ⟨rfl, hb3⟩) | fail)
            go_ret
            exact ⟨rfl, bl2.trans (hb3.mono bl2.size)⟩
          · subst hw5
            have i2 : ¬ (2 : Int) ≤ (nb : Int) := by omega
            clear HCL LN WH
            go_wp2_with (first | (go_at_call 15; refine (ha _).mono ?_; rintro e w3 ⟨rfl, hb3⟩) | fail)
            go_ret
            exact ⟨rfl, bl2.trans (hb3.mono bl2.size)⟩
        · have i1 : ((WG : Int) == 32768) = false := by rw [beq_eq_false_iff_ne]; omega
          clear HCL LN WH
          go_wp2_with (first | (go_at_call 15; refine (ha _).mono ?_; rintro e w3 ⟨rfl, hb3⟩) | fail)
          go_ret
          exact ⟨rfl, bl2.trans (hb3.mono bl2.size)⟩
  · have hco : ∀ W' u, Coded w W' l u → u = .slice none 0 0 := fun W' u hh => by
      rcases hh with ⟨hh, _⟩ | ⟨_, hh⟩
      · exact absurd hh h0
      · exact hh
    have HCO := Box'.mk hco
    have i0 : (Gf.chkE l == 0) = false := by rw [beq_eq_false_iff_ne]; exact h0
    obtain ⟨a, c, rfl, hc, h3⟩ := h
    obtain ⟨ab, cb, rfl, hcb, hb3⟩ := hB
    generalize Gf.chkE l = E at *
    clear h3 hb3 hco h0 HS1
    go_enter Try.func7, Try.ntmps7
    go_wp2_with fail
    refine hc1.mono ?_
    rintro e w1 ⟨u1, rfl, p1, b1⟩
    obtain rfl := HCO.out _ _ p1
    have hw1 := HW1.out b1
    clear p1 HCO hc1 HW1
    go_wp2_with (first | (go_at_call 10; refine hw1.mono ?_; rintro e w' ⟨rfl, hw'⟩; rw [hw']) | (go_at_call 15; refine (ha _).mono ?_; rintro e w3 ⟨rfl, hb3⟩) | fail)
    go_ret
    exact ⟨rfl, b1.trans (hb3.mono b1.size)⟩
end Go.Proofs.Ytkabpnheipnnaaa
