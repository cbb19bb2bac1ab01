/- The walks of appendNumber and Uint. The walks of numberSize, isForm and ReadUint. -/
import Derived.Test.YtpgljhgfoihnjaaC
import Derived.Test.YtpgljhgfoihnjaaU
import Derived.Test.YtpgljhgfoihnjaaO
namespace Go.Proofs.Ytpgljhgfoihnjaa
open Go.RowKit Go.BigFrame
set_option maxRecDepth 100000

theorem cut7 (m : Nat) (hm : m < 18446744073709551616) : bits .or .u8 (bits .and .u64 (m : Int) 127 % 256) 128 = (((UInt8.ofNat (m % 128 + 128)).toNat : Nat) : Int) := by
  rw [show (127 : Int) = ((127 : Nat) : Int) from rfl, u64_and_nat _ _ hm (by decide), show ((m &&& 127 : Nat) : Int) % 256 = ((m % 128 : Nat) : Int) by rw [show (127 : Nat) = 2 ^ 7 - 1 from rfl, Nat.and_two_pow_sub_one_eq_mod]; omega, show (128 : Int) = ((128 : Nat) : Int) from rfl, u8_or_nat _ _ (by omega) (by decide), ofNat_toNat (by omega)]
  congr 1
  have := Nat.two_pow_add_eq_or_of_lt (i := 7) (b := m % 128) (by omega) 1
  rw [Nat.or_comm, show (128 : Nat) = 2 ^ 7 * 1 from rfl, ← this]
  omega
set_option maxRecDepth 100000 in
set_option maxHeartbeats 2000000 in
theorem appNum_any (N : Nat) (w : World) (v : Value) (d : List UInt8) (n : Nat) (hn : n < 18446744073709551616) (hN : N ≤ w.heap.size) (ho : OwnB N w v d) (hd : d.length ≤ 1000000) :
    Calls Try.prog 49 #[v, .int .u64 (n : Int)] w fun e w' => ∃ v', e = .returned v' ∧ OwnB N w' v' (d ++ uf n) ∧ Fr N w w' := by
  obtain ⟨D, hD⟩ : ∃ D, D = d ++ uf n := ⟨_, rfl⟩
  have HD : Box' (d ++ uf n = D ∧ D.length ≤ 1000010) := ⟨hD.symm, by rw [hD, List.length_append]; have := uf_len64 hn; omega⟩
  rw [← hD]
  have HO := Box'.mk ho
  clear hD ho
  obtain ⟨a0, c0, rfl⟩ := HO.out.slice
  generalize d.length = L0 at *
  go_enter Try.func49, Try.ntmps49
  go_wp2_with fail
  go_loopw [0, 1] (fun u nv wr => ∃ (m : Nat) (d' : List UInt8), nv = .int .u64 (m : Int) ∧ m < 18446744073709551616 ∧ Box' (OwnB N wr u d') ∧ Box' (d' ++ uf m = D ∧ D.length ≤ 1000010) ∧ Fr N w wr) (fun _ nv _ => (intOf nv).toNat)
  case atStart => exact ⟨n, d, rfl, hn, HO, HD, Fr.refl _ _⟩
  case round =>
    clear HO HD
    obtain ⟨m, d', rfl, hm, HO, HD, hf⟩ := hrel
    obtain ⟨a1, c1, rfl⟩ := HO.out.slice
    have CU := Box'.mk (cut7 m hm)
    have hwN : N ≤ wr.heap.size := by have := hf.size; omega
    have HDL : Box' (d'.length + 1 ≤ 140737488355328) := ⟨by have h1 := HD.out.1; have h2 := HD.out.2; rw [← h1, List.length_append] at h2; omega⟩
    by_cases hlt : m < 128
    · have E : Box' (∀ x : UInt8, x = UInt8.ofNat m → d' ++ [x] = D) := ⟨fun x hx => by rw [← HD.out.1, uf_small hlt, hx]⟩
      have EB : Box' ((m : Int) % 256 = (((UInt8.ofNat m).toNat : Nat) : Int)) := ⟨by rw [ofNat_toNat (by omega)]; omega⟩
      have EC : Box' ((m : Int) = (((UInt8.ofNat m).toNat : Nat) : Int)) := ⟨by rw [ofNat_toNat (by omega)]⟩
      generalize UInt8.ofNat m = x at *
      have hn2 : ¬ (127 < m) := by omega
      clear CU
      go_wp2_with (refine wpList_app rfl (.tmp 16) (.tmp 19) rfl N _ (Nat.le_trans hwN (by simp)) _ d' rfl (HO.out.alloc _) _ [x] rfl (by first | (rw [EB.out]; exact one_in wr x) | (rw [EC.out]; exact one_in wr x)) HDL.out ?_; intro v2 w2 o2 f2)
      have F2 : Fr N w w2 := (hf.alloc _).trans f2
      have e := E.out x rfl
      rw [e] at o2
      go_wp2_with fail
      go_ret
      exact ⟨_, rfl, o2, F2⟩
    · have hgt : 127 < m := by omega
      have E : Box' (d' ++ [UInt8.ofNat (m % 128 + 128)] ++ uf (m / 128) = D ∧ D.length ≤ 1000010) := ⟨by rw [← HD.out.1, uf_big hlt, List.append_assoc]; rfl, HD.out.2⟩
      generalize UInt8.ofNat (m % 128 + 128) = x at *
      go_wp2_with (refine wpList_app rfl (.tmp 9) (.tmp 14) rfl N _ (Nat.le_trans hwN (by simp)) _ d' rfl (HO.out.alloc _) _ [x] rfl (by rw [CU.out]; exact one_in wr x) HDL.out ?_; intro v2 w2 o2 f2)
      have F2 : Fr N w w2 := (hf.alloc _).trans f2
      refine ⟨⟨m / 128, _, ?_, by omega, ⟨o2⟩, E, F2⟩, ?_⟩
      · congr 1
      · simp [intOf]; omega

set_option maxRecDepth 100000 in
set_option maxHeartbeats 2000000 in
theorem uint_any (n : Nat) (hn : n < 18446744073709551616) (w : World) : Calls Try.prog 36 #[.int .u64 (n : Int)] w fun e w' => ∃ v', e = .returned v' ∧ OwnB w.heap.size w' v' (uf n) ∧ Below w.heap.size w w' := by
  have h := appNum_any w.heap.size w (.slice none 0 0) [] n hn (Nat.le_refl _) (OwnB.nil _ _) (by simp)
  rw [List.nil_append] at h
  go_enter Try.func36, Try.ntmps36
  go_wp2_with fail
  refine h.mono ?_
  rintro e w1 ⟨v1, rfl, o1, f1⟩
  clear h
  go_wp2_with fail
  go_ret
  exact ⟨_, rfl, o1, f1.below (Nat.le_refl _)⟩
end Go.Proofs.Ytpgljhgfoihnjaa
namespace Go.Proofs.Ytpgljhgfoihnjaa
open Go.RowKit Go.BigFrame
set_option maxRecDepth 100000

set_option maxRecDepth 100000 in
set_option maxHeartbeats 2000000 in
theorem numSize_any (N : Nat) (w : World) (v : Value) (b : List UInt8) (h : InB N w v b) (hb : b.length ≤ 140737488355328) :
    Calls Try.prog 63 #[v] w fun e w' => e = .returned (.int .i64 (szF b : Int)) ∧ w' = w := by
  have hcl : ∀ k, k < b.length → ∃ g o c, v = .slice (some ⟨g, o, none⟩) b.length c ∧ w.cell? ⟨g, o + k, none⟩ = some (.int .u8 ((b.getD k 0).toNat : Int)) := by
    intro k hk
    obtain ⟨g, o, c, h1, _, h3⟩ := h.cell hk
    exact ⟨g, o, c, h1, h3 k hk⟩
  obtain ⟨a, c, rfl, hc⟩ := h.slice
  have HC := Box'.mk hcl
  have GE : Box' (∀ k, Gon b k → k = b.length → k ≤ 9 → szF b = 0) := ⟨fun k h1 h2 h3 => by rw [h1.sz h3, h2, szG_end]⟩
  have GS : Box' (∀ k, Gon b k → k < b.length → k ≤ 9 → (((b.getD k 0).toNat < 128 ∨ k = 9) → szF b = k + 1) ∧ (¬ ((b.getD k 0).toNat < 128 ∨ k = 9) → Gon b (k + 1))) := ⟨fun k h1 h2 h3 => ⟨fun h4 => by rw [h1.sz h3, szG_step b k h2, if_pos h4], fun h4 => h1.step h2 (by omega)⟩⟩
  have G0 : Gon b 0 := ⟨Nat.zero_le _, fun j hj => by omega⟩
  clear hcl h
  generalize hn : b.length = n at *
  generalize szF b = R at *
  go_enter Try.func63, Try.ntmps63
  go_wp2_with fail
  go_loopw [7] (fun i wr => ∃ k : Nat, i = .int .i64 (k : Int) ∧ k ≤ n ∧ k ≤ 9 ∧ Box' (Gon b k) ∧ wr = w) (fun i _ => n - (intOf i).toNat)
  case atStart => exact ⟨0, rfl, by omega, by omega, ⟨G0⟩, rfl⟩
  case round =>
    obtain ⟨k, rfl, hk, h9, HG, rfl⟩ := hrel
    clear G0
    by_cases hlt : k < n
    · obtain ⟨g, o, c', he, c0⟩ := HC.out k hlt
      injection he with he _ he2
      subst he he2
      obtain ⟨s1, s2⟩ := GS.out k HG.out hlt h9
      have S1 := Box'.mk s1
      have S2 := Box'.mk s2
      clear s1 s2
      generalize hx : b.getD k 0 = x at *
      clear hx
      by_cases hs : x.toNat < 128
      · have e := S1.out (.inl hs)
        subst e
        clear S1 S2 GE GS HC HG
        go_wp2_with fail
        go_ret
        exact ⟨by go_num, rfl⟩
      · by_cases h99 : k = 9
        · subst h99
          have e := S1.out (.inr rfl)
          subst e
          clear S1 S2 GE GS HC HG
          go_wp2_with fail
          go_ret
          exact ⟨by go_num, rfl⟩
        · have hg := Box'.mk (S2.out (by omega))
          have h99' : ((k : Int) == 9) = false := by rw [beq_eq_false_iff_ne]; omega
          clear S1 S2 GE GS HC HG
          go_wp2_with fail
          exact ⟨⟨k + 1, by go_num, by omega, by omega, hg, trivial⟩, by simp [intOf]; omega⟩
    · obtain rfl : k = n := by omega
      have e := GE.out k HG.out rfl h9
      subst e
      clear GE GS HC HG
      go_wp2_with fail
      go_ret
      exact ⟨rfl, rfl⟩

set_option maxRecDepth 100000 in
set_option maxHeartbeats 2000000 in
theorem isForm_any (w : World) (g o n c : Nat) (x : UInt8) (hn : n < 10) (hc : w.cell? ⟨g, o + n, none⟩ = some (.int .u8 (x.toNat : Int))) :
    Calls Try.prog 64 #[.slice (some ⟨g, o, none⟩) (n + 1) c] w fun e w' => e = .returned (.bool (isF (n + 1) x)) ∧ w' = w := by
  have hx := x.toNat_lt
  unfold isF
  by_cases h1 : n = 9
  · subst h1
    by_cases h2 : 1 < x.toNat
    · simp [h2]
      go_enter Try.func64, Try.ntmps64
      go_wp2_with fail
      go_ret
      exact ⟨rfl, rfl⟩
    · simp [h2]
      go_enter Try.func64, Try.ntmps64
      go_wp2_with fail
      go_ret
      exact ⟨by simp, rfl⟩
  · have h1' : ((n : Int) + 1 == 10) = false := by rw [beq_eq_false_iff_ne]; omega
    by_cases h3 : n = 0
    · subst h3
      simp
      rw [Nat.add_zero] at hc
      clear h1' h1
      go_enter Try.func64, Try.ntmps64
      go_wp2_with fail
      go_ret
      exact ⟨rfl, rfl⟩
    · have h3' : ((n : Int) + 1 == 1) = false := by rw [beq_eq_false_iff_ne]; omega
      simp [h1, h3]
      go_enter Try.func64, Try.ntmps64
      go_wp2_with fail
      go_ret
      exact ⟨by simp, rfl⟩

theorem or_shift (X d k : Nat) (hX : X < 128 ^ k) (hk : k ≤ 9) (hd : d < 128) : X ||| (d * 2 ^ (k * 7) % 18446744073709551616) = (X + 128 ^ k * d) % 18446744073709551616 := by
  have e : (128 : Nat) ^ k = 2 ^ (k * 7) := by rw [Nat.mul_comm, Nat.pow_mul]
  rw [e] at hX ⊢
  by_cases h9 : k = 9
  · subst h9
    have h1 : d * 2 ^ (9 * 7) % 18446744073709551616 = 2 ^ 63 * (d % 2) := by omega
    have h2 : (X + 2 ^ (9 * 7) * d) % 18446744073709551616 = 2 ^ 63 * (d % 2) + X := by omega
    rw [h1, h2, Nat.or_comm, Nat.two_pow_add_eq_or_of_lt (i := 63) (by omega)]
  · have hp : 2 ^ (k * 7) ≤ 2 ^ 56 := Nat.pow_le_pow_right (by decide) (by omega)
    have hm : 2 ^ (k * 7) * d ≤ 2 ^ 56 * 127 := Nat.mul_le_mul hp (by omega)
    rw [Nat.mul_comm d, Nat.mod_eq_of_lt (by omega), Nat.mod_eq_of_lt (by omega), Nat.add_comm, Nat.or_comm, Nat.two_pow_add_eq_or_of_lt hX]
/-- A digit more. -/
theorem or_digit (X d k : Nat) (hX : X < 128 ^ k) (hk : k ≤ 9) (hd : d < 128) : bits .or .u64 (X : Int) (IntKind.u64.wrap ((d : Int) * 2 ^ (k * 7))) = (((X + 128 ^ k * d) % 18446744073709551616 : Nat) : Int) := by
  have h1 : (128 : Nat) ^ k ≤ 128 ^ 9 := Nat.pow_le_pow_right (by decide) hk
  rw [IntKind.wrap_u64, show (d : Int) * 2 ^ (k * 7) % 18446744073709551616 = ((d * 2 ^ (k * 7) % 18446744073709551616 : Nat) : Int) by simp, u64_or_nat _ _ (by omega) (by omega), or_shift X d k hX hk hd]
theorem or_digit_p (X k : Nat) (y : UInt8) (hX : X < 128 ^ k) (hk : k ≤ 9) : bits .or .u64 (X : Int) (IntKind.u64.wrap (IntKind.u64.wrap (bits .and .u8 (y.toNat : Int) 127) * 2 ^ (k * 7))) = (((X + 128 ^ k * (y.toNat % 128)) % 18446744073709551616 : Nat) : Int) := by
  have hy := y.toNat_lt
  have e : IntKind.u64.wrap (bits .and .u8 (y.toNat : Int) 127) = ((y.toNat % 128 : Nat) : Int) := by
    rw [show (127 : Int) = ((127 : Nat) : Int) from rfl, u8_and_nat _ _ (by omega) (by decide), show (127 : Nat) = 2 ^ 7 - 1 from rfl, Nat.and_two_pow_sub_one_eq_mod, IntKind.wrap_u64]
    omega
  rw [e, or_digit X _ k hX hk (by omega)]

set_option maxRecDepth 100000 in
set_option maxHeartbeats 2000000 in
theorem readUint_any (N : Nat) (w : World) (v : Value) (b : List UInt8) (h : InB N w v b) (hb : b.length ≤ 140737488355328) :
    Calls Try.prog 59 #[v] w fun e w' => e = .returned (.tuple #[.int .u64 ((rdU b).1 : Int), .int .i64 ((rdU b).2.1 : Int), .int .i64 (rdU b).2.2]) ∧ w' = w := by
  have hns := numSize_any N w v b h hb
  by_cases h0 : szF b = 0
  · rw [rdU_none h0]
    rw [h0] at hns
    obtain ⟨a, c, rfl, hc⟩ := h.slice
    clear h
    go_enter Try.func59, Try.ntmps59
    go_wp2_with fail
    refine hns.mono ?_
    rintro e w1 ⟨rfl, rfl⟩
    clear hns
    go_wp2_with fail
    go_ret3
    exact ⟨rfl, rfl⟩
  · obtain ⟨m, hs, hm, h9, hg, hl⟩ := szF_spec h0
    have HR := Box'.mk (rdU_at hm h9 hg hl)
    generalize rdU b = R at *
    rw [hs] at hns
    obtain ⟨g, o, c, rfl, hgN, hcl⟩ := h.cell hm
    have hif := isForm_any w g o m c (b.getD m 0) (by omega) (hcl m hm)
    have hcb : b.length ≤ c := by obtain ⟨a', c', e, h'⟩ := h.slice; injection e with _ _ e; omega
    have HN : Box' (∀ k, k ≤ m + 1 → nf (b.take k) < 128 ^ k) := ⟨fun k hk => nf_take_lt (by omega)⟩
    have hmc : m + 1 ≤ c := by omega
    have HT : Box' (∀ k, k ≤ m → nf (b.take (k + 1)) = nf (b.take k) + 128 ^ k * ((b.getD k 0).toNat % 128)) := ⟨fun k hk => nf_take (by omega)⟩
    have HL := Box'.mk (fun k (hk : k ≤ m) => hcl k (by omega))
    have HS : Box' (∀ k, k ≤ m → isF (m + 1) (b.getD m 0) = true → k = 9 → (b.getD k 0).toNat % 128 ≤ 1) := ⟨by
      rintro k hk hi rfl
      obtain rfl : m = 9 := by omega
      unfold isF at hi
      simp at hi
      simp
      omega⟩
    clear hcl hg hl h hs h0
    generalize hF : isF (m + 1) (b.getD m 0) = F at *
    clear hF
    go_enter Try.func59, Try.ntmps59
    go_wp2_with fail
    refine hns.mono ?_
    rintro e w1 ⟨rfl, rfl⟩
    clear hns
    generalize b.length = n at *
    go_wp2_with fail
    refine hif.mono ?_
    rintro e w1 ⟨rfl, rfl⟩
    clear hif
    cases F with
    | false =>
      clear HN HT HL HS
      have e := HR.out
      rw [if_neg (by decide)] at e
      subst e
      clear HR
      go_wp2_with fail
      go_ret3
      exact ⟨rfl, rfl⟩
    | true =>
      have HRE : Box' (R = (nf (b.take (m + 1)), m + 1, 0)) := ⟨by rw [HR.out, if_pos rfl]⟩
      clear HR
      go_wp2_with fail
      go_loopw [2, 20] (fun x i wr => ∃ k : Nat, i = .int .i64 (k : Int) ∧ k ≤ m + 1 ∧ x = .int .u64 ((nf (b.take k) : Nat) : Int) ∧ wr = w1) (fun _ i _ => m + 1 - (intOf i).toNat)
      case atStart => exact ⟨0, rfl, by omega, by simp [nf], rfl⟩
      case round =>
        obtain ⟨k, rfl, hk, rfl, rfl⟩ := hrel
        have hx := HN.out k hk
        by_cases hlt : k < m + 1
        · have c0 := HL.out k (by omega)
          have ht := Box'.mk (HT.out k (by omega))
          have hs := HS.out k (by omega) trivial
          generalize nf (b.take k) = X at *
          obtain ⟨Y, hYe⟩ : ∃ Y, Box' (nf (b.take (k + 1)) = Y) := ⟨_, ⟨rfl⟩⟩
          rw [hYe.out] at ht
          generalize b.getD k 0 = y at *
          have OD := Box'.mk (or_digit_p X k y hx (by omega))
          have hY : (X + 128 ^ k * (y.toNat % 128)) % 18446744073709551616 = X + 128 ^ k * (y.toNat % 128) := by
            apply Nat.mod_eq_of_lt
            have hd : y.toNat % 128 < 128 := by omega
            generalize y.toNat % 128 = dd at *
            by_cases h9' : k = 9
            · subst h9'
              have := hs rfl
              omega
            · have h2 : (128 : Nat) ^ k ≤ 128 ^ 8 := Nat.pow_le_pow_right (by decide) (by omega)
              have hm2 : 128 ^ k * dd ≤ 128 ^ 8 * 127 := Nat.mul_le_mul h2 (by omega)
              omega
          have HY := Box'.mk hY
          clear hY hs
          go_wp2_with fail
          refine ⟨⟨k + 1, by go_num, by omega, ?_, trivial⟩, by simp [intOf]; omega⟩
          rw [OD.out, HY.out, ← ht.out, hYe.out]
        · obtain rfl : k = m + 1 := by omega
          have e := HRE.out
          subst e
          clear HRE HN HT HL HS
          go_wp2_with fail
          go_ret3
          exact ⟨rfl, rfl⟩
end Go.Proofs.Ytpgljhgfoihnjaa
