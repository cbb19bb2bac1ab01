/- The walks of the reference's Uint and ReadUint. The walk of the reference's ReadUint. -/
import Derived.Test.YtpgljhgfoihnjaaE
import Derived.BigQuiet
import Derived.Test.YtpgljhgfoihnjaaU
import Derived.Test.YtpgljhgfoihnjaaO
import Derived.Test.YtpgljhgfoihnjaaGx
namespace Go.Proofs.Ytpgljhgfoihnjaa
open Go.RowKit Go.BigFrame
set_option maxRecDepth 100000

set_option maxRecDepth 100000 in
set_option maxHeartbeats 2000000 in
theorem refUint_any (n : Nat) (hn : n < 18446744073709551616) (w : World) : Calls Try.prog 38 #[.int .u64 (n : Int)] w fun e w' => ∃ v', e = .returned v' ∧ OwnB w.heap.size w' v' (uf n) ∧ Below w.heap.size w w' := by
  obtain ⟨D, hD⟩ : ∃ D, D = uf n := ⟨_, rfl⟩
  have HD : Box' ([] ++ uf n = D ∧ D.length ≤ 10) := ⟨by rw [hD]; rfl, by rw [hD]; exact uf_len64 hn⟩
  rw [← hD]
  clear hD
  obtain ⟨N, hN⟩ : ∃ N, N = w.heap.size := ⟨_, rfl⟩
  have HN := Box'.mk hN
  rw [← hN]
  clear hN
  go_enter Try.func38, Try.ntmps38
  go_wp2_with fail
  go_loopw [0, 3] (fun nv u wr => ∃ (m : Nat) (d' : List UInt8), nv = .int .u64 (m : Int) ∧ m < 18446744073709551616 ∧ Box' (OwnB N wr u d') ∧ Box' (d' ++ uf m = D ∧ D.length ≤ 10) ∧ Fr N w wr) (fun nv _ _ => (intOf nv).toNat)
  case atStart => exact ⟨n, [], rfl, hn, ⟨OwnB.nil _ _⟩, HD, Fr.refl _ _⟩
  case round =>
    clear HD
    obtain ⟨m, d', rfl, hm, HO, HD, hf⟩ := hrel
    obtain ⟨a1, c1, rfl⟩ := HO.out.slice
    have hwN : N ≤ wr.heap.size := by have := hf.size; have := HN.out; omega
    have HDL : Box' (d'.length + 1 ≤ 140737488355328) := ⟨by have h1 := HD.out.1; have h2 := HD.out.2; rw [← h1, List.length_append] at h2; omega⟩
    by_cases hlt : m < 128
    · have E : Box' (∀ x : UInt8, x = UInt8.ofNat m → d' ++ [x] = D) := ⟨fun x hx => by rw [← HD.out.1, uf_small hlt, hx]⟩
      have EB : Box' ((m : Int) % 256 = (((UInt8.ofNat m).toNat : Nat) : Int)) := ⟨by rw [ofNat_toNat (by omega)]; omega⟩
      have EC : Box' ((m : Int) = (((UInt8.ofNat m).toNat : Nat) : Int)) := ⟨by rw [ofNat_toNat (by omega)]⟩
      generalize UInt8.ofNat m = x at *
      go_wp2_with (refine wpList_app rfl (.tmp 15) (.tmp 18) rfl N _ (Nat.le_trans hwN (by simp)) _ d' rfl (HO.out.alloc _) _ [x] rfl (by first | (rw [EB.out]; exact one_in wr x) | (rw [EC.out]; exact one_in wr x)) HDL.out ?_; intro v2 w2 o2 f2)
      have F2 : Fr N w w2 := (hf.alloc _).trans f2
      have e := E.out x rfl
      rw [e] at o2
      have B2 := F2.below (by rw [HN.out]; exact Nat.le_refl _)
      go_wp2_with fail
      go_ret
      exact ⟨_, rfl, o2, B2⟩
    · have hge : 128 ≤ m := by omega
      have E : Box' (d' ++ [UInt8.ofNat (m % 128 + 128)] ++ uf (m / 128) = D ∧ D.length ≤ 10) := ⟨by rw [← HD.out.1, uf_big hlt, List.append_assoc]; rfl, HD.out.2⟩
      have CU : Box' ((m : Int) % 128 % 256 + 128 = (((UInt8.ofNat (m % 128 + 128)).toNat : Nat) : Int)) := ⟨by rw [ofNat_toNat (by omega)]; omega⟩
      have CV : Box' ((m : Int) % 128 + 128 = (((UInt8.ofNat (m % 128 + 128)).toNat : Nat) : Int)) := ⟨by rw [ofNat_toNat (by omega)]; omega⟩
      generalize UInt8.ofNat (m % 128 + 128) = x at *
      go_wp2_with (refine wpList_app rfl (.tmp 6) (.tmp 11) rfl N _ (Nat.le_trans hwN (by simp)) _ d' rfl (HO.out.alloc _) _ [x] rfl (by first | (rw [CU.out]; exact one_in wr x) | (rw [CV.out]; exact one_in wr x)) HDL.out ?_; intro v2 w2 o2 f2)
      have F2 : Fr N w w2 := (hf.alloc _).trans f2
      refine ⟨⟨m / 128, _, ?_, by omega, ⟨o2⟩, E, F2⟩, ?_⟩
      · congr 1
      · simp [intOf]; omega
end Go.Proofs.Ytpgljhgfoihnjaa
namespace Go.Proofs.Ytpgljhgfoihnjaa
open Go.RowKit Go.BigFrame
set_option maxRecDepth 100000
set_option linter.unusedSimpArgs false

/-- Where a number ends, the reference's question: is its form what stands there? -/
theorem ask_iff {b : List UInt8} {k X : Nat} (hk : k < b.length) (h9 : k ≤ 9) (hg : Gon b k) (hy : (b.getD k 0).toNat < 128) (hX : X = nf (b.take (k + 1)) % 18446744073709551616) :
    rdU b = if uf X = b.take (k + 1) then (X, k + 1, 0) else (0, 0, 8) := by
  rw [rdU_at hk h9 hg (.inl hy)]
  have := isF_iff hk h9 hg (.inl hy)
  by_cases h : isF (k + 1) (b.getD k 0) = true
  · obtain ⟨h1, h2⟩ := this.1 h
    rw [Nat.mod_eq_of_lt h2] at hX
    rw [if_pos h, if_pos (by rw [hX]; exact h1), hX]
  · rw [if_neg h, if_neg]
    intro hu
    apply h
    rw [this]
    have e := congrArg nf hu
    rw [nf_uf] at e
    rw [← e]
    exact ⟨hu, by omega⟩

set_option maxRecDepth 100000 in
set_option maxHeartbeats 4000000 in
theorem refReadUint_any (N : Nat) (w : World) (v : Value) (b : List UInt8) (h : InB N w v b) (hN : N ≤ w.heap.size) (hb : b.length ≤ 140737488355328) :
    Calls Try.prog 56 #[v] w fun e w' => e = .returned (.tuple #[.int .u64 ((rdU b).1 : Int), .int .i64 ((rdU b).2.1 : Int), .int .i64 (rdU b).2.2]) ∧ Below w.heap.size w w' := by
  have hcl : ∀ k, k < b.length → ∃ g o c, v = .slice (some ⟨g, o, none⟩) b.length c ∧ b.length ≤ c ∧ w.cell? ⟨g, o + k, none⟩ = some (.int .u8 ((b.getD k 0).toNat : Int)) ∧ InB N w (.slice (some ⟨g, o, none⟩) (k + 1) c) (b.take (k + 1)) := by
    intro k hk
    obtain ⟨g, o, c, h1, h2, h3⟩ := h.cell hk
    rcases h with ⟨rfl, rfl⟩ | ⟨g', o', c', e, hc, h4, h5⟩
    · simp at hk
    · rw [h1] at e
      injection e with e1 _ e2
      injection e1 with e1
      injection e1 with e1 e3
      subst e1 e2 e3
      have hl : (b.take (k + 1)).length = k + 1 := by rw [List.length_take]; omega
      exact ⟨g, o, c, h1, hc, h3 k hk, .inr ⟨g, o, c, by rw [hl], by omega, .inr h2, range_take h5 _⟩⟩
  have HC := Box'.mk hcl
  obtain ⟨a, c, rfl, hc⟩ := h.slice
  have AS : Box' (∀ k X, k < b.length → k ≤ 9 → Gon b k → (b.getD k 0).toNat < 128 → X = (nf (b.take k) + 128 ^ k * ((b.getD k 0).toNat % 128)) % 18446744073709551616 → rdU b = if uf X = b.take (k + 1) then (X, k + 1, 0) else (0, 0, 8)) := ⟨fun k X hk h9 hg hy hX => ask_iff hk h9 hg hy (by rw [hX, nf_take hk])⟩
  have SH : Box' (∀ k, Gon b k → k ≤ 9 → k = b.length → rdU b = (0, 0, 7)) := ⟨fun k hg h9 e => rdU_short (e ▸ hg) (by omega)⟩
  have LO := Box'.mk (rdU_long (b := b))
  have GS : Box' (∀ k, Gon b k → k < b.length → ¬ (b.getD k 0).toNat < 128 → Gon b (k + 1)) := ⟨fun k h1 h2 h3 => h1.step h2 (by omega)⟩
  have NT : Box' (∀ k, k < b.length → k ≤ 8 → nf (b.take (k + 1)) = (nf (b.take k) + 128 ^ k * ((b.getD k 0).toNat % 128)) % 18446744073709551616) := ⟨fun k hk h8 => by
    have h1 := nf_take_lt (b := b) (m := k + 1) (by omega)
    have h2 : (128 : Nat) ^ (k + 1) ≤ 128 ^ 9 := Nat.pow_le_pow_right (by decide) (by omega)
    rw [← nf_take hk, Nat.mod_eq_of_lt (by omega)]⟩
  have NL : Box' (∀ k, k ≤ b.length → nf (b.take k) < 128 ^ k) := ⟨fun k hk => nf_take_lt hk⟩
  have G0 : Gon b 0 := ⟨Nat.zero_le _, fun j hj => by omega⟩
  clear hcl h
  generalize hn : b.length = n at *
  generalize rdU b = R at *
  go_enter Try.func56, Try.ntmps56
  go_wp2_with fail
  go_loopw [5, 6] (fun x i wr => ∃ k : Nat, i = .int .i64 (k : Int) ∧ k ≤ n ∧ k ≤ 10 ∧ Box' (Gon b k) ∧ (k ≤ 9 → x = .int .u64 ((nf (b.take k) : Nat) : Int)) ∧ (∃ y : Nat, x = .int .u64 (y : Int)) ∧ wr = w) (fun _ i _ => 10 - (intOf i).toNat)
  case atStart => exact ⟨0, rfl, by omega, by omega, ⟨G0⟩, fun _ => by simp [nf], ⟨0, rfl⟩, rfl⟩
  case round =>
    obtain ⟨k, rfl, hk, h10, HG, hx, ⟨y0, rfl⟩, rfl⟩ := hrel
    clear G0
    by_cases h9 : k = 10
    · subst h9
      have e := LO.out HG.out
      subst e
      clear AS SH LO GS NT NL HC HG hx
      go_wp2_with fail
      go_ret3
      exact ⟨rfl, Below.refl _ _⟩
    · have hx' := hx (by omega)
      injection hx' with _ hx'
      have hx'' : y0 = nf (b.take k) := by omega
      clear hx hx'
      by_cases hlt : k < n
      · obtain ⟨g, o, c', he, hc', c0, hi⟩ := HC.out k hlt
        injection he with he _ he2
        subst he he2
        have OD := Box'.mk (or_digit y0 ((b.getD k 0).toNat % 128) k (by rw [hx'']; exact NL.out k hk) (by omega) (by omega))
        have has := AS.out k ((y0 + 128 ^ k * ((b.getD k 0).toNat % 128)) % 18446744073709551616) hlt (by omega) HG.out
        have gs := GS.out k HG.out hlt
        have nt := NT.out k hlt
        rw [← hx''] at has nt
        obtain ⟨X, hXe⟩ : ∃ X, X = (y0 + 128 ^ k * ((b.getD k 0).toNat % 128)) % 18446744073709551616 := ⟨_, rfl⟩
        rw [← hXe] at has nt OD
        have hX64 : X < 18446744073709551616 := by omega
        have AK := Box'.mk has
        have GK := Box'.mk gs
        have NK := Box'.mk nt
        have HI := Box'.mk hi
        clear has gs nt hi hXe hx'' AS SH LO GS NT NL HC
        generalize b.getD k 0 = y at *
        have hyl := y.toNat_lt
        have OE : Box' (bits .or .u64 (y0 : Int) (IntKind.u64.wrap ((y.toNat : Int) % 128 * 2 ^ (7 * k))) = (X : Int)) := ⟨by
          rw [show ((y.toNat : Int) % 128) = ((y.toNat % 128 : Nat) : Int) by simp, Nat.mul_comm 7 k]; exact OD.out⟩
        clear OD
        by_cases hy : y.toNat < 128
        · have AE := Box'.mk (AK.out hy rfl)
          clear AK GK NK
          go_wp2_with fail
          rw [OE.out]
          clear OE
          generalize b.take (k + 1) = T at *
          have UI := Box'.mk (refUint_any X hX64)
          refine wp_region_grow 6 (by kernel_rfl) (by kernel_rfl) (fun w1 w2 => Below w1.heap.size w1 w2) (fun w1 => Below wr.heap.size wr w1) (fun kc w1 v => match kc with
            | 0 => v = .int .u64 (X : Int)
            | 1 => OwnB wr.heap.size w1 v (uf X)
            | 2 => v = .slice (some ⟨g, o, none⟩) n c
            | 3 => v = .int .i64 (k : Int)
            | 4 => v = .int .i64 ((k : Int) + 1)
            | 5 => v = .slice (some ⟨g, o, none⟩) (k + 1) c
            | _ => True) ?_ ?_ ?_ ?_ ?_
          · rintro w1 w2 hb q2
            exact q2.trans (hb.mono q2.size)
          · intro kc v w1 w2 hC1 hb h
            match kc, h with
            | 0, h => exact h
            | 1, h => exact OwnB.below h hb
            | 2, h => exact h
            | 3, h => exact h
            | 4, h => exact h
            | 5, h => exact h
            | kc + 6, h => trivial
          · exact (Below.refl _ _).drew
          · refine ⟨?_, ?_, ?_, ?_, ?_, ?_, trivial⟩
            · intro f w1 hC hd KK hK
              simp only [List.take_succ_cons, List.take_zero, setAll, List.setIfInBounds_toArray, List.set_cons_succ, List.set_cons_zero, Nat.zero_add, Nat.reduceAdd] at hK ⊢
              refine wp_of_quiet rfl ?_
              go_big_quiet_step (fail)
              exact wpQuiet_nil (hK _ _ rfl (Below.refl _ _))
            · intro f w1 hC hd KK hK
              have g0 : f 0 = .int .u64 (X : Int) := hd 0 rfl
              simp only [List.take_succ_cons, List.take_zero, setAll, List.setIfInBounds_toArray, List.set_cons_succ, List.set_cons_zero, Nat.zero_add, Nat.reduceAdd, g0] at hK ⊢
              exact wp_callE 38 #[.int .u64 (X : Int)] (by simp [go_sem]) _ (UI.out w1) (fun v w' hR => hK _ _ (hR.1.less hC.size) hR.2)
            · intro f w1 hC hd KK hK
              simp only [List.take_succ_cons, List.take_zero, setAll, List.setIfInBounds_toArray, List.set_cons_succ, List.set_cons_zero, Nat.zero_add, Nat.reduceAdd] at hK ⊢
              refine wp_of_quiet rfl ?_
              go_big_quiet_step (fail)
              exact wpQuiet_nil (hK _ _ rfl (Below.refl _ _))
            · intro f w1 hC hd KK hK
              simp only [List.take_succ_cons, List.take_zero, setAll, List.setIfInBounds_toArray, List.set_cons_succ, List.set_cons_zero, Nat.zero_add, Nat.reduceAdd] at hK ⊢
              refine wp_of_quiet rfl ?_
              go_big_quiet_step (fail)
              exact wpQuiet_nil (hK _ _ rfl (Below.refl _ _))
            · intro f w1 hC hd KK hK
              have g3 : f 3 = .int .i64 (k : Int) := hd 3 rfl
              simp only [List.take_succ_cons, List.take_zero, setAll, List.setIfInBounds_toArray, List.set_cons_succ, List.set_cons_zero, Nat.zero_add, Nat.reduceAdd, g3] at hK ⊢
              refine wp_of_quiet rfl ?_
              go_big_quiet_step (fail)
              exact wpQuiet_nil (hK _ _ rfl (Below.refl _ _))
            · intro f w1 hC hd KK hK
              have g2 : f 2 = .slice (some ⟨g, o, none⟩) n c := hd 2 rfl
              have g4 : f 4 = .int .i64 ((k : Int) + 1) := hd 4 rfl
              simp only [List.take_succ_cons, List.take_zero, setAll, List.setIfInBounds_toArray, List.set_cons_succ, List.set_cons_zero, Nat.zero_add, Nat.reduceAdd, g2, g4] at hK ⊢
              refine wp_of_quiet rfl ?_
              go_big_quiet_step (fail)
              exact wpQuiet_nil (hK _ _ rfl (Below.refl _ _))
          · intro f w1 hC hv
            have p0 : f 0 = .int .u64 (X : Int) := hv 0 (by decide)
            have p1 : OwnB wr.heap.size w1 (f 1) (uf X) := hv 1 (by decide)
            have p2 : f 2 = .slice (some ⟨g, o, none⟩) n c := hv 2 (by decide)
            have p3 : f 3 = .int .i64 (k : Int) := hv 3 (by decide)
            have p4 : f 4 = .int .i64 ((k : Int) + 1) := hv 4 (by decide)
            have p5 : f 5 = .slice (some ⟨g, o, none⟩) (k + 1) c := hv 5 (by decide)
            simp only [List.take_succ_cons, List.take_zero, List.drop_succ_cons, List.drop_zero, setAll, List.setIfInBounds_toArray, List.set_cons_succ, List.set_cons_zero, Nat.zero_add, Nat.reduceAdd, p0, p2, p3, p4, p5]
            generalize f 1 = vu at *
            clear hv p0 p2 p3 p4 p5
            have sm := refSame_any _ _ _ _ _ _ w1 p1.bts (HI.out.below hC hN).bts
            have BC := Box'.mk hC
            clear hC p1 HI UI
            by_cases hq : uf X = T
            · have e := AE.out
              rw [if_pos hq] at e
              subst e
              rw [decide_eq_true hq] at sm
              clear AE hq
              go_wp2_with fail
              refine sm.mono ?_
              rintro e w2 ⟨rfl, rfl⟩
              clear sm
              go_wp2_with fail
              go_ret3
              exact ⟨rfl, BC.out⟩
            · have e := AE.out
              rw [if_neg hq] at e
              subst e
              rw [decide_eq_false hq] at sm
              clear AE hq
              go_wp2_with fail
              refine sm.mono ?_
              rintro e w2 ⟨rfl, rfl⟩
              clear sm
              go_wp2_with fail
              go_ret3
              exact ⟨rfl, BC.out⟩
        · have hg := Box'.mk (GK.out hy)
          clear AK GK
          go_wp2_with fail
          rw [OE.out]
          refine ⟨⟨k + 1, by go_num, by omega, by omega, hg, fun h8 => by rw [NK.out (by omega)], ⟨X, rfl⟩, trivial⟩, by simp [intOf]; omega⟩
      · obtain rfl : k = n := by omega
        have e := SH.out k HG.out (by omega) rfl
        subst e
        clear AS SH LO GS NT NL HC HG
        go_wp2_with fail
        go_ret3
        exact ⟨rfl, Below.refl _ _⟩
end Go.Proofs.Ytpgljhgfoihnjaa
