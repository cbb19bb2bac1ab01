/- Lengths and Least for every input; the walk of HuffLengths. -/
import Derived.Test.YtcppfoolhkcfaaaMl
namespace Go.Proofs.Ytcppfoolhkcfaaa
open Go.RowKit Go.BigFrame

theorem lengths_all (v : Value) (cs : List Int) (hl : cs.length ≤ 17592186044416) (mz : Int) (w : World) (h : Ints w.heap.size w v cs) : Calls Try.prog 16 #[v, .int .i64 mz] w (LenOk w cs mz) := by
  by_cases hb : Gf.badE cs = 2 ∨ mz < 1 ∨ 15 < mz
  · exact lengthsArg_any v cs hl mz hb w h
  · obtain ⟨m, rfl⟩ : ∃ m : Nat, mz = (m : Int) := ⟨mz.toNat, by omega⟩
    exact lengths_any v cs hl m (by omega) (by omega) (by omega) w h
theorem badE_zero (cs : List Int) (h : Gf.badE cs = 0) : cs.all Gf.cntB = true ∧ cs.length ≤ 512 := by
  have BA := badE_all cs
  cases hc : cs.all Gf.cntB with
  | false => have := BA.1 hc; omega
  | true =>
    refine ⟨rfl, ?_⟩
    apply Nat.le_of_not_lt
    intro h5
    have := BA.2.1 hc h5
    omega
theorem lvl_ok (cs : List Int) (h : Gf.badE cs = 0) (h2 : 2 ≤ (posl cs cs.length).length) : LvlOk cs (posl cs cs.length).length := by
  obtain ⟨hc, h5⟩ := badE_zero cs h
  rw [posl_rising] at h2 ⊢
  have C := rising_cond cs hc _ rfl h2
  have hr : (rising cs).length ≤ 512 := Nat.le_trans (by rw [rising_len]; exact cmg_len cs _) h5
  refine ⟨fun j hj x hx => ?_, fun j hj => ?_, fun m hm1 hm => ?_⟩
  · rw [lvl_eq] at hx
    obtain ⟨y, hy, rfl⟩ := List.mem_map.1 hx
    have h1 := rowP_pos C (j + 1) y hy
    have h2 := rowP_le C.htop (j + 1) y hy
    have h3 : (2 : Int) ^ (20 + (j + 1)) ≤ 2 ^ 50 := by
      have : (2 : Nat) ^ (20 + (j + 1)) ≤ 2 ^ 50 := Nat.pow_le_pow_right (by decide) (by omega)
      exact_mod_cast this
    have h4 : (2 : Int) ^ 50 = 1125899906842624 := by decide
    omega
  · rw [lvl_eq, List.length_map, rowP_len C.hsl]
    have h1 := cntR_le (rising cs).length j (by omega)
    have h2 : (rising cs).length ≤ Gm.cntR (rising cs).length j := by
      cases j with
      | zero => exact Nat.le_refl _
      | succ j => exact Nat.le_add_right _ _
    omega
  · obtain ⟨q, e, hh⟩ := msF_top C hm1 hm
    obtain ⟨k, rfl⟩ : ∃ k, m = k + 1 := ⟨m - 1, by omega⟩
    rw [show k + 1 - 1 = k by omega, lvl_eq, List.length_map]
    exact hh
theorem least_all (v : Value) (cs : List Int) (hl : cs.length ≤ 17592186044416) (mz : Int) (w : World) (h : Ints w.heap.size w v cs) :
    Calls Try.prog 17 #[v, .int .i64 mz] w fun e w' => e = .returned (.tuple #[.int .i64 (lstN cs mz), .int .i64 (lstE cs mz)]) ∧ Below w.heap.size w w' := by
  by_cases hb : Gf.badE cs = 2 ∨ mz < 1 ∨ 15 < mz
  · exact leastArg_any v cs hl mz hb w h
  · obtain ⟨m, rfl⟩ : ∃ m : Nat, mz = (m : Int) := ⟨mz.toNat, by omega⟩
    exact least_any v cs hl m (by omega) (by omega) (by omega) (lvl_ok cs) (fun h => (badE_zero cs h).2) w h
/-- What is known where there is no error. -/
structure LenAll (cs : List Int) (mz : Int) : Prop where
  len : (lenF cs mz.toNat).length = cs.length
  chk : Gf.chkE (lenF cs mz.toNat) = 0
  cstE : Gf.cstE cs (lenF cs mz.toNat) = 0
  cstN : Gf.cstN cs (lenF cs mz.toNat) = lstN cs mz
  at_ : ∀ i, i < cs.length → (lenF cs mz.toNat).getD i 0 ≤ mz ∧ ((lenF cs mz.toNat).getD i 0 = 0 ↔ cs.getD i 0 = 0)
theorem len_all (cs : List Int) (mz : Int) (h : lstE cs mz = 0) : LenAll cs mz := by
  by_cases hb : Gf.badE cs = 2 ∨ mz < 1 ∨ 15 < mz
  · have := (lst_arg cs mz hb).1; omega
  by_cases hl : Gf.badE cs ≠ 0 ∨ 2 ^ mz.toNat < (posl cs cs.length).length
  · have := (lst_lim cs mz hb hl).1; omega
  obtain ⟨hc, h5⟩ := badE_zero cs (by omega)
  obtain ⟨m, rfl⟩ : ∃ m : Nat, mz = (m : Int) := ⟨mz.toNat, by omega⟩
  have hN := (lst_ok cs m hb hl).2
  rw [posl_rising, Int.toNat_natCast] at hl
  rw [Int.toNat_natCast] at hN
  have M := ms_ok cs hc m (by omega) (by omega) (by omega)
  obtain ⟨k1, k2⟩ := lenF_chk cs hc h5 m (by omega) M
  refine ⟨lenF_len cs m, k1, k2, ?_, fun i hi => ?_⟩ <;> simp only [Int.toNat_natCast]
  · unfold Gf.cstN
    rw [if_pos k2, lenF_cost cs hc m (by omega), hN]
  · have h0 := (of_decide_eq_true (Gf.all_get _ cs hc i hi)).1
    have := lenF_at cs m M i hi h0
    exact ⟨this.2.1, this.2.2⟩

set_option maxRecDepth 100000 in
set_option maxHeartbeats 4000000 in
theorem huffLengths_any (v : Value) (cs : List Int) (hl : cs.length ≤ 17592186044416) (mz : Int) (w : World) (h : Ints w.heap.size w v cs) :
    Calls Try.prog 4 #[v, .int .i64 mz] w fun e w' => e = .returned (.bool true) ∧ Below w.heap.size w w' := by
  have h1 := lengths_all v cs hl mz w h
  have H2 : Box' (∀ W, Below w.heap.size w W → Calls Try.prog 16 #[v, .int .i64 mz] W (LenOk W cs mz)) := ⟨fun W hW => lengths_all v cs hl mz W (h.on hW)⟩
  have H3 : Box' (∀ W, Below w.heap.size w W → Calls Try.prog 17 #[v, .int .i64 mz] W fun e w' => e = .returned (.tuple #[.int .i64 (lstN cs mz), .int .i64 (lstE cs mz)]) ∧ Below W.heap.size W w') := ⟨fun W hW => least_all v cs hl mz W (h.on hW)⟩
  have H4 : Box' (∀ W u, Below w.heap.size w W → (lenF cs mz.toNat).length = cs.length → Ints W.heap.size W u (lenF cs mz.toNat) → Calls Try.prog 18 #[v, u] W fun e w' => e = .returned (.tuple #[.int .i64 (Gf.cstN cs (lenF cs mz.toNat)), .int .i64 (Gf.cstE cs (lenF cs mz.toNat))]) ∧ w' = W) := ⟨fun W u hW hn hu => cost_any v u cs _ hl (by rw [hn]; exact hl) W (h.on hW) hu⟩
  have H5 : Box' (∀ W u, (lenF cs mz.toNat).length = cs.length → Ints W.heap.size W u (lenF cs mz.toNat) → Calls Try.prog 19 #[u] W fun e w' => e = .returned (.int .i64 (Gf.chkE (lenF cs mz.toNat))) ∧ w' = W) := ⟨fun W u hn hu => refBad_any u _ (by rw [hn]; exact hl) W hu⟩
  have ha := fun W => anchored_any W
  have LA := Box'.mk (len_all cs mz)
  obtain ⟨a, c, e, hc⟩ := ints_len h
  subst e
  have H := Box'.mk h
  clear h
  unfold LenOk at h1 H2
  go_enter Try.func4, Try.ntmps4
  go_wp2_with fail
  refine h1.mono ?_
  rintro e w1 ⟨u1, rfl, hu1, hi1, hb1⟩
  clear h1
  have h2 := H2.out w1 hb1
  clear H2
  go_wp2_with fail
  refine h2.mono ?_
  rintro e w2 ⟨u2, rfl, hu2, hi2, hb2⟩
  clear h2
  have hb12 := hb1.trans (hb2.mono hb1.size)
  have h3 := H3.out w2 hb12
  clear H3
  go_wp2_with fail
  refine h3.mono ?_
  rintro e w3 ⟨rfl, hb3⟩
  clear h3
  have hb13 := hb12.trans (hb3.mono hb12.size)
  by_cases hE : lstE cs mz = 0
  · have L := LA.out hE
    have HI1 := Box'.mk ((hi1 hE).on (hb2.trans (hb3.mono hb2.size)))
    have HI2 := Box'.mk ((hi2 hE).on hb3)
    have h4 := H4.out w3 u1 hb13 L.len HI1.out
    have h5 := H5.out w3 u1 L.len HI1.out
    rw [L.cstN, L.cstE] at h4
    rw [L.chk] at h5
    rw [hE]
    obtain ⟨a1, c1, e1, hc1⟩ := ints_len HI1.out
    obtain ⟨a2, c2, e2, hc2⟩ := ints_len HI2.out
    subst e1 e2
    rw [L.len] at hc1 hc2 h4 h5 ⊢
    have AT := Box'.mk L.at_
    have CL0 : Box' (∀ k, k < cs.length → ∃ b o, a = some ⟨b, o, none⟩ ∧ b < w3.heap.size ∧ w3.cell? ⟨b, o + k, none⟩ = some (.int .i64 (cs.getD k 0))) := ⟨fun k hk => by
      obtain ⟨a', c', e, _, h3⟩ := H.out.on hb13
      simp only [Value.slice.injEq] at e
      obtain ⟨rfl, -, rfl⟩ := e
      obtain ⟨b, o, q1, q2, q3⟩ := Ints.cells h3 k hk
      exact ⟨b, o, q1, q2, q3⟩⟩
    have CL1 : Box' (∀ k, k < cs.length → ∃ b o, a1 = some ⟨b, o, none⟩ ∧ b < w3.heap.size ∧ w3.cell? ⟨b, o + k, none⟩ = some (.int .i64 ((lenF cs mz.toNat).getD k 0))) := ⟨fun k hk => by
      obtain ⟨a', c', e, _, h3⟩ := HI1.out
      simp only [Value.slice.injEq] at e
      obtain ⟨rfl, -, rfl⟩ := e
      obtain ⟨b, o, q1, q2, q3⟩ := Ints.cells h3 k (by rw [L.len]; exact hk)
      exact ⟨b, o, q1, q2, q3⟩⟩
    have CL2 : Box' (∀ k, k < cs.length → ∃ b o, a2 = some ⟨b, o, none⟩ ∧ b < w3.heap.size ∧ w3.cell? ⟨b, o + k, none⟩ = some (.int .i64 ((lenF cs mz.toNat).getD k 0))) := ⟨fun k hk => by
      obtain ⟨a', c', e, _, h3⟩ := HI2.out
      simp only [Value.slice.injEq] at e
      obtain ⟨rfl, -, rfl⟩ := e
      obtain ⟨b, o, q1, q2, q3⟩ := Ints.cells h3 k (by rw [L.len]; exact hk)
      exact ⟨b, o, q1, q2, q3⟩⟩
    have B3 := Box'.mk hb13
    generalize hN : lstN cs mz = N at *
    generalize cs.length = n at *
    clear LA L HI1 HI2 H4 H5 hi1 hi2 hu1 hu2 hE hb1 hb2 hb3 hb12 hb13 H hN
    go_wp2_with (first | (go_at_call 18; refine h4.mono ?_; rintro e w' ⟨rfl, hw'⟩; rw [hw']) | (go_at_call 19; refine h5.mono ?_; rintro e w' ⟨rfl, hw'⟩; rw [hw']))
    clear h4 h5
    go_loopw [13] (fun i wr => ∃ k : Nat, k ≤ n ∧ i = .int .i64 (k : Int) ∧ Below w3.heap.size w3 wr) (fun i _ => n - (intOf i).toNat)
    case atStart => exact ⟨0, by omega, rfl, Below.refl _ _⟩
    case round =>
      obtain ⟨k, hk, rfl, hbl⟩ := hrel
      by_cases hlt : k < n
      · obtain ⟨b0, o0, rfl, hw0, d0⟩ := CL0.out k hlt
        obtain ⟨b1, o1, rfl, hw1, d1⟩ := CL1.out k hlt
        obtain ⟨b2, o2, rfl, hw2, d2⟩ := CL2.out k hlt
        obtain ⟨t1, t2⟩ := AT.out k hlt
        obtain ⟨hcw, -⟩ := bcell hbl
        rw [← hcw _ _ hw0] at d0
        rw [← hcw _ _ hw1] at d1
        rw [← hcw _ _ hw2] at d2
        generalize (lenF cs mz.toNat).getD k 0 = x at *
        generalize cs.getD k 0 = y at *
        have t3 : decide (mz < x) = false := decide_eq_false (by omega)
        have t4 : (x == 0) = (y == 0) := by
          by_cases hx : x = 0
          · rw [hx, t2.1 hx]
          · have hy : y ≠ 0 := fun e => hx (t2.2 e)
            rw [beq_eq_false_iff_ne.2 hx, beq_eq_false_iff_ne.2 hy]
        clear CL0 CL1 CL2 AT hcw t2 t1
        by_cases hy : y = 0
        · have hx : (x == 0) = true := by rw [t4, hy]; rfl
          have hy2 : (y == 0) = true := by rw [hy]; rfl
          clear t4 hy
          go_wp2_with fail
          go_quiet (fail)
          go_wp2_with fail
          exact ⟨⟨k + 1, by omega, by go_num, Below.drewN hbl nq⟩, by simp [intOf]; omega⟩
        · have hy2 : (y == 0) = false := beq_eq_false_iff_ne.2 hy
          have hx : (x == 0) = false := by rw [t4]; exact hy2
          clear t4 hy
          go_wp2_with fail
          go_quiet (fail)
          go_wp2_with fail
          exact ⟨⟨k + 1, by omega, by go_num, Below.drewN hbl nq⟩, by simp [intOf]; omega⟩
      · obtain rfl : k = n := by omega
        have hb5 := B3.out.trans (hbl.mono B3.out.size)
        clear CL0 CL1 CL2 AT
        go_wp2_with (go_at_call 15; refine (ha _).mono ?_; rintro e w4 ⟨rfl, hb4⟩)
        go_ret
        exact ⟨rfl, hb5.trans (hb4.mono hb5.size)⟩
  · obtain rfl := hu1 hE
    obtain rfl := hu2 hE
    have hEb : (lstE cs mz != 0) = true := by simpa using hE
    generalize lstE cs mz = E at *
    generalize lstN cs mz = N at *
    clear LA H4 H5 hi1 hi2 hu1 hu2 H
    go_wp2_with (go_at_call 15; refine (ha _).mono ?_; rintro e w4 ⟨rfl, hb4⟩)
    go_ret
    exact ⟨rfl, hb13.trans (hb4.mono hb13.size)⟩
end Go.Proofs.Ytcppfoolhkcfaaa
