/- The walks of Cost, the program's and the reference's. -/
import Derived.Test.YtcppfoolhkcfaaaR
namespace Go.Proofs.Ytcppfoolhkcfaaa
open Go.RowKit Go.BigFrame

theorem ints_len {N : Nat} {w : World} {v : Value} {l : List Int} (h : Ints N w v l) : ∃ a c, v = .slice a l.length c ∧ l.length ≤ c := let ⟨a, c, h1, h2, _⟩ := h; ⟨a, c, h1, h2⟩
theorem cst_bounds (cs ls : List Int) (hc : cs.all Gf.cntB = true) (hl : ls.all Gf.lenB = true) (k : Nat) (hk : k ≤ cs.length) : 0 ≤ Gf.cst (cs.take k) (ls.take k) ∧ Gf.cst (cs.take k) (ls.take k) ≤ 15728640 * k := by
  have := Gf.cst_bound (cs.take k) (ls.take k) (Gf.all_take_of _ _ _ hc) (Gf.all_take_of _ _ _ hl)
  rw [List.length_take, Nat.min_eq_left hk] at this
  exact this
theorem mul_bounds {x y : Int} (hx : Gf.cntB x = true) (hy : Gf.lenB y = true) : 0 ≤ x * y ∧ x * y ≤ 15728640 := by
  have h1 := of_decide_eq_true hx
  have h2 := of_decide_eq_true hy
  exact ⟨Int.mul_nonneg h1.1 h2.1, Int.mul_le_mul h1.2 h2.2 h2.1 (by decide)⟩

set_option maxHeartbeats 1000000 in
theorem cost_any (v u : Value) (cs ls : List Int) (hcl : cs.length ≤ 17592186044416) (hll : ls.length ≤ 17592186044416) (w : World) (h : Ints w.heap.size w v cs) (g : Ints w.heap.size w u ls) :
    Calls Try.prog 18 #[v, u] w fun e w' => e = .returned (.tuple #[.int .i64 (Gf.cstN cs ls), .int .i64 (Gf.cstE cs ls)]) ∧ w' = w := by
  have ha := areCounts_any v cs hcl w h
  have hk := check_any u ls hll w g
  obtain ⟨a, c, rfl, hc, h3⟩ := h
  obtain ⟨a', c', rfl, hc', g3⟩ := g
  by_cases hne : cs.length = ls.length
  · cases hA : cs.all Gf.cntB with
    | false =>
      have e1 : Gf.cstE cs ls = 2 := if_pos (.inr hA)
      have e2 : Gf.cstN cs ls = 0 := by unfold Gf.cstN; rw [e1]; rfl
      rw [e1, e2]
      rw [hA] at ha
      clear h3 g3 e1 e2 hk hA
      generalize cs.length = n at *
      generalize ls.length = m at *
      subst hne
      go_enter Try.func18, Try.ntmps18
      go_wp2_with (go_at_call 33; refine ha.mono ?_; rintro e w' ⟨rfl, rfl⟩)
      go_ret2
      exact ⟨rfl, rfl⟩
    | true =>
      have eC : Gf.cstE cs ls = Gf.chkE ls := by unfold Gf.cstE; rw [if_neg (by simp [hA, hne])]
      rw [hA] at ha
      rw [eC]
      by_cases h0 : Gf.chkE ls = 0
      · have eN : Gf.cstN cs ls = Gf.cst cs ls := by unfold Gf.cstN; rw [eC, if_pos h0]
        rw [h0] at hk
        rw [h0, eN]
        have hL5 : ls.all Gf.lenB = true ∧ ls.length ≤ 512 := by
          rcases Gf.chkE_cases ls with ⟨_, h, _, h'⟩ | ⟨h, _⟩ | ⟨h, _⟩
          · exact ⟨h, h'⟩
          · rw [h0] at h; exact absurd h (by decide)
          · rw [h0] at h; exact absurd h (by decide)
        obtain ⟨hL, h512⟩ := hL5
        have HCL := Box'.mk (Ints.cells h3)
        have GCL := Box'.mk (Ints.cells g3)
        have CT := Box'.mk (Gf.cst_take cs ls)
        have CB := Box'.mk (cst_bounds cs ls hA hL)
        have AG := Box'.mk (Gf.all_get Gf.cntB cs hA)
        have BG := Box'.mk (Gf.all_get Gf.lenB ls hL)
        have LE : Box' (cs.take cs.length = cs) := ⟨List.take_length⟩
        have LF : Box' (ls.take ls.length = ls) := ⟨List.take_length⟩
        clear h3 g3 eC eN h0 hA hL
        generalize cs.length = n at *
        generalize ls.length = m at *
        subst hne
        go_enter Try.func18, Try.ntmps18
        go_wp2_with (first | (go_at_call 33; refine ha.mono ?_; rintro e w' ⟨rfl, rfl⟩) | (go_at_call 22; refine hk.mono ?_; rintro e w' ⟨rfl, rfl⟩) | fail)
        go_loop [7, 27] (fun t i => ∃ (k : Nat) (m : Int), k ≤ n ∧ i = .int .i64 (k : Int) ∧ t = .int .i64 m ∧ Box' (m = Gf.cst (cs.take k) (ls.take k))) (fun _ i => n - (intOf i).toNat)
        case atStart => exact ⟨0, 0, by omega, rfl, rfl, ⟨by simp [Gf.cst]⟩⟩
        case round =>
          obtain ⟨k, m, hk', rfl, rfl, HM⟩ := hrel
          by_cases hlt : k < n
          · obtain ⟨b, o, rfl, hbw, c0⟩ := HCL.out k hlt
            obtain ⟨b', o', rfl, hbw', c1⟩ := GCL.out k hlt
            have TK := Box'.mk (CT.out k hlt hlt)
            have hb := CB.out k hk'
            have hmb := mul_bounds (AG.out k hlt) (BG.out k hlt)
            rw [← HM.out] at hb
            generalize cs.getD k 0 = x at *
            generalize ls.getD k 0 = y at *
            obtain ⟨hb1, hb2⟩ := hb
            obtain ⟨hm1, hm2⟩ := hmb
            clear HCL GCL CT CB AG BG ha hk
            go_wp2_with fail
            refine ⟨⟨k + 1, m + x * y, by omega, by go_num, by go_num, ⟨by rw [TK.out, HM.out]⟩⟩, by simp [intOf]; omega⟩
          · obtain rfl : k = n := by omega
            have h1 := HM.out
            rw [LE.out, LF.out] at h1
            clear HCL GCL CT CB AG BG ha hk
            subst h1
            go_wp2_with fail
            go_ret2
            exact ⟨rfl, rfl⟩
      · have eN : Gf.cstN cs ls = 0 := by unfold Gf.cstN; rw [eC, if_neg h0]
        have i0 : (Gf.chkE ls == 0) = false := by rw [beq_eq_false_iff_ne]; exact h0
        rw [eN]
        clear h3 g3 eC eN h0 hA
        generalize Gf.chkE ls = E at *
        generalize cs.length = n at *
        generalize ls.length = m at *
        subst hne
        go_enter Try.func18, Try.ntmps18
        go_wp2_with (first | (go_at_call 33; refine ha.mono ?_; rintro e w' ⟨rfl, rfl⟩) | (go_at_call 22; refine hk.mono ?_; rintro e w' ⟨rfl, rfl⟩) | fail)
        go_ret2
        exact ⟨rfl, rfl⟩
  · have e1 : Gf.cstE cs ls = 2 := if_pos (.inl hne)
    have e2 : Gf.cstN cs ls = 0 := by unfold Gf.cstN; rw [e1]; rfl
    rw [e1, e2]
    have i1 : ((cs.length : Int) == (ls.length : Int)) = false := by rw [beq_eq_false_iff_ne]; omega
    generalize cs.length = n at *
    generalize ls.length = m at *
    clear h3 g3 e1 e2 ha hk
    go_enter Try.func18, Try.ntmps18
    go_wp2_with fail
    go_ret2
    exact ⟨rfl, rfl⟩

set_option maxHeartbeats 1000000 in
theorem refCost_any (v u : Value) (cs ls : List Int) (hcl : cs.length ≤ 17592186044416) (hll : ls.length ≤ 17592186044416) (w : World) (h : Ints w.heap.size w v cs) (g : Ints w.heap.size w u ls) :
    Calls Try.prog 20 #[v, u] w fun e w' => e = .returned (.tuple #[.int .i64 (Gf.cstN cs ls), .int .i64 (Gf.cstE cs ls)]) ∧ Below w.heap.size w w' := by
  have ha := badCounts_any v cs hcl w h
  have hk := refBad_any u ls hll w g
  obtain ⟨a, c, rfl, hc, h3⟩ := h
  obtain ⟨a', c', rfl, hc', g3⟩ := g
  cases hA : cs.all Gf.cntB with
  | false =>
    have e1 : Gf.cstE cs ls = 2 := if_pos (.inr hA)
    have e2 : Gf.cstN cs ls = 0 := by unfold Gf.cstN; rw [e1]; rfl
    rw [show Gf.badE cs = 2 from if_pos hA] at ha
    rw [e1, e2]
    generalize Gf.chkE ls = E at *
    clear h3 g3 e1 e2 hA
    generalize cs.length = n at *
    generalize ls.length = m at *
    go_enter Try.func20, Try.ntmps20
    go_wp2_with (first | (go_at_call 37; refine ha.mono ?_; rintro e w' ⟨rfl, rfl⟩) | (go_at_call 19; refine hk.mono ?_; rintro e w' ⟨rfl, rfl⟩) | fail)
    go_ret2
    exact ⟨rfl, Below.refl _ _⟩
  | true =>
    have hbE : Gf.badE cs = if 512 < cs.length then 4 else 0 := by unfold Gf.badE; rw [if_neg (by simp [hA])]
    by_cases h2 : Gf.chkE ls = 2
    · have e1 : Gf.cstE cs ls = 2 := by unfold Gf.cstE; split <;> first | rfl | exact h2
      have e2 : Gf.cstN cs ls = 0 := by unfold Gf.cstN; rw [e1]; rfl
      rw [h2] at hk
      rw [e1, e2]
      have hb2 : (Gf.badE cs == 2) = false := by rw [hbE]; split <;> rfl
      generalize Gf.badE cs = E at *
      clear h3 g3 e1 e2 hA h2 hbE
      generalize cs.length = n at *
      generalize ls.length = m at *
      go_enter Try.func20, Try.ntmps20
      go_wp2_with (first | (go_at_call 37; refine ha.mono ?_; rintro e w' ⟨rfl, rfl⟩) | (go_at_call 19; refine hk.mono ?_; rintro e w' ⟨rfl, rfl⟩) | fail)
      go_ret2
      exact ⟨rfl, Below.refl _ _⟩
    · by_cases hne : cs.length = ls.length
      · have eC : Gf.cstE cs ls = Gf.chkE ls := by unfold Gf.cstE; rw [if_neg (by simp [hA, hne])]
        by_cases h5 : 512 < cs.length
        · have e1 : Gf.cstE cs ls = 4 := by
            rw [eC]
            rcases Gf.chkE_cases ls with ⟨_, _, _, h'⟩ | ⟨h, _⟩ | ⟨h, _⟩
            · omega
            · exact h
            · exact absurd h h2
          have e2 : Gf.cstN cs ls = 0 := by unfold Gf.cstN; rw [e1]; rfl
          have e3 : Gf.chkE ls = 4 := by rw [← eC, e1]
          rw [hbE, if_pos h5] at ha
          rw [e3] at hk
          rw [e1, e2]
          clear h3 g3 e1 e2 hA h2 hbE e3 eC
          generalize cs.length = n at *
          generalize ls.length = m at *
          subst hne
          go_enter Try.func20, Try.ntmps20
          go_wp2_with (first | (go_at_call 37; refine ha.mono ?_; rintro e w' ⟨rfl, rfl⟩) | (go_at_call 19; refine hk.mono ?_; rintro e w' ⟨rfl, rfl⟩) | fail)
          go_ret2
          exact ⟨rfl, Below.refl _ _⟩
        · have hL5 : Gf.chkE ls = 0 ∧ ls.all Gf.lenB = true ∧ ls.length ≤ 512 := by
            rcases Gf.chkE_cases ls with ⟨h0, h, _, h'⟩ | ⟨_, _, _, h⟩ | ⟨h, _⟩
            · exact ⟨h0, h, h'⟩
            · omega
            · exact absurd h h2
          obtain ⟨h0, hL, h512⟩ := hL5
          have eN : Gf.cstN cs ls = Gf.cst cs ls := by unfold Gf.cstN; rw [eC, if_pos h0]
          rw [hbE, if_neg h5] at ha
          rw [h0] at hk eC
          rw [eC, eN]
          have HCL := Box'.mk (Ints.cells h3)
          have GCL := Box'.mk (Ints.cells g3)
          have CT := Box'.mk (Gf.cst_take cs ls)
          have CB := Box'.mk (cst_bounds cs ls hA hL)
          have AG := Box'.mk (Gf.all_get Gf.cntB cs hA)
          have BG := Box'.mk (Gf.all_get Gf.lenB ls hL)
          have LE : Box' (cs.take cs.length = cs) := ⟨List.take_length⟩
          have LF : Box' (ls.take ls.length = ls) := ⟨List.take_length⟩
          clear h3 g3 eC eN h0 hA hL h2 hbE h5
          generalize cs.length = n at *
          generalize ls.length = m at *
          subst hne
          go_enter Try.func20, Try.ntmps20
          go_wp2_with (first | (go_at_call 37; refine ha.mono ?_; rintro e w' ⟨rfl, rfl⟩) | (go_at_call 19; refine hk.mono ?_; rintro e w' ⟨rfl, rfl⟩) | fail)
          go_loopw [8, 9] (fun t i wr => ∃ (k : Nat) (m : Int), k ≤ n ∧ i = .int .i64 (k : Int) ∧ t = .int .i64 m ∧ Box' (m = Gf.cst (cs.take k) (ls.take k)) ∧ Below w'.heap.size w' wr) (fun _ i _ => n - (intOf i).toNat)
          case atStart => exact ⟨0, 0, by omega, rfl, rfl, ⟨by simp [Gf.cst]⟩, Below.refl _ _⟩
          case round =>
            obtain ⟨k, m, hk', rfl, rfl, HM, hbl⟩ := hrel
            by_cases hlt : k < n
            · obtain ⟨b, o, rfl, hbw, c0⟩ := HCL.out k hlt
              obtain ⟨b', o', rfl, hbw', c1⟩ := GCL.out k hlt
              have TK := Box'.mk (CT.out k hlt hlt)
              have hb := CB.out k hk'
              have hmb := mul_bounds (AG.out k hlt) (BG.out k hlt)
              rw [← HM.out] at hb
              obtain ⟨hc0, -⟩ := bcell hbl
              rw [← hc0 _ _ hbw] at c0
              rw [← hc0 _ _ hbw'] at c1
              generalize cs.getD k 0 = x at *
              generalize ls.getD k 0 = y at *
              obtain ⟨hb1, hb2⟩ := hb
              obtain ⟨hm1, hm2⟩ := hmb
              clear HCL GCL CT CB AG BG ha hk hc0
              go_wp2_with fail
              go_quiet (fail)
              go_wp2_with fail
              refine ⟨⟨k + 1, m + x * y, by omega, by go_num, by go_num, ⟨by rw [TK.out, HM.out]⟩, Below.drewN hbl nq⟩, by simp [intOf]; omega⟩
            · obtain rfl : k = n := by omega
              have h1 := HM.out
              rw [LE.out, LF.out] at h1
              clear HCL GCL CT CB AG BG ha hk
              subst h1
              go_wp2_with fail
              go_ret2
              exact ⟨rfl, hbl⟩
      · have e1 : Gf.cstE cs ls = 2 := if_pos (.inl hne)
        have e2 : Gf.cstN cs ls = 0 := by unfold Gf.cstN; rw [e1]; rfl
        rw [e1, e2]
        have i1 : ((cs.length : Int) == (ls.length : Int)) = false := by rw [beq_eq_false_iff_ne]; omega
        have hb2 : (Gf.badE cs == 2) = false := by rw [hbE]; split <;> rfl
        have hb3 : (Gf.chkE ls == 2) = false := by rw [beq_eq_false_iff_ne]; exact h2
        generalize Gf.badE cs = E at *
        generalize Gf.chkE ls = F at *
        clear h3 g3 e1 e2 hA h2 hbE
        generalize cs.length = n at *
        generalize ls.length = m at *
        go_enter Try.func20, Try.ntmps20
        go_wp2_with (first | (go_at_call 37; refine ha.mono ?_; rintro e w' ⟨rfl, rfl⟩) | (go_at_call 19; refine hk.mono ?_; rintro e w' ⟨rfl, rfl⟩) | fail)
        go_ret2
        exact ⟨rfl, Below.refl _ _⟩
end Go.Proofs.Ytcppfoolhkcfaaa
