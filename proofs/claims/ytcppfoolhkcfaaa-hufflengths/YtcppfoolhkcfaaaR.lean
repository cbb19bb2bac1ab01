/- The walks of the reference's Weight and Bad, and of the counts and costs, the program's and the reference's. -/
import Derived.Test.YtcppfoolhkcfaaaQ
namespace Go.Proofs.Ytcppfoolhkcfaaa
open Go.RowKit Go.BigFrame

theorem wgt_cases (l : List Int) : (l.all Gf.lenB = false → Gf.wgtE l = 2 ∧ Gf.wgtN l = 0) ∧ (l.all Gf.lenB = true → 512 < l.length → Gf.wgtE l = 4 ∧ Gf.wgtN l = 0) ∧ (l.all Gf.lenB = true → ¬ 512 < l.length → Gf.wgtE l = 0 ∧ Gf.wgtN l = Gf.wgt l) := by
  refine ⟨fun h => ?_, fun h h1 => ?_, fun h h1 => ?_⟩
  · have e : Gf.wgtE l = 2 := if_pos h
    exact ⟨e, by unfold Gf.wgtN; rw [e]; rfl⟩
  · have e : Gf.wgtE l = 4 := by unfold Gf.wgtE; rw [if_neg (by simp [h]), if_pos h1]
    exact ⟨e, by unfold Gf.wgtN; rw [e]; rfl⟩
  · have e : Gf.wgtE l = 0 := by unfold Gf.wgtE; rw [if_neg (by simp [h]), if_neg h1]
    exact ⟨e, by unfold Gf.wgtN; rw [e]; rfl⟩
theorem lenB_nat {x : Int} (h : Gf.lenB x = true) : ∃ n : Nat, x = (n : Int) ∧ n ≤ 15 := by
  have := of_decide_eq_true h
  exact ⟨x.toNat, by omega, by omega⟩
theorem lenB_not {x : Int} (h : Gf.lenB x = false) : x < 0 ∨ (¬ x < 0 ∧ 15 < x) := by
  have := of_decide_eq_false h
  omega

set_option maxHeartbeats 1000000 in
theorem refWeight_any (v : Value) (l : List Int) (hl : l.length ≤ 17592186044416) (w : World) (h : Ints w.heap.size w v l) :
    Calls Try.prog 11 #[v] w fun e w' => e = .returned (.tuple #[.int .i64 ((Gf.wgtN l : Nat) : Int), .int .i64 (Gf.wgtE l)]) ∧ w' = w := by
  obtain ⟨a, c, rfl, hc, h3⟩ := h
  have HCL := Box'.mk (Ints.cells h3)
  have TT := Box'.mk (Gf.wgt_take l)
  have AT := Box'.mk (Gf.all_take Gf.lenB l)
  have AN := Box'.mk (Gf.all_not Gf.lenB l)
  have WC := Box'.mk (wgt_cases l)
  have LE : Box' (l.take l.length = l) := ⟨List.take_length⟩
  generalize hn : l.length = n at *
  clear h3 hn
  go_enter Try.func11, Try.ntmps11
  go_wp2_with fail
  go_loop [4, 5] (fun t i => ∃ k m : Nat, k ≤ n ∧ i = .int .i64 (k : Int) ∧ t = .int .i64 (m : Int) ∧ m ≤ 32768 * k ∧ Box' (m = Gf.wgt (l.take k)) ∧ Box' ((l.take k).all Gf.lenB = true)) (fun _ i => n - (intOf i).toNat)
  case atStart => exact ⟨0, 0, by omega, rfl, rfl, by omega, ⟨by simp [Gf.wgt]⟩, ⟨by simp⟩⟩
  case round =>
    obtain ⟨k, m, hk, rfl, rfl, hm, HM, HA⟩ := hrel
    by_cases hlt : k < n
    · obtain ⟨b, o, rfl, hbw, c0⟩ := HCL.out k hlt
      have TK := Box'.mk (TT.out k hlt)
      have AK := Box'.mk (AT.out k hlt HA.out)
      have NK := Box'.mk (AN.out k hlt)
      have hsl := Gf.shr_le (l.getD k 0)
      generalize l.getD k 0 = x at *
      cases hx : Gf.lenB x with
      | false =>
        have e2 := Box'.mk (WC.out.1 (NK.out hx))
        clear HCL TT AT AN NK AK WC hsl TK
        rcases lenB_not hx with h1 | ⟨h1, h2⟩
        · clear hx
          go_wp2_with fail
          go_ret2
          exact ⟨by rw [e2.out.1, e2.out.2]; rfl, rfl⟩
        · clear hx
          go_wp2_with fail
          go_ret2
          exact ⟨by rw [e2.out.1, e2.out.2]; rfl, rfl⟩
      | true =>
        have AK2 := Box'.mk (AK.out hx)
        obtain ⟨s, rfl, hs⟩ := lenB_nat hx
        clear hx
        by_cases h0 : s = 0
        · subst h0
          clear HCL TT AT AN NK WC
          go_wp2_with fail
          refine ⟨⟨k + 1, m, by omega, by go_num, rfl, by omega, ⟨by rw [TK.out, HM.out]; rfl⟩, ⟨AK2.out⟩⟩, by simp [intOf]; omega⟩
        · have E := Box'.mk (shl_shr s hs h0)
          have i0 : (0 : Int) < (s : Int) := by omega
          have hE : (wrap64 (2 ^ (15 - s)) : Int) ≤ 32768 := by rw [E.out]; omega
          have hE2 : 0 ≤ (wrap64 (2 ^ (15 - s)) : Int) := by rw [E.out]; omega
          clear HCL TT AT AN NK WC
          go_wp2_with fail
          refine ⟨⟨k + 1, m + Gf.shr (s : Int), by omega, by go_num, ?_, by omega, ⟨by rw [TK.out, HM.out]⟩, ⟨AK2.out⟩⟩, by simp [intOf]; omega⟩
          rw [E.out]; go_num
    · obtain rfl : k = n := by omega
      have h1 := HM.out
      have hA := HA.out
      rw [LE.out] at h1 hA
      by_cases h5 : 512 < k
      · have e5 := Box'.mk (WC.out.2.1 hA h5)
        have e6 : (512 : Int) < (k : Int) := by omega
        clear hA HCL AT AN WC HA TT h1 HM
        go_wp2_with fail
        go_ret2
        exact ⟨by rw [e5.out.1, e5.out.2]; rfl, rfl⟩
      · have e5 := Box'.mk (WC.out.2.2 hA h5)
        have e6 : ¬ (512 : Int) < (k : Int) := by omega
        clear hA HCL AT AN WC HA TT HM
        go_wp2_with fail
        go_ret2
        exact ⟨by rw [e5.out.1, e5.out.2]; rfl, rfl⟩

set_option maxHeartbeats 1000000 in
theorem refBad_any (v : Value) (l : List Int) (hl : l.length ≤ 17592186044416) (w : World) (h : Ints w.heap.size w v l) :
    Calls Try.prog 19 #[v] w fun e w' => e = .returned (.int .i64 (Gf.chkE l)) ∧ w' = w := by
  have hw := refWeight_any v l hl w h
  obtain ⟨a, c, rfl, hc, h3⟩ := h
  have CC := Gf.chkE_cases l
  have WC := wgt_cases l
  by_cases hA : l.all Gf.lenB = true
  · by_cases h5 : 512 < l.length
    · obtain ⟨w1, w2⟩ := WC.2.1 hA h5
      rw [w1, w2] at hw
      have HCL := Box'.mk (Ints.cells h3)
      have TT := Box'.mk (Gf.wgt_take l)
      have AG := Box'.mk (Gf.all_get Gf.lenB l hA)
      have LE : Box' (l.take l.length = l) := ⟨List.take_length⟩
      have C1 : Box' (if 32768 < Gf.wgt l then Gf.chkE l = 2 else Gf.chkE l = 4) := ⟨by
        unfold Gf.chkE
        split
        · rename_i hh; rw [if_pos (.inr hh)]
        · rename_i hh
          have hh2 : ¬ (l.all Gf.lenB = false ∨ 32768 < Gf.wgt l) := by simp [hA]; omega
          simp only [hh2, if_false]⟩
      generalize hn : l.length = n at *
      clear h3 hn CC WC hA w1 w2
      go_enter Try.func19, Try.ntmps19
      go_wp2_with (go_at_call 11; refine hw.mono ?_; rintro e w' ⟨rfl, rfl⟩)
      go_loop [3, 5] (fun t i => ∃ k m : Nat, k ≤ n ∧ i = .int .i64 (k : Int) ∧ t = .int .i64 (m : Int) ∧ m ≤ 32768 * k ∧ Box' (m = Gf.wgt (l.take k))) (fun _ i => n - (intOf i).toNat)
      case atStart => exact ⟨0, 0, by omega, rfl, rfl, by omega, ⟨by simp [Gf.wgt]⟩⟩
      case round =>
        obtain ⟨k, m, hk, rfl, rfl, hm, HM⟩ := hrel
        by_cases hlt : k < n
        · obtain ⟨b, o, rfl, hbw, c0⟩ := HCL.out k hlt
          have TK := Box'.mk (TT.out k hlt)
          have hsl := Gf.shr_le (l.getD k 0)
          have hx := AG.out k hlt
          generalize l.getD k 0 = x at *
          obtain ⟨s, rfl, hs⟩ := lenB_nat hx
          clear hx hw
          by_cases h0 : s = 0
          · subst h0
            clear HCL TT AG
            go_wp2_with fail
            refine ⟨⟨k + 1, m, by omega, by go_num, rfl, by omega, ⟨by rw [TK.out, HM.out]; rfl⟩⟩, by simp [intOf]; omega⟩
          · have E := Box'.mk (shl_shr s hs h0)
            have i0 : (0 : Int) < (s : Int) := by omega
            have hE : (wrap64 (2 ^ (15 - s)) : Int) ≤ 32768 := by rw [E.out]; omega
            have hE2 : 0 ≤ (wrap64 (2 ^ (15 - s)) : Int) := by rw [E.out]; omega
            clear HCL TT AG
            go_wp2_with fail
            refine ⟨⟨k + 1, m + Gf.shr (s : Int), by omega, by go_num, ?_, by omega, ⟨by rw [TK.out, HM.out]⟩⟩, by simp [intOf]; omega⟩
            rw [E.out]; go_num
        · obtain rfl : k = n := by omega
          have h1 := HM.out
          rw [LE.out] at h1
          by_cases h6 : 32768 < m
          · have e1 : Box' (Gf.chkE l = 2) := ⟨by have := C1.out; rw [if_pos (by omega)] at this; exact this⟩
            have i6 : (32768 : Int) < (m : Int) := by omega
            clear HCL TT AG HM h1 C1 hw
            go_wp2_with fail
            go_ret
            exact ⟨by rw [e1.out]; rfl, rfl⟩
          · have e1 : Box' (Gf.chkE l = 4) := ⟨by have := C1.out; rw [if_neg (by omega)] at this; exact this⟩
            have i6 : ¬ (32768 : Int) < (m : Int) := by omega
            clear HCL TT AG HM h1 C1 hw
            go_wp2_with fail
            go_ret
            exact ⟨by rw [e1.out]; rfl, rfl⟩
    · obtain ⟨w1, w2⟩ := WC.2.2 hA h5
      rw [w1, w2] at hw
      by_cases h6 : 32768 < Gf.wgt l
      · have e1 : Gf.chkE l = 2 := if_pos (.inr h6)
        rw [e1]
        have i6 : (32768 : Int) < (Gf.wgt l : Int) := by omega
        generalize Gf.wgt l = m at *
        clear CC WC h3 w1 w2 e1
        go_enter Try.func19, Try.ntmps19
        go_wp2_with (go_at_call 11; refine hw.mono ?_; rintro e w' ⟨rfl, rfl⟩)
        go_ret
        exact ⟨rfl, rfl⟩
      · have e1 : Gf.chkE l = 0 := by unfold Gf.chkE; rw [if_neg (by simp [hA]; omega), if_neg h5]
        rw [e1]
        have i6 : ¬ (32768 : Int) < (Gf.wgt l : Int) := by omega
        generalize Gf.wgt l = m at *
        clear CC WC h3 w1 w2 e1
        go_enter Try.func19, Try.ntmps19
        go_wp2_with (go_at_call 11; refine hw.mono ?_; rintro e w' ⟨rfl, rfl⟩)
        go_ret
        exact ⟨rfl, rfl⟩
  · have hA' : l.all Gf.lenB = false := by simpa using hA
    obtain ⟨w1, w2⟩ := WC.1 hA'
    have e1 : Gf.chkE l = 2 := if_pos (.inl hA')
    rw [w1, w2] at hw
    rw [e1]
    clear CC WC h3 w1 w2 e1 hA hA'
    go_enter Try.func19, Try.ntmps19
    go_wp2_with (go_at_call 11; refine hw.mono ?_; rintro e w' ⟨rfl, rfl⟩)
    go_ret
    exact ⟨rfl, rfl⟩

theorem cntB_not {x : Int} (h : Gf.cntB x = false) : x < 0 ∨ (¬ x < 0 ∧ 1048576 < x) := by
  have := of_decide_eq_false h
  omega
theorem cntB_yes {x : Int} (h : Gf.cntB x = true) : ¬ x < 0 ∧ ¬ 1048576 < x := by
  have := of_decide_eq_true h
  omega
set_option maxHeartbeats 1000000 in
theorem areCounts_any (v : Value) (l : List Int) (hl : l.length ≤ 17592186044416) (w : World) (h : Ints w.heap.size w v l) :
    Calls Try.prog 33 #[v] w fun e w' => e = .returned (.bool (l.all Gf.cntB)) ∧ w' = w := by
  obtain ⟨a, c, rfl, hc, h3⟩ := h
  have HCL := Box'.mk (Ints.cells h3)
  have AT := Box'.mk (Gf.all_take Gf.cntB l)
  have AN := Box'.mk (Gf.all_not Gf.cntB l)
  have LE : Box' (l.take l.length = l) := ⟨List.take_length⟩
  generalize hn : l.length = n at *
  clear h3 hn
  go_enter Try.func33, Try.ntmps33
  go_wp2_with fail
  go_loop [7] (fun i => ∃ k : Nat, k ≤ n ∧ i = .int .i64 (k : Int) ∧ Box' ((l.take k).all Gf.cntB = true)) (fun i => n - (intOf i).toNat)
  case atStart => exact ⟨0, by omega, rfl, ⟨by simp⟩⟩
  case round =>
    obtain ⟨k, hk, rfl, HA⟩ := hrel
    by_cases hlt : k < n
    · obtain ⟨b, o, rfl, hbw, c0⟩ := HCL.out k hlt
      have AK := Box'.mk (AT.out k hlt HA.out)
      have NK := Box'.mk (AN.out k hlt)
      generalize l.getD k 0 = x at *
      cases hx : Gf.cntB x with
      | false =>
        have e2 := Box'.mk (NK.out hx)
        clear HCL AT AN NK AK
        rcases cntB_not hx with h1 | ⟨h1, h2⟩
        · clear hx
          go_wp2_with fail
          go_ret
          exact ⟨by rw [e2.out]; rfl, rfl⟩
        · clear hx
          go_wp2_with fail
          go_ret
          exact ⟨by rw [e2.out]; rfl, rfl⟩
      | true =>
        have AK := Box'.mk (AK.out hx)
        obtain ⟨h1, h2⟩ := cntB_yes hx
        clear hx HCL AT AN NK
        go_wp2_with fail
        exact ⟨⟨k + 1, by omega, by go_num, ⟨AK.out⟩⟩, by simp [intOf]; omega⟩
    · obtain rfl : k = n := by omega
      have hA := HA.out
      rw [LE.out] at hA
      have e2 := Box'.mk hA
      clear hA HCL AT AN HA
      go_wp2_with fail
      go_ret
      exact ⟨by rw [e2.out]; rfl, rfl⟩
set_option maxHeartbeats 1000000 in
theorem badCounts_any (v : Value) (l : List Int) (hl : l.length ≤ 17592186044416) (w : World) (h : Ints w.heap.size w v l) :
    Calls Try.prog 37 #[v] w fun e w' => e = .returned (.int .i64 (Gf.badE l)) ∧ w' = w := by
  obtain ⟨a, c, rfl, hc, h3⟩ := h
  have HCL := Box'.mk (Ints.cells h3)
  have AT := Box'.mk (Gf.all_take Gf.cntB l)
  have AN := Box'.mk (Gf.all_not Gf.cntB l)
  have BAD : Box' (l.all Gf.cntB = false → Gf.badE l = 2) := ⟨fun h => if_pos h⟩
  have LIM : Box' (l.all Gf.cntB = true → Gf.badE l = if 512 < l.length then 4 else 0) := ⟨fun h => by unfold Gf.badE; rw [if_neg (by simp [h])]⟩
  have LE : Box' (l.take l.length = l) := ⟨List.take_length⟩
  generalize hn : l.length = n at *
  clear h3 hn
  go_enter Try.func37, Try.ntmps37
  go_wp2_with fail
  go_loop [3] (fun i => ∃ k : Nat, k ≤ n ∧ i = .int .i64 (k : Int) ∧ Box' ((l.take k).all Gf.cntB = true)) (fun i => n - (intOf i).toNat)
  case atStart => exact ⟨0, by omega, rfl, ⟨by simp⟩⟩
  case round =>
    obtain ⟨k, hk, rfl, HA⟩ := hrel
    by_cases hlt : k < n
    · obtain ⟨b, o, rfl, hbw, c0⟩ := HCL.out k hlt
      have AK := Box'.mk (AT.out k hlt HA.out)
      have NK := Box'.mk (AN.out k hlt)
      generalize l.getD k 0 = x at *
      cases hx : Gf.cntB x with
      | false =>
        have e2 := Box'.mk (BAD.out (NK.out hx))
        clear HCL AT AN NK AK BAD LIM
        rcases cntB_not hx with h1 | ⟨h1, h2⟩
        · clear hx
          go_wp2_with fail
          go_ret
          exact ⟨by rw [e2.out]; rfl, rfl⟩
        · clear hx
          go_wp2_with fail
          go_ret
          exact ⟨by rw [e2.out]; rfl, rfl⟩
      | true =>
        have AK := Box'.mk (AK.out hx)
        obtain ⟨h1, h2⟩ := cntB_yes hx
        clear hx HCL AT AN NK BAD LIM
        go_wp2_with fail
        exact ⟨⟨k + 1, by omega, by go_num, ⟨AK.out⟩⟩, by simp [intOf]; omega⟩
    · obtain rfl : k = n := by omega
      have hA := HA.out
      rw [LE.out] at hA
      have e2 := LIM.out hA
      by_cases h5 : 512 < k
      · rw [if_pos h5] at e2
        have e3 := Box'.mk e2
        clear e2
        have e6 : (512 : Int) < (k : Int) := by omega
        clear hA HCL AT AN HA BAD LIM
        go_wp2_with fail
        go_ret
        exact ⟨by rw [e3.out]; rfl, rfl⟩
      · rw [if_neg h5] at e2
        have e3 := Box'.mk e2
        clear e2
        have e6 : ¬ (512 : Int) < (k : Int) := by omega
        clear hA HCL AT AN HA BAD LIM
        go_wp2_with fail
        go_ret
        exact ⟨by rw [e3.out]; rfl, rfl⟩
end Go.Proofs.Ytcppfoolhkcfaaa
