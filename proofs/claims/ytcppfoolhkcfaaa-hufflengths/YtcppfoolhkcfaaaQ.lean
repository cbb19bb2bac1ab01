/- Numbers that lie behind a slice; the walks of isLength, share, weigh, check and of the counts. -/
import Derived.Test.YtcppfoolhkcfaaaN
import Derived.Test.YtcppfoolhkcfaaaA
namespace Go.Proofs.Ytcppfoolhkcfaaa
open Go.RowKit Go.BigFrame

/-- The slice v has the numbers l, in a block below N. -/
def Ints (N : Nat) (w : World) (v : Value) (l : List Int) : Prop :=
  ∃ a c, v = .slice a l.length c ∧ l.length ≤ c ∧ (l = [] ∨ ∃ b o, a = some ⟨b, o, none⟩ ∧ b < N ∧ ∀ k, k < l.length → w.cell? ⟨b, o + k, none⟩ = some (.int .i64 (l.getD k 0)))
theorem Ints.below {N M : Nat} {w w' : World} {v : Value} {l : List Int} (h : Ints N w v l) (hb : Below M w w') (hN : N ≤ M) : Ints N w' v l := by
  obtain ⟨a, c, h1, h2, h4⟩ := h
  refine ⟨a, c, h1, h2, ?_⟩
  rcases h4 with h4 | ⟨b, o, h5, h6, h7⟩
  · exact .inl h4
  · refine .inr ⟨b, o, h5, h6, fun k hk => ?_⟩
    rw [hb.cell (p := ⟨b, o + k, none⟩) (by show b < M; omega)]
    exact h7 k hk
theorem Ints.up {N M : Nat} {w : World} {v : Value} {l : List Int} (h : Ints N w v l) (hN : N ≤ M) : Ints M w v l := by
  obtain ⟨a, c, h1, h2, h4⟩ := h
  refine ⟨a, c, h1, h2, ?_⟩
  rcases h4 with h4 | ⟨b, o, h5, h6, h7⟩
  · exact .inl h4
  · exact .inr ⟨b, o, h5, by omega, h7⟩
theorem Ints.on {w w' : World} {v : Value} {l : List Int} (h : Ints w.heap.size w v l) (hb : Below w.heap.size w w') : Ints w'.heap.size w' v l :=
  (h.below hb (Nat.le_refl _)).up hb.size
theorem Ints.cells {N : Nat} {w : World} {a : Option Addr} {l : List Int} (h3 : l = [] ∨ ∃ b o, a = some ⟨b, o, none⟩ ∧ b < N ∧ ∀ k, k < l.length → w.cell? ⟨b, o + k, none⟩ = some (.int .i64 (l.getD k 0))) :
    ∀ k, k < l.length → ∃ b o, a = some ⟨b, o, none⟩ ∧ b < N ∧ w.cell? ⟨b, o + k, none⟩ = some (.int .i64 (l.getD k 0)) := by
  intro k hk
  rcases h3 with rfl | ⟨b, o, rfl, h5, h6⟩
  · simp at hk
  exact ⟨b, o, rfl, h5, h6 k hk⟩

theorem isLength_any (s : Int) (w : World) : Calls Try.prog 27 #[.int .i64 s] w fun e w' => e = .returned (.bool (Gf.lenB s)) ∧ w' = w := by
  unfold Gf.lenB
  by_cases h1 : 0 ≤ s
  · by_cases h2 : s ≤ 15
    · rw [decide_eq_true (⟨h1, h2⟩ : 0 ≤ s ∧ s ≤ 15)]
      go_enter Try.func27, Try.ntmps27
      go_wp2
      go_ret
      exact ⟨rfl, rfl⟩
    · rw [decide_eq_false (fun h => h2 h.2 : ¬ (0 ≤ s ∧ s ≤ 15))]
      go_enter Try.func27, Try.ntmps27
      go_wp2
      go_ret
      exact ⟨rfl, rfl⟩
  · rw [decide_eq_false (fun h => h1 h.1 : ¬ (0 ≤ s ∧ s ≤ 15))]
    go_enter Try.func27, Try.ntmps27
    go_wp2
    go_ret
    exact ⟨rfl, rfl⟩

theorem shl_shr' : ∀ n : Nat, n < 16 → n ≠ 0 → wrap64 (2 ^ (15 - n)) = ((Gf.shr (n : Int) : Nat) : Int) := by decide +kernel
theorem shl_shr (n : Nat) (h : n ≤ 15) (h0 : n ≠ 0) : wrap64 (2 ^ (15 - n)) = ((Gf.shr (n : Int) : Nat) : Int) := shl_shr' n (by omega) h0
theorem share_any (s : Int) (hs : Gf.lenB s = true) (w : World) : Calls Try.prog 40 #[.int .i64 s] w fun e w' => e = .returned (.int .i64 ((Gf.shr s : Nat) : Int)) ∧ w' = w := by
  have hs' := of_decide_eq_true hs
  obtain ⟨n, rfl⟩ : ∃ n : Nat, s = (n : Int) := ⟨s.toNat, by omega⟩
  have hn : n ≤ 15 := by omega
  clear hs hs'
  by_cases h0 : n = 0
  · subst h0
    go_enter Try.func40, Try.ntmps40
    go_wp2
    go_ret
    exact ⟨rfl, rfl⟩
  · have i0 : ((n : Int) == 0) = false := by rw [beq_eq_false_iff_ne]; omega
    go_enter Try.func40, Try.ntmps40
    go_wp2
    go_ret
    exact ⟨ret_int (shl_shr n hn h0), rfl⟩

set_option maxHeartbeats 1000000 in
theorem weigh_any (v : Value) (l : List Int) (hA : l.all Gf.lenB = true) (hl : l.length ≤ 17592186044416) (w : World) (h : Ints w.heap.size w v l) :
    Calls Try.prog 28 #[v] w fun e w' => e = .returned (.int .i64 ((Gf.wgt l : Nat) : Int)) ∧ w' = w := by
  obtain ⟨a, c, rfl, hc, h3⟩ := h
  have HCL := Box'.mk (Ints.cells h3)
  have TT := Box'.mk (Gf.wgt_take l)
  have AG := Box'.mk (Gf.all_get Gf.lenB l hA)
  have LE : Box' (l.take l.length = l) := ⟨List.take_length⟩
  generalize hn : l.length = n at *
  clear h3 hA hn
  go_enter Try.func28, Try.ntmps28
  go_wp2_with fail
  go_loop [3, 8] (fun t i => ∃ k m : Nat, k ≤ n ∧ i = .int .i64 (k : Int) ∧ t = .int .i64 (m : Int) ∧ m ≤ 32768 * k ∧ Box' (m = Gf.wgt (l.take k))) (fun _ i => n - (intOf i).toNat)
  case atStart => exact ⟨0, 0, by omega, rfl, rfl, by omega, ⟨by simp [Gf.wgt]⟩⟩
  case round =>
    obtain ⟨k, m, hk, rfl, rfl, hm, HM⟩ := hrel
    by_cases hlt : k < n
    · obtain ⟨b, o, rfl, hbw, c0⟩ := HCL.out k hlt
      have TK := Box'.mk (TT.out k hlt)
      have hs := fun w => share_any _ (AG.out k hlt) w
      have hsl := Gf.shr_le (l.getD k 0)
      generalize l.getD k 0 = x at *
      generalize Gf.shr x = y at *
      clear HCL TT AG
      go_wp2_with (go_at_call 40; refine (hs _).mono ?_; rintro e w' ⟨rfl, rfl⟩)
      refine ⟨⟨k + 1, m + y, by omega, by go_num, by go_num, by omega, ⟨by rw [TK.out, HM.out]⟩⟩, by simp [intOf]; omega⟩
    · obtain rfl : k = n := by omega
      have h1 := HM.out
      rw [LE.out] at h1
      subst h1
      go_wp2_with fail
      go_ret
      exact ⟨rfl, rfl⟩

set_option maxHeartbeats 1000000 in
theorem check_any (v : Value) (l : List Int) (hl : l.length ≤ 17592186044416) (w : World) (h : Ints w.heap.size w v l) :
    Calls Try.prog 22 #[v] w fun e w' => e = .returned (.int .i64 (Gf.chkE l)) ∧ w' = w := by
  obtain ⟨a, c, rfl, hc, h3⟩ := h
  have HCL := Box'.mk (Ints.cells h3)
  have TT := Box'.mk (Gf.wgt_take l)
  have TL := Box'.mk (Gf.wgt_take_le l)
  have AT := Box'.mk (Gf.all_take Gf.lenB l)
  have AN := Box'.mk (Gf.all_not Gf.lenB l)
  have CC := Box'.mk (Gf.chkE_cases l)
  have BAD : Box' (l.all Gf.lenB = false ∨ 32768 < Gf.wgt l → Gf.chkE l = 2) := ⟨fun h => if_pos h⟩
  have LE : Box' (l.take l.length = l) := ⟨List.take_length⟩
  generalize hn : l.length = n at *
  clear h3 hn
  go_enter Try.func22, Try.ntmps22
  go_wp2_with fail
  go_loop [3, 8] (fun t i => ∃ k m : Nat, k ≤ n ∧ i = .int .i64 (k : Int) ∧ t = .int .i64 (32768 - (m : Int)) ∧ m ≤ 32768 ∧ Box' (m = Gf.wgt (l.take k)) ∧ Box' ((l.take k).all Gf.lenB = true)) (fun _ i => n - (intOf i).toNat)
  case atStart => exact ⟨0, 0, by omega, rfl, rfl, by omega, ⟨by simp [Gf.wgt]⟩, ⟨by simp⟩⟩
  case round =>
    obtain ⟨k, m, hk, rfl, rfl, hm, HM, HA⟩ := hrel
    by_cases hlt : k < n
    · obtain ⟨b, o, rfl, hbw, c0⟩ := HCL.out k hlt
      have TK := Box'.mk (TT.out k hlt)
      have AK := Box'.mk (AT.out k hlt HA.out)
      have NK := Box'.mk (AN.out k hlt)
      have T1 := Box'.mk (TL.out (k + 1))
      have hi := fun w => isLength_any (l.getD k 0) w
      have hs := fun h w => share_any (l.getD k 0) h w
      have hsl := Gf.shr_le (l.getD k 0)
      generalize l.getD k 0 = x at *
      cases hx : Gf.lenB x with
      | false =>
        rw [hx] at hi
        have e2 := Box'.mk (BAD.out (.inl (NK.out hx)))
        clear HCL TT AT AN NK AK TL T1 CC BAD hs
        go_wp2_with (go_at_call 27; refine (hi _).mono ?_; rintro e w' ⟨rfl, rfl⟩)
        go_ret
        exact ⟨by rw [e2.out]; rfl, rfl⟩
      | true =>
        rw [hx] at hi
        have hs := hs hx
        have AK := Box'.mk (AK.out hx)
        generalize Gf.shr x = y at *
        clear hx
        by_cases hneg : m + y ≤ 32768
        · have i1 : ¬ (32768 : Int) - (m : Int) - (y : Int) < 0 := by omega
          clear HCL TT AT AN NK TL T1 CC BAD
          go_wp2_with (first | (go_at_call 27; refine (hi _).mono ?_; rintro e w' ⟨rfl, rfl⟩) | (go_at_call 40; refine (hs _).mono ?_; rintro e w' ⟨rfl, rfl⟩) | fail)
          refine ⟨⟨k + 1, m + y, by omega, by go_num, by go_num, by omega, ⟨by rw [TK.out, HM.out]⟩, ⟨AK.out⟩⟩, by simp [intOf]; omega⟩
        · have i1 : (32768 : Int) - (m : Int) - (y : Int) < 0 := by omega
          have e2 := Box'.mk (BAD.out (.inr (by have := T1.out; have := TK.out; have := HM.out; omega)))
          clear HCL TT AT AN NK TL T1 CC BAD
          go_wp2_with (first | (go_at_call 27; refine (hi _).mono ?_; rintro e w' ⟨rfl, rfl⟩) | (go_at_call 40; refine (hs _).mono ?_; rintro e w' ⟨rfl, rfl⟩) | fail)
          go_ret
          exact ⟨by rw [e2.out]; rfl, rfl⟩
    · obtain rfl : k = n := by omega
      have h1 := HM.out
      have hA := HA.out
      rw [LE.out] at h1 hA
      rcases CC.out with ⟨e1, _, _, e3⟩ | ⟨e1, _, _, e3⟩ | ⟨e1, e2⟩
      · have e5 := Box'.mk e1
        have e6 : ¬ (512 : Int) < (k : Int) := by omega
        clear h1 hA HCL TT AT AN TL CC BAD HM HA e1
        go_wp2_with fail
        go_ret
        exact ⟨by rw [e5.out]; rfl, rfl⟩
      · have e5 := Box'.mk e1
        have e6 : (512 : Int) < (k : Int) := by omega
        clear h1 hA HCL TT AT AN TL CC BAD HM HA e1
        go_wp2_with fail
        go_ret
        exact ⟨by rw [e5.out]; rfl, rfl⟩
      · exact absurd e2 (by rw [hA]; simp; omega)

set_option maxHeartbeats 1000000 in
theorem weight_any (v : Value) (l : List Int) (hl : l.length ≤ 17592186044416) (w : World) (h : Ints w.heap.size w v l) :
    Calls Try.prog 10 #[v] w fun e w' => e = .returned (.tuple #[.int .i64 ((Gf.wgtN l : Nat) : Int), .int .i64 (Gf.wgtE l)]) ∧ w' = w := by
  have hw : l.all Gf.lenB = true → _ := fun hA => weigh_any v l hA hl w h
  obtain ⟨a, c, rfl, hc, h3⟩ := h
  have HCL := Box'.mk (Ints.cells h3)
  have AT := Box'.mk (Gf.all_take Gf.lenB l)
  have AN := Box'.mk (Gf.all_not Gf.lenB l)
  have BAD : Box' (l.all Gf.lenB = false → Gf.wgtE l = 2 ∧ Gf.wgtN l = 0) := ⟨fun h => by
    have e : Gf.wgtE l = 2 := if_pos h
    exact ⟨e, by unfold Gf.wgtN; rw [e]; rfl⟩⟩
  have LIM : Box' (l.all Gf.lenB = true → 512 < l.length → Gf.wgtE l = 4 ∧ Gf.wgtN l = 0) := ⟨fun h h1 => by
    have e : Gf.wgtE l = 4 := by unfold Gf.wgtE; rw [if_neg (by simp [h]), if_pos h1]
    exact ⟨e, by unfold Gf.wgtN; rw [e]; rfl⟩⟩
  have GOOD : Box' (l.all Gf.lenB = true → ¬ 512 < l.length → Gf.wgtE l = 0 ∧ Gf.wgtN l = Gf.wgt l) := ⟨fun h h1 => by
    have e : Gf.wgtE l = 0 := by unfold Gf.wgtE; rw [if_neg (by simp [h]), if_neg h1]
    exact ⟨e, by unfold Gf.wgtN; rw [e]; rfl⟩⟩
  have LE : Box' (l.take l.length = l) := ⟨List.take_length⟩
  have HW := Box'.mk hw
  generalize hn : l.length = n at *
  clear h3 hn hw
  go_enter Try.func10, Try.ntmps10
  go_wp2_with fail
  go_loop [8] (fun i => ∃ k : Nat, k ≤ n ∧ i = .int .i64 (k : Int) ∧ Box' ((l.take k).all Gf.lenB = true)) (fun i => n - (intOf i).toNat)
  case atStart => exact ⟨0, by omega, rfl, ⟨by simp⟩⟩
  case round =>
    obtain ⟨k, hk, rfl, HA⟩ := hrel
    by_cases hlt : k < n
    · obtain ⟨b, o, rfl, hbw, c0⟩ := HCL.out k hlt
      have AK := Box'.mk (AT.out k hlt HA.out)
      have NK := Box'.mk (AN.out k hlt)
      have hi := fun w => isLength_any (l.getD k 0) w
      generalize l.getD k 0 = x at *
      cases hx : Gf.lenB x with
      | false =>
        rw [hx] at hi
        have e2 := Box'.mk (BAD.out (NK.out hx))
        clear HCL AT AN NK AK BAD LIM GOOD HW
        go_wp2_with (go_at_call 27; refine (hi _).mono ?_; rintro e w' ⟨rfl, rfl⟩)
        go_ret2
        exact ⟨by rw [e2.out.1, e2.out.2]; rfl, rfl⟩
      | true =>
        rw [hx] at hi
        have AK := Box'.mk (AK.out hx)
        clear hx HCL AT AN NK BAD LIM GOOD HW
        go_wp2_with (go_at_call 27; refine (hi _).mono ?_; rintro e w' ⟨rfl, rfl⟩)
        exact ⟨⟨k + 1, by omega, by go_num, ⟨AK.out⟩⟩, by simp [intOf]; omega⟩
    · obtain rfl : k = n := by omega
      have hA := HA.out
      rw [LE.out] at hA
      by_cases h5 : 512 < k
      · have e5 := Box'.mk (LIM.out hA h5)
        have e6 : (512 : Int) < (k : Int) := by omega
        clear hA HCL AT AN BAD LIM GOOD HW HA
        go_wp2_with fail
        go_ret2
        exact ⟨by rw [e5.out.1, e5.out.2]; rfl, rfl⟩
      · have e5 := Box'.mk (GOOD.out hA h5)
        have e6 : ¬ (512 : Int) < (k : Int) := by omega
        have hw := HW.out hA
        clear hA HCL AT AN BAD LIM GOOD HW HA
        go_wp2_with (go_at_call 28; refine hw.mono ?_; rintro e w' ⟨rfl, rfl⟩)
        go_ret2
        exact ⟨by rw [e5.out.1, e5.out.2]; rfl, rfl⟩
end Go.Proofs.Ytcppfoolhkcfaaa
