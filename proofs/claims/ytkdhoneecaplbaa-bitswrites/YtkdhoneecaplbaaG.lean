/- Bits that lie behind a slice; the walks of Count, the program's and the reference's. -/
import Derived.Test.YtkdhoneecaplbaaF
namespace Go.Proofs.Ytkdhoneecaplbaa
open Go.RowKit Go.BigFrame

/-- The slice v has the bits l, in a block below N. -/
def Prs (N : Nat) (w : World) (v : Value) (l : List (Nat × Int)) : Prop :=
  ∃ a c, v = .slice a l.length c ∧ l.length ≤ c ∧ (∀ x ∈ l, x.1 < 18446744073709551616) ∧ (l = [] ∨ ∃ b o, a = some ⟨b, o, none⟩ ∧ b < N ∧
    ∀ k, k < l.length → w.cell? ⟨b, o + k * 2, none⟩ = some (.int .u64 ((l.getD k (0, 0)).1 : Int)) ∧ w.cell? ⟨b, o + k * 2 + 1, none⟩ = some (.int .i64 (l.getD k (0, 0)).2))
theorem Prs.below {N M : Nat} {w w' : World} {v : Value} {l : List (Nat × Int)} (h : Prs N w v l) (hb : Below M w w') (hN : N ≤ M) : Prs N w' v l := by
  obtain ⟨a, c, h1, h2, h3, h4⟩ := h
  refine ⟨a, c, h1, h2, h3, ?_⟩
  rcases h4 with h4 | ⟨b, o, h5, h6, h7⟩
  · exact .inl h4
  · refine .inr ⟨b, o, h5, h6, fun k hk => ?_⟩
    rw [hb.cell (p := ⟨b, o + k * 2, none⟩) (by show b < M; omega), hb.cell (p := ⟨b, o + k * 2 + 1, none⟩) (by show b < M; omega)]
    exact h7 k hk
theorem Prs.up {N M : Nat} {w : World} {v : Value} {l : List (Nat × Int)} (h : Prs N w v l) (hN : N ≤ M) : Prs M w v l := by
  obtain ⟨a, c, h1, h2, h3, h4⟩ := h
  refine ⟨a, c, h1, h2, h3, ?_⟩
  rcases h4 with h4 | ⟨b, o, h5, h6, h7⟩
  · exact .inl h4
  · exact .inr ⟨b, o, h5, by omega, h7⟩

theorem all_take {l : List (Nat × Int)} {k : Nat} (h : k < l.length) (ht : ∀ x ∈ l.take k, Gf.may x = true) (hm : Gf.may (l.getD k (0, 0)) = true) : ∀ x ∈ l.take (k + 1), Gf.may x = true := by
  rw [List.take_succ_eq_append_getElem h]
  intro x hx
  rcases List.mem_append.1 hx with h1 | h1
  · exact ht x h1
  · rw [List.mem_singleton] at h1; subst h1; simpa [h] using hm

set_option maxHeartbeats 1000000 in
theorem count_any (v : Value) (l : List (Nat × Int)) (hl : l.length ≤ 140737488355328) (w : World) (h : Prs w.heap.size w v l) :
    Calls Try.prog 8 #[v] w fun e w' => e = .returned (.tuple #[.int .i64 (Gf.cntN l), .int .i64 (Gf.cntE l)]) ∧ Below w.heap.size w w' := by
  obtain ⟨a, c, rfl, hc, h64, h3⟩ := h
  have hcl : ∀ k, k < l.length → ∃ b o, a = some ⟨b, o, none⟩ ∧ b < w.heap.size ∧ w.cell? ⟨b, o + k * 2, none⟩ = some (.int .u64 ((l.getD k (0, 0)).1 : Int)) ∧ w.cell? ⟨b, o + k * 2 + 1, none⟩ = some (.int .i64 (l.getD k (0, 0)).2) := by
    intro k hk
    rcases h3 with rfl | ⟨b, o, rfl, h5, h6⟩
    · simp at hk
    exact ⟨b, o, rfl, h5, h6 k hk⟩
  have HCL := Box'.mk hcl
  have TT := Box'.mk (Gf.tot_take l)
  have AT := Box'.mk (@all_take l)
  have CC := Box'.mk (Gf.cntE_cases l)
  have LE : Box' (l.take l.length = l) := ⟨List.take_length⟩
  have NM : Box' (∀ k, k < l.length → Gf.may (l.getD k (0, 0)) = false → Gf.cntE l = 2) := ⟨fun k hk hf => by
    unfold Gf.cntE
    rw [if_neg]
    intro hall
    have := hall l[k] (List.getElem_mem hk)
    simp [hk, this] at hf⟩
  generalize hn : l.length = n at *
  clear hcl h3 h64 hn
  go_enter Try.func8, Try.ntmps8
  go_wp2_with fail
  go_loopw [4, 9] (fun t i wr => ∃ k m : Nat, k ≤ n ∧ i = .int .i64 (k : Int) ∧ t = .int .i64 (m : Int) ∧ m ≤ 524289 ∧ Box' (m = min (Gf.tot (l.take k)) 524289) ∧ Box' (∀ x ∈ l.take k, Gf.may x = true) ∧ Below w.heap.size w wr) (fun _ i _ => n - (intOf i).toNat)
  case atStart => exact ⟨0, 0, by omega, rfl, rfl, by omega, ⟨by simp [Gf.tot]⟩, ⟨by simp⟩, Below.refl _ _⟩
  case round =>
    obtain ⟨k, m, hk, rfl, rfl, hm, HM, HA, hbl⟩ := hrel
    by_cases hlt : k < n
    · obtain ⟨b, o, rfl, hbw, c0, c1⟩ := HCL.out k hlt
      have TK := Box'.mk (TT.out k hlt)
      have AK := Box'.mk (AT.out hlt HA.out)
      have NK := Box'.mk (NM.out k hlt)
      obtain ⟨hc0, -⟩ := bcell hbl
      rw [← hc0 _ _ hbw] at c0 c1
      have hbs := hbl.size
      clear hc0
      generalize l.getD k (0, 0) = x at *
      obtain ⟨xv, xs⟩ := x
      simp only at c0 c1
      go_wp2_with fail
      cases hmay : Gf.may (xv, xs) with
      | false =>
        have e2 := Box'.mk (NK.out hmay)
        have e3 : Box' (Gf.cntN l = 0) := ⟨by unfold Gf.cntN; rw [e2.out]; rfl⟩
        refine (mayBe_any xv xs _).mono ?_
        rw [hmay]
        rintro e w1 ⟨rfl, hb1⟩
        have bl2 : Below w.heap.size w w1 := (hbl.alloc hbs _).trans (hb1.mono (by simp; omega))
        clear hb1 c0 c1 HCL TT AT CC NM NK AK
        go_wp2_with fail
        go_ret2
        exact ⟨by rw [e2.out, e3.out]; rfl, bl2⟩
      | true =>
        refine (mayBe_any xv xs _).mono ?_
        rw [hmay]
        rintro e w1 ⟨rfl, hb1⟩
        have bl2 : Below w.heap.size w w1 := (hbl.alloc hbs _).trans (hb1.mono (by simp; omega))
        have r1 : Row w1 wr.heap.size 39 #[.int .u64 (xv : Int), .int .i64 xs] := (Row.new _ _ _).below hb1 (by simp)
        have c2 : w1.cell? ⟨wr.heap.size, 1, none⟩ = some (.int .i64 xs) := by rw [r1.cell]; rfl
        have hxs : 0 ≤ xs ∧ xs ≤ 64 := by unfold Gf.may at hmay; have := of_decide_eq_true hmay; exact ⟨this.1, this.2.1⟩
        obtain ⟨hx0, hx1⟩ := hxs
        have AK2 := Box'.mk (AK.out hmay)
        clear hb1 c0 c1 r1 hmay NK AK HCL TT AT CC NM
        go_wp2_with fail
        refine ⟨⟨k + 1, min (Gf.tot (l.take (k + 1))) 524289, by omega, by go_num, ?_, Nat.min_le_right _ _, ⟨rfl⟩, ⟨AK2.out⟩, bl2⟩, by simp [intOf]; omega⟩
        have h1 := HM.out
        have h2 := TK.out
        congr 1
        split <;> omega
    · obtain rfl : k = n := by omega
      have h1 := HM.out
      have hA := HA.out
      rw [LE.out] at h1 hA
      rcases CC.out with ⟨e1, _, e3⟩ | ⟨e1, _, e3⟩ | ⟨e1, e2⟩
      · have e4 : Box' (Gf.cntN l = (m : Int)) := ⟨by unfold Gf.cntN; rw [if_pos e1]; omega⟩
        have e5 := Box'.mk e1
        have hm2 : m ≤ 524288 := by omega
        clear h1 hA CC HCL TT AT NM HM HA e1 e3
        go_wp2_with fail
        go_ret2
        exact ⟨by rw [e4.out, e5.out]; rfl, hbl⟩
      · have e4 : Box' (Gf.cntN l = 0) := ⟨by unfold Gf.cntN; rw [if_neg (by rw [e1]; decide)]⟩
        have e5 := Box'.mk e1
        have hm2 : 524288 < (m : Int) := by omega
        clear h1 hA CC HCL TT AT NM HM HA e1 e3
        go_wp2_with fail
        go_ret2
        exact ⟨by rw [e4.out, e5.out]; rfl, hbl⟩
      · exact absurd hA e2
set_option maxHeartbeats 1000000 in
theorem refCount_any (v : Value) (l : List (Nat × Int)) (hl : l.length ≤ 140737488355328) (w : World) (h : Prs w.heap.size w v l) :
    Calls Try.prog 9 #[v] w fun e w' => e = .returned (.tuple #[.int .i64 (Gf.cntN l), .int .i64 (Gf.cntE l)]) ∧ Below w.heap.size w w' := by
  obtain ⟨a, c, rfl, hc, h64, h3⟩ := h
  have hcl : ∀ k, k < l.length → ∃ b o, a = some ⟨b, o, none⟩ ∧ b < w.heap.size ∧ w.cell? ⟨b, o + k * 2, none⟩ = some (.int .u64 ((l.getD k (0, 0)).1 : Int)) ∧ w.cell? ⟨b, o + k * 2 + 1, none⟩ = some (.int .i64 (l.getD k (0, 0)).2) := by
    intro k hk
    rcases h3 with rfl | ⟨b, o, rfl, h5, h6⟩
    · simp at hk
    exact ⟨b, o, rfl, h5, h6 k hk⟩
  have HCL := Box'.mk hcl
  have TT := Box'.mk (Gf.tot_take l)
  have AT := Box'.mk (@all_take l)
  have CC := Box'.mk (Gf.cntE_cases l)
  have LE : Box' (l.take l.length = l) := ⟨List.take_length⟩
  have NM : Box' (∀ k, k < l.length → Gf.may (l.getD k (0, 0)) = false → Gf.cntE l = 2) := ⟨fun k hk hf => by
    unfold Gf.cntE
    rw [if_neg]
    intro hall
    have := hall l[k] (List.getElem_mem hk)
    simp [hk, this] at hf⟩
  have H64 : Box' (∀ k, k < l.length → (l.getD k (0, 0)).1 < 18446744073709551616) := ⟨fun k hk => by have := h64 l[k] (List.getElem_mem hk); simpa [hk] using this⟩
  generalize hn : l.length = n at *
  clear hcl h3 h64 hn
  go_enter Try.func9, Try.ntmps9
  go_wp2_with fail
  go_loopw [4, 5] (fun t i wr => ∃ k m : Nat, k ≤ n ∧ i = .int .i64 (k : Int) ∧ t = .int .i64 (m : Int) ∧ m ≤ 64 * k ∧ Box' (m = Gf.tot (l.take k)) ∧ Box' (∀ x ∈ l.take k, Gf.may x = true) ∧ Below w.heap.size w wr) (fun _ i _ => n - (intOf i).toNat)
  case atStart => exact ⟨0, 0, by omega, rfl, rfl, by omega, ⟨by simp [Gf.tot]⟩, ⟨by simp⟩, Below.refl _ _⟩
  case round =>
    obtain ⟨k, m, hk, rfl, rfl, hm, HM, HA, hbl⟩ := hrel
    by_cases hlt : k < n
    · obtain ⟨b, o, rfl, hbw, c0, c1⟩ := HCL.out k hlt
      have TK := Box'.mk (TT.out k hlt)
      have AK := Box'.mk (AT.out hlt HA.out)
      have NK := Box'.mk (NM.out k hlt)
      have hx64 := H64.out k hlt
      obtain ⟨hc0, -⟩ := bcell hbl
      rw [← hc0 _ _ hbw] at c0 c1
      have hbs := hbl.size
      clear hc0
      generalize l.getD k (0, 0) = x at *
      obtain ⟨xv, xs⟩ := x
      simp only at c0 c1
      go_wp2_with fail
      cases hmay : Gf.may (xv, xs) with
      | false =>
        have e2 := Box'.mk (NK.out hmay)
        have e3 : Box' (Gf.cntN l = 0) := ⟨by unfold Gf.cntN; rw [e2.out]; rfl⟩
        refine (refMay_any xv hx64 xs _).mono ?_
        rw [hmay]
        rintro e w1 ⟨rfl, hb1⟩
        have bl2 : Below w.heap.size w w1 := hbl.trans (hb1.mono hbs)
        clear hb1 c0 c1 HCL TT AT CC NM NK AK
        go_wp2_with fail
        go_ret2
        exact ⟨by rw [e2.out, e3.out]; rfl, bl2⟩
      | true =>
        refine (refMay_any xv hx64 xs _).mono ?_
        rw [hmay]
        rintro e w1 ⟨rfl, hb1⟩
        have bl2 : Below w.heap.size w w1 := hbl.trans (hb1.mono hbs)
        have c2 : w1.cell? ⟨b, o + k * 2 + 1, none⟩ = some (.int .i64 xs) := by rw [hb1.cell (p := ⟨b, o + k * 2 + 1, none⟩) (by show b < _; omega)]; exact c1
        have hxs : 0 ≤ xs ∧ xs ≤ 64 := by unfold Gf.may at hmay; have := of_decide_eq_true hmay; exact ⟨this.1, this.2.1⟩
        obtain ⟨hx0, hx1⟩ := hxs
        have AK2 := Box'.mk (AK.out hmay)
        clear hb1 c0 c1 hmay NK AK HCL TT AT CC NM
        go_wp2_with fail
        refine ⟨⟨k + 1, Gf.tot (l.take (k + 1)), by omega, by go_num, ?_, ?_, ⟨rfl⟩, ⟨AK2.out⟩, bl2⟩, by simp [intOf]; omega⟩
        all_goals
          have h1 := HM.out
          have h2 := TK.out
          have h3 : (xs.toNat : Int) = xs := Int.toNat_of_nonneg hx0
          rw [h2]
        · congr 1; omega
        · omega
    · obtain rfl : k = n := by omega
      have h1 := HM.out
      have hA := HA.out
      rw [LE.out] at h1 hA
      rcases CC.out with ⟨e1, _, e3⟩ | ⟨e1, _, e3⟩ | ⟨e1, e2⟩
      · have e4 : Box' (Gf.cntN l = (m : Int)) := ⟨by unfold Gf.cntN; rw [if_pos e1]; omega⟩
        have e5 := Box'.mk e1
        have hm2 : m ≤ 524288 := by omega
        clear h1 hA CC HCL TT AT NM HM HA e1 e3
        go_wp2_with fail
        go_ret2
        exact ⟨by rw [e4.out, e5.out]; rfl, hbl⟩
      · have e4 : Box' (Gf.cntN l = 0) := ⟨by unfold Gf.cntN; rw [if_neg (by rw [e1]; decide)]⟩
        have e5 := Box'.mk e1
        have hm2 : 524288 < (m : Int) := by omega
        clear h1 hA CC HCL TT AT NM HM HA e1 e3
        go_wp2_with fail
        go_ret2
        exact ⟨by rw [e4.out, e5.out]; rfl, hbl⟩
      · exact absurd hA e2
end Go.Proofs.Ytkdhoneecaplbaa
