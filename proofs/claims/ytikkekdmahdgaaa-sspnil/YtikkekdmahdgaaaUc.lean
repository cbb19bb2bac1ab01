/- Where a number stands: the program's find. -/
import Derived.Test.YtikkekdmahdgaaaUb
namespace Go.Proofs.Ytikkekdmahdgaaa
open Go.RowKit Go.BigFrame
set_option linter.unusedSimpArgs false
set_option linter.unusedVariables false
set_option maxRecDepth 100000
set_option maxHeartbeats 4000000

theorem search_any (g n c : Nat) (m : UInt64) (l : List Rw) (w : World) (hN : NbR w g l) (hn : l.length = n) (hc : n ≤ c) (hm : n ≤ 1048576) (hR : Rise l) :
    Calls Try.prog 47 #[.slice (some ⟨g, 0, none⟩) n c, .int .u64 (m.toNat : Int), .func (.func 48) #[] #[]] w fun e w' => e = .returned (.tuple #[.int .i64 (lwN m.toNat l : Int), .bool (hasN m.toNat l)]) ∧ Below w.heap.size w w' := by
  have hmm := m.toNat_lt
  have CA := Box'.mk fun (wa : World) (hb : Below w.heap.size w wa) (k : Nat) (hk : k < n) => (hN.below hb).at k (by omega)
  have HG := Box'.mk fun (k : Nat) (h1 : lwN m.toNat l ≤ k) (h2 : k < n) => hR.ge m.toNat k h1 (by omega)
  have HL := Box'.mk fun (k : Nat) (h1 : k < lwN m.toNat l) => lwN_lt m.toNat l k h1
  have hle : lwN m.toNat l ≤ n := hn ▸ lwN_le m.toNat l
  have HH : Box' (hasN m.toNat l = decide (lwN m.toNat l < n ∧ (l.getD (lwN m.toNat l) Rw.zero).n.toNat = m.toNat)) := ⟨by unfold hasN; rw [hn]⟩
  clear hN hn hR
  generalize hasN m.toNat l = hs at *
  generalize lwN m.toNat l = q at *
  generalize m.toNat = mm at *
  go_enter Try.func47, Try.ntmps47
  go_wp2_with fail
  go_loopw [9, 10] (fun i j wr => ∃ lo hi : Nat, lo ≤ q ∧ q ≤ hi ∧ hi ≤ n ∧ i = .int .i64 (lo : Int) ∧ j = .int .i64 (hi : Int) ∧ Below w.heap.size w wr) (fun i j _ => (intOf j).toNat - (intOf i).toNat)
  case atStart => exact ⟨0, n, Nat.zero_le _, hle, Nat.le_refl _, rfl, rfl, Below.refl _ _⟩
  case round =>
    obtain ⟨lo, hi, h1, h2, h3, rfl, rfl, hb⟩ := hrel
    by_cases hlt : lo < hi
    · have ck := CA.out wr hb ((lo + hi) / 2) (by omega)
      have f1 := Box'.mk (HG.out ((lo + hi) / 2))
      have f2 := Box'.mk (HL.out ((lo + hi) / 2))
      have ca := find1_any (l.getD ((lo + hi) / 2) Rw.zero).n.toNat mm (l.getD ((lo + hi) / 2) Rw.zero).t wr
      generalize (l.getD ((lo + hi) / 2) Rw.zero).n.toNat = y at *
      generalize (l.getD ((lo + hi) / 2) Rw.zero).t = ty at *
      obtain ⟨k1, k2⟩ := ck
      clear CA HG HL HH
      go_wp2_with fail
      refine ca.mono ?_
      rintro e w2 ⟨rfl, hw⟩
      have b2 := hb.trans (hw.mono hb.size)
      clear ca k1 k2 hw
      have ed : (((lo + hi) / 2 : Nat) : Int) = ((lo : Int) + (hi : Int)) / 2 := by omega
      by_cases hy : y < mm
      · have e1 : cmpF y mm = -1 := by unfold cmpF; rw [if_pos hy]
        have hq : (lo + hi) / 2 + 1 ≤ q := by
          rcases Nat.lt_or_ge ((lo + hi) / 2) q with h | h
          · exact h
          · have := f1.out h (by omega)
            omega
        rw [e1]
        go_wp2_with fail
        exact ⟨⟨(lo + hi) / 2 + 1, hi, hq, h2, h3, by rw [Int.natCast_add, ed]; rfl, rfl, b2⟩, by simp [intOf]; omega⟩
      · have hq : q ≤ (lo + hi) / 2 := by
          rcases Nat.lt_or_ge ((lo + hi) / 2) q with h | h
          · have := f2.out h
            omega
          · exact h
        have hc0 : 0 ≤ cmpF y mm := by unfold cmpF; rw [if_neg hy]; split <;> omega
        generalize cmpF y mm = cv at *
        go_wp2_with fail
        exact ⟨⟨lo, (lo + hi) / 2, h1, hq, by omega, rfl, by rw [ed], b2⟩, by simp [intOf]; omega⟩
    · obtain rfl : lo = q := by omega
      obtain rfl : hi = lo := by omega
      by_cases hqn : hi < n
      · have ck := CA.out wr hb hi hqn
        have ca := find1_any (l.getD hi Rw.zero).n.toNat mm (l.getD hi Rw.zero).t wr
        generalize (l.getD hi Rw.zero).n.toNat = y at *
        generalize (l.getD hi Rw.zero).t = ty at *
        obtain ⟨k1, k2⟩ := ck
        clear CA HG HL
        go_wp2_with fail
        refine ca.mono ?_
        rintro e w2 ⟨rfl, hw⟩
        have B2 := Box'.mk (hb.trans (hw.mono hb.size))
        clear ca k1 k2 hw hb
        by_cases hy : y = mm
        · have e1 : cmpF y mm = 0 := by unfold cmpF; rw [if_neg (by omega), if_neg (by omega)]
          have HS : Box' (hs = true) := ⟨by rw [HH.out]; exact decide_eq_true ⟨hqn, hy⟩⟩
          rw [e1]
          clear HH e1 hy
          go_wp2_with fail
          refine bodyPost_ret (results_tmp2 rfl _ _ _) rfl ?_
          exact ⟨by rw [HS.out]; rfl, B2.out⟩
        · have HS : Box' (hs = false) := ⟨by rw [HH.out]; exact decide_eq_false (fun h => hy h.2)⟩
          have e1 : (cmpF y mm == 0) = false := by unfold cmpF; split <;> (try split) <;> first | rfl | omega
          generalize cmpF y mm = cv at *
          clear HH hy
          go_wp2_with fail
          refine bodyPost_ret (results_tmp2 rfl _ _ _) rfl ?_
          exact ⟨by rw [HS.out]; rfl, B2.out⟩
      · have HS : Box' (hs = false) := ⟨by rw [HH.out]; exact decide_eq_false (fun h => hqn h.1)⟩
        have B2 := Box'.mk hb
        clear CA HG HL HH hb
        go_wp2_with fail
        refine bodyPost_ret (results_tmp2 rfl _ _ _) rfl ?_
        exact ⟨by rw [HS.out]; rfl, B2.out⟩
theorem find_any (g n c : Nat) (m : UInt64) (l : List Rw) (w : World) (hN : NbR w g l) (hn : l.length = n) (hc : n ≤ c) (hm : n ≤ 1048576) (hR : Rise l) :
    Calls Try.prog 35 #[.slice (some ⟨g, 0, none⟩) n c, .int .u64 (m.toNat : Int)] w fun e w' => e = .returned (.tuple #[.int .i64 (lwN m.toNat l : Int), .bool (hasN m.toNat l)]) ∧ Below w.heap.size w w' := by
  have sr := search_any g n c m l w hN hn hc hm hR
  clear hN hn hR
  go_enter Try.func35, Try.ntmps35
  go_wp2_with fail
  refine sr.mono ?_
  rintro e w1 ⟨rfl, hb⟩
  have HB := Box'.mk hb
  clear sr hb
  go_wp2_with fail
  refine bodyPost_ret (results_tmp2 rfl _ _ _) rfl ?_
  exact ⟨rfl, HB.out⟩
end Go.Proofs.Ytikkekdmahdgaaa
