/- The walk of InflateTables. -/
import Derived.Test.YtbnghmeeddjaoaaHd
namespace Go.Proofs.Ytbnghmeeddjaoaa
open Go.RowKit Go.BigFrame Gt

set_option maxRecDepth 100000 in
set_option maxHeartbeats 4000000 in
theorem tables_any (z : Int) (w : World) : Calls Try.prog 4 #[.int .i64 z] w fun e w' => e = .returned (.bool true) ∧ Below w.heap.size w w' := by
  have h1 := length_any z w
  have h2 := refLength_any z w
  have h3 := distance_any z w
  have h4 := refDistance_any z w
  simp only [tv] at h1 h2 h3 h4
  generalize Gf.lenT z = A at *
  generalize Gf.disT z = D at *
  obtain ⟨a1, a2, a3⟩ := A
  obtain ⟨d1, d2, d3⟩ := D
  simp only at h1 h2 h3 h4
  have h5 := fixed_any w
  go_enter Try.func4, Try.ntmps4
  go_wp2_with fail
  refine h1.mono ?_
  rintro e w' ⟨rfl, rfl⟩
  clear h1
  go_wp2_with fail
  refine h2.mono ?_
  rintro e w' ⟨rfl, rfl⟩
  clear h2
  go_wp2_with fail
  refine h3.mono ?_
  rintro e w' ⟨rfl, rfl⟩
  clear h3
  go_wp2_with fail
  refine h4.mono ?_
  rintro e w' ⟨rfl, rfl⟩
  clear h4
  go_wp2_with fail
  refine h5.mono ?_
  rintro e w1 ⟨g, c, h, rfl, hc, hg, sg, hh, sh, b1⟩
  have h6 := refFixed_any w1
  have SG := Box'.mk sg
  have SH := Box'.mk sh
  have B1 := Box'.mk b1
  clear h5 sg sh b1 hg hh
  go_wp2_with fail
  refine h6.mono ?_
  rintro e w2 ⟨g', h', rfl, hg, sg, hh, sh, b2⟩
  have SG2 := Box'.mk (SG.out.below b2)
  have SH2 := Box'.mk (SH.out.below b2)
  have SG3 := Box'.mk sg
  have SH3 := Box'.mk sh
  have B2 := Box'.mk (B1.out.trans (b2.mono B1.out.size))
  have KC : Box' (fixS.length = 288 ∧ fixD.length = 30) := ⟨by decide⟩
  clear h6 sg sh b2 hg hh SG SH B1
  generalize fixS = FS at *
  generalize fixD = FD at *
  go_wp2_with fail
  go_loopw [19] (fun i wr => ∃ k : Nat, k ≤ 288 ∧ i = .int .i64 (k : Int) ∧ Box' (∃ m, wr = w2.drewN m)) (fun i _ => 288 - (intOf i).toNat)
  case atStart => exact ⟨0, by omega, rfl, ⟨0, rfl⟩⟩
  case round =>
    obtain ⟨k, hk, rfl, HW⟩ := hrel
    obtain ⟨m, rfl⟩ := HW.out
    by_cases hlt : k < 288
    · have c1 : (w2.drewN m).cell? ⟨g, k, none⟩ = some (.int .i64 (FS.getD k 0)) := (SG2.out.drewN m).cell (by rw [KC.out.1]; exact hlt)
      have c2 : (w2.drewN m).cell? ⟨g', k, none⟩ = some (.int .i64 (FS.getD k 0)) := (SG3.out.drewN m).cell (by rw [KC.out.1]; exact hlt)
      generalize FS.getD k 0 = x at *
      have HWD : Box' (∀ j, ∃ m', (w2.drewN m).drewN j = w2.drewN m') := ⟨fun j => ⟨m + j, by rw [World.drewN_drewN]⟩⟩
      by_cases hl3 : k < 30
      · have c3 : (w2.drewN m).cell? ⟨h, k, none⟩ = some (.int .i64 (FD.getD k 0)) := (SH2.out.drewN m).cell (by rw [KC.out.2]; exact hl3)
        have c4 : (w2.drewN m).cell? ⟨h', k, none⟩ = some (.int .i64 (FD.getD k 0)) := (SH3.out.drewN m).cell (by rw [KC.out.2]; exact hl3)
        generalize FD.getD k 0 = y at *
        clear HW
        generalize w2.drewN m = wm at *
        have q1 : decide ((k : Int) < 30) = true := decide_eq_true (by omega)
        have q2 : decide (k < 30) = true := decide_eq_true hl3
        go_wp2_with fail
        go_quiet (fail)
        clear c1 c2 c3 c4
        go_wp2_with fail
        exact ⟨⟨k + 1, by omega, by go_num, ⟨HWD.out nq⟩⟩, by simp [intOf]; omega⟩
      · clear HW
        generalize w2.drewN m = wm at *
        have q1 : decide ((k : Int) < 30) = false := decide_eq_false (by omega)
        have q2 : decide (k < 30) = false := decide_eq_false hl3
        go_wp2_with fail
        go_quiet (fail)
        clear c1 c2
        go_wp2_with fail
        exact ⟨⟨k + 1, by omega, by go_num, ⟨HWD.out nq⟩⟩, by simp [intOf]; omega⟩
    · obtain rfl : k = 288 := by omega
      have ha := anchored_any (w2.drewN m)
      have B3 := Box'.mk (Below.drewN B2.out m)
      clear HW
      generalize w2.drewN m = wm at *
      go_wp2_with fail
      refine ha.mono ?_
      rintro e w3 ⟨rfl, b3⟩
      have B4 := Box'.mk (B3.out.trans (b3.mono B3.out.size))
      clear ha b3 B3
      go_wp2_with fail
      go_ret
      exact ⟨rfl, B4.out⟩
end Go.Proofs.Ytbnghmeeddjaoaa
