/- The widths of a text: the program's way and the reference's. -/
import Derived.Test.YtmflhcbojgaekaaI
import Derived.Test.YtmflhcbojgaekaaJ
import Derived.Laws.Small
namespace Go.Proofs.Ytmflhcbojgaekaa
open Go.RowKit Go.BigFrame
set_option linter.unusedVariables false
set_option linter.unusedSimpArgs false

set_option maxHeartbeats 2000000 in
theorem text_any (v : Value) (l : List Int) (hl : l.length ≤ 140737488355328) (w : World) (h : Rns w.heap.size w v l) :
    Calls Try.prog 12 #[v] w fun e w' => e = .returned (.int .i64 (txtF l)) ∧ Below w.heap.size w w' := by
  obtain ⟨a, cp, rfl, hc, h3⟩ := h
  have hcl : ∀ k, k < l.length → ∃ b o, a = some ⟨b, o, none⟩ ∧ b < w.heap.size ∧ w.cell? ⟨b, o + k, none⟩ = some (.int .i32 (l.getD k 0)) := by
    intro k hk
    rcases h3 with rfl | ⟨b, o, rfl, h5, h6⟩
    · simp at hk
    exact ⟨b, o, rfl, h5, h6 k hk⟩
  have HCL := Box'.mk hcl
  have TT : Box' (∀ k, k < l.length → txtF (l.take (k + 1)) = txtF (l.take k) + max (ofF (l.getD k 0)) 0) := ⟨fun k hk => txt_take hk⟩
  have LE : Box' (l.take l.length = l) := ⟨List.take_length⟩
  generalize hn : l.length = n at *
  clear hcl h3 hn
  go_enter Try.func12, Try.ntmps12
  go_wp2_with fail
  go_loopw [3, 8] (fun t i wr => ∃ (k : Nat) (m : Int), k ≤ n ∧ i = .int .i64 (k : Int) ∧ t = .int .i64 m ∧ 0 ≤ m ∧ m ≤ 2 * (k : Int) ∧ Box' (m = txtF (l.take k)) ∧ Below w.heap.size w wr) (fun _ i _ => n - (intOf i).toNat)
  case atStart => exact ⟨0, 0, by omega, rfl, rfl, by omega, by omega, ⟨by simp [txtF]⟩, Below.refl _ _⟩
  case round =>
    obtain ⟨k, m, hk, rfl, rfl, hm0, hm1, HM, hbl⟩ := hrel
    by_cases hlt : k < n
    · obtain ⟨b, o, rfl, hbw, c0⟩ := HCL.out k hlt
      have TK := Box'.mk (TT.out k hlt)
      obtain ⟨hc0, -⟩ := bcell hbl
      rw [← hc0 _ _ hbw] at c0
      have hbs := hbl.size
      clear hc0
      generalize l.getD k 0 = x at *
      have OX := Box'.mk (of_any x wr)
      have OC := of_cases x
      generalize ofF x = y at *
      have HB := Box'.mk hbl
      clear hbl HCL TT
      go_wp2_with fail
      refine OX.out.mono ?_
      rintro e w1 ⟨rfl, hb1⟩
      have B1 := Box'.mk (HB.out.trans (hb1.mono HB.out.size))
      clear hb1 c0 OX HB
      have T2 : Box' (m + max y 0 = txtF (l.take (k + 1))) := ⟨by rw [TK.out, HM.out]⟩
      clear TK HM
      rcases OC with rfl | rfl | rfl | rfl
      all_goals go_wp2_with fail
      all_goals refine ⟨⟨k + 1, _, by omega, by go_num, rfl, by omega, by omega, ⟨?_⟩, B1.out⟩, by simp [intOf]; omega⟩
      all_goals rw [← T2.out]
      all_goals first | rfl | omega | simp
    · obtain rfl : k = n := by omega
      have h1 := HM.out
      rw [LE.out] at h1
      have H1 := Box'.mk h1
      clear h1 HM HCL TT
      go_wp2_with fail
      go_ret
      exact ⟨by rw [H1.out]; rfl, hbl⟩
set_option maxHeartbeats 2000000 in
theorem refText_any (v : Value) (l : List Int) (hl : l.length ≤ 140737488355328) (w : World) (h : Rns w.heap.size w v l) :
    Calls Try.prog 13 #[v] w fun e w' => e = .returned (.int .i64 (txtF l)) ∧ Below w.heap.size w w' := by
  obtain ⟨a, cp, rfl, hc, h3⟩ := h
  have hcl : ∀ k, k < l.length → ∃ b o, a = some ⟨b, o, none⟩ ∧ b < w.heap.size ∧ w.cell? ⟨b, o + k, none⟩ = some (.int .i32 (l.getD k 0)) := by
    intro k hk
    rcases h3 with rfl | ⟨b, o, rfl, h5, h6⟩
    · simp at hk
    exact ⟨b, o, rfl, h5, h6 k hk⟩
  have HCL := Box'.mk hcl
  have TT : Box' (∀ k, k < l.length → txtF (l.take (k + 1)) = txtF (l.take k) + max (ofF (l.getD k 0)) 0) := ⟨fun k hk => txt_take hk⟩
  have LE : Box' (l.take l.length = l) := ⟨List.take_length⟩
  generalize hn : l.length = n at *
  clear hcl h3 hn
  go_enter Try.func13, Try.ntmps13
  go_wp2_with fail
  go_loopw [3, 4] (fun t i wr => ∃ (k : Nat) (m : Int), k ≤ n ∧ i = .int .i64 (k : Int) ∧ t = .int .i64 m ∧ 0 ≤ m ∧ m ≤ 2 * (k : Int) ∧ Box' (m = txtF (l.take k)) ∧ Below w.heap.size w wr) (fun _ i _ => n - (intOf i).toNat)
  case atStart => exact ⟨0, 0, by omega, rfl, rfl, by omega, by omega, ⟨by simp [txtF]⟩, Below.refl _ _⟩
  case round =>
    obtain ⟨k, m, hk, rfl, rfl, hm0, hm1, HM, hbl⟩ := hrel
    by_cases hlt : k < n
    · obtain ⟨b, o, rfl, hbw, c0⟩ := HCL.out k hlt
      have TK := Box'.mk (TT.out k hlt)
      obtain ⟨hc0, -⟩ := bcell hbl
      rw [← hc0 _ _ hbw] at c0
      have hbs := hbl.size
      clear hc0
      generalize l.getD k 0 = x at *
      have OX := Box'.mk (refOf_any x wr)
      have OC := of_cases x
      generalize ofF x = y at *
      have HB := Box'.mk hbl
      clear hbl HCL TT
      go_wp2_with fail
      refine OX.out.mono ?_
      rintro e w1 ⟨rfl, hb1⟩
      have B1 := Box'.mk (HB.out.trans (hb1.mono HB.out.size))
      clear hb1 c0 OX HB
      have T2 : Box' (m + max y 0 = txtF (l.take (k + 1))) := ⟨by rw [TK.out, HM.out]⟩
      clear TK HM
      rcases OC with rfl | rfl | rfl | rfl
      all_goals go_wp2_with fail
      all_goals refine ⟨⟨k + 1, _, by omega, by go_num, rfl, by omega, by omega, ⟨?_⟩, B1.out⟩, by simp [intOf]; omega⟩
      all_goals rw [← T2.out]
      all_goals first | rfl | omega | simp
    · obtain rfl : k = n := by omega
      have h1 := HM.out
      rw [LE.out] at h1
      have H1 := Box'.mk h1
      clear h1 HM HCL TT
      go_wp2_with fail
      go_ret
      exact ⟨by rw [H1.out]; rfl, hbl⟩
end Go.Proofs.Ytmflhcbojgaekaa
