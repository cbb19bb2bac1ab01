/- The reference's Since. -/
import Derived.Test.YtpgljhgfoihnjaaPd
namespace Go.Proofs.Ytpgljhgfoihnjaa
open Go.RowKit Go.BigFrame
set_option maxRecDepth 100000
set_option linter.unusedSimpArgs false
set_option linter.unusedVariables false

/-- What Since answers. -/
def sinF (l : List Ev) (n : Int) : List Ev × Int := if mayL l = true ∧ 0 ≤ n ∧ n ≤ l.length then (l.drop n.toNat, 0) else ([], 2)
/-- What is asked of a function that tells the events from a number on. -/
def SinC (f : Nat) : Prop := ∀ (w : World) (v : Value) (l : List Ev) (n : Int), l.length ≤ 140737488355328 → Evs w.heap.size w v l →
  Calls Try.prog f #[v, .int .i64 n] w fun e w' => ∃ (u : Value) (ps : List (Ev × Value)), e = .returned (.tuple #[u, .int .i64 (sinF l n).2]) ∧ ps.map (·.1) = (sinF l n).1 ∧ OwnE w.heap.size w' u ps ∧ Below w.heap.size w w'
set_option maxHeartbeats 4000000 in
theorem refSince_C : SinC 11 := by
  intro w v l n hl h
  have m1 := refMayL_C w v l hl h
  have HS := Box'.mk (sinF.eq_1 l n)
  obtain ⟨a, c, rfl, hc⟩ := h.cap
  have CP : Box' (mayL l = true → ∀ k : Nat, k ≤ l.length → ∀ w1, Below w.heap.size w w1 → Calls Try.prog 19 #[.slice (backE a c k) (l.length - k) (c - k)] w1 fun e w' => ∃ (u : Value) (ps : List (Ev × Value)), e = .returned u ∧ ps.map (·.1) = l.drop k ∧ OwnE w1.heap.size w' u ps ∧ Below w1.heap.size w1 w') := ⟨fun hm k hk w1 b => by
    obtain ⟨h1, h2⟩ := mayL_len hm
    refine refCpy_C w1 _ (l.drop k) (by rw [List.length_drop]; omega) (fun j hj => ?_) (((h.back hk).below b (Nat.le_refl _)).up b.size)
    rw [List.length_drop] at hj
    rw [show (l.drop k).getD j Ev.none = l.getD (k + j) Ev.none by simp [List.getD_eq_getElem?_getD]]
    exact Nat.le_trans (may_len (badE_get h2 (by omega))) (by decide)⟩
  have SL : Box' (∀ k : Nat, k ≤ l.length → ∀ w, (Instr.sliceAt 22 (.slice a l.length c) (some (.int .i64 (k : Int))) none none).run Try.prog w = .ok (.slice (backE a c k) (l.length - k) (c - k)) w) := ⟨fun k h w => run_backE a l.length c k h hc w⟩
  have LM := Box'.mk (fun h => (mayL_len (l := l) h).1)
  clear h
  generalize sinF l n = R at *
  generalize mayL l = p at *
  generalize hm : l.length = m at *
  clear hm
  go_enter Try.func11, Try.ntmps11
  go_wp2_with fail
  refine m1.mono ?_
  rintro e w1 ⟨rfl, b1⟩
  have B1 := Box'.mk b1
  clear m1 b1
  cases p with
  | false =>
    have RE : Box' (R = ([], 2)) := ⟨by rw [HS.out, if_neg (by rintro ⟨h, _⟩; cases h)]⟩
    clear HS CP SL LM
    go_wp2_with fail
    go_ret2
    exact ⟨_, [], by rw [RE.out]; rfl, by rw [RE.out]; rfl, OwnE.nil _ _, B1.out⟩
  | true =>
    by_cases h0 : n < 0
    · have RE : Box' (R = ([], 2)) := ⟨by rw [HS.out, if_neg (by rintro ⟨_, h, _⟩; omega)]⟩
      clear HS CP SL LM
      go_wp2_with fail
      go_ret2
      exact ⟨_, [], by rw [RE.out]; rfl, by rw [RE.out]; rfl, OwnE.nil _ _, B1.out⟩
    · by_cases h1 : (m : Int) < n
      · have RE : Box' (R = ([], 2)) := ⟨by rw [HS.out, if_neg (by rintro ⟨_, _, h⟩; omega)]⟩
        clear HS CP SL LM
        go_wp2_with fail
        go_ret2
        exact ⟨_, [], by rw [RE.out]; rfl, by rw [RE.out]; rfl, OwnE.nil _ _, B1.out⟩
      · obtain ⟨k, rfl⟩ : ∃ k : Nat, n = (k : Int) := ⟨n.toNat, by omega⟩
        have hk : k ≤ m := by omega
        have RE : Box' (R = (l.drop k, 0)) := ⟨by rw [HS.out, if_pos ⟨by simp, by omega, by omega⟩]; simp⟩
        have cp := CP.out (by simp) k hk w1 B1.out
        have sl := Box'.mk (SL.out k hk)
        clear HS CP SL LM
        go_wp2_with (first | (refine wpList_slice rfl 22 (.tmp 19) (some (.tmp 20)) none none rfl _ (sl.out _) ?_) | fail)
        refine cp.mono ?_
        rintro e w2 ⟨u, ps, rfl, hp, o2, b2⟩
        have B2 := Box'.mk (B1.out.trans (b2.mono B1.out.size))
        have HP := Box'.mk hp
        have O2 : Box' (OwnE w.heap.size w2 u ps) := ⟨⟨⟨o2.row.1, by rcases o2.row.2 with q | ⟨g, cap, cur, e1, e2, e3⟩; exact .inl q; exact .inr ⟨g, cap, cur, e1, Nat.le_trans B1.out.size e2, e3⟩⟩, fun p hp => (o2.own p hp).less B1.out.size, o2.dis⟩⟩
        clear cp o2 b2 hp sl B1
        go_wp2_with fail
        go_ret2
        exact ⟨_, ps, by rw [RE.out]; rfl, by rw [RE.out]; exact HP.out, O2.out, B2.out⟩
end Go.Proofs.Ytpgljhgfoihnjaa
