/- The program's Since and Apply. -/
import Derived.Test.YtpgljhgfoihnjaaQe
import Derived.Test.YtpgljhgfoihnjaaPj
namespace Go.Proofs.Ytpgljhgfoihnjaa
open Go.RowKit Go.BigFrame
set_option maxRecDepth 100000
set_option linter.unusedSimpArgs false
set_option linter.unusedVariables false

/-- One list alone. -/
theorem joined_one (w : World) (gl : Nat) (v : Value) (l : List Ev) (hr : Row w gl 22 #[v]) (he : Evs w.heap.size w v l) (hm : l.length ≤ 4096) (hb : badE l = false) :
    Calls Try.prog 26 #[.slice (some ⟨gl, 0, none⟩) 1 1] w fun e w' => ∃ (u : Value) (ps : List (Ev × Value)), e = .returned u ∧ ps.map (·.1) = l ∧ OwnE w.heap.size w' u ps ∧ Below w.heap.size w w' := by
  obtain ⟨a, c, rfl, hc⟩ := he.cap
  refine joined_any w gl 1 (fun _ => a) (fun _ => c) (fun _ => l) (fun k => if k = 0 then [] else l) _ hr (fun k hk => ?_) (fun k hk => he) rfl (fun k hk => ?_) (by simp; omega) (fun k hk j hj => Nat.le_trans (may_len (badE_get hb hj)) (by decide)) (by decide)
  · obtain rfl : k = 0 := by omega
    rfl
  · obtain rfl : k = 0 := by omega
    simp
/-- Two lists. -/
theorem joined_two (w : World) (gl : Nat) (v1 v2 : Value) (l1 l2 : List Ev) (hr : Row w gl 22 #[v1, v2]) (h1 : Evs w.heap.size w v1 l1) (h2 : Evs w.heap.size w v2 l2) (m1 : l1.length ≤ 4096) (m2 : l2.length ≤ 4096) (b1 : badE l1 = false) (b2 : badE l2 = false) :
    Calls Try.prog 26 #[.slice (some ⟨gl, 0, none⟩) 2 2] w fun e w' => ∃ (u : Value) (ps : List (Ev × Value)), e = .returned u ∧ ps.map (·.1) = l1 ++ l2 ∧ OwnE w.heap.size w' u ps ∧ Below w.heap.size w w' := by
  obtain ⟨a1, c1, rfl, hc1⟩ := h1.cap
  obtain ⟨a2, c2, rfl, hc2⟩ := h2.cap
  refine joined_any w gl 2 (fun k => if k = 0 then a1 else a2) (fun k => if k = 0 then c1 else c2) (fun k => if k = 0 then l1 else l2) (fun k => if k = 0 then [] else if k = 1 then l1 else l1 ++ l2) _ hr (fun k hk => ?_) (fun k hk => ?_) rfl (fun k hk => ?_) (by simp; omega) (fun k hk j hj => ?_) (by decide)
  · rcases (show k = 0 ∨ k = 1 by omega) with rfl | rfl <;> rfl
  · rcases (show k = 0 ∨ k = 1 by omega) with rfl | rfl
    · exact h1
    · exact h2
  · rcases (show k = 0 ∨ k = 1 by omega) with rfl | rfl <;> simp
  · rcases (show k = 0 ∨ k = 1 by omega) with rfl | rfl
    · exact Nat.le_trans (may_len (badE_get b1 hj)) (by decide)
    · exact Nat.le_trans (may_len (badE_get b2 hj)) (by decide)
set_option maxHeartbeats 1000000 in
theorem since_C : SinC 10 := by
  intro w v l n hl h
  have m1 := may_C w v l hl h
  have HS := Box'.mk (sinF.eq_1 l n)
  obtain ⟨a, c, rfl, hc⟩ := h.cap
  have JN : Box' (mayL l = true → ∀ k : Nat, k ≤ l.length → ∀ w1, Below w.heap.size w w1 → Calls Try.prog 26 #[.slice (some ⟨w1.heap.size, 0, none⟩) 1 1] (w1.alloc (.cells #[.slice (backE a l.length k) (l.length - k) (l.length - k)] 22)) fun e w' => ∃ (u : Value) (ps : List (Ev × Value)), e = .returned u ∧ ps.map (·.1) = l.drop k ∧ OwnE w.heap.size w' u ps ∧ Below w.heap.size w w') := ⟨fun hm k hk w1 b => by
    obtain ⟨h1, h2⟩ := mayL_len hm
    have ba : Below w1.heap.size w1 (w1.alloc (.cells #[.slice (backE a l.length k) (l.length - k) (l.length - k)] 22)) := (Below.refl _ _).alloc (Nat.le_refl _) _
    have bb := b.trans (ba.mono b.size)
    have e := h.mid hk (Nat.le_refl _)
    rw [List.take_length] at e
    refine (joined_one _ w1.heap.size _ (l.drop k) (Row.new _ _ _) ((e.below bb (Nat.le_refl _)).up bb.size) (by rw [List.length_drop]; omega) (badE_front h2 k).2).mono fun e w' => ?_
    rintro ⟨u, ps, q1, q2, q3, q4⟩
    exact ⟨u, ps, q1, q2, q3.less bb.size, bb.trans (q4.mono bb.size)⟩⟩
  have PT : Box' (∀ k : Nat, k ≤ l.length → ∀ w1, Calls Try.prog 23 #[.slice a l.length c, .int .i64 (k : Int), .int .i64 (l.length : Int)] w1 fun e w' => e = .returned (.slice (backE a l.length k) (l.length - k) (l.length - k)) ∧ w' = w1) := ⟨fun k h w1 => part_any a l.length c k l.length h hc w1⟩
  have LM := Box'.mk (fun h => (mayL_len (l := l) h).1)
  clear h
  generalize sinF l n = R at *
  generalize mayL l = p at *
  generalize hm : l.length = m at *
  clear hm
  go_enter Try.func10, Try.ntmps10
  go_wp2_with fail
  refine m1.mono ?_
  rintro e w1 ⟨rfl, b1⟩
  have B1 := Box'.mk b1
  clear m1 b1
  cases p with
  | false =>
    have RE : Box' (R = ([], 2)) := ⟨by rw [HS.out, if_neg (by rintro ⟨h, _⟩; cases h)]⟩
    clear HS JN PT LM
    go_wp2_with fail
    go_ret2
    exact ⟨_, [], by rw [RE.out]; rfl, by rw [RE.out]; rfl, OwnE.nil _ _, B1.out⟩
  | true =>
    by_cases h0 : n < 0
    · have RE : Box' (R = ([], 2)) := ⟨by rw [HS.out, if_neg (by rintro ⟨_, h, _⟩; omega)]⟩
      clear HS JN PT LM
      go_wp2_with fail
      go_ret2
      exact ⟨_, [], by rw [RE.out]; rfl, by rw [RE.out]; rfl, OwnE.nil _ _, B1.out⟩
    · by_cases h1 : (m : Int) < n
      · have RE : Box' (R = ([], 2)) := ⟨by rw [HS.out, if_neg (by rintro ⟨_, _, h⟩; omega)]⟩
        clear HS JN PT LM
        go_wp2_with fail
        go_ret2
        exact ⟨_, [], by rw [RE.out]; rfl, by rw [RE.out]; rfl, OwnE.nil _ _, B1.out⟩
      · obtain ⟨k, rfl⟩ : ∃ k : Nat, n = (k : Int) := ⟨n.toNat, by omega⟩
        have hk : k ≤ m := by omega
        have RE : Box' (R = (l.drop k, 0)) := ⟨by rw [HS.out, if_pos ⟨by simp, by omega, by omega⟩]; simp⟩
        have jn := JN.out (by simp) k hk w1 B1.out
        have pt := PT.out k hk w1
        clear HS JN PT LM
        generalize backE a m k = A at *
        generalize m - k = d at *
        go_wp2_with fail
        refine pt.mono ?_
        rintro e w2 ⟨rfl, rfl⟩
        clear pt
        go_wp2_with fail
        refine jn.mono ?_
        rintro e w3 ⟨u, ps, rfl, hp, o3, b3⟩
        have B3 := Box'.mk b3
        have HP := Box'.mk hp
        have O3 := Box'.mk o3
        clear jn o3 b3 hp B1
        go_wp2_with fail
        go_ret2
        exact ⟨_, ps, by rw [RE.out]; rfl, by rw [RE.out]; exact HP.out, O3.out, B3.out⟩
theorem rdE_ok (b : List UInt8) : badE (rdE b).1 = false := by
  rw [badE_all]
  unfold rdE
  split
  · simp
  · cases he : evsR b with
    | error x => simp
    | ok p =>
      obtain ⟨xs, r⟩ := p
      cases r with
      | cons c t => simp
      | nil =>
        simp only
        unfold evsR at he
        cases hn : numF b with
        | error x => rw [hn] at he; cases he
        | ok q =>
          rw [hn] at he
          simp only at he
          split at he
          · cases he
          · obtain ⟨_, _, e3⟩ := evlR_form he
            exact e3
set_option maxHeartbeats 4000000 in
theorem apply_C : AppC 8 := by
  intro w v vd l d hl hd h hdd
  have m1 := may_C w v l hl h
  have HA := Box'.mk (appF.eq_1 l d)
  have RD : Box' (∀ w1, Below w.heap.size w w1 → Calls Try.prog 25 #[vd] w1 (EEnd w1 (rdE d))) := ⟨fun w1 b => readEvents_any w1 vd d (by omega) ((hdd.below b (Nat.le_refl _)).up b.size)⟩
  have JN : Box' (mayL l = true → ∀ (w2 : World) (M : Nat) (u2 : Value) (ps : List (Ev × Value)), Below w.heap.size w w2 → OwnE M w2 u2 ps → ps.map (·.1) = (rdE d).1 → Calls Try.prog 26 #[.slice (some ⟨w2.heap.size, 0, none⟩) 2 2] (w2.alloc (.cells #[v, u2] 22)) fun e w' => ∃ (u : Value) (ps : List (Ev × Value)), e = .returned u ∧ ps.map (·.1) = l ++ (rdE d).1 ∧ OwnE w.heap.size w' u ps ∧ Below w.heap.size w w') := ⟨fun hm w2 M u2 ps b o hp => by
    obtain ⟨h1, h2⟩ := mayL_len hm
    have ba : Below w2.heap.size w2 (w2.alloc (.cells #[v, u2] 22)) := (Below.refl _ _).alloc (Nat.le_refl _) _
    have bb := b.trans (ba.mono b.size)
    have o2 := o.below ba
    have e2 := evs_of_own o2.row (fun p hp => (o2.own p hp).inB.inE)
    rw [hp] at e2
    refine (joined_two _ w2.heap.size v u2 l (rdE d).1 (Row.new _ _ _) ((h.below bb (Nat.le_refl _)).up bb.size) e2 h1 (rdE_len d) h2 (rdE_ok d)).mono fun e w' => ?_
    rintro ⟨u, qs, q1, q2, q3, q4⟩
    exact ⟨u, qs, q1, q2, q3.less bb.size, bb.trans (q4.mono bb.size)⟩⟩
  have LM := Box'.mk (fun h => (mayL_len (l := l) h).1)
  have LR := Box'.mk (rdE_len d)
  obtain ⟨a, c, rfl, hc⟩ := h.cap
  obtain ⟨ad, cd, rfl, _⟩ := hdd.slice
  clear h hdd
  generalize appF l d = R at *
  generalize rdE d = X at *
  generalize mayL l = p at *
  generalize hm : l.length = m at *
  have HL := Box'.mk hm
  clear hm hd
  generalize d.length = dn at *
  go_enter Try.func8, Try.ntmps8
  go_wp2_with fail
  refine m1.mono ?_
  rintro e w1 ⟨rfl, b1⟩
  have B1 := Box'.mk b1
  clear m1 b1
  cases p with
  | false =>
    have RE : Box' (R = ([], 2)) := ⟨by rw [HA.out, if_neg (by decide)]⟩
    clear HA JN RD LM LR
    go_wp2_with fail
    go_ret2
    exact ⟨_, [], by rw [RE.out]; rfl, by rw [RE.out]; rfl, OwnE.nil _ _, B1.out⟩
  | true =>
    have rd := RD.out w1 B1.out
    have lm := LM.out (by simp)
    have JN2 := Box'.mk (JN.out (by simp))
    have RE : Box' (R = if X.2 ≠ 0 then ([], X.2) else if 4096 < m + X.1.length then ([], 4) else (l ++ X.1, 0)) := ⟨by rw [HA.out, if_pos (by simp)]⟩
    clear HA JN RD LM
    go_wp2_with fail
    refine rd.mono ?_
    rintro e w2 ⟨u, ps, rfl, hp, o2, b2⟩
    have HP := Box'.mk hp
    have O2 := Box'.mk o2
    have B2 := Box'.mk (B1.out.trans (b2.mono B1.out.size))
    have PL : Box' (ps.length = X.1.length) := ⟨by rw [← hp, List.length_map]⟩
    obtain ⟨ua, uc, rfl⟩ := o2.slice
    clear rd hp o2 b2
    by_cases hx : X.2 = 0
    · have RE2 : Box' (R = if 4096 < m + ps.length then ([], 4) else (l ++ X.1, 0)) := ⟨by rw [RE.out, if_neg (by simpa using hx), PL.out]⟩
      have pl : ps.length ≤ 4096 := by rw [PL.out]; exact LR.out
      rw [hx]
      clear RE LR PL hx
      by_cases h4 : 4096 < m + ps.length
      · have RF : Box' (R = ([], 4)) := ⟨by rw [RE2.out, if_pos h4]⟩
        clear RE2 JN2
        generalize ps.length = pn at *
        go_wp2_with fail
        go_ret2
        exact ⟨_, [], by rw [RF.out]; rfl, by rw [RF.out]; rfl, OwnE.nil _ _, B2.out⟩
      · have RF : Box' (R = (l ++ X.1, 0)) := ⟨by rw [RE2.out, if_neg h4]⟩
        have jn := JN2.out w2 w1.heap.size _ ps B2.out O2.out HP.out
        have h4' : (ps.length : Int) ≤ 4096 - (m : Int) := by omega
        clear RE2 JN2 O2
        generalize ps.length = pn at *
        go_wp2_with fail
        refine jn.mono ?_
        rintro e w3 ⟨u3, qs, rfl, hq, o3, b3⟩
        have HQ := Box'.mk hq
        have O3 := Box'.mk o3
        have B3 := Box'.mk b3
        clear jn hq o3 b3 B2
        go_wp2_with fail
        go_ret2
        exact ⟨_, qs, by rw [RF.out]; rfl, by rw [RF.out]; exact HQ.out, O3.out, B3.out⟩
    · have RF : Box' (R = ([], X.2)) := ⟨by rw [RE.out, if_pos hx]⟩
      have hxb : (X.2 != 0) = true := by rw [bne_iff_ne]; exact hx
      clear RE LR PL JN2
      generalize X.2 = xe at *
      generalize ps.length = pn at *
      go_wp2_with fail
      go_ret2
      exact ⟨_, [], by rw [RF.out]; rfl, by rw [RF.out]; rfl, OwnE.nil _ _, B2.out⟩
end Go.Proofs.Ytpgljhgfoihnjaa
