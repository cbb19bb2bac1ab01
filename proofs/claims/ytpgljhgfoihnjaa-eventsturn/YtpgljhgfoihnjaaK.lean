/- The walk of May. -/
import Derived.Test.YtpgljhgfoihnjaaJ
namespace Go.Proofs.Ytpgljhgfoihnjaa
open Go.RowKit Go.BigFrame
set_option linter.unusedSimpArgs false

theorem bts_nil (S : Nat → Prop) (w : World) : Bts S w (.slice none 0 0) [] := ⟨_, _, rfl, Nat.le_refl _, .inl rfl⟩
set_option maxRecDepth 100000 in
set_option maxHeartbeats 4000000 in
theorem may_any (S : Nat → Prop) (k : Nat) (c r : Int) (a : Nat) (v : Value) (l : List UInt8) (w : World) (hS : ∀ b, S b → b < w.heap.size) (h : Bts S w v l) :
    Calls Try.prog 31 #[.agg #[.int .u8 (k : Int), v, .int .i64 c, .int .i64 r, .int .u8 (a : Int)]] w fun e w' => e = .returned (.bool (mayN k l.length c r a)) ∧ Below w.heap.size w w' := by
  have hb : ∀ o, Below w.heap.size w (w.alloc o) := fun o => (Below.refl _ _).alloc (Nat.le_refl _) _
  have SA : Box' (∀ o c2 r2 (a2 : Nat), Calls Try.prog 34 #[.agg #[.int .u8 (k : Int), v, .int .i64 c, .int .i64 r, .int .u8 (a : Int)], .agg #[.int .u8 (k : Int), v, .int .i64 c2, .int .i64 r2, .int .u8 (a2 : Int)]] (w.alloc o) fun e w' => e = .returned (.bool (decide (c = c2 ∧ r = r2 ∧ a = a2))) ∧ Below w.heap.size w w') := ⟨fun o c2 r2 a2 => (same_any S S k k c c2 r r2 a a2 v v l l (w.alloc o) (fun b hb' => Nat.lt_of_lt_of_le (hS b hb') (hb o).size) (fun b hb' => Nat.lt_of_lt_of_le (hS b hb') (hb o).size) (h.below (hb o) hS) (h.below (hb o) hS)).mono fun e w' hh => ⟨by rw [hh.1]; simp [sameN], (hb o).trans (hh.2.mono (hb o).size)⟩⟩
  have SN : Box' (∀ o c2 r2 (a2 : Nat), Calls Try.prog 34 #[.agg #[.int .u8 (k : Int), v, .int .i64 c, .int .i64 r, .int .u8 (a : Int)], .agg #[.int .u8 (k : Int), .slice none 0 0, .int .i64 c2, .int .i64 r2, .int .u8 (a2 : Int)]] (w.alloc o) fun e w' => e = .returned (.bool (decide (c = c2 ∧ r = r2 ∧ a = a2 ∧ l.length = 0))) ∧ Below w.heap.size w w') := ⟨fun o c2 r2 a2 => (same_any S S k k c c2 r r2 a a2 v (.slice none 0 0) l [] (w.alloc o) (fun b hb' => Nat.lt_of_lt_of_le (hS b hb') (hb o).size) (fun b hb' => Nat.lt_of_lt_of_le (hS b hb') (hb o).size) (h.below (hb o) hS) (bts_nil _ _)).mono fun e w' hh => ⟨by rw [hh.1]; simp [sameN], (hb o).trans (hh.2.mono (hb o).size)⟩⟩
  have HB := Box'.mk hb
  obtain ⟨ad, cp, rfl, _⟩ := h
  clear hb hS
  generalize l.length = n at *
  have HM := Box'.mk (mayN.eq_1 k n c r a)
  generalize mayN k n c r a = M at *
  by_cases h1 : k = 1
  · subst h1
    have e := HM.out
    rw [if_pos rfl] at e
    clear HM
    by_cases hq : 1 ≤ n ∧ n ≤ 4096
    · have e1 : M = decide (c = 0 ∧ r = 0 ∧ a = 0) := by rw [e, decide_eq_decide]; omega
      have SC := Box'.mk (fun o => SA.out o 0 0 0)
      rw [← e1] at SC
      clear e e1 SA SN
      have q1 := hq.1
      have q2 := hq.2
      clear hq
      go_enter Try.func31, Try.ntmps31
      go_wp2_with fail
      refine (SC.out _).mono ?_
      rintro e w1 ⟨rfl, b1⟩
      clear SC
      go_wp2_with fail
      go_ret
      exact ⟨rfl, b1⟩
    · have e1 : M = false := by rw [e]; exact decide_eq_false (by omega)
      subst e1
      clear e SA SN
      by_cases hx : n < 1
      · clear hq
        go_enter Try.func31, Try.ntmps31
        go_wp2_with fail
        go_ret
        exact ⟨rfl, HB.out _⟩
      · have hy : 4096 < n := by omega
        have hy2 : 1 ≤ n := by omega
        clear hq hx
        go_enter Try.func31, Try.ntmps31
        go_wp2_with fail
        go_ret
        exact ⟨rfl, HB.out _⟩
  · have g1 : ((k : Int) == 1) = false := by rw [beq_eq_false_iff_ne]; omega
    by_cases h2 : k = 2
    · subst h2
      have e := HM.out
      rw [if_neg (by decide), if_pos rfl] at e
      clear HM h1
      by_cases hq : (1 ≤ c ∧ c ≤ 512) ∧ 1 ≤ r ∧ r ≤ 512
      · have e1 : M = decide (c = c ∧ r = r ∧ a = 0 ∧ n = 0) := by rw [e, decide_eq_decide]; omega
        have SC := Box'.mk (fun o => SN.out o c r 0)
        rw [← e1] at SC
        clear e e1 SA SN
        have s1 := Box'.mk (isSide_any c)
        have s2 := Box'.mk (isSide_any r)
        rw [decide_eq_true hq.1] at s1
        rw [decide_eq_true hq.2] at s2
        have q1 := hq.1
        have q2 := hq.2
        clear hq
        go_enter Try.func31, Try.ntmps31
        go_wp2_with fail
        refine (s1.out _).mono ?_
        rintro e w1 ⟨rfl, rfl⟩
        go_wp2_with fail
        refine (s2.out _).mono ?_
        rintro e w1 ⟨rfl, rfl⟩
        go_wp2_with fail
        refine (SC.out _).mono ?_
        rintro e w1 ⟨rfl, b1⟩
        clear SC
        go_wp2_with fail
        go_ret
        exact ⟨rfl, b1⟩
      · have e1 : M = false := by rw [e]; exact decide_eq_false (by omega)
        subst e1
        clear e SA SN
        have s1 := Box'.mk (isSide_any c)
        have s2 := Box'.mk (isSide_any r)
        by_cases hq1 : 1 ≤ c ∧ c ≤ 512
        · have hq2 : ¬ (1 ≤ r ∧ r ≤ 512) := fun h => hq ⟨hq1, h⟩
          rw [decide_eq_true hq1] at s1
          rw [decide_eq_false hq2] at s2
          clear hq hq1 hq2
          go_enter Try.func31, Try.ntmps31
          go_wp2_with fail
          refine (s1.out _).mono ?_
          rintro e w1 ⟨rfl, rfl⟩
          go_wp2_with fail
          refine (s2.out _).mono ?_
          rintro e w1 ⟨rfl, rfl⟩
          go_wp2_with fail
          go_ret
          exact ⟨rfl, HB.out _⟩
        · rw [decide_eq_false hq1] at s1
          clear hq hq1
          go_enter Try.func31, Try.ntmps31
          go_wp2_with fail
          refine (s1.out _).mono ?_
          rintro e w1 ⟨rfl, rfl⟩
          go_wp2_with fail
          go_ret
          exact ⟨rfl, HB.out _⟩
    · have g2 : ((k : Int) == 2) = false := by rw [beq_eq_false_iff_ne]; omega
      by_cases h3 : k = 3
      · subst h3
        have e := HM.out
        rw [if_neg (by decide), if_neg (by decide), if_pos rfl] at e
        clear HM h1 h2
        by_cases hq : n ≤ 4096
        · have e1 : M = decide (c = 0 ∧ r = 0 ∧ a = 0) := by rw [e, decide_eq_decide]; omega
          have SC := Box'.mk (fun o => SA.out o 0 0 0)
          rw [← e1] at SC
          clear e e1 SA SN
          go_enter Try.func31, Try.ntmps31
          go_wp2_with fail
          refine (SC.out _).mono ?_
          rintro e w1 ⟨rfl, b1⟩
          clear SC
          go_wp2_with fail
          go_ret
          exact ⟨rfl, b1⟩
        · have e1 : M = false := by rw [e]; exact decide_eq_false (by omega)
          subst e1
          clear e SA SN
          go_enter Try.func31, Try.ntmps31
          go_wp2_with fail
          go_ret
          exact ⟨rfl, HB.out _⟩
      · have g3 : ((k : Int) == 3) = false := by rw [beq_eq_false_iff_ne]; omega
        by_cases h4 : k = 4
        · subst h4
          have e := HM.out
          rw [if_neg (by decide), if_neg (by decide), if_neg (by decide), if_pos rfl] at e
          clear HM h1 h2 h3
          by_cases hq : 65 ≤ a ∧ a ≤ 68
          · have e1 : M = decide (c = 0 ∧ r = 0 ∧ a = a ∧ n = 0) := by rw [e, decide_eq_decide]; omega
            have SC := Box'.mk (fun o => SN.out o 0 0 a)
            rw [← e1] at SC
            clear e e1 SA SN
            have q1 := hq.1
            have q2 := hq.2
            clear hq
            go_enter Try.func31, Try.ntmps31
            go_wp2_with fail
            refine (SC.out _).mono ?_
            rintro e w1 ⟨rfl, b1⟩
            clear SC
            go_wp2_with fail
            go_ret
            exact ⟨rfl, b1⟩
          · have e1 : M = false := by rw [e]; exact decide_eq_false (by omega)
            subst e1
            clear e SA SN
            by_cases hx : a < 65
            · clear hq
              go_enter Try.func31, Try.ntmps31
              go_wp2_with fail
              go_ret
              exact ⟨rfl, HB.out _⟩
            · have hy : 68 < a := by omega
              have hy2 : 65 ≤ a := by omega
              clear hq hx
              go_enter Try.func31, Try.ntmps31
              go_wp2_with fail
              go_ret
              exact ⟨rfl, HB.out _⟩
        · have g4 : ((k : Int) == 4) = false := by rw [beq_eq_false_iff_ne]; omega
          have e := HM.out
          rw [if_neg h1, if_neg h2, if_neg h3, if_neg h4] at e
          subst e
          clear HM h1 h2 h3 h4 SA SN
          go_enter Try.func31, Try.ntmps31
          go_wp2_with fail
          go_ret
          exact ⟨rfl, HB.out _⟩
end Go.Proofs.Ytpgljhgfoihnjaa
