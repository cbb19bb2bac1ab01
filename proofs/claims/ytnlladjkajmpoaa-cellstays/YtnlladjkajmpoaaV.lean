/- Numbers behind a slice, cut; colours in the long way and the short one. -/
import Derived.Test.YtnlladjkajmpoaaU
import Derived.Laws.Small
namespace Go.Proofs.Ytnlladjkajmpoaa
open Go.RowKit Go.BigFrame
set_option linter.unusedVariables false
set_option linter.unusedSimpArgs false

/-- The slice v has the numbers l, in a block below N. -/
def Is (N : Nat) (w : World) (v : Value) (l : List Int) : Prop :=
  ∃ a c, v = .slice a l.length c ∧ l.length ≤ c ∧ (l = [] ∨ ∃ b o, a = some ⟨b, o, none⟩ ∧ b < N ∧
    ∀ k, k < l.length → w.cell? ⟨b, o + k, none⟩ = some (.int .i64 (l.getD k 0)))
theorem Is.below {N M : Nat} {w w' : World} {v : Value} {l : List Int} (h : Is N w v l) (hb : Below M w w') (hN : N ≤ M) : Is N w' v l := by
  obtain ⟨a, c, h1, h2, h4⟩ := h
  refine ⟨a, c, h1, h2, ?_⟩
  rcases h4 with h4 | ⟨b, o, h5, h6, h7⟩
  · exact .inl h4
  · refine .inr ⟨b, o, h5, h6, fun k hk => ?_⟩
    rw [hb.cell (p := ⟨b, o + k, none⟩) (by show b < M; omega)]
    exact h7 k hk
theorem Is.up {N M : Nat} {w : World} {v : Value} {l : List Int} (h : Is N w v l) (hN : N ≤ M) : Is M w v l := by
  obtain ⟨a, c, h1, h2, h4⟩ := h
  refine ⟨a, c, h1, h2, ?_⟩
  rcases h4 with h4 | ⟨b, o, h5, h6, h7⟩
  · exact .inl h4
  · exact .inr ⟨b, o, h5, by omega, h7⟩
theorem slice_op {P : Program} {op : Oper} {a : Act} (t : TypeId) (x : Operand) (lo hi mx : Option Operand) (ho : op.op = .slice t x lo hi mx) (v : Value) (w : World) (h : (Instr.sliceAt t (a.eval x) (lo.map a.eval) (hi.map a.eval) (mx.map a.eval)).run P w = .ok v w) :
    (execOp a.eval op).run P w = .ok (.value v) w := by
  unfold execOp
  simp only [ho, Sem.run_bind, h, Result.andThen_ok, Sem.run_pure]
theorem wp_val {P : Program} {op : Oper} {a : Act} {w : World} {K : Act → World → Prop} {Q : Exit → Act → World → Prop} (v : Value) (hrun : (execOp a.eval op).run P w = .ok (.value v) w) (h : K (a.put op.dst v) w) : op.wp P a w K Q := by
  unfold Oper.wp; rw [hrun]; exact h
theorem wpList_slice {P : Program} {ops : Array Oper} {rest : List Oper} {op : Oper} {a : Act} {w : World} {Q : Exit → Act → World → Prop} (hgd : op.guard = none) (t : TypeId) (x : Operand) (lo hi mx : Option Operand) (ho : op.op = .slice t x lo hi mx) (v : Value)
    (h : (Instr.sliceAt t (a.eval x) (lo.map a.eval) (hi.map a.eval) (mx.map a.eval)).run P w = .ok v w) (hk : wpList P ops Q rest (a.put op.dst v) w) : wpList P ops Q (op :: rest) a w :=
  wpList_plain hgd fun K hK => wp_val v (slice_op t x lo hi mx ho v w h) (hK _ _ hk)
set_option maxRecDepth 100000 in
theorem info3 : ∃ i, Try.prog.info? 3 = some i ∧ i.size = 1 := ⟨_, rfl, rfl⟩
theorem size3 (w : World) : (sizeOf 3).run Try.prog w = .ok 1 w := by
  obtain ⟨i, h1, h2⟩ := info3
  simp [sizeOf, typeInfo, h1, h2]
def backA (a : Option Addr) (c k : Nat) : Option Addr := if c = k then a else a.map (·.add k)
theorem run_back (a : Option Addr) (n c k : Nat) (h0 : k ≤ n) (h1 : n ≤ c) (w : World) : (Instr.sliceAt 35 (.slice a n c) (some (.int .i64 (k : Int))) none none).run Try.prog w = .ok (.slice (backA a c k) (n - k) (c - k)) w := by
  have e : Try.prog.elem 35 = 3 := by kernel_rfl
  rw [run_sliceAt_slice w 35 _ _ _ _ (by kernel_rfl), run_slice_l w 35 a n c (by kernel_rfl) _ _ (by omega) (by omega), e, size3]
  simp only [Result.andThen_ok, Int.toNat_natCast, sliced, Nat.mul_one, backA]
theorem Is.back {N : Nat} {w : World} {a : Option Addr} {n c k : Nat} {l : List Int} (h : Is N w (.slice a n c) l) (hk : k ≤ l.length) : Is N w (.slice (backA a c k) (n - k) (c - k)) (l.drop k) := by
  have hlen : (l.drop k).length = l.length - k := List.length_drop
  obtain ⟨a', c', e, hc, h3⟩ := h
  simp only [Value.slice.injEq] at e
  obtain ⟨rfl, rfl, rfl⟩ := e
  refine ⟨_, _, by rw [hlen], by omega, ?_⟩
  rcases h3 with rfl | ⟨b, o, rfl, h6, h7⟩
  · exact .inl (by simp)
  · by_cases hck : c = k
    · exact .inl (List.eq_nil_of_length_eq_zero (by rw [hlen]; omega))
    · refine .inr ⟨b, o + k, ?_, h6, fun j hj => ?_⟩
      · unfold backA; rw [if_neg hck, Option.map_some, Addr.add_mid]
      · rw [hlen] at hj
        rw [Nat.add_assoc, h7 (k + j) (by omega)]
        simp

def isC (n : Int) : Bool := decide (0 ≤ n ∧ n ≤ 255)
set_option maxHeartbeats 1000000 in
theorem isColour_any (n : Int) (w : World) : Calls Try.prog 47 #[.int .i64 n] w fun e w' => e = .returned (.bool (isC n)) ∧ w' = w := by
  by_cases h1 : 0 ≤ n
  · by_cases h2 : n ≤ 255
    · have E : Box' (isC n = true) := ⟨by unfold isC; simp; omega⟩
      go_enter Try.func47, Try.ntmps47
      go_wp2_with fail
      go_ret
      exact ⟨by rw [E.out]; rfl, rfl⟩
    · have E : Box' (isC n = false) := ⟨by unfold isC; simp; omega⟩
      go_enter Try.func47, Try.ntmps47
      go_wp2_with fail
      go_ret
      exact ⟨by rw [E.out]; rfl, rfl⟩
  · have E : Box' (isC n = false) := ⟨by unfold isC; simp; omega⟩
    go_enter Try.func47, Try.ntmps47
    go_wp2_with fail
    go_ret
    exact ⟨by rw [E.out]; rfl, rfl⟩
set_option maxHeartbeats 2000000 in
theorem takeLong_any (c : Int) (g k : Nat) (v : Value) (l : List Int) (h0 : l ≠ []) (hl : l.length ≤ 140737488355328) (w : World) (h : Is g w v l) (hc : w.cell? ⟨g, k, none⟩ = some (.int .i64 c)) (hfz : w.frozen? ⟨g, k, none⟩ = false) :
    Calls Try.prog 43 #[.pointer (some ⟨g, k, none⟩), v] w fun e w' => e = .returned (.int .i64 ((lng c l).2 : Int)) ∧ ((w' = w ∧ (lng c l).1 = c) ∨ w' = w.setCell ⟨g, k, none⟩ (.int .i64 (lng c l).1)) := by
  obtain ⟨a, cp, rfl, hcp, h3⟩ := h
  rcases h3 with h3 | ⟨b, o, rfl, hb, hcl⟩
  · exact absurd h3 h0
  have L : Box' (lng c l = if 2 < l.length ∧ l.getD 1 0 = 5 then (if 0 ≤ l.getD 2 0 ∧ l.getD 2 0 ≤ 255 then l.getD 2 0 else c, 3)
    else if 1 < l.length ∧ l.getD 1 0 = 2 then (c, min l.length 5) else (c, 1)) := ⟨rfl⟩
  have c1 := Box'.mk (hcl 1)
  have c2 := Box'.mk (hcl 2)
  have IC := Box'.mk isColour_any
  generalize l.getD 1 0 = x1 at *
  generalize l.getD 2 0 = x2 at *
  generalize hn : l.length = n at *
  clear hcl hn h0
  by_cases h2 : 2 < n
  · have d1 := c1.out (by omega)
    have d2 := c2.out h2
    clear c1 c2
    by_cases h5 : x1 = 5
    · subst h5
      have L1 := Box'.mk (L.out.trans (if_pos ⟨h2, rfl⟩))
      cases hx : isC x2 with
      | true =>
        have L2 : Box' (lng c l = (x2, 3)) := ⟨by rw [L1.out, if_pos (by simpa [isC] using hx)]⟩
        clear L L1
        go_enter Try.func43, Try.ntmps43
        go_wp2_with fail
        refine (IC.out _ _).mono ?_
        rintro e w1 ⟨rfl, rfl⟩
        rw [hx]
        go_wp2_with fail
        go_ret
        exact ⟨by rw [L2.out]; rfl, .inr (by rw [L2.out])⟩
      | false =>
        have L2 : Box' (lng c l = (c, 3)) := ⟨by rw [L1.out, if_neg (by simpa [isC] using hx)]⟩
        clear L L1
        go_enter Try.func43, Try.ntmps43
        go_wp2_with fail
        refine (IC.out _ _).mono ?_
        rintro e w1 ⟨rfl, rfl⟩
        rw [hx]
        go_wp2_with fail
        go_ret
        exact ⟨by rw [L2.out]; rfl, .inl ⟨rfl, by rw [L2.out]⟩⟩
    · have L1 := Box'.mk (L.out.trans (if_neg (fun h => h5 h.2)))
      by_cases h6 : x1 = 2
      · subst h6
        have L2 : Box' (lng c l = (c, min n 5)) := ⟨by rw [L1.out, if_pos ⟨by omega, rfl⟩]⟩
        clear L L1 h5
        go_enter Try.func43, Try.ntmps43
        go_wp2_with fail
        all_goals go_ret
        all_goals refine ⟨?_, .inl ⟨rfl, by rw [L2.out]⟩⟩
        all_goals rw [L2.out]
        all_goals show _ = Ending.returned (.int .i64 ((min n 5 : Nat) : Int))
        all_goals first
          | (rw [Nat.min_eq_right (by omega)]; rfl)
          | (rw [Nat.min_eq_left (by omega)]; rfl)
      · have L2 : Box' (lng c l = (c, 1)) := ⟨by rw [L1.out, if_neg (fun h => h6 h.2)]⟩
        clear L L1
        go_enter Try.func43, Try.ntmps43
        go_wp2_with fail
        go_ret
        exact ⟨by rw [L2.out]; rfl, .inl ⟨rfl, by rw [L2.out]⟩⟩
  · have L1 := Box'.mk (L.out.trans (if_neg (fun h => h2 h.1)))
    by_cases h1 : 1 < n
    · have d1 := c1.out h1
      clear c1 c2
      by_cases h6 : x1 = 2
      · subst h6
        have L2 : Box' (lng c l = (c, min n 5)) := ⟨by rw [L1.out, if_pos ⟨by omega, rfl⟩]⟩
        clear L L1
        go_enter Try.func43, Try.ntmps43
        go_wp2_with fail
        all_goals go_ret
        all_goals refine ⟨?_, .inl ⟨rfl, by rw [L2.out]⟩⟩
        all_goals rw [L2.out]
        all_goals show _ = Ending.returned (.int .i64 ((min n 5 : Nat) : Int))
        all_goals first
          | (rw [Nat.min_eq_right (by omega)]; rfl)
          | (rw [Nat.min_eq_left (by omega)]; rfl)
      · have L2 : Box' (lng c l = (c, 1)) := ⟨by rw [L1.out, if_neg (fun h => h6 h.2)]⟩
        clear L L1
        go_enter Try.func43, Try.ntmps43
        go_wp2_with fail
        go_ret
        exact ⟨by rw [L2.out]; rfl, .inl ⟨rfl, by rw [L2.out]⟩⟩
    · have L2 : Box' (lng c l = (c, 1)) := ⟨by rw [L1.out, if_neg (fun h => h1 h.1)]⟩
      clear L L1 c1 c2
      go_enter Try.func43, Try.ntmps43
      go_wp2_with fail
      go_ret
      exact ⟨by rw [L2.out]; rfl, .inl ⟨rfl, by rw [L2.out]⟩⟩
theorem results44 (T : Array Value) (w : World) : (results Try.f44 T).run Try.prog w = .ok (.tuple #[]) w := by
  unfold results
  simp [go_sem]
set_option maxHeartbeats 2000000 in
theorem takeShort_any (s : St) (g : Nat) (p : Int) (w : World) (h : Row w g 49 (lA s)) :
    Calls Try.prog 44 #[.pointer (some ⟨g, 0, none⟩), .int .i64 p] w fun e w' => e = .returned (.tuple #[]) ∧ Row w' g 49 (lA (sht s p)) ∧ Below g w w' := by
  have E : Box' (sht s p = if 30 ≤ p ∧ p ≤ 37 then { s with fg := p - 30 } else if 40 ≤ p ∧ p ≤ 47 then { s with bg := p - 40 }
    else if 90 ≤ p ∧ p ≤ 97 then { s with fg := p - 82 } else if 100 ≤ p ∧ p ≤ 107 then { s with bg := p - 92 } else s) := ⟨rfl⟩
  have f0 := h.frozen 0
  have f1 := h.frozen 1
  have c0 : w.cell? ⟨g, 0, none⟩ = some (.int .i64 s.fg) := h.cell 0
  have c1 : w.cell? ⟨g, 1, none⟩ = some (.int .i64 s.bg) := h.cell 1
  have H := Box'.mk h
  have BS : Box' (∀ k v, Below g w (w.setCell ⟨g, k, none⟩ v)) := ⟨fun k v => (Below.refl g w).setCell (Nat.le_refl _) v⟩
  clear h
  rcases (show (p ≤ 29) ∨ (30 ≤ p ∧ p ≤ 37) ∨ (38 ≤ p ∧ p ≤ 39) ∨ (40 ≤ p ∧ p ≤ 47) ∨ (48 ≤ p ∧ p ≤ 89) ∨ (90 ≤ p ∧ p ≤ 97) ∨ (98 ≤ p ∧ p ≤ 99) ∨ (100 ≤ p ∧ p ≤ 107) ∨ (108 ≤ p) by omega) with h | h | h | h | h | h | h | h | h
  · have E1 : Box' (sht s p = s) := ⟨by unfold sht; rw [if_neg (by omega)]; rw [if_neg (by omega)]; rw [if_neg (by omega)]; rw [if_neg (by omega)]⟩
    have ge30 : ¬ 30 ≤ p := by omega
    have ge40 : ¬ 40 ≤ p := by omega
    have ge90 : ¬ 90 ≤ p := by omega
    have ge100 : ¬ 100 ≤ p := by omega
    have le37 : p ≤ 37 := by omega
    have le47 : p ≤ 47 := by omega
    have le97 : p ≤ 97 := by omega
    have le107 : p ≤ 107 := by omega
    clear E h
    go_enter Try.func44, Try.ntmps44
    go_wp2_with fail
    exact ⟨rfl, _, results44 _ _, rfl, by rw [E1.out]; exact H.out, Below.refl _ _⟩
  · have E1 : Box' (sht s p = { s with fg := p - 30 }) := ⟨by unfold sht; rw [if_pos (by omega)]⟩
    have ge30 : 30 ≤ p := by omega
    have ge40 : ¬ 40 ≤ p := by omega
    have ge90 : ¬ 90 ≤ p := by omega
    have ge100 : ¬ 100 ≤ p := by omega
    have le37 : p ≤ 37 := by omega
    have le47 : p ≤ 47 := by omega
    have le97 : p ≤ 97 := by omega
    have le107 : p ≤ 107 := by omega
    clear E h
    go_enter Try.func44, Try.ntmps44
    go_wp2_with fail
    exact ⟨rfl, _, results44 _ _, rfl, by rw [E1.out]; exact H.out.setCell 0 _, BS.out _ _⟩
  · have E1 : Box' (sht s p = s) := ⟨by unfold sht; rw [if_neg (by omega)]; rw [if_neg (by omega)]; rw [if_neg (by omega)]; rw [if_neg (by omega)]⟩
    have ge30 : 30 ≤ p := by omega
    have ge40 : ¬ 40 ≤ p := by omega
    have ge90 : ¬ 90 ≤ p := by omega
    have ge100 : ¬ 100 ≤ p := by omega
    have le37 : ¬ p ≤ 37 := by omega
    have le47 : p ≤ 47 := by omega
    have le97 : p ≤ 97 := by omega
    have le107 : p ≤ 107 := by omega
    clear E h
    go_enter Try.func44, Try.ntmps44
    go_wp2_with fail
    exact ⟨rfl, _, results44 _ _, rfl, by rw [E1.out]; exact H.out, Below.refl _ _⟩
  · have E1 : Box' (sht s p = { s with bg := p - 40 }) := ⟨by unfold sht; rw [if_neg (by omega)]; rw [if_pos (by omega)]⟩
    have ge30 : 30 ≤ p := by omega
    have ge40 : 40 ≤ p := by omega
    have ge90 : ¬ 90 ≤ p := by omega
    have ge100 : ¬ 100 ≤ p := by omega
    have le37 : ¬ p ≤ 37 := by omega
    have le47 : p ≤ 47 := by omega
    have le97 : p ≤ 97 := by omega
    have le107 : p ≤ 107 := by omega
    clear E h
    go_enter Try.func44, Try.ntmps44
    go_wp2_with fail
    exact ⟨rfl, _, results44 _ _, rfl, by rw [E1.out]; exact H.out.setCell 1 _, BS.out _ _⟩
  · have E1 : Box' (sht s p = s) := ⟨by unfold sht; rw [if_neg (by omega)]; rw [if_neg (by omega)]; rw [if_neg (by omega)]; rw [if_neg (by omega)]⟩
    have ge30 : 30 ≤ p := by omega
    have ge40 : 40 ≤ p := by omega
    have ge90 : ¬ 90 ≤ p := by omega
    have ge100 : ¬ 100 ≤ p := by omega
    have le37 : ¬ p ≤ 37 := by omega
    have le47 : ¬ p ≤ 47 := by omega
    have le97 : p ≤ 97 := by omega
    have le107 : p ≤ 107 := by omega
    clear E h
    go_enter Try.func44, Try.ntmps44
    go_wp2_with fail
    exact ⟨rfl, _, results44 _ _, rfl, by rw [E1.out]; exact H.out, Below.refl _ _⟩
  · have E1 : Box' (sht s p = { s with fg := p - 82 }) := ⟨by unfold sht; rw [if_neg (by omega)]; rw [if_neg (by omega)]; rw [if_pos (by omega)]⟩
    have ge30 : 30 ≤ p := by omega
    have ge40 : 40 ≤ p := by omega
    have ge90 : 90 ≤ p := by omega
    have ge100 : ¬ 100 ≤ p := by omega
    have le37 : ¬ p ≤ 37 := by omega
    have le47 : ¬ p ≤ 47 := by omega
    have le97 : p ≤ 97 := by omega
    have le107 : p ≤ 107 := by omega
    clear E h
    go_enter Try.func44, Try.ntmps44
    go_wp2_with fail
    exact ⟨rfl, _, results44 _ _, rfl, by rw [E1.out, show p - 82 = p - 30 - 60 + 7 + 1 by omega]; exact H.out.setCell 0 _, BS.out _ _⟩
  · have E1 : Box' (sht s p = s) := ⟨by unfold sht; rw [if_neg (by omega)]; rw [if_neg (by omega)]; rw [if_neg (by omega)]; rw [if_neg (by omega)]⟩
    have ge30 : 30 ≤ p := by omega
    have ge40 : 40 ≤ p := by omega
    have ge90 : 90 ≤ p := by omega
    have ge100 : ¬ 100 ≤ p := by omega
    have le37 : ¬ p ≤ 37 := by omega
    have le47 : ¬ p ≤ 47 := by omega
    have le97 : ¬ p ≤ 97 := by omega
    have le107 : p ≤ 107 := by omega
    clear E h
    go_enter Try.func44, Try.ntmps44
    go_wp2_with fail
    exact ⟨rfl, _, results44 _ _, rfl, by rw [E1.out]; exact H.out, Below.refl _ _⟩
  · have E1 : Box' (sht s p = { s with bg := p - 92 }) := ⟨by unfold sht; rw [if_neg (by omega)]; rw [if_neg (by omega)]; rw [if_neg (by omega)]; rw [if_pos (by omega)]⟩
    have ge30 : 30 ≤ p := by omega
    have ge40 : 40 ≤ p := by omega
    have ge90 : 90 ≤ p := by omega
    have ge100 : 100 ≤ p := by omega
    have le37 : ¬ p ≤ 37 := by omega
    have le47 : ¬ p ≤ 47 := by omega
    have le97 : ¬ p ≤ 97 := by omega
    have le107 : p ≤ 107 := by omega
    clear E h
    go_enter Try.func44, Try.ntmps44
    go_wp2_with fail
    exact ⟨rfl, _, results44 _ _, rfl, by rw [E1.out, show p - 92 = p - 40 - 60 + 7 + 1 by omega]; exact H.out.setCell 1 _, BS.out _ _⟩
  · have E1 : Box' (sht s p = s) := ⟨by unfold sht; rw [if_neg (by omega)]; rw [if_neg (by omega)]; rw [if_neg (by omega)]; rw [if_neg (by omega)]⟩
    have ge30 : 30 ≤ p := by omega
    have ge40 : 40 ≤ p := by omega
    have ge90 : 90 ≤ p := by omega
    have ge100 : 100 ≤ p := by omega
    have le37 : ¬ p ≤ 37 := by omega
    have le47 : ¬ p ≤ 47 := by omega
    have le97 : ¬ p ≤ 97 := by omega
    have le107 : ¬ p ≤ 107 := by omega
    clear E h
    go_enter Try.func44, Try.ntmps44
    go_wp2_with fail
    exact ⟨rfl, _, results44 _ _, rfl, by rw [E1.out]; exact H.out, Below.refl _ _⟩
end Go.Proofs.Ytnlladjkajmpoaa
