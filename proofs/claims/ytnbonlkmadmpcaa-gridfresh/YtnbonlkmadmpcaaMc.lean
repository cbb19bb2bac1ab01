/- Changes: the parameters that make one style of another one. -/
import Derived.Test.YtnbonlkmadmpcaaS
namespace Go.Proofs.Ytnbonlkmadmpcaa
set_option linter.unusedVariables false
set_option linter.unusedSimpArgs false

def mc (n : Int) : Bool := decide (-1 ≤ n ∧ n ≤ 255)
def mayS (s : St) : Bool := mc s.fg && mc s.bg
/-- What tells a colour. -/
def colF (g c : Int) : List Int := if c = -1 then [g + 9] else if c ≤ 7 then [g + c] else if c ≤ 15 then [g + 60 + c - 7 - 1] else [g + 8, 5, c]
/-- What turns one flag. -/
def flS (a b : St) (k : Nat) : List Int := if hs b k && !hs a k then [(k : Int)] else if hs a k && !hs b k then [20 + (k : Int)] else []
/-- What turns the first flags. -/
def flL (a b : St) : Nat → List Int
  | 0 => []
  | k + 1 => flL a b k ++ flS a b (k + 1)
def thn (a b : St) : Bool := (a.b1 && !b.b1) || (a.b2 && !b.b2)
def thS (a b : St) : St := if thn a b then { a with b1 := false, b2 := false } else a
def fl0 (a b : St) : List Int := if thn a b then [22] else []
def fgL (a b : St) : List Int := if a.fg = b.fg then [] else colF 30 b.fg
def bgL (a b : St) : List Int := if a.bg = b.bg then [] else colF 40 b.bg
def stF (a b : St) : List Int := fl0 a b ++ flL (thS a b) b 9 ++ fgL a b ++ bgL a b
def chF (a b : St) : List Int := if stB a b = true ∨ mayS a = false ∨ mayS b = false then [] else if (0 :: stF pl b).length ≤ (stF a b).length then 0 :: stF pl b else stF a b

theorem apG_cons (s t : St) (p : Int) (r : List Int) (h : stp s (p :: r) = (t, 1)) : apG s (p :: r) = apG t r := by
  rw [apG_step _ _ (by simp), h]; rfl
theorem stp_one (s : St) (p : Int) (r : List Int) (h1 : ¬ p = 38) (h2 : ¬ p = 48) : stp s (p :: r) = ((stp s [p]).1, 1) := by
  simp only [stp, List.getD_cons_zero, if_neg h1, if_neg h2]
  by_cases c0 : p = 0
  · rw [if_pos c0]
  by_cases c1 : 1 ≤ p ∧ p ≤ 9
  · rw [if_neg c0, if_pos c1]
  by_cases c2 : p = 22
  · rw [if_neg c0, if_neg c1, if_pos c2]
  by_cases c3 : 23 ≤ p ∧ p ≤ 29
  · rw [if_neg c0, if_neg c1, if_neg c2, if_pos c3]
  by_cases c4 : p = 39
  · rw [if_neg c0, if_neg c1, if_neg c2, if_neg c3, if_pos c4]
  by_cases c5 : p = 49
  · rw [if_neg c0, if_neg c1, if_neg c2, if_neg c3, if_neg c4, if_pos c5]
  rw [if_neg c0, if_neg c1, if_neg c2, if_neg c3, if_neg c4, if_neg c5]
theorem apG_one (s : St) (p : Int) (r : List Int) (h1 : ¬ p = 38) (h2 : ¬ p = 48) : apG s (p :: r) = apG (stp s [p]).1 r := apG_cons s _ p r (stp_one s p r h1 h2)
/-- A flag is turned. -/
theorem apG_flag (s a b : St) (k : Nat) (r : List Int) (h1 : 1 ≤ k) (h9 : k ≤ 9) (hk : hs s k = hs a k) (hlow : k ≤ 2 → hs a k = true → hs b k = true) : apG s (flS a b k ++ r) = apG (sf s (k : Int) (hs b k)) r := by
  unfold flS
  cases ha : hs a k with
  | true =>
    cases hb : hs b k with
    | true =>
      rw [ha] at hk
      simp only [Bool.not_true, Bool.and_false, Bool.false_eq_true, if_false, List.nil_append]
      congr 1
      obtain ⟨fg, bg, y1, y2, y3, y4, y5, y7, y8, y9⟩ := s
      obtain rfl | rfl | rfl | rfl | rfl | rfl | rfl | rfl | rfl : k = 1 ∨ k = 2 ∨ k = 3 ∨ k = 4 ∨ k = 5 ∨ k = 6 ∨ k = 7 ∨ k = 8 ∨ k = 9 := by omega
      all_goals (simp [hs, sf] at hk ⊢; try exact hk)
    | false =>
      have h3 : 3 ≤ k := by
        rcases Nat.lt_or_ge k 3 with h | h
        · have := hlow (by omega) ha; rw [hb] at this; cases this
        · exact h
      rw [ha] at hk
      simp only [Bool.not_true, Bool.and_false, Bool.false_eq_true, if_false, Bool.not_false, Bool.and_true, if_true, Bool.false_and]
      obtain rfl | rfl | rfl | rfl | rfl | rfl | rfl : k = 3 ∨ k = 4 ∨ k = 5 ∨ k = 6 ∨ k = 7 ∨ k = 8 ∨ k = 9 := by omega
      all_goals (rw [List.singleton_append, apG_one _ _ _ (by decide) (by decide)]; try rfl)
  | false =>
    cases hb : hs b k with
    | true =>
      simp only [Bool.not_true, Bool.and_false, Bool.false_eq_true, if_false, Bool.not_false, Bool.and_true, if_true, Bool.false_and]
      obtain rfl | rfl | rfl | rfl | rfl | rfl | rfl | rfl | rfl : k = 1 ∨ k = 2 ∨ k = 3 ∨ k = 4 ∨ k = 5 ∨ k = 6 ∨ k = 7 ∨ k = 8 ∨ k = 9 := by omega
      all_goals (rw [List.singleton_append, apG_one _ _ _ (by decide) (by decide)]; try rfl)
    | false =>
      rw [ha] at hk
      simp only [Bool.not_false, Bool.and_true, Bool.false_eq_true, if_false, List.nil_append]
      congr 1
      obtain ⟨fg, bg, y1, y2, y3, y4, y5, y7, y8, y9⟩ := s
      obtain rfl | rfl | rfl | rfl | rfl | rfl | rfl | rfl | rfl : k = 1 ∨ k = 2 ∨ k = 3 ∨ k = 4 ∨ k = 5 ∨ k = 6 ∨ k = 7 ∨ k = 8 ∨ k = 9 := by omega
      all_goals (simp [hs, sf] at hk ⊢; try exact hk)
theorem hs6 (s : St) : hs s 6 = false := rfl
/-- All flags are turned. -/
theorem apG_flags (a b : St) (r : List Int) (h1 : a.b1 = true → b.b1 = true) (h2 : a.b2 = true → b.b2 = true) : apG a (flL a b 9 ++ r) = apG { b with fg := a.fg, bg := a.bg } r := by
  simp only [flL, List.nil_append, List.append_assoc]
  refine (apG_flag _ a b 1 _ (by decide) (by decide) ?_ (fun _ => h1)).trans ?_
  · rfl
  refine (apG_flag _ a b 2 _ (by decide) (by decide) ?_ (fun _ => h2)).trans ?_
  · rfl
  refine (apG_flag _ a b 3 _ (by decide) (by decide) ?_ (fun h => absurd h (by decide))).trans ?_
  · rfl
  refine (apG_flag _ a b 4 _ (by decide) (by decide) ?_ (fun h => absurd h (by decide))).trans ?_
  · rfl
  refine (apG_flag _ a b 5 _ (by decide) (by decide) ?_ (fun h => absurd h (by decide))).trans ?_
  · rfl
  refine (apG_flag _ a b 6 _ (by decide) (by decide) ?_ (fun h => absurd h (by decide))).trans ?_
  · rfl
  refine (apG_flag _ a b 7 _ (by decide) (by decide) ?_ (fun h => absurd h (by decide))).trans ?_
  · rfl
  refine (apG_flag _ a b 8 _ (by decide) (by decide) ?_ (fun h => absurd h (by decide))).trans ?_
  · rfl
  refine (apG_flag _ a b 9 _ (by decide) (by decide) ?_ (fun h => absurd h (by decide))).trans ?_
  · rfl
  rfl
theorem apG_long (s t : St) (p c : Int) (r : List Int) (h : stp s (p :: 5 :: c :: r) = (t, 3)) : apG s (p :: 5 :: c :: r) = apG t r := by
  rw [apG_step _ _ (by simp), h]; rfl
theorem apG_fg (s : St) (c : Int) (r : List Int) (h1 : -1 ≤ c) (h2 : c ≤ 255) : apG s (colF 30 c ++ r) = apG { s with fg := c } r := by
  unfold colF
  by_cases c0 : c = -1
  · subst c0; rw [if_pos rfl]; rw [List.singleton_append, apG_one _ _ _ (by decide) (by decide)]; rfl
  rw [if_neg c0]
  by_cases c1 : c ≤ 7
  · rw [if_pos c1, List.singleton_append, apG_one _ _ _ (by omega) (by omega)]
    congr 1
    simp only [stp, List.getD_cons_zero]
    rw [if_neg (by omega), if_neg (by omega), if_neg (by omega), if_neg (by omega), if_neg (by omega), if_neg (by omega), if_neg (by omega), if_neg (by omega)]
    unfold sht
    rw [if_pos (by omega)]
    simp
    omega
  rw [if_neg c1]
  by_cases c2 : c ≤ 15
  · rw [if_pos c2, List.singleton_append, apG_one _ _ _ (by omega) (by omega)]
    congr 1
    simp only [stp, List.getD_cons_zero]
    rw [if_neg (by omega), if_neg (by omega), if_neg (by omega), if_neg (by omega), if_neg (by omega), if_neg (by omega), if_neg (by omega), if_neg (by omega)]
    unfold sht
    rw [if_neg (by omega), if_neg (by omega), if_pos (by omega)]
    simp
    omega
  rw [if_neg c2]
  refine apG_long _ _ _ _ _ ?_
  have e : lng s.fg (38 :: 5 :: c :: r) = (c, 3) := by
    unfold lng
    rw [if_pos (by simp), if_pos (by simp; omega)]
    simp
  show stp s (38 :: 5 :: c :: r) = _
  simp only [stp, List.getD_cons_zero, e]
  rfl
theorem apG_bg (s : St) (c : Int) (r : List Int) (h1 : -1 ≤ c) (h2 : c ≤ 255) : apG s (colF 40 c ++ r) = apG { s with bg := c } r := by
  unfold colF
  by_cases c0 : c = -1
  · subst c0; rw [if_pos rfl]; rw [List.singleton_append, apG_one _ _ _ (by decide) (by decide)]; rfl
  rw [if_neg c0]
  by_cases c1 : c ≤ 7
  · rw [if_pos c1, List.singleton_append, apG_one _ _ _ (by omega) (by omega)]
    congr 1
    simp only [stp, List.getD_cons_zero]
    rw [if_neg (by omega), if_neg (by omega), if_neg (by omega), if_neg (by omega), if_neg (by omega), if_neg (by omega), if_neg (by omega), if_neg (by omega)]
    unfold sht
    rw [if_neg (by omega), if_pos (by omega)]
    simp
    omega
  rw [if_neg c1]
  by_cases c2 : c ≤ 15
  · rw [if_pos c2, List.singleton_append, apG_one _ _ _ (by omega) (by omega)]
    congr 1
    simp only [stp, List.getD_cons_zero]
    rw [if_neg (by omega), if_neg (by omega), if_neg (by omega), if_neg (by omega), if_neg (by omega), if_neg (by omega), if_neg (by omega), if_neg (by omega)]
    unfold sht
    rw [if_neg (by omega), if_neg (by omega), if_neg (by omega), if_pos (by omega)]
    simp
    omega
  rw [if_neg c2]
  refine apG_long _ _ _ _ _ ?_
  have e : lng s.bg (48 :: 5 :: c :: r) = (c, 3) := by
    unfold lng
    rw [if_pos (by simp), if_pos (by simp; omega)]
    simp
  show stp s (48 :: 5 :: c :: r) = _
  simp only [stp, List.getD_cons_zero, e]
  rfl
/-- The straight way makes the one of the other. -/
theorem stF_makes (a b : St) (hb : mayS b = true) : apG a (stF a b) = b := by
  simp only [mayS, mc, Bool.and_eq_true, decide_eq_true_eq] at hb
  obtain ⟨⟨f1, f2⟩, g1, g2⟩ := hb
  have h0 : ∀ r, apG a (fl0 a b ++ r) = apG (thS a b) r := by
    intro r
    unfold fl0 thS
    cases thn a b with
    | false => rfl
    | true => rw [if_pos rfl, if_pos rfl, List.singleton_append, apG_one _ _ _ (by decide) (by decide)]; rfl
  have t1 : (thS a b).b1 = true → b.b1 = true := by
    unfold thS thn
    cases h : a.b1 <;> cases b.b1 <;> cases a.b2 <;> cases b.b2 <;> simp_all
  have t2 : (thS a b).b2 = true → b.b2 = true := by
    unfold thS thn
    cases a.b1 <;> cases b.b1 <;> cases h : a.b2 <;> cases b.b2 <;> simp_all
  have tf : (thS a b).fg = a.fg := by unfold thS; split <;> rfl
  have tb : (thS a b).bg = a.bg := by unfold thS; split <;> rfl
  unfold stF
  rw [List.append_assoc, List.append_assoc, h0, apG_flags _ _ _ t1 t2, tf, tb]
  have e1 : ∀ r, apG { b with fg := a.fg, bg := a.bg } (fgL a b ++ r) = apG { b with bg := a.bg } r := by
    intro r
    unfold fgL
    by_cases h : a.fg = b.fg
    · rw [if_pos h, h]; rfl
    · rw [if_neg h, apG_fg _ _ _ f1 f2]
  rw [e1]
  unfold bgL
  by_cases h : a.bg = b.bg
  · rw [if_pos h, h, apG_nil]
  · rw [if_neg h, ← List.append_nil (colF 40 b.bg), apG_bg _ _ _ g1 g2, apG_nil]
theorem colF_len (g c : Int) : (colF g c).length ≤ 3 ∧ 0 < (colF g c).length := by
  unfold colF
  by_cases h1 : c = -1
  · rw [if_pos h1]; simp
  by_cases h2 : c ≤ 7
  · rw [if_neg h1, if_pos h2]; simp
  by_cases h3 : c ≤ 15
  · rw [if_neg h1, if_neg h2, if_pos h3]; simp
  · rw [if_neg h1, if_neg h2, if_neg h3]; simp
theorem flS_len (a b : St) (k : Nat) : (flS a b k).length ≤ 1 := by unfold flS; repeat' split <;> simp
theorem flL_len (a b : St) : ∀ k, (flL a b k).length ≤ k
  | 0 => by simp [flL]
  | k + 1 => by
    have h1 := flL_len a b k
    have h2 := flS_len a b (k + 1)
    simp only [flL, List.length_append]; omega
theorem stF_len (a b : St) : (stF a b).length ≤ 16 := by
  have h1 := flL_len (thS a b) b 9
  have h2 := (colF_len 30 b.fg).1
  have h3 := (colF_len 40 b.bg).1
  have h4 : (fl0 a b).length ≤ 1 := by unfold fl0; split <;> simp
  have h5 : (fgL a b).length ≤ 3 := by
    unfold fgL
    split
    · simp
    · exact h2
  have h6 : (bgL a b).length ≤ 3 := by
    unfold bgL
    split
    · simp
    · exact h3
  simp only [stF, List.length_append]; omega
theorem colF_in (g c : Int) (hg : g = 30 ∨ g = 40) (h1 : -1 ≤ c) (h2 : c ≤ 255) : ∀ x ∈ colF g c, 0 ≤ x ∧ x ≤ 255 := by
  unfold colF
  repeat' split
  all_goals (intro x hx; simp at hx)
  all_goals (first | (subst hx; omega) | (rcases hx with rfl | rfl | rfl <;> omega))
theorem flS_in (a b : St) (k : Nat) (hk : k ≤ 9) : ∀ x ∈ flS a b k, 0 ≤ x ∧ x ≤ 255 := by
  unfold flS
  repeat' split
  all_goals (intro x hx; simp at hx)
  all_goals (subst hx; omega)
theorem flL_in (a b : St) : ∀ k, k ≤ 9 → ∀ x ∈ flL a b k, 0 ≤ x ∧ x ≤ 255
  | 0, _, x, hx => by simp [flL] at hx
  | k + 1, hk, x, hx => by
    rw [flL, List.mem_append] at hx
    rcases hx with hx | hx
    · exact flL_in a b k (by omega) x hx
    · exact flS_in a b (k + 1) hk x hx
theorem stF_in (a b : St) (hb : mayS b = true) : ∀ x ∈ stF a b, 0 ≤ x ∧ x ≤ 255 := by
  simp only [mayS, mc, Bool.and_eq_true, decide_eq_true_eq] at hb
  obtain ⟨⟨f1, f2⟩, g1, g2⟩ := hb
  intro x hx
  simp only [stF, List.mem_append] at hx
  rcases hx with ((hx | hx) | hx) | hx
  · unfold fl0 at hx; split at hx <;> simp at hx; subst hx; omega
  · exact flL_in _ _ 9 (by decide) x hx
  · unfold fgL at hx; split at hx
    · simp at hx
    · exact colF_in 30 _ (.inl rfl) f1 f2 x hx
  · unfold bgL at hx; split at hx
    · simp at hx
    · exact colF_in 40 _ (.inr rfl) g1 g2 x hx
theorem chF_len (a b : St) : (chF a b).length ≤ 17 := by
  have h1 := stF_len a b
  have h2 := stF_len pl b
  unfold chF
  repeat' split
  all_goals (simp; try omega)
theorem chF_in (a b : St) : ∀ x ∈ chF a b, 0 ≤ x ∧ x ≤ 255 := by
  unfold chF
  split
  · intro x hx; simp at hx
  · rename_i h
    have hb : mayS b = true := by cases hq : mayS b with | true => rfl | false => exact absurd (.inr (.inr hq)) h
    split
    · intro x hx
      simp only [List.mem_cons] at hx
      rcases hx with rfl | hx
      · omega
      · exact stF_in pl b hb x hx
    · exact stF_in a b hb
theorem chF_none (a b : St) (h : a = b ∨ mayS a = false ∨ mayS b = false) : chF a b = [] := if_pos (by rw [stB_iff]; exact h)
theorem chF_makes (a b : St) (h : ¬ (a = b ∨ mayS a = false ∨ mayS b = false)) : chF a b ≠ [] ∧ apF a (chF a b) = b := by
  have h' : ¬ (stB a b = true ∨ mayS a = false ∨ mayS b = false) := by rw [stB_iff]; exact h
  have hb : mayS b = true := by cases hq : mayS b with | true => rfl | false => exact absurd (.inr (.inr hq)) h
  have e1 := stF_makes a b hb
  have e2 := stF_makes pl b hb
  unfold chF
  rw [if_neg h']
  split
  · refine ⟨by simp, ?_⟩
    rw [apF, if_neg (by simp), apG_one _ _ _ (by decide) (by decide)]
    exact e2
  · have hne : stF a b ≠ [] := by
      intro e
      rw [e, apG_nil] at e1
      exact h (.inl e1)
    exact ⟨hne, by rw [apF, if_neg hne, e1]⟩
end Go.Proofs.Ytnbonlkmadmpcaa
