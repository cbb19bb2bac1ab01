/- Diff and Apply, there and back: what they answer. -/
import Derived.Test.YtpgljhgfoihnjaaPj
namespace Go.Proofs.Ytpgljhgfoihnjaa
open Go.RowKit Go.BigFrame
set_option maxRecDepth 100000
set_option linter.unusedSimpArgs false
set_option linter.unusedVariables false

theorem uf_mono (n : Nat) : ∀ a, a ≤ n → (uf a).length ≤ (uf n).length := by
  induction n using Nat.strongRecOn with
  | ind n ih =>
    intro a ha
    by_cases h : n < 128
    · rw [uf_small h, uf_small (show a < 128 by omega)]; simp
    · by_cases h2 : a < 128
      · rw [uf_small h2, uf_big h]; simp
      · rw [uf_big h, uf_big h2]
        simp only [List.length_cons]
        exact Nat.succ_le_succ (ih (n / 128) (by omega) (a / 128) (Nat.div_le_div_right ha))
theorem wev_ok {l : List Ev} : (wevF l).2 = 0 ↔ badE l = false ∧ l.length ≤ 4096 ∧ (uf l.length).length + (l.map evF).flatten.length ≤ 65536 := by
  have e : (preE l l.length).length = (uf l.length).length + (l.map evF).flatten.length := by unfold preE; rw [List.take_length, List.length_append]
  unfold wevF
  rw [e]
  cases hb : badE l with
  | true => simp
  | false =>
    simp only [Bool.false_eq_true, if_false, true_and]
    generalize (l.map evF).flatten.length = fl
    by_cases h : 4096 < l.length ∨ 65536 < (uf l.length).length + fl
    · rw [if_pos h]; simp; omega
    · rw [if_neg h]; simp; omega
theorem wev_codes (l : List Ev) (h : badE l = false) : (wevF l).2 = 0 ∨ (wevF l).2 = 4 := by
  unfold wevF
  simp only [h, Bool.false_eq_true, if_false]
  split
  · exact .inr rfl
  · exact .inl rfl
theorem badE_app (a b : List Ev) : badE (a ++ b) = (badE a || badE b) := by unfold badE; rw [List.any_append]
theorem wev_part {l : List Ev} (h : (wevF l).2 = 0) (k : Nat) : (wevF (l.take k)).2 = 0 ∧ (wevF (l.drop k)).2 = 0 := by
  rw [wev_ok] at h ⊢
  obtain ⟨h1, h2, h3⟩ := h
  obtain ⟨b1, b2⟩ := badE_front h1 k
  have u1 := uf_mono l.length (l.take k).length (by rw [List.length_take]; omega)
  have u2 := uf_mono l.length (l.drop k).length (by rw [List.length_drop]; omega)
  have hl : (l.map evF).flatten.length = ((l.take k).map evF).flatten.length + ((l.drop k).map evF).flatten.length := by
    conv => lhs; rw [← List.take_append_drop k l]
    rw [List.map_append, List.flatten_append, List.length_append]
  have t1 : (l.take k).length ≤ l.length := by rw [List.length_take]; omega
  have t2 : (l.drop k).length ≤ l.length := by rw [List.length_drop]; omega
  refine ⟨⟨b1, by omega, by omega⟩, ?_⟩
  rw [wev_ok]
  exact ⟨b2, by omega, by omega⟩
theorem lstB_rfl (l : List Ev) : lstB l l = true := (lstB_iff l l).2 rfl
theorem beg_app (a b : List Ev) : begB a (a ++ b) = true := by
  unfold begB
  rw [List.take_left, lstB_rfl]
  simp
theorem mayL_app {a b : List Ev} : mayL (a ++ b) = true ↔ badE a = false ∧ badE b = false ∧ a.length + b.length ≤ 4096 := by
  unfold mayL
  rw [badE_app, List.length_append]
  cases badE a <;> cases badE b <;> simp
theorem mayL_iff {a : List Ev} : mayL a = true ↔ badE a = false ∧ a.length ≤ 4096 := by
  unfold mayL
  cases badE a <;> simp
theorem dif_app {a b : List Ev} (h : mayL (a ++ b) = true) : difF a (a ++ b) = wevF b := by
  obtain ⟨h1, h2, h3⟩ := mayL_app.1 h
  unfold difF
  rw [if_pos ⟨mayL_iff.2 ⟨h1, by omega⟩, h⟩, if_pos (beg_app a b), List.drop_left]
theorem app_dif {a b : List Ev} (h : mayL (a ++ b) = true) (hw : (wevF b).2 = 0) : appF a (wevF b).1 = (a ++ b, 0) := by
  obtain ⟨h1, h2, h3⟩ := mayL_app.1 h
  have e : wevF b = ((wevF b).1, 0) := by rw [← hw]
  have r := rdE_back e
  unfold appF
  rw [if_pos (mayL_iff.2 ⟨h1, by omega⟩), r]
  simp only [ne_eq, not_true_eq_false, if_false]
  rw [if_neg (by omega)]
theorem difF_len (a b : List Ev) : (difF a b).1.length ≤ 65536 := by
  have hw : ∀ l, (wevF l).1.length ≤ 65536 := fun l => by
    unfold wevF
    split
    · simp
    · split
      · simp
      · rename_i h
        show (preE l l.length).length ≤ 65536
        omega
  unfold difF
  split
  · split
    · exact hw _
    · simp
  · simp
/-- All that EventsBack says of the numbers. -/
theorem back_facts (a m : List Ev) (k : Nat) (hk : k ≤ m.length) : ((difF a (a ++ m)).2 ≠ 0 ∧ (mayL a = false ∨ mayL (a ++ m) = false ∨ (difF a (a ++ m)).2 = 4)) ∨
    ((difF a (a ++ m)).2 = 0 ∧ appF a (difF a (a ++ m)).1 = (a ++ m, 0) ∧ (difF a (a ++ m.take k)).2 = 0 ∧ (difF (a ++ m.take k) (a ++ m)).2 = 0 ∧ appF a (difF a (a ++ m.take k)).1 = (a ++ m.take k, 0) ∧ appF (a ++ m.take k) (difF (a ++ m.take k) (a ++ m)).1 = (a ++ m, 0)) := by
  by_cases hm : mayL (a ++ m) = true
  · obtain ⟨h1, h2, h3⟩ := mayL_app.1 hm
    rw [dif_app hm]
    by_cases hw : (wevF m).2 = 0
    · obtain ⟨w1, w2⟩ := wev_part hw k
      have hk' : mayL (a ++ m.take k) = true := mayL_app.2 ⟨h1, (badE_front h2 k).1, by rw [List.length_take]; omega⟩
      have es : a ++ m = (a ++ m.take k) ++ m.drop k := by rw [List.append_assoc, List.take_append_drop]
      refine .inr ⟨hw, app_dif hm hw, ?_, ?_, ?_, ?_⟩
      · rw [dif_app hk']; exact w1
      · rw [es, dif_app (by rw [← es]; exact hm)]; exact w2
      · rw [dif_app hk']; exact app_dif hk' w1
      · rw [es, dif_app (by rw [← es]; exact hm)]; exact app_dif (by rw [← es]; exact hm) w2
    · exact .inl ⟨hw, .inr (.inr ((wev_codes m h2).resolve_left hw))⟩
  · refine .inl ⟨?_, .inr (.inl (by simpa using hm))⟩
    unfold difF
    rw [if_neg (by rintro ⟨_, h⟩; exact hm h)]
    decide
end Go.Proofs.Ytpgljhgfoihnjaa
