/- A region that draws its order, of which one operation writes into what is there already or what another has made. -/
import Derived.Test.YthmcmdojnnbefaaGs
namespace Go.Proofs.Ythmcmdojnnbefaa
open Go.RowKit
section
variable {P : Program} {Q : Exit → Act → World → Prop}
/-- What each operation of the head must do, but the j-th, which writes; what that one is behind may lean on A. -/
def GrowsA (P : Program) (Q : Exit → Act → World → Prop) (j : Nat) (ow : Oper) (G : World → World → Prop) (C A : World → Prop) (V : Nat → World → Value → Prop) (l0 : List Oper) (t : Array Value) (df : List Deferred) : List Oper → Nat → Prop
  | [], _ => True
  | o :: r, k => (k ≠ j → ∀ f w, C w → (behind ow k = true → A w) → (∀ i, behind o i = true → V i w (f i)) → ∀ K : Act → World → Prop, (∀ v w', V k w' v → G w w' → K ((⟨setAll l0 0 f t, df⟩ : Act).put o.dst v) w') → o.wp P ⟨setAll l0 0 f t, df⟩ w K Q) ∧ GrowsA P Q j ow G C A V l0 t df r (k + 1)
def Ja (n j : Nat) (ow : Oper) (Sp : Nat → Bool) (C A : World → Prop) (V : Nat → World → Value → Prop) (D : Nat → Bool) (f : Nat → Value) (w : World) : Prop :=
  C w ∧ (D j = false → A w) ∧ (D j = true → ∀ i, behind ow i = true → D i = true) ∧ ∀ k, k < n → D k = true → (D j = true → Sp k = false) → V k w (f k)
theorem growsA_spent {n j : Nat} {ow : Oper} {Sp : Nat → Bool} {G G' : World → World → Prop} {C A : World → Prop} {V : Nat → World → Value → Prop} {l0 : List Oper} {t : Array Value} {df : List Deferred}
    (hC : ∀ w w', G w w' → C w → C w') (hA : ∀ w w', C w → G w w' → A w → A w') (hV : ∀ k v w w', C w → G w w' → V k w v → V k w' v)
    (hC' : ∀ w w', G' w w' → C w → C w') (hV' : ∀ k v w w', k ≠ j → Sp k = false → C w → G' w w' → V k w v → V k w' v) :
    ∀ (l : List Oper) (k : Nat), GrowsA P Q j ow G C A V l0 t df l k → (∀ (i : Nat) (o : Oper), l[i]? = some o → ∀ q, behind o q = true → q < n) →
      (∀ (i : Nat) (o : Oper), l[i]? = some o → k + i ≠ j → behind ow (k + i) = true ∨ ∀ q, behind o q = true → Sp q = false) →
      (∀ (i : Nat) (o : Oper), l[i]? = some o → k + i = j → o = ow ∧ ∀ f w, C w → A w → (∀ i, behind o i = true → V i w (f i)) → ∀ K : Act → World → Prop, (∀ v w', V j w' v → G' w w' → K ((⟨setAll l0 0 f t, df⟩ : Act).put o.dst v) w') → o.wp P ⟨setAll l0 0 f t, df⟩ w K Q) →
      Walks P Q (Ja n j ow Sp C A V) l0 t df l k := by
  intro l
  induction l with
  | nil => intro k _ _ _ _; trivial
  | cons o r ih =>
    intro k hg hb hok hw
    refine ⟨fun D f w hJ hD hbD K hK => ?_, ih (k + 1) hg.2 (fun i o' h q hq => hb (i + 1) o' (by simpa using h) q hq) (fun i o' h e => by have := hok (i + 1) o' (by simpa using h) (by omega); rwa [show k + (i + 1) = k + 1 + i by omega] at this) (fun i o' h e => hw (i + 1) o' (by simpa using h) (by omega))⟩
    obtain ⟨h1, ha, h2, h3⟩ := hJ
    by_cases e : k = j
    · subst e
      obtain ⟨eo, hw0⟩ := hw 0 o rfl (by omega)
      subst eo
      have hbv : ∀ i, behind o i = true → V i w (f i) := fun i hi => h3 i (hb 0 o rfl i hi) (hbD i hi) (fun h => by rw [hD] at h; cases h)
      refine hw0 f w h1 (ha hD) hbv K fun v w' hv hG => hK v w' ⟨hC' _ _ hG h1, fun h => by simp [updB] at h, fun _ i hi => ?_, fun q hq hd hs => ?_⟩
      · by_cases e2 : i = k
        · simp [updB, e2]
        · simp only [updB, if_neg e2]; exact hbD i hi
      · by_cases e2 : q = k
        · subst e2; simpa [upd] using hv
        · have hsq : Sp q = false := hs (by simp [updB])
          simp only [upd, if_neg e2]
          simp only [updB, if_neg e2] at hd
          exact hV' q _ _ _ e2 hsq h1 hG (h3 q hq hd (fun h => by rw [hD] at h; cases h))
    · have hnj : behind ow k = true → D j = false := fun h4 => by
        cases hDj : D j with
        | false => rfl
        | true => have := h2 hDj k h4; rw [hD] at this; cases this
      have hbv : ∀ i, behind o i = true → V i w (f i) := fun i hi => h3 i (hb 0 o rfl i hi) (hbD i hi) (fun h => by
        rcases hok 0 o rfl (by simpa using e) with h4 | h4
        · have := hnj (by simpa using h4)
          rw [h] at this; cases this
        · exact h4 i hi)
      refine hg.1 e f w h1 (fun h4 => ha (hnj h4)) hbv K fun v w' hv hG => hK v w' ⟨hC _ _ hG h1, fun h => ?_, fun h i hi => ?_, fun q hq hd hs => ?_⟩
      · simp only [updB, if_neg (fun (h : j = k) => e h.symm)] at h
        exact hA _ _ h1 hG (ha h)
      · simp only [updB, if_neg (fun (h : j = k) => e h.symm)] at h
        by_cases e2 : i = k
        · simp [updB, e2]
        · simp only [updB, if_neg e2]; exact h2 h i hi
      · simp only [updB, if_neg (fun (h : j = k) => e h.symm)] at hs
        by_cases e2 : q = k
        · subst e2; simpa [upd] using hv
        · simp only [upd, if_neg e2]
          simp only [updB, if_neg e2] at hd
          exact hV q _ _ _ h1 hG (h3 q hq hd hs)
theorem wp_region_spentA {id : Nat} {t : Array Value} {df : List Deferred} {w : World} {l : List Oper} (n j : Nat) (Sp : Nat → Bool) (hm : P.follows .mixedOrders = true) (hB : growB l n = true) (ow : Oper) (how : (l.take n)[j]? = some ow) (hS : spB (l.take n) n j ow Sp = true)
    (G G' : World → World → Prop) (C A : World → Prop) (V : Nat → World → Value → Prop)
    (hC : ∀ w w', G w w' → C w → C w') (hA : ∀ w w', C w → G w w' → A w → A w') (hV : ∀ k v w w', C w → G w w' → V k w v → V k w' v)
    (hC' : ∀ w w', G' w w' → C w → C w') (hV' : ∀ k v w w', k ≠ j → Sp k = false → C w → G' w w' → V k w v → V k w' v)
    (h0 : C w.drew) (hA0 : A w.drew)
    (hops : GrowsA P Q j ow G C A V (l.take n) t df (l.take n) 0)
    (hwr : ∀ f w, C w → A w → (∀ i, behind ow i = true → V i w (f i)) → ∀ K : Act → World → Prop, (∀ v w', V j w' v → G' w w' → K ((⟨setAll (l.take n) 0 f t, df⟩ : Act).put ow.dst v) w') → ow.wp P ⟨setAll (l.take n) 0 f t, df⟩ w K Q)
    (hend : ∀ f w', C w' → (∀ k, k < n → Sp k = false → V k w' (f k)) → wpList P l.toArray Q (l.drop n) ⟨setAll (l.take n) 0 f t, df⟩ w') :
    (Code.region id l.toArray true).wp P Q ⟨t, df⟩ w := by
  simp only [spB, Bool.and_eq_true, Bool.not_eq_true', List.all_eq_true, List.mem_range, Bool.or_eq_true, decide_eq_true_eq] at hS
  obtain ⟨⟨hS1, hS2⟩, hS3⟩ := hS
  refine wp_region_walk n hm hB (Ja n j ow Sp C A V) (fun f => ⟨h0, (fun _ => hA0), (fun h => by cases h), (fun k _ h => by cases h)⟩) (growsA_spent hC hA hV hC' hV' _ 0 hops ?_ ?_ ?_) (fun D f w' hD hJ => hend f w' hJ.1 fun k hk hs => hJ.2.2.2 k hk (hD k hk) (fun _ => hs))
  · intro i o ho q hq
    simp only [growB, Bool.and_eq_true, List.all_eq_true, List.mem_range, decide_eq_true_eq] at hB
    obtain ⟨⟨⟨_, hB2⟩, _⟩, hn⟩ := hB
    have hin : i < n := by
      rcases Nat.lt_or_ge i n with h | h
      · exact h
      · rw [List.getElem?_take, if_neg (by omega)] at ho; cases ho
    rw [List.getElem?_take, if_pos hin] at ho
    have h2 := hB2 i (by omega)
    rw [ho] at h2
    simp only [Option.map_some, Option.getD_some, List.all_eq_true, Bool.or_eq_true, Bool.not_eq_true', decide_eq_true_eq] at h2
    unfold behind at hq
    rw [List.any_eq_true] at hq
    obtain ⟨e, he, hh⟩ := hq
    simp only [Bool.and_eq_true, beq_iff_eq] at hh
    have h3 := (h2 e he).resolve_left (by rw [hh.2]; simp)
    rw [hh.1] at h3
    omega
  · intro i o ho hne
    rw [Nat.zero_add] at hne ⊢
    have hin : i < n := by
      rcases Nat.lt_or_ge i n with h | h
      · exact h
      · rw [List.getElem?_take, if_neg (by omega)] at ho; cases ho
    rcases hS3 i hin with (h | h) | h
    · exact absurd h hne
    · exact .inl h
    · right
      rw [ho] at h
      simp only [List.all_eq_true, Bool.or_eq_true, Bool.not_eq_true'] at h
      intro q hq
      unfold behind at hq
      rw [List.any_eq_true] at hq
      obtain ⟨e, he, hh⟩ := hq
      simp only [Bool.and_eq_true, beq_iff_eq] at hh
      have h3 := (h e he).resolve_left (by rw [hh.2]; simp)
      rw [hh.1] at h3
      exact h3
  · intro i o ho e
    have e' : i = j := by omega
    subst e'
    rw [how] at ho
    cases ho
    exact ⟨rfl, hwr⟩
end
end Go.Proofs.Ythmcmdojnnbefaa
