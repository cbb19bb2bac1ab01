/- A region that draws its order, of which one operation writes into what another has made; what that one has made is spent then. -/
import Derived.Test.YthmcmdojnnbefaaGy
namespace Go.Proofs.Ythmcmdojnnbefaa
open Go.RowKit
section
variable {P : Program} {Q : Exit → Act → World → Prop}
def Js (n j : Nat) (ow : Oper) (Sp : Nat → Bool) (C : World → Prop) (V : Nat → World → Value → Prop) (D : Nat → Bool) (f : Nat → Value) (w : World) : Prop :=
  C w ∧ (D j = true → ∀ i, behind ow i = true → D i = true) ∧ ∀ k, k < n → D k = true → (D j = true → Sp k = false) → V k w (f k)
theorem growsBut_spent {n j : Nat} {ow : Oper} {Sp : Nat → Bool} {G G' : World → World → Prop} {C : World → Prop} {V : Nat → World → Value → Prop} {l0 : List Oper} {t : Array Value} {df : List Deferred}
    (hSj : Sp j = false) (hjj : behind ow j = false)
    (hC : ∀ w w', G w w' → C w → C w') (hV : ∀ k v w w', C w → G w w' → V k w v → V k w' v)
    (hC' : ∀ w w', G' w w' → C w → C w') (hV' : ∀ k v w w', k ≠ j → Sp k = false → C w → G' w w' → V k w v → V k w' v) :
    ∀ (l : List Oper) (k : Nat), GrowsBut P Q j G C V l0 t df l k → (∀ (i : Nat) (o : Oper), l[i]? = some o → ∀ q, behind o q = true → q < n) →
      (∀ (i : Nat) (o : Oper), l[i]? = some o → k + i ≠ j → behind ow (k + i) = true ∨ ∀ q, behind o q = true → Sp q = false) →
      (∀ (i : Nat) (o : Oper), l[i]? = some o → k + i = j → o = ow ∧ ∀ f w, C w → (∀ i, behind o i = true → V i w (f i)) → ∀ K : Act → World → Prop, (∀ v w', V j w' v → G' w w' → K ((⟨setAll l0 0 f t, df⟩ : Act).put o.dst v) w') → o.wp P ⟨setAll l0 0 f t, df⟩ w K Q) →
      Walks P Q (Js n j ow Sp C V) l0 t df l k := by
  intro l
  induction l with
  | nil => intro k _ _ _ _; trivial
  | cons o r ih =>
    intro k hg hb hok hw
    refine ⟨fun D f w hJ hD hbD K hK => ?_, ih (k + 1) hg.2 (fun i o' h q hq => hb (i + 1) o' (by simpa using h) q hq) (fun i o' h e => by have := hok (i + 1) o' (by simpa using h) (by omega); rwa [show k + (i + 1) = k + 1 + i by omega] at this) (fun i o' h e => hw (i + 1) o' (by simpa using h) (by omega))⟩
    obtain ⟨h1, h2, h3⟩ := hJ
    by_cases e : k = j
    · subst e
      obtain ⟨eo, hw0⟩ := hw 0 o rfl (by omega)
      subst eo
      have hbv : ∀ i, behind o i = true → V i w (f i) := fun i hi => h3 i (hb 0 o rfl i hi) (hbD i hi) (fun h => by rw [hD] at h; cases h)
      refine hw0 f w h1 hbv K fun v w' hv hG => hK v w' ⟨hC' _ _ hG h1, fun _ i hi => ?_, fun q hq hd hs => ?_⟩
      · by_cases e2 : i = k
        · simp [updB, e2]
        · simp only [updB, if_neg e2]; exact hbD i hi
      · by_cases e2 : q = k
        · subst e2; simpa [upd] using hv
        · have hsq : Sp q = false := hs (by simp [updB])
          simp only [upd, if_neg e2]
          simp only [updB, if_neg e2] at hd
          exact hV' q _ _ _ e2 hsq h1 hG (h3 q hq hd (fun h => by rw [hD] at h; cases h))
    · have hbv : ∀ i, behind o i = true → V i w (f i) := fun i hi => h3 i (hb 0 o rfl i hi) (hbD i hi) (fun h => by
        rcases hok 0 o rfl (by simpa using e) with h4 | h4
        · have := h2 h k (by simpa using h4)
          rw [hD] at this; cases this
        · exact h4 i hi)
      refine hg.1 e f w h1 hbv K fun v w' hv hG => hK v w' ⟨hC _ _ hG h1, fun h i hi => ?_, fun q hq hd hs => ?_⟩
      · simp only [updB, if_neg (fun (h : j = k) => e h.symm)] at h
        by_cases e2 : i = k
        · simp [updB, e2]
        · simp only [updB, if_neg e2]; exact h2 h i hi
      · simp only [updB, if_neg (fun (h : j = k) => e h.symm)] at hs
        by_cases e2 : q = k
        · subst e2; simpa [upd] using hv
        · simp only [upd, if_neg e2]
          simp only [updB, if_neg e2] at hd
          exact hV q _ _ _ h1 hG (h3 q hq hd hs)
def spB (l : List Oper) (n j : Nat) (ow : Oper) (Sp : Nat → Bool) : Bool :=
  !Sp j && !behind ow j && (List.range n).all fun i => decide (i = j) || behind ow i || match l[i]? with
    | none => true
    | some o => o.after.toList.all fun e => !Region.binds .any e || !Sp e.on
theorem wp_region_spent {id : Nat} {t : Array Value} {df : List Deferred} {w : World} {l : List Oper} (n j : Nat) (Sp : Nat → Bool) (hm : P.follows .mixedOrders = true) (hB : growB l n = true) (ow : Oper) (how : (l.take n)[j]? = some ow) (hS : spB (l.take n) n j ow Sp = true)
    (G G' : World → World → Prop) (C : World → Prop) (V : Nat → World → Value → Prop)
    (hC : ∀ w w', G w w' → C w → C w') (hV : ∀ k v w w', C w → G w w' → V k w v → V k w' v)
    (hC' : ∀ w w', G' w w' → C w → C w') (hV' : ∀ k v w w', k ≠ j → Sp k = false → C w → G' w w' → V k w v → V k w' v)
    (h0 : C w.drew)
    (hops : GrowsBut P Q j G C V (l.take n) t df (l.take n) 0)
    (hwr : ∀ f w, C w → (∀ i, behind ow i = true → V i w (f i)) → ∀ K : Act → World → Prop, (∀ v w', V j w' v → G' w w' → K ((⟨setAll (l.take n) 0 f t, df⟩ : Act).put ow.dst v) w') → ow.wp P ⟨setAll (l.take n) 0 f t, df⟩ w K Q)
    (hend : ∀ f w', C w' → (∀ k, k < n → Sp k = false → V k w' (f k)) → wpList P l.toArray Q (l.drop n) ⟨setAll (l.take n) 0 f t, df⟩ w') :
    (Code.region id l.toArray true).wp P Q ⟨t, df⟩ w := by
  simp only [spB, Bool.and_eq_true, Bool.not_eq_true', List.all_eq_true, List.mem_range, Bool.or_eq_true, decide_eq_true_eq] at hS
  obtain ⟨⟨hS1, hS2⟩, hS3⟩ := hS
  refine wp_region_walk n hm hB (Js n j ow Sp C V) (fun f => ⟨h0, (fun h => by cases h), (fun k _ h => by cases h)⟩) (growsBut_spent hS1 hS2 hC hV hC' hV' _ 0 hops ?_ ?_ ?_) (fun D f w' hD hJ => hend f w' hJ.1 fun k hk hs => hJ.2.2 k hk (hD k hk) (fun _ => hs))
  · intro i o ho q hq
    simp only [growB, Bool.and_eq_true, List.all_eq_true, List.mem_range, decide_eq_true_eq] at hB
    obtain ⟨⟨⟨_, hB2⟩, _⟩, hn⟩ := hB
    have hin : i < n := by
      rcases Nat.lt_or_ge i n with h | h
      · exact h
      · rw [List.getElem?_take, if_neg (by omega)] at ho; cases ho
    rw [List.getElem?_take, if_pos hin] at ho
    have h2 := hB2 i (by omega)
    rw [ho] at h2
    simp only [Option.map_some, Option.getD_some, List.all_eq_true, Bool.or_eq_true, Bool.not_eq_true', decide_eq_true_eq] at h2
    unfold behind at hq
    rw [List.any_eq_true] at hq
    obtain ⟨e, he, hh⟩ := hq
    simp only [Bool.and_eq_true, beq_iff_eq] at hh
    have h3 := (h2 e he).resolve_left (by rw [hh.2]; simp)
    rw [hh.1] at h3
    omega
  · intro i o ho hne
    rw [Nat.zero_add] at hne ⊢
    have hin : i < n := by
      rcases Nat.lt_or_ge i n with h | h
      · exact h
      · rw [List.getElem?_take, if_neg (by omega)] at ho; cases ho
    rcases hS3 i hin with (h | h) | h
    · exact absurd h hne
    · exact .inl h
    · right
      rw [ho] at h
      simp only [List.all_eq_true, Bool.or_eq_true, Bool.not_eq_true'] at h
      intro q hq
      unfold behind at hq
      rw [List.any_eq_true] at hq
      obtain ⟨e, he, hh⟩ := hq
      simp only [Bool.and_eq_true, beq_iff_eq] at hh
      have h3 := (h e he).resolve_left (by rw [hh.2]; simp)
      rw [hh.1] at h3
      exact h3
  · intro i o ho e
    have e' : i = j := by omega
    subst e'
    rw [how] at ho
    cases ho
    exact ⟨rfl, hwr⟩
end
end Go.Proofs.Ythmcmdojnnbefaa
