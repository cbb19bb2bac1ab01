/- A region that draws its order, one of whose operations writes; what stood ahead of the writing is known until then. -/
import Derived.Test.YtnbonlkmadmpcaaGv
namespace Go.Proofs.Ytnbonlkmadmpcaa
open Go.RowKit
section
variable {P : Program} {Q : Exit → Act → World → Prop}
/-- What each operation but the writing one must do. -/
def GrowsL (P : Program) (Q : Exit → Act → World → Prop) (j : Nat) (ow : Oper) (G : World → World → Prop) (C C0 : World → Prop) (V : Nat → World → Value → Prop) (l0 : List Oper) (t : Array Value) (df : List Deferred) : List Oper → Nat → Prop
  | [], _ => True
  | o :: r, k => (k ≠ j → ∀ f w, C w → (behind ow k = true → C0 w) → (∀ i, behind o i = true → V i w (f i)) → ∀ K : Act → World → Prop, (∀ v w', V k w' v → G w w' → K ((⟨setAll l0 0 f t, df⟩ : Act).put o.dst v) w') → o.wp P ⟨setAll l0 0 f t, df⟩ w K Q) ∧ GrowsL P Q j ow G C C0 V l0 t df r (k + 1)
def Jl (n j : Nat) (ow : Oper) (C C0 : World → Prop) (V : Nat → World → Value → Prop) (R : (Nat → Value) → World → Prop) (D : Nat → Bool) (f : Nat → Value) (w : World) : Prop :=
  C w ∧ (D j = false → C0 w) ∧ (∀ k, k < n → k ≠ j → D k = true → V k w (f k)) ∧ (D j = true → R f w ∧ ∀ i, behind ow i = true → D i = true)
theorem growsL_walks {n j : Nat} {ow : Oper} {G G' : World → World → Prop} {C C0 : World → Prop} {V : Nat → World → Value → Prop} {R : (Nat → Value) → World → Prop} {l0 : List Oper} {t : Array Value} {df : List Deferred}
    (hjj : behind ow j = false) (hnj : ∀ (i : Nat) (o : Oper), l0[i]? = some o → behind o j = false)
    (hC : ∀ w w', G w w' → C w → C w') (hC0 : ∀ w w', G w w' → C w → C0 w → C0 w') (hV : ∀ k v w w', C w → G w w' → V k w v → V k w' v) (hR : ∀ f w w', C w → G w w' → R f w → R f w')
    (hC' : ∀ w w', G' w w' → C w → C w') (hV' : ∀ k v w w', k ≠ j → C w → G' w w' → V k w v → V k w' v) (hRf : ∀ f k v w, behind ow k = false → R f w → R (upd f k v) w) :
    ∀ (l : List Oper) (k : Nat), GrowsL P Q j ow G C C0 V l0 t df l k → (∀ (i : Nat) (o : Oper), l[i]? = some o → l0[k + i]? = some o) → (∀ (i : Nat) (o : Oper), l[i]? = some o → ∀ q, behind o q = true → q < n) →
      (∀ (i : Nat) (o : Oper), l[i]? = some o → k + i = j → o = ow ∧ ∀ f w, C w → C0 w → (∀ i, behind ow i = true → V i w (f i)) → ∀ K : Act → World → Prop, (∀ v w', R f w' → G' w w' → K ((⟨setAll l0 0 f t, df⟩ : Act).put ow.dst v) w') → ow.wp P ⟨setAll l0 0 f t, df⟩ w K Q) →
      Walks P Q (Jl n j ow C C0 V R) l0 t df l k := by
  intro l
  induction l with
  | nil => intro k _ _ _ _; trivial
  | cons o r ih =>
    intro k hg hl hb hw
    refine ⟨fun D f w hJ hD hbD K hK => ?_, ih (k + 1) hg.2 (fun i o' h => by rw [show k + 1 + i = k + (i + 1) by omega]; exact hl (i + 1) o' (by simpa using h)) (fun i o' h q hq => hb (i + 1) o' (by simpa using h) q hq) (fun i o' h e => hw (i + 1) o' (by simpa using h) (by omega))⟩
    obtain ⟨h1, h0, h2, h3⟩ := hJ
    have hbv : ∀ i, behind o i = true → V i w (f i) := fun i hi => h2 i (hb 0 o rfl i hi) (fun e => by rw [e, hnj k o (hl 0 o rfl)] at hi; cases hi) (hbD i hi)
    by_cases e : k = j
    · subst e
      obtain ⟨rfl, hw0⟩ := hw 0 o rfl (by omega)
      refine hw0 f w h1 (h0 hD) hbv K fun v w' hv hG => hK v w' ⟨hC' _ _ hG h1, fun hh => ?_, fun q hq hqj hd => ?_, fun _ => ⟨hRf f k v w' hjj hv, fun i hi => ?_⟩⟩
      · simp [updB] at hh
      · simp only [upd, if_neg hqj]
        simp only [updB, if_neg hqj] at hd
        exact hV' q _ _ _ hqj h1 hG (h2 q hq hqj hd)
      · unfold updB
        split
        · rfl
        · exact hbD i hi
    · have hc0 : behind ow k = true → C0 w := fun hk => h0 (by
        cases hdj : D j with
        | false => rfl
        | true => rw [(h3 hdj).2 k hk] at hD; cases hD)
      refine hg.1 e f w h1 hc0 hbv K fun v w' hv hG => hK v w' ⟨hC _ _ hG h1, fun hh => ?_, fun q hq hqj hd => ?_, fun hd => ?_⟩
      · simp only [updB, if_neg (fun (h : j = k) => e h.symm)] at hh
        exact hC0 _ _ hG h1 (h0 hh)
      · by_cases e2 : q = k
        · subst e2; simpa [upd] using hv
        · simp only [upd, if_neg e2]
          simp only [updB, if_neg e2] at hd
          exact hV q _ _ _ h1 hG (h2 q hq hqj hd)
      · simp only [updB, if_neg (fun (h : j = k) => e h.symm)] at hd
        obtain ⟨r1, r2⟩ := h3 hd
        have hbk : behind ow k = false := by
          cases hq : behind ow k with
          | false => rfl
          | true => rw [r2 k hq] at hD; cases hD
        refine ⟨hRf f k v w' hbk (hR f _ _ h1 hG r1), fun i hi => ?_⟩
        unfold updB
        split
        · rfl
        · exact r2 i hi
theorem wp_region_late {id : Nat} {t : Array Value} {df : List Deferred} {w : World} {l : List Oper} (n j : Nat) (hm : P.follows .mixedOrders = true) (hB : growB l n = true) (ow : Oper) (how : (l.take n)[j]? = some ow)
    (hjj : behind ow j = false) (hnj : ((l.take n).all fun o => !behind o j) = true)
    (G G' : World → World → Prop) (C C0 : World → Prop) (V : Nat → World → Value → Prop) (R : (Nat → Value) → World → Prop)
    (hC : ∀ w w', G w w' → C w → C w') (hC0 : ∀ w w', G w w' → C w → C0 w → C0 w') (hV : ∀ k v w w', C w → G w w' → V k w v → V k w' v) (hR : ∀ f w w', C w → G w w' → R f w → R f w')
    (hC' : ∀ w w', G' w w' → C w → C w') (hV' : ∀ k v w w', k ≠ j → C w → G' w w' → V k w v → V k w' v) (hRf : ∀ f k v w, behind ow k = false → R f w → R (upd f k v) w)
    (h0 : C w.drew) (h00 : C0 w.drew)
    (hops : GrowsL P Q j ow G C C0 V (l.take n) t df (l.take n) 0)
    (hwr : ∀ f w, C w → C0 w → (∀ i, behind ow i = true → V i w (f i)) → ∀ K : Act → World → Prop, (∀ v w', R f w' → G' w w' → K ((⟨setAll (l.take n) 0 f t, df⟩ : Act).put ow.dst v) w') → ow.wp P ⟨setAll (l.take n) 0 f t, df⟩ w K Q)
    (hend : ∀ f w', C w' → R f w' → (∀ k, k < n → k ≠ j → V k w' (f k)) → wpList P l.toArray Q (l.drop n) ⟨setAll (l.take n) 0 f t, df⟩ w') :
    (Code.region id l.toArray true).wp P Q ⟨t, df⟩ w := by
  have hjn : j < n := by
    rcases Nat.lt_or_ge j n with h | h
    · exact h
    · rw [List.getElem?_take, if_neg (by omega)] at how; cases how
  refine wp_region_walk n hm hB (Jl n j ow C C0 V R) (fun f => ⟨h0, fun _ => h00, (fun k _ _ h => by cases h), (fun h => by cases h)⟩) (growsL_walks hjj ?_ hC hC0 hV hR hC' hV' hRf _ 0 hops ?_ ?_ ?_) (fun D f w' hD hJ => hend f w' hJ.1 (hJ.2.2.2 (hD j hjn)).1 fun k hk hkj => hJ.2.2.1 k hk hkj (hD k hk))
  · intro i o ho
    have := List.all_eq_true.1 hnj o (List.mem_of_getElem? ho)
    simpa using this
  · intro i o ho
    rw [Nat.zero_add]; exact ho
  · intro i o ho q hq
    simp only [growB, Bool.and_eq_true, List.all_eq_true, List.mem_range, decide_eq_true_eq] at hB
    obtain ⟨⟨⟨_, hB2⟩, _⟩, hn⟩ := hB
    have hin : i < n := by
      rcases Nat.lt_or_ge i n with h | h
      · exact h
      · rw [List.getElem?_take, if_neg (by omega)] at ho; cases ho
    rw [List.getElem?_take, if_pos hin] at ho
    have h2 := hB2 i (by omega)
    rw [ho] at h2
    simp only [Option.map_some, Option.getD_some, List.all_eq_true, Bool.or_eq_true, Bool.not_eq_true', decide_eq_true_eq] at h2
    unfold behind at hq
    rw [List.any_eq_true] at hq
    obtain ⟨e, he, hh⟩ := hq
    simp only [Bool.and_eq_true, beq_iff_eq] at hh
    have h3 := (h2 e he).resolve_left (by rw [hh.2]; simp)
    rw [hh.1] at h3
    omega
  · intro i o ho hij
    rw [Nat.zero_add] at hij
    subst hij
    rw [how] at ho
    cases ho
    exact ⟨rfl, hwr⟩
end
end Go.Proofs.Ytnbonlkmadmpcaa
