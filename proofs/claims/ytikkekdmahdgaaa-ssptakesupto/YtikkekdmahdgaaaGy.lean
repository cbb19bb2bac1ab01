/- A region that draws its order, by what stands when so much of its head is done; its tail is forced. -/
import Derived.Test.YtikkekdmahdgaaaGw
namespace Go.Proofs.Ytikkekdmahdgaaa
open Go.RowKit
section
variable {P : Program} {Q : Exit → Act → World → Prop}
def updB (D : Nat → Bool) (i : Nat) : Nat → Bool := fun k => if k = i then true else D k
/-- What each operation of the head must do. -/
def Walks (P : Program) (Q : Exit → Act → World → Prop) (J : (Nat → Bool) → (Nat → Value) → World → Prop) (l0 : List Oper) (t : Array Value) (df : List Deferred) : List Oper → Nat → Prop
  | [], _ => True
  | o :: r, k => (∀ D f w, J D f w → D k = false → (∀ j, behind o j = true → D j = true) → ∀ K : Act → World → Prop, (∀ v w', J (updB D k) (upd f k v) w' → K ((⟨setAll l0 0 f t, df⟩ : Act).put o.dst v) w') → o.wp P ⟨setAll l0 0 f t, df⟩ w K Q) ∧ Walks P Q J l0 t df r (k + 1)
theorem Walks.at {J : (Nat → Bool) → (Nat → Value) → World → Prop} {l0 : List Oper} {t : Array Value} {df : List Deferred} {l : List Oper} {k : Nat} (h : Walks P Q J l0 t df l k) (i : Nat) (o : Oper) (ho : l[i]? = some o) :
    ∀ D f w, J D f w → D (k + i) = false → (∀ j, behind o j = true → D j = true) → ∀ K : Act → World → Prop, (∀ v w', J (updB D (k + i)) (upd f (k + i) v) w' → K ((⟨setAll l0 0 f t, df⟩ : Act).put o.dst v) w') → o.wp P ⟨setAll l0 0 f t, df⟩ w K Q := by
  induction l generalizing k i with
  | nil => simp at ho
  | cons p r ih =>
    cases i with
    | zero => simp only [List.getElem?_cons_zero, Option.some.injEq] at ho; subst ho; exact h.1
    | succ i =>
      have e : k + (i + 1) = k + 1 + i := by omega
      rw [e]
      exact ih h.2 i (by simpa using ho)
theorem wp_region_walk {id : Nat} {t : Array Value} {df : List Deferred} {w : World} {l : List Oper} (n : Nat) (hm : P.follows .mixedOrders = true) (hB : growB l n = true)
    (J : (Nat → Bool) → (Nat → Value) → World → Prop) (h0 : ∀ f, J (fun _ => false) f w.drew)
    (hops : Walks P Q J (l.take n) t df (l.take n) 0)
    (hend : ∀ D f w', (∀ k, k < n → D k = true) → J D f w' → wpList P l.toArray Q (l.drop n) ⟨setAll (l.take n) 0 f t, df⟩ w') :
    (Code.region id l.toArray true).wp P Q ⟨t, df⟩ w := by
  simp only [growB, Bool.and_eq_true, List.all_eq_true, List.mem_range, decide_eq_true_eq] at hB
  obtain ⟨⟨⟨hB1, hB2⟩, hB3⟩, hn⟩ := hB
  have hget : ∀ i o, i < n → l[i]? = some o → (l.take n)[i]? = some o := fun i o hi ho => by rw [List.getElem?_take, if_pos hi]; exact ho
  have hone : ∀ i o d, i < n → l[i]? = some o → o.dst = some d → ∀ j o', (l.take n)[j]? = some o' → o'.dst = some d → j = i := by
    intro i o d hi ho hd j o' hj hd'
    have hjn : j < n := by
      rcases Nat.lt_or_ge j n with h | h
      · exact h
      · rw [List.getElem?_take, if_neg (by omega)] at hj; cases hj
    rw [List.getElem?_take, if_pos hjn] at hj
    have := hB1 i hi
    rw [ho] at this
    simp only [Option.map_some, Option.getD_some, Bool.and_eq_true, List.all_eq_true, List.mem_range, Bool.or_eq_true, decide_eq_true_eq, hd, Option.isNone_some, Bool.false_eq_true, false_or] at this
    rcases this.2 j hjn with h | h
    · exact h
    · rw [hj] at h
      simp [hd'] at h
  have hdepAll : ∀ (L : Array Bool) i o, closedB l L → n ≤ i → l[i]? = some o → (∀ e ∈ o.after, Region.binds .any e = true → L.getD e.on false = true) → ∀ k, k < i → L.getD k false = true := by
    intro L i o hc hi ho hdep k hk
    have hil : i < l.length := (List.getElem?_eq_some_iff.1 ho).1
    have := hB3 i hil
    simp only [Bool.or_eq_true, decide_eq_true_eq, List.all_eq_true, List.mem_range] at this
    rcases this with h | h
    · omega
    · exact anc_done l L hc _ i k o ho hdep (h k hk)
  have hwpo : ∀ i o K a w, l[i]? = some o → wpList P l.toArray Q (o :: l.drop (i + 1)) a w → (∀ a w, wpList P l.toArray Q (l.drop (i + 1)) a w → K a w) → wpOp P l.toArray Q i K a w := by
    intro i o K a w ho h hK
    refine wpOp_mono hK ?_
    unfold wpOp
    have ho' : l.toArray[i]? = some o := by simpa using ho
    rw [ho']
    exact h
  have hdrop : ∀ i o, l[i]? = some o → l.drop i = o :: l.drop (i + 1) := fun i o ho => by
    obtain ⟨h1, h2⟩ := List.getElem?_eq_some_iff.1 ho
    rw [List.drop_eq_getElem_cons h1, h2]
  refine wp_region_inv hm (fun L a w => L.size = l.length ∧ closedB l L ∧
    (((∀ k, n ≤ k → ¬ L.getD k false = true) ∧ ∃ f, a = ⟨setAll (l.take n) 0 f t, df⟩ ∧ J (fun k => L.getD k false) f w)
    ∨ (∃ j, n ≤ j ∧ j ≤ l.length ∧ (∀ k, k < j → L.getD k false = true) ∧ (∀ k, j ≤ k → ¬ L.getD k false = true) ∧ wpList P l.toArray Q (l.drop j) a w))) ?_ ?_ ?_
  · have hn0 : ∀ k, ¬ ((Array.replicate l.toArray.size false).getD k false = true) := by
      intro k h
      rw [Array.getD_eq_getD_getElem?, Array.getElem?_replicate] at h
      split at h <;> simp at h
    have hdf : (fun _ => false) = (fun k => (Array.replicate l.toArray.size false).getD k false) := by funext k; exact (Bool.eq_false_iff.2 (hn0 k)).symm
    refine ⟨by simp, fun i o _ h => absurd h (hn0 i), .inl ⟨fun k _ => hn0 k, fun k => t.getD (((l[k]?).bind (·.dst)).getD 0) undef, ?_, hdf ▸ h0 _⟩⟩
    rw [setAll_init]
    intro i o d ho hd
    have ho2 : l[i]? = some o := by
      rw [List.getElem?_take] at ho
      split at ho
      · exact ho
      · cases ho
    simp only [Nat.zero_add, ho2, Option.bind_some, hd, Option.getD_some]
  · rintro L a w i o ⟨hsz, hcl, hI⟩ hL ho hdep
    have ho' : l[i]? = some o := by simpa using ho
    have hil : i < l.length := (List.getElem?_eq_some_iff.1 ho').1
    have hnd := getD_not hL
    have hS : (L.setIfInBounds i true).size = l.length := by simpa using hsz
    have hdone : (L.setIfInBounds i true).getD i false = true := by
      rw [Array.getD_eq_getD_getElem?, Array.getElem?_setIfInBounds]
      simp [hsz, hil]
    have hcl' : closedB l (L.setIfInBounds i true) := by
      intro k o' ho2 hk e he hb
      rcases getD_set L i k hk with rfl | h'
      · rw [ho'] at ho2; cases ho2
        exact getD_keep L _ _ (hdep e he hb)
      · exact getD_keep L _ _ (hcl k o' ho2 h' e he hb)
    rcases hI with ⟨ht, f, rfl, hJ⟩ | ⟨j, hj1, hj2, hj3, hj4, hw⟩
    · by_cases hi : i < n
      · have hgd := hB1 i hi
        rw [ho'] at hgd
        simp only [Option.map_some, Option.getD_some, Bool.and_eq_true, Option.isNone_iff_eq_none] at hgd
        have hg := hgd.1
        have hD : (fun k => (L.setIfInBounds i true).getD k false) = updB (fun k => L.getD k false) i := by
          funext k
          unfold updB
          by_cases e : k = i
          · subst e; rw [if_pos rfl]; exact hdone
          · rw [if_neg e]; show (L.setIfInBounds i true).getD k false = L.getD k false; simp only [Array.getD_eq_getD_getElem?, Array.getElem?_setIfInBounds_ne (fun h => e h.symm)]
        refine wpOp_plain ho hg (Walks.at hops i o (hget i o hi ho') (fun k => L.getD k false) f w hJ (Bool.eq_false_iff.2 (by simpa using hnd)) (fun k hk => ?_) _ (fun v w' hv => ?_))
        · unfold behind at hk
          rw [List.any_eq_true] at hk
          obtain ⟨e, he', hh⟩ := hk
          have he := Array.mem_toList_iff.1 he'
          simp only [Bool.and_eq_true, beq_iff_eq] at hh
          have h1 := hdep e he hh.2
          rw [hh.1] at h1
          exact h1
        · refine ⟨hS, hcl', .inl ⟨fun k hk h => ?_, upd f i v, ?_, by rw [hD]; simpa using hv⟩⟩
          · rcases getD_set L i k h with rfl | h'
            · omega
            · exact ht k hk h'
          · cases hd : o.dst with
            | some d =>
              have := setAll_upd (l.take n) 0 f t i v o d (hget i o hi ho') hd (hone i o d hi ho' hd)
              rw [Nat.zero_add] at this
              simp only [Act.put, this]
            | none =>
              have := setAll_none (l.take n) 0 f t i v o (hget i o hi ho') hd
              rw [Nat.zero_add] at this
              simp only [Act.put, this]
      · have hall := hdepAll L i o hcl (by omega) ho' hdep
        have hin : i = n := by
          rcases Nat.lt_or_ge n i with h | h
          · exact absurd (hall n h) (ht n (Nat.le_refl _))
          · omega
        subst hin
        have hw := hend _ f w (fun k hk => hall k hk) hJ
        rw [hdrop i o ho'] at hw
        refine hwpo i o _ _ _ ho' hw fun a w h => ⟨hS, hcl', .inr ⟨i + 1, by omega, by omega, fun k hk => ?_, fun k hk h => ?_, h⟩⟩
        · by_cases e : k = i
          · subst e; exact hdone
          · exact getD_keep L i k (hall k (by omega))
        · rcases getD_set L i k h with h' | h'
          · omega
          · exact ht k (by omega) h'
    · have hij : j ≤ i := by
        rcases Nat.lt_or_ge i j with h | h
        · exact absurd (hj3 i h) hnd
        · exact h
      have hall := hdepAll L i o hcl (by omega) ho' hdep
      have hin : i = j := by
        rcases Nat.lt_or_ge j i with h | h
        · exact absurd (hall j h) (hj4 j (Nat.le_refl _))
        · omega
      subst hin
      rw [hdrop i o ho'] at hw
      refine hwpo i o _ _ _ ho' hw fun a w h => ⟨hS, hcl', .inr ⟨i + 1, by omega, by omega, fun k hk => ?_, fun k hk h => ?_, h⟩⟩
      · by_cases e : k = i
        · subst e; exact hdone
        · exact getD_keep L i k (hall k (by omega))
      · rcases getD_set L i k h with h' | h'
        · omega
        · exact hj4 k (by omega) h'
  · rintro L a w ⟨hsz, _, hI⟩ hr
    have hall := all_done' hB2 L hsz hr
    rcases hI with ⟨ht, f, rfl, hJ⟩ | ⟨j, hj1, hj2, hj3, hj4, hw⟩
    · have hnl : n = l.length := by
        rcases Nat.lt_or_ge n l.length with h | h
        · exact absurd (hall n h) (ht n (Nat.le_refl _))
        · omega
      have hw := hend _ f w (fun k hk => hall k (by omega)) hJ
      rw [List.drop_eq_nil_of_le (by omega)] at hw
      exact hw
    · have hjl : j = l.length := by
        rcases Nat.lt_or_ge j l.length with h | h
        · exact absurd (hall j h) (hj4 j (Nat.le_refl _))
        · omega
      rw [List.drop_eq_nil_of_le (by omega)] at hw
      exact hw

/-- What each operation of the head must do, but the j-th, which writes. -/
def GrowsBut (P : Program) (Q : Exit → Act → World → Prop) (j : Nat) (G : World → World → Prop) (C : World → Prop) (V : Nat → World → Value → Prop) (l0 : List Oper) (t : Array Value) (df : List Deferred) : List Oper → Nat → Prop
  | [], _ => True
  | o :: r, k => (k ≠ j → ∀ f w, C w → (∀ i, behind o i = true → V i w (f i)) → ∀ K : Act → World → Prop, (∀ v w', V k w' v → G w w' → K ((⟨setAll l0 0 f t, df⟩ : Act).put o.dst v) w') → o.wp P ⟨setAll l0 0 f t, df⟩ w K Q) ∧ GrowsBut P Q j G C V l0 t df r (k + 1)
def Jo (n j : Nat) (C A : World → Prop) (V : Nat → World → Value → Prop) (D : Nat → Bool) (f : Nat → Value) (w : World) : Prop := C w ∧ (D j = false → A w) ∧ ∀ k, k < n → D k = true → V k w (f k)
theorem growsBut_walks {n j : Nat} {G G' : World → World → Prop} {C A : World → Prop} {V : Nat → World → Value → Prop} {l0 : List Oper} {t : Array Value} {df : List Deferred}
    (hC : ∀ w w', G w w' → C w → C w') (hA : ∀ w w', C w → G w w' → A w → A w') (hV : ∀ k v w w', C w → G w w' → V k w v → V k w' v)
    (hC' : ∀ w w', G' w w' → C w → A w → C w') (hV' : ∀ k v w w', k ≠ j → C w → A w → G' w w' → V k w v → V k w' v) :
    ∀ (l : List Oper) (k : Nat), GrowsBut P Q j G C V l0 t df l k → (∀ (i : Nat) (o : Oper), l[i]? = some o → ∀ q, behind o q = true → q < n) →
      (∀ (i : Nat) (o : Oper), l[i]? = some o → k + i = j → ∀ f w, C w → A w → (∀ i, behind o i = true → V i w (f i)) → ∀ K : Act → World → Prop, (∀ v w', V j w' v → G' w w' → K ((⟨setAll l0 0 f t, df⟩ : Act).put o.dst v) w') → o.wp P ⟨setAll l0 0 f t, df⟩ w K Q) →
      Walks P Q (Jo n j C A V) l0 t df l k := by
  intro l
  induction l with
  | nil => intro k _ _ _; trivial
  | cons o r ih =>
    intro k hg hb hw
    refine ⟨fun D f w hJ hD hbD K hK => ?_, ih (k + 1) hg.2 (fun i o' h q hq => hb (i + 1) o' (by simpa using h) q hq) (fun i o' h e => hw (i + 1) o' (by simpa using h) (by omega))⟩
    obtain ⟨h1, h2, h3⟩ := hJ
    have hbv : ∀ i, behind o i = true → V i w (f i) := fun i hi => h3 i (hb 0 o rfl i hi) (hbD i hi)
    by_cases e : k = j
    · subst e
      refine hw 0 o rfl (by omega) f w h1 (h2 hD) hbv K fun v w' hv hG => hK v w' ⟨hC' _ _ hG h1 (h2 hD), fun h => by simp [updB] at h, fun q hq hd => ?_⟩
      by_cases e2 : q = k
      · subst e2; simpa [upd] using hv
      · simp only [upd, if_neg e2]
        simp only [updB, if_neg e2] at hd
        exact hV' q _ _ _ e2 h1 (h2 hD) hG (h3 q hq hd)
    · refine hg.1 e f w h1 hbv K fun v w' hv hG => hK v w' ⟨hC _ _ hG h1, fun h => ?_, fun q hq hd => ?_⟩
      · simp only [updB, if_neg (fun (h : j = k) => e h.symm)] at h
        exact hA _ _ h1 hG (h2 h)
      · by_cases e2 : q = k
        · subst e2; simpa [upd] using hv
        · simp only [upd, if_neg e2]
          simp only [updB, if_neg e2] at hd
          exact hV q _ _ _ h1 hG (h3 q hq hd)
/-- A region that draws its order, of which one operation writes into what is one's own. -/
theorem wp_region_once {id : Nat} {t : Array Value} {df : List Deferred} {w : World} {l : List Oper} (n j : Nat) (hm : P.follows .mixedOrders = true) (hB : growB l n = true) (ow : Oper) (how : (l.take n)[j]? = some ow)
    (G G' : World → World → Prop) (C A : World → Prop) (V : Nat → World → Value → Prop)
    (hC : ∀ w w', G w w' → C w → C w') (hA : ∀ w w', C w → G w w' → A w → A w') (hV : ∀ k v w w', C w → G w w' → V k w v → V k w' v)
    (hC' : ∀ w w', G' w w' → C w → A w → C w') (hV' : ∀ k v w w', k ≠ j → C w → A w → G' w w' → V k w v → V k w' v)
    (h0 : C w.drew) (hA0 : A w.drew)
    (hops : GrowsBut P Q j G C V (l.take n) t df (l.take n) 0)
    (hwr : ∀ f w, C w → A w → (∀ i, behind ow i = true → V i w (f i)) → ∀ K : Act → World → Prop, (∀ v w', V j w' v → G' w w' → K ((⟨setAll (l.take n) 0 f t, df⟩ : Act).put ow.dst v) w') → ow.wp P ⟨setAll (l.take n) 0 f t, df⟩ w K Q)
    (hend : ∀ f w', C w' → (∀ k, k < n → V k w' (f k)) → wpList P l.toArray Q (l.drop n) ⟨setAll (l.take n) 0 f t, df⟩ w') :
    (Code.region id l.toArray true).wp P Q ⟨t, df⟩ w := by
  refine wp_region_walk n hm hB (Jo n j C A V) (fun f => ⟨h0, fun _ => hA0, fun k _ h => by cases h⟩) (growsBut_walks hC hA hV hC' hV' _ 0 hops ?_ ?_) (fun D f w' hD hJ => hend f w' hJ.1 fun k hk => hJ.2.2 k hk (hD k hk))
  · intro i o ho q hq
    simp only [growB, Bool.and_eq_true, List.all_eq_true, List.mem_range, decide_eq_true_eq] at hB
    obtain ⟨⟨⟨_, hB2⟩, _⟩, hn⟩ := hB
    have hin : i < n := by
      rcases Nat.lt_or_ge i n with h | h
      · exact h
      · rw [List.getElem?_take, if_neg (by omega)] at ho; cases ho
    rw [List.getElem?_take, if_pos hin] at ho
    have h2 := hB2 i (by omega)
    rw [ho] at h2
    simp only [Option.map_some, Option.getD_some, List.all_eq_true, Bool.or_eq_true, Bool.not_eq_true', decide_eq_true_eq] at h2
    unfold behind at hq
    rw [List.any_eq_true] at hq
    obtain ⟨e, he, hh⟩ := hq
    simp only [Bool.and_eq_true, beq_iff_eq] at hh
    have h3 := (h2 e he).resolve_left (by rw [hh.2]; simp)
    rw [hh.1] at h3
    omega
  · intro i o ho e f w hc ha hb K hK
    have e' : i = j := by omega
    subst e'
    rw [how] at ho
    cases ho
    exact hwr f w hc ha hb K hK
end
end Go.Proofs.Ytikkekdmahdgaaa
