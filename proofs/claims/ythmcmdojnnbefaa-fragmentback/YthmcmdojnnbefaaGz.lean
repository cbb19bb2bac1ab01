/- A region that draws its order, one of whose operations stores a struct into what the region has made. -/
import Derived.Test.YthmcmdojnnbefaaGy
import Derived.Test.YthmcmdojnnbefaaPb
namespace Go.Proofs.Ythmcmdojnnbefaa
open Go.RowKit Go.BigFrame
section
variable {P : Program} {Q : Exit → Act → World → Prop}
def Jr (n j : Nat) (ow : Oper) (C : World → Prop) (V : Nat → World → Value → Prop) (R : (Nat → Value) → World → Prop) (D : Nat → Bool) (f : Nat → Value) (w : World) : Prop :=
  C w ∧ (∀ k, k < n → k ≠ j → D k = true → V k w (f k)) ∧ (D j = true → R f w ∧ ∀ i, behind ow i = true → D i = true)
theorem growsBut_wr {n j : Nat} {ow : Oper} {G G' : World → World → Prop} {C : World → Prop} {V : Nat → World → Value → Prop} {R : (Nat → Value) → World → Prop} {l0 : List Oper} {t : Array Value} {df : List Deferred}
    (hjj : behind ow j = false) (hnj : ∀ (i : Nat) (o : Oper), l0[i]? = some o → behind o j = false)
    (hC : ∀ w w', G w w' → C w → C w') (hV : ∀ k v w w', C w → G w w' → V k w v → V k w' v) (hR : ∀ f w w', C w → G w w' → R f w → R f w')
    (hC' : ∀ w w', G' w w' → C w → C w') (hV' : ∀ k v w w', k ≠ j → C w → G' w w' → V k w v → V k w' v) (hRf : ∀ f k v w, behind ow k = false → R f w → R (upd f k v) w) :
    ∀ (l : List Oper) (k : Nat), GrowsBut P Q j G C V l0 t df l k → (∀ (i : Nat) (o : Oper), l[i]? = some o → l0[k + i]? = some o) → (∀ (i : Nat) (o : Oper), l[i]? = some o → ∀ q, behind o q = true → q < n) →
      (∀ (i : Nat) (o : Oper), l[i]? = some o → k + i = j → o = ow ∧ ∀ f w, C w → (∀ i, behind ow i = true → V i w (f i)) → ∀ K : Act → World → Prop, (∀ v w', R f w' → G' w w' → K ((⟨setAll l0 0 f t, df⟩ : Act).put ow.dst v) w') → ow.wp P ⟨setAll l0 0 f t, df⟩ w K Q) →
      Walks P Q (Jr n j ow C V R) l0 t df l k := by
  intro l
  induction l with
  | nil => intro k _ _ _ _; trivial
  | cons o r ih =>
    intro k hg hl hb hw
    refine ⟨fun D f w hJ hD hbD K hK => ?_, ih (k + 1) hg.2 (fun i o' h => by rw [show k + 1 + i = k + (i + 1) by omega]; exact hl (i + 1) o' (by simpa using h)) (fun i o' h q hq => hb (i + 1) o' (by simpa using h) q hq) (fun i o' h e => hw (i + 1) o' (by simpa using h) (by omega))⟩
    obtain ⟨h1, h2, h3⟩ := hJ
    have hbv : ∀ i, behind o i = true → V i w (f i) := fun i hi => h2 i (hb 0 o rfl i hi) (fun e => by rw [e, hnj k o (hl 0 o rfl)] at hi; cases hi) (hbD i hi)
    by_cases e : k = j
    · subst e
      obtain ⟨rfl, hw0⟩ := hw 0 o rfl (by omega)
      refine hw0 f w h1 hbv K fun v w' hv hG => hK v w' ⟨hC' _ _ hG h1, fun q hq hqj hd => ?_, fun _ => ⟨hRf f k v w' hjj hv, fun i hi => ?_⟩⟩
      · simp only [upd, if_neg hqj]
        simp only [updB, if_neg hqj] at hd
        exact hV' q _ _ _ hqj h1 hG (h2 q hq hqj hd)
      · unfold updB
        split
        · rfl
        · exact hbD i hi
    · refine hg.1 e f w h1 hbv K fun v w' hv hG => hK v w' ⟨hC _ _ hG h1, fun q hq hqj hd => ?_, fun hd => ?_⟩
      · by_cases e2 : q = k
        · subst e2; simpa [upd] using hv
        · simp only [upd, if_neg e2]
          simp only [updB, if_neg e2] at hd
          exact hV q _ _ _ h1 hG (h2 q hq hqj hd)
      · simp only [updB, if_neg (fun (h : j = k) => e h.symm)] at hd
        obtain ⟨r1, r2⟩ := h3 hd
        have hbk : behind ow k = false := by
          cases hq : behind ow k with
          | false => rfl
          | true => rw [r2 k hq] at hD; cases hD
        refine ⟨hRf f k v w' hbk (hR f _ _ h1 hG r1), fun i hi => ?_⟩
        unfold updB
        split
        · rfl
        · exact r2 i hi
/-- A region that draws its order, of which one operation writes; what it wrote may hang on the values of the others. -/
theorem wp_region_wr {id : Nat} {t : Array Value} {df : List Deferred} {w : World} {l : List Oper} (n j : Nat) (hm : P.follows .mixedOrders = true) (hB : growB l n = true) (ow : Oper) (how : (l.take n)[j]? = some ow)
    (hjj : behind ow j = false) (hnj : ((l.take n).all fun o => !behind o j) = true)
    (G G' : World → World → Prop) (C : World → Prop) (V : Nat → World → Value → Prop) (R : (Nat → Value) → World → Prop)
    (hC : ∀ w w', G w w' → C w → C w') (hV : ∀ k v w w', C w → G w w' → V k w v → V k w' v) (hR : ∀ f w w', C w → G w w' → R f w → R f w')
    (hC' : ∀ w w', G' w w' → C w → C w') (hV' : ∀ k v w w', k ≠ j → C w → G' w w' → V k w v → V k w' v) (hRf : ∀ f k v w, behind ow k = false → R f w → R (upd f k v) w)
    (h0 : C w.drew)
    (hops : GrowsBut P Q j G C V (l.take n) t df (l.take n) 0)
    (hwr : ∀ f w, C w → (∀ i, behind ow i = true → V i w (f i)) → ∀ K : Act → World → Prop, (∀ v w', R f w' → G' w w' → K ((⟨setAll (l.take n) 0 f t, df⟩ : Act).put ow.dst v) w') → ow.wp P ⟨setAll (l.take n) 0 f t, df⟩ w K Q)
    (hend : ∀ f w', C w' → (∀ k, k < n → k ≠ j → V k w' (f k)) → (j < n → R f w') → wpList P l.toArray Q (l.drop n) ⟨setAll (l.take n) 0 f t, df⟩ w') :
    (Code.region id l.toArray true).wp P Q ⟨t, df⟩ w := by
  have hJ0 : ∀ f, Jr n j ow C V R (fun _ => false) f w.drew := fun f => And.intro h0 (And.intro (fun k _ _ h => absurd h (by simp)) (fun h => absurd h (by simp)))
  refine wp_region_walk n hm hB (Jr n j ow C V R) hJ0 (growsBut_wr hjj (fun i o ho => ?_) hC hV hR hC' hV' hRf _ 0 hops (fun i o ho => by rw [Nat.zero_add]; exact ho) ?_ ?_) (fun D f w' hD hJ => hend f w' hJ.1 (fun k hk hkj => hJ.2.1 k hk hkj (hD k hk)) fun hj => (hJ.2.2 (hD j hj)).1)
  · have := List.all_eq_true.1 hnj o (List.mem_of_getElem? ho)
    simpa using this
  · intro i o ho q hq
    simp only [growB, Bool.and_eq_true, List.all_eq_true, List.mem_range, decide_eq_true_eq] at hB
    obtain ⟨⟨⟨_, hB2⟩, _⟩, hn⟩ := hB
    have hin : i < n := by
      rcases Nat.lt_or_ge i n with h | h
      · exact h
      · rw [List.getElem?_take, if_neg (by omega)] at ho; cases ho
    rw [List.getElem?_take, if_pos hin] at ho
    have h2 := hB2 i (by omega)
    rw [ho] at h2
    simp only [Option.map_some, Option.getD_some, List.all_eq_true, Bool.or_eq_true, Bool.not_eq_true', decide_eq_true_eq] at h2
    unfold behind at hq
    rw [List.any_eq_true] at hq
    obtain ⟨e, he, hh⟩ := hq
    simp only [Bool.and_eq_true, beq_iff_eq] at hh
    have h3 := (h2 e he).resolve_left (by rw [hh.2]; simp)
    rw [hh.1] at h3
    omega
  · intro i o ho e
    have e' : i = j := by omega
    subst e'
    rw [how] at ho
    cases ho
    exact ⟨rfl, hwr⟩
end

/-- What a store into a struct of a type leaves: all below, all of other types. -/
structure Wr (N : Nat) (t0 : TypeId) (w w' : World) : Prop where
  bel : Below N w w'
  rows : ∀ b t c, Row w b t c → t ≠ t0 → Row w' b t c
  room : ∀ b n, Room w b t0 n → Room w' b t0 n
theorem row_ne {w : World} {b p : Nat} {t t' : TypeId} {c c' : Array Value} (h : Row w b t c) (h' : Row w p t' c') (ht : t ≠ t') : b ≠ p := by
  rintro rfl
  unfold Row at h h'
  rw [h] at h'
  injection h' with h'
  injection h' with _ h'
  exact ht h'
theorem Wr.setRow {N : Nat} {t0 : TypeId} {w : World} {q n : Nat} (hq : Room w q t0 n) (hN : N ≤ q) (c : Array Value) (hc : c.size = n) : Wr N t0 w (w.setRow q c) :=
  ⟨below_setRow (Below.refl _ _) hN _, fun b t c' hr ht => hr.setRowOther _ _ (fun e => by subst e; exact row_ne hr hq.choose_spec.1 ht rfl), fun b m hb => by
    by_cases e : b = q
    · subst e
      obtain ⟨c1, h1, h2⟩ := hb
      obtain ⟨c2, h3, h4⟩ := hq
      have e3 : some (Obj.cells c1 t0 (0, 0)) = some (.cells c2 t0 (0, 0)) := Eq.trans (Eq.symm h1) h3
      injection e3 with e3
      injection e3 with e4
      exact ⟨c, h3.setRow c, by rw [hc, ← h4, ← e4, h2]⟩
    · exact hb.setRowOther _ _ e⟩
theorem Try.zero74' : (Try.prog.info? 74).map (fun i => (i.zero, i.size)) = some (some (.agg #[.bool false, .slice none 0 0]), 2) := by kernel_rfl
theorem Try.size74 : (Try.prog.info? 74).map (·.size) = some 2 := by kernel_rfl
end Go.Proofs.Ythmcmdojnnbefaa
