/- A region that draws its order, whose head only makes memory, with guards that are met; and whose tail is forced. -/
import Derived.Test.YtepepoabbbjmgaaGw
namespace Go.Proofs.Ytepepoabbbjmgaa
open Go.RowKit
section
variable {P : Program} {Q : Exit → Act → World → Prop}
theorem setAll_size (l : List Oper) (k : Nat) (f : Nat → Value) (t : Array Value) : (setAll l k f t).size = t.size := by
  induction l generalizing k t with
  | nil => rfl
  | cons o r ih =>
    simp only [setAll]
    rw [ih]
    split <;> simp
theorem setAll_get (l : List Oper) (k : Nat) (f : Nat → Value) (t : Array Value) (i : Nat) (o : Oper) (d : Nat) (ho : l[i]? = some o) (hd : o.dst = some d)
    (hn : ∀ j o', l[j]? = some o' → o'.dst = some d → j = i) (hs : d < t.size) : (setAll l k f t)[d]? = some (f (k + i)) := by
  have h := setAll_upd l k f t i (f (k + i)) o d ho hd hn
  have hf : upd f (k + i) (f (k + i)) = f := by
    funext j
    unfold upd
    split
    · rename_i e; rw [e]
    · rfl
  rw [hf] at h
  rw [← h, Array.getElem?_setIfInBounds_self_of_lt (by rw [setAll_size]; exact hs)]
theorem wpOp_want {ops : Array Oper} {i : Nat} {o : Oper} {K : Act → World → Prop} {a : Act} {w : World} (ho : ops[i]? = some o) (hg : Region.wanted o (yielded ops a.tmps) = true) (h : o.wp P a w K Q) : wpOp P ops Q i K a w := by
  unfold wpOp
  rw [ho]
  simp only [hg, if_true]
  exact .inl h
/-- The closed facts of such a region: slots of the head apart, each guard behind its own, each operation behind earlier ones alone, the tail behind all that stands ahead of it. -/
def growgB (l : List Oper) (n sz : Nat) : Bool :=
  (List.range n).all (fun i => ((l[i]?).map fun o => (match o.guard with
    | none => true
    | some (j, _) => behind o j && decide (j < n) && ((l[j]?).map fun p => match p.dst with | some d => decide (d < sz) | none => false).getD false) && (o.dst.isNone || (List.range n).all fun j => decide (j = i) || ((l[j]?).map fun p => p.dst != o.dst).getD true)).getD false)
  && (List.range l.length).all (fun i => ((l[i]?).map fun o => o.after.toList.all fun e => !Region.binds .any e || decide (e.on < i)).getD true)
  && (List.range l.length).all (fun i => decide (i < n) || (List.range i).all fun j => anc l l.length i j)
  && decide (n ≤ l.length)
theorem wp_region_growg {id : Nat} {t : Array Value} {df : List Deferred} {w : World} {l : List Oper} (n : Nat) (hm : P.follows .mixedOrders = true) (sz : Nat) (hts : t.size = sz) (hB : growgB l n sz = true)
    (G : World → World → Prop) (C : World → Prop) (V : Nat → World → Value → Prop) (hgv : ∀ (i : Nat) (o : Oper) (j : Nat) (b : Bool), (l.take n)[i]? = some o → o.guard = some (j, b) → ∀ w v, C w → V j w v → v = .bool b) (hC : ∀ w w', G w w' → C w → C w') (hV : ∀ k v w w', C w → G w w' → V k w v → V k w' v) (h0 : C w.drew)
    (hops : Grows P Q G C V (l.take n) t df (l.take n) 0)
    (hend : ∀ f w', C w' → (∀ k, k < n → V k w' (f k)) → wpList P l.toArray Q (l.drop n) ⟨setAll (l.take n) 0 f t, df⟩ w') :
    (Code.region id l.toArray true).wp P Q ⟨t, df⟩ w := by
  simp only [growgB, Bool.and_eq_true, List.all_eq_true, List.mem_range, decide_eq_true_eq] at hB
  obtain ⟨⟨⟨hB1, hB2⟩, hB3⟩, hn⟩ := hB
  have hget : ∀ i o, i < n → l[i]? = some o → (l.take n)[i]? = some o := fun i o hi ho => by rw [List.getElem?_take, if_pos hi]; exact ho
  have hone : ∀ i o d, i < n → l[i]? = some o → o.dst = some d → ∀ j o', (l.take n)[j]? = some o' → o'.dst = some d → j = i := by
    intro i o d hi ho hd j o' hj hd'
    have hjn : j < n := by
      rcases Nat.lt_or_ge j n with h | h
      · exact h
      · rw [List.getElem?_take, if_neg (by omega)] at hj; cases hj
    rw [List.getElem?_take, if_pos hjn] at hj
    have := hB1 i hi
    rw [ho] at this
    simp only [Option.map_some, Option.getD_some, Bool.and_eq_true, List.all_eq_true, List.mem_range, Bool.or_eq_true, decide_eq_true_eq, hd, Option.isNone_some, Bool.false_eq_true, false_or] at this
    rcases this.2 j hjn with h | h
    · exact h
    · rw [hj] at h
      simp [hd'] at h
  have hdepAll : ∀ (L : Array Bool) i o, closedB l L → n ≤ i → l[i]? = some o → (∀ e ∈ o.after, Region.binds .any e = true → L.getD e.on false = true) → ∀ k, k < i → L.getD k false = true := by
    intro L i o hc hi ho hdep k hk
    have hil : i < l.length := (List.getElem?_eq_some_iff.1 ho).1
    have := hB3 i hil
    simp only [Bool.or_eq_true, decide_eq_true_eq, List.all_eq_true, List.mem_range] at this
    rcases this with h | h
    · omega
    · exact anc_done l L hc _ i k o ho hdep (h k hk)
  have hwpo : ∀ i o K a w, l[i]? = some o → wpList P l.toArray Q (o :: l.drop (i + 1)) a w → (∀ a w, wpList P l.toArray Q (l.drop (i + 1)) a w → K a w) → wpOp P l.toArray Q i K a w := by
    intro i o K a w ho h hK
    refine wpOp_mono hK ?_
    unfold wpOp
    have ho' : l.toArray[i]? = some o := by simpa using ho
    rw [ho']
    exact h
  have hdrop : ∀ i o, l[i]? = some o → l.drop i = o :: l.drop (i + 1) := fun i o ho => by
    obtain ⟨h1, h2⟩ := List.getElem?_eq_some_iff.1 ho
    rw [List.drop_eq_getElem_cons h1, h2]
  refine wp_region_inv hm (fun L a w => L.size = l.length ∧ closedB l L ∧
    (((∀ k, n ≤ k → ¬ L.getD k false = true) ∧ ∃ f, a = ⟨setAll (l.take n) 0 f t, df⟩ ∧ C w ∧ ∀ k, k < n → L.getD k false = true → V k w (f k))
    ∨ (∃ j, n ≤ j ∧ j ≤ l.length ∧ (∀ k, k < j → L.getD k false = true) ∧ (∀ k, j ≤ k → ¬ L.getD k false = true) ∧ wpList P l.toArray Q (l.drop j) a w))) ?_ ?_ ?_
  · have hn0 : ∀ k, ¬ ((Array.replicate l.toArray.size false).getD k false = true) := by
      intro k h
      rw [Array.getD_eq_getD_getElem?, Array.getElem?_replicate] at h
      split at h <;> simp at h
    refine ⟨by simp, fun i o _ h => absurd h (hn0 i), .inl ⟨fun k _ => hn0 k, fun k => t.getD (((l[k]?).bind (·.dst)).getD 0) undef, ?_, h0, fun k _ h => absurd h (hn0 k)⟩⟩
    rw [setAll_init]
    intro i o d ho hd
    have ho2 : l[i]? = some o := by
      rw [List.getElem?_take] at ho
      split at ho
      · exact ho
      · cases ho
    simp only [Nat.zero_add, ho2, Option.bind_some, hd, Option.getD_some]
  · rintro L a w i o ⟨hsz, hcl, hI⟩ hL ho hdep
    have ho' : l[i]? = some o := by simpa using ho
    have hil : i < l.length := (List.getElem?_eq_some_iff.1 ho').1
    have hnd := getD_not hL
    have hS : (L.setIfInBounds i true).size = l.length := by simpa using hsz
    have hdone : (L.setIfInBounds i true).getD i false = true := by
      rw [Array.getD_eq_getD_getElem?, Array.getElem?_setIfInBounds]
      simp [hsz, hil]
    have hcl' : closedB l (L.setIfInBounds i true) := by
      intro k o' ho2 hk e he hb
      rcases getD_set L i k hk with rfl | h'
      · rw [ho'] at ho2; cases ho2
        exact getD_keep L _ _ (hdep e he hb)
      · exact getD_keep L _ _ (hcl k o' ho2 h' e he hb)
    rcases hI with ⟨ht, f, rfl, hCw, hf⟩ | ⟨j, hj1, hj2, hj3, hj4, hw⟩
    · by_cases hi : i < n
      · have hgd := hB1 i hi
        rw [ho'] at hgd
        simp only [Option.map_some, Option.getD_some, Bool.and_eq_true] at hgd
        have hg : Region.wanted o (yielded l.toArray (setAll (l.take n) 0 f t)) = true := by
          unfold Region.wanted
          cases hgo : o.guard with
          | none => rfl
          | some jb =>
            obtain ⟨j, b⟩ := jb
            have hgg := hgd.1
            rw [hgo] at hgg
            simp only [Bool.and_eq_true, decide_eq_true_eq] at hgg
            obtain ⟨⟨hbh, hjn⟩, hds⟩ := hgg
            cases hj : l[j]? with
            | none => rw [hj] at hds; simp at hds
            | some p =>
              rw [hj] at hds
              simp only [Option.map_some, Option.getD_some] at hds
              cases hpd : p.dst with
              | none => rw [hpd] at hds; simp at hds
              | some d =>
                rw [hpd] at hds
                simp only [decide_eq_true_eq] at hds
                have hdn : L.getD j false = true := by
                  unfold behind at hbh
                  rw [List.any_eq_true] at hbh
                  obtain ⟨e, he', hh⟩ := hbh
                  have he := Array.mem_toList_iff.1 he'
                  simp only [Bool.and_eq_true, beq_iff_eq] at hh
                  have := hdep e he hh.2
                  rw [hh.1] at this; exact this
                have hv := hgv i o j b (hget i o hi ho') hgo w (f j) hCw (hf j hjn hdn)
                have hsl := setAll_get (l.take n) 0 f t j p d (hget j p hjn hj) hpd (hone j p d hjn hj hpd) (by rw [hts]; exact hds)
                rw [Nat.zero_add] at hsl
                have hy : yielded l.toArray (setAll (l.take n) 0 f t) j = some b := by
                  unfold yielded
                  have : l.toArray[j]? = some p := by simpa using hj
                  rw [this]
                  simp only [Option.bind_some, hpd, hsl, hv]
                show (yielded l.toArray (setAll (l.take n) 0 f t) j == some b) = true
                rw [hy]
                simp
        refine wpOp_want ho hg (Grows.at hops i o (hget i o hi ho') f w hCw (fun k hk => ?_) _ (fun v w' hv hb => ?_))
        · unfold behind at hk
          rw [List.any_eq_true] at hk
          obtain ⟨e, he', hh⟩ := hk
          have he := Array.mem_toList_iff.1 he'
          simp only [Bool.and_eq_true, beq_iff_eq] at hh
          have h1 := hdep e he hh.2
          have h2 := hB2 i hil
          rw [ho'] at h2
          simp only [Option.map_some, Option.getD_some, List.all_eq_true, Bool.or_eq_true, Bool.not_eq_true', decide_eq_true_eq] at h2
          have h3 := (h2 e (Array.mem_toList_iff.2 he)).resolve_left (by rw [hh.2]; simp)
          rw [hh.1] at h1 h3
          exact hf k (by omega) h1
        · refine ⟨hS, hcl', .inl ⟨fun k hk h => ?_, upd f i v, ?_, hC _ _ hb hCw, fun k hk h => ?_⟩⟩
          · rcases getD_set L i k h with rfl | h'
            · omega
            · exact ht k hk h'
          · cases hd : o.dst with
            | some d =>
              have := setAll_upd (l.take n) 0 f t i v o d (hget i o hi ho') hd (hone i o d hi ho' hd)
              rw [Nat.zero_add] at this
              simp only [Act.put, this]
            | none =>
              have := setAll_none (l.take n) 0 f t i v o (hget i o hi ho') hd
              rw [Nat.zero_add] at this
              simp only [Act.put, this]
          · by_cases hki : k = i
            · subst hki
              rw [Nat.zero_add] at hv
              simpa [upd] using hv
            · have := hf k hk ((getD_set L i k h).resolve_left hki)
              simp only [upd, if_neg hki]
              exact hV k _ _ _ hCw hb this
      · have hall := hdepAll L i o hcl (by omega) ho' hdep
        have hin : i = n := by
          rcases Nat.lt_or_ge n i with h | h
          · exact absurd (hall n h) (ht n (Nat.le_refl _))
          · omega
        subst hin
        have hw := hend f w hCw fun k hk => hf k hk (hall k hk)
        rw [hdrop i o ho'] at hw
        refine hwpo i o _ _ _ ho' hw fun a w h => ⟨hS, hcl', .inr ⟨i + 1, by omega, by omega, fun k hk => ?_, fun k hk h => ?_, h⟩⟩
        · by_cases e : k = i
          · subst e; exact hdone
          · exact getD_keep L i k (hall k (by omega))
        · rcases getD_set L i k h with h' | h'
          · omega
          · exact ht k (by omega) h'
    · have hij : j ≤ i := by
        rcases Nat.lt_or_ge i j with h | h
        · exact absurd (hj3 i h) hnd
        · exact h
      have hall := hdepAll L i o hcl (by omega) ho' hdep
      have hin : i = j := by
        rcases Nat.lt_or_ge j i with h | h
        · exact absurd (hall j h) (hj4 j (Nat.le_refl _))
        · omega
      subst hin
      rw [hdrop i o ho'] at hw
      refine hwpo i o _ _ _ ho' hw fun a w h => ⟨hS, hcl', .inr ⟨i + 1, by omega, by omega, fun k hk => ?_, fun k hk h => ?_, h⟩⟩
      · by_cases e : k = i
        · subst e; exact hdone
        · exact getD_keep L i k (hall k (by omega))
      · rcases getD_set L i k h with h' | h'
        · omega
        · exact hj4 k (by omega) h'
  · rintro L a w ⟨hsz, _, hI⟩ hr
    have hall := all_done' hB2 L hsz hr
    rcases hI with ⟨ht, f, rfl, hCw, hf⟩ | ⟨j, hj1, hj2, hj3, hj4, hw⟩
    · have hnl : n = l.length := by
        rcases Nat.lt_or_ge n l.length with h | h
        · exact absurd (hall n h) (ht n (Nat.le_refl _))
        · omega
      have hw := hend f w hCw fun k hk => hf k hk (hall k (by omega))
      rw [List.drop_eq_nil_of_le (by omega)] at hw
      exact hw
    · have hjl : j = l.length := by
        rcases Nat.lt_or_ge j l.length with h | h
        · exact absurd (hall j h) (hj4 j (Nat.le_refl _))
        · omega
      rw [List.drop_eq_nil_of_le (by omega)] at hw
      exact hw

theorem wp_region_growt {id : Nat} {t : Array Value} {df : List Deferred} {w : World} {l : List Oper} (n sz : Nat) (gs : List Nat) (hts : t.size = sz) (hm : P.follows .mixedOrders = true) (hB : growgB l n sz = true)
    (hgs : ((l.take n).all fun o => match o.guard with | none => true | some (j, b) => b && gs.contains j) = true)
    (G : World → World → Prop) (C : World → Prop) (V : Nat → World → Value → Prop) (hgv : ∀ j, j ∈ gs → ∀ w v, C w → V j w v → v = .bool true) (hC : ∀ w w', G w w' → C w → C w') (hV : ∀ k v w w', C w → G w w' → V k w v → V k w' v) (h0 : C w.drew)
    (hops : Grows P Q G C V (l.take n) t df (l.take n) 0)
    (hend : ∀ f w', C w' → (∀ k, k < n → V k w' (f k)) → wpList P l.toArray Q (l.drop n) ⟨setAll (l.take n) 0 f t, df⟩ w') :
    (Code.region id l.toArray true).wp P Q ⟨t, df⟩ w := by
  refine wp_region_growg n hm sz hts hB G C V (fun i o j b hi hg w v hc hv => ?_) hC hV h0 hops hend
  have h1 := List.all_eq_true.1 hgs o (List.mem_of_getElem? hi)
  rw [hg] at h1
  simp only [Bool.and_eq_true, List.contains_iff_mem] at h1
  rw [h1.1]
  exact hgv j h1.2 w v hc hv
theorem wp_unguard {op : Oper} {a : Act} {w : World} {K : Act → World → Prop} (h : Oper.wp P { op with guard := none } a w K Q) : op.wp P a w K Q := h
end
end Go.Proofs.Ytepepoabbbjmgaa
