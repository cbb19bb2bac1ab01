/- A region that draws its order, whose head only makes memory (loads, calls, allocations: each value is known up to what it stands for, whatever came first), and whose tail is forced. -/
import Derived.Test.YtikkekdmahdgaaaGi
import Derived.Test.YtikkekdmahdgaaaB
import Derived.Below
namespace Go.Proofs.Ytikkekdmahdgaaa
open Go.RowKit

/-- The frame in which each operation's slot holds what 'f' says. -/
def setAll : List Oper → Nat → (Nat → Value) → Array Value → Array Value
  | [], _, _, t => t
  | o :: r, k, f, t => setAll r (k + 1) f (match o.dst with | some d => t.setIfInBounds d (f k) | none => t)
def upd (f : Nat → Value) (i : Nat) (v : Value) : Nat → Value := fun k => if k = i then v else f k
def noDst (d : Nat) (l : List Oper) : Prop := ∀ o ∈ l, o.dst ≠ some d

theorem set_comm (t : Array Value) (d e : Nat) (x y : Value) (h : d ≠ e) : (t.setIfInBounds d x).setIfInBounds e y = (t.setIfInBounds e y).setIfInBounds d x := by
  apply Array.ext_getElem?
  intro j
  simp only [Array.getElem?_setIfInBounds, Array.size_setIfInBounds]
  by_cases h1 : e = j
  · subst h1; simp [h]
  · simp [h1]
theorem set_set (t : Array Value) (d : Nat) (x y : Value) : (t.setIfInBounds d x).setIfInBounds d y = t.setIfInBounds d y := by
  apply Array.ext_getElem?
  intro j
  simp only [Array.getElem?_setIfInBounds, Array.size_setIfInBounds]
  by_cases h1 : d = j
  · simp [h1]
  · simp [h1]
theorem set_same (t : Array Value) (d : Nat) : t.setIfInBounds d (t.getD d undef) = t := by
  apply Array.ext_getElem?
  intro j
  rw [Array.getElem?_setIfInBounds]
  by_cases h1 : d = j
  · subst h1
    by_cases h2 : d < t.size
    · simp [h2]
    · simp [h2]
  · simp [h1]
theorem setAll_out (l : List Oper) (k : Nat) (f : Nat → Value) (t : Array Value) (d : Nat) (v : Value) (h : noDst d l) : (setAll l k f t).setIfInBounds d v = setAll l k f (t.setIfInBounds d v) := by
  induction l generalizing k t with
  | nil => rfl
  | cons o r ih =>
    simp only [setAll]
    rw [ih (k + 1) _ fun o' ho' => h o' (List.mem_cons_of_mem _ ho')]
    have ho := h o List.mem_cons_self
    split
    · rename_i e he
      rw [set_comm _ e d _ _ (fun hh => ho (by rw [he, hh]))]
    · rfl
theorem setAll_upd_out (l : List Oper) (k : Nat) (f : Nat → Value) (t : Array Value) (i : Nat) (v : Value) (h : i < k) : setAll l k (upd f i v) t = setAll l k f t := by
  induction l generalizing k t with
  | nil => rfl
  | cons o r ih =>
    simp only [setAll]
    rw [ih (k + 1) _ (by omega)]
    have : upd f i v k = f k := by simp only [upd]; rw [if_neg (by omega)]
    rw [this]
theorem setAll_upd (l : List Oper) (k : Nat) (f : Nat → Value) (t : Array Value) (i : Nat) (v : Value) (o : Oper) (d : Nat) (ho : l[i]? = some o) (hd : o.dst = some d)
    (hn : ∀ j o', l[j]? = some o' → o'.dst = some d → j = i) : (setAll l k f t).setIfInBounds d v = setAll l k (upd f (k + i) v) t := by
  induction l generalizing k t i with
  | nil => simp at ho
  | cons p r ih =>
    cases i with
    | zero =>
      simp only [List.getElem?_cons_zero, Option.some.injEq] at ho
      subst ho
      have hr : noDst d r := fun o' ho' hh => by
        obtain ⟨j, hj, rfl⟩ := List.getElem_of_mem ho'
        have := hn (j + 1) r[j] (by simp) hh
        omega
      simp only [setAll, hd, Nat.add_zero]
      rw [setAll_out _ _ _ _ _ _ hr, set_set, setAll_upd_out _ _ _ _ _ _ (by omega)]
      simp [upd]
    | succ i =>
      simp only [List.getElem?_cons_succ] at ho
      simp only [setAll]
      rw [ih (k + 1) _ i ho (fun j o' h1 h2 => by have := hn (j + 1) o' (by simpa using h1) h2; omega)]
      have e : k + 1 + i = k + (i + 1) := by omega
      have hk : upd f (k + (i + 1)) v k = f k := by simp only [upd]; rw [if_neg (by omega)]
      rw [e, hk]
theorem setAll_none (l : List Oper) (k : Nat) (f : Nat → Value) (t : Array Value) (i : Nat) (v : Value) (o : Oper) (ho : l[i]? = some o) (hd : o.dst = none) : setAll l k (upd f (k + i) v) t = setAll l k f t := by
  induction l generalizing k t i with
  | nil => simp at ho
  | cons p r ih =>
    cases i with
    | zero =>
      simp only [List.getElem?_cons_zero, Option.some.injEq] at ho
      subst ho
      simp only [setAll, hd, Nat.add_zero]
      rw [setAll_upd_out _ _ _ _ _ _ (by omega)]
    | succ i =>
      simp only [List.getElem?_cons_succ] at ho
      simp only [setAll]
      have e : k + (i + 1) = k + 1 + i := by omega
      rw [e, ih (k + 1) _ i ho]
      have hk : upd f (k + 1 + i) v k = f k := by simp only [upd]; rw [if_neg (by omega)]
      rw [hk]
theorem setAll_init (l : List Oper) (k : Nat) (t : Array Value) (f : Nat → Value) (hf : ∀ i o d, l[i]? = some o → o.dst = some d → f (k + i) = t.getD d undef) : setAll l k f t = t := by
  induction l generalizing k t with
  | nil => rfl
  | cons o r ih =>
    simp only [setAll]
    have h0 : (match o.dst with | some d => t.setIfInBounds d (f k) | none => t) = t := by
      split
      · rename_i d hd
        have := hf 0 o d rfl hd
        rw [Nat.add_zero] at this
        rw [this, set_same]
      · rfl
    rw [h0]
    exact ih (k + 1) t fun i o' d h1 h2 => by have := hf (i + 1) o' d (by simpa using h1) h2; rw [← this]; congr 1; omega

section
variable {P : Program} {Q : Exit → Act → World → Prop}

/-- Which operations an operation is behind. -/
def behind (o : Oper) (j : Nat) : Bool := o.after.toList.any fun e => e.on == j && Region.binds .any e
/-- The same, and what those are behind in their turn. -/
def anc (l : List Oper) : Nat → Nat → Nat → Bool
  | 0, _, _ => false
  | f + 1, i, k => match l[i]? with
    | none => false
    | some o => o.after.toList.any fun e => Region.binds .any e && (e.on == k || anc l f e.on k)
def closedB (l : List Oper) (L : Array Bool) : Prop := ∀ i o, l[i]? = some o → L.getD i false = true → ∀ e ∈ o.after, Region.binds .any e = true → L.getD e.on false = true
theorem anc_done (l : List Oper) (L : Array Bool) (hc : closedB l L) : ∀ (f i k : Nat) (o : Oper), l[i]? = some o → (∀ e ∈ o.after, Region.binds .any e = true → L.getD e.on false = true) → anc l f i k = true → L.getD k false = true := by
  intro f
  induction f with
  | zero => intro i k o _ _ h; simp [anc] at h
  | succ f ih =>
    intro i k o ho hd h
    simp only [anc, ho] at h
    rw [List.any_eq_true] at h
    obtain ⟨e, he', hh⟩ := h
    have he := Array.mem_toList_iff.1 he'
    simp only [Bool.and_eq_true, Bool.or_eq_true, beq_iff_eq] at hh
    obtain ⟨hb, hk | hk⟩ := hh
    · rw [← hk]; exact hd e he hb
    · have hon := hd e he hb
      cases ho' : l[e.on]? with
      | none =>
        cases f with
        | zero => simp [anc] at hk
        | succ f => simp [anc, ho'] at hk
      | some o' => exact ih e.on k o' ho' (hc e.on o' ho' hon) hk
/-- What each operation of the head must do. -/
def Grows (P : Program) (Q : Exit → Act → World → Prop) (G : World → World → Prop) (C : World → Prop) (V : Nat → World → Value → Prop) (l0 : List Oper) (t : Array Value) (df : List Deferred) : List Oper → Nat → Prop
  | [], _ => True
  | o :: r, k => (∀ f w, C w → (∀ j, behind o j = true → V j w (f j)) → ∀ K : Act → World → Prop, (∀ v w', V k w' v → G w w' → K ((⟨setAll l0 0 f t, df⟩ : Act).put o.dst v) w') → o.wp P ⟨setAll l0 0 f t, df⟩ w K Q) ∧ Grows P Q G C V l0 t df r (k + 1)
theorem Grows.at {G : World → World → Prop} {C : World → Prop} {V : Nat → World → Value → Prop} {l0 : List Oper} {t : Array Value} {df : List Deferred} {l : List Oper} {k : Nat} (h : Grows P Q G C V l0 t df l k) (i : Nat) (o : Oper) (ho : l[i]? = some o) :
    ∀ f w, C w → (∀ j, behind o j = true → V j w (f j)) → ∀ K : Act → World → Prop, (∀ v w', V (k + i) w' v → G w w' → K ((⟨setAll l0 0 f t, df⟩ : Act).put o.dst v) w') → o.wp P ⟨setAll l0 0 f t, df⟩ w K Q := by
  induction l generalizing k i with
  | nil => simp at ho
  | cons p r ih =>
    cases i with
    | zero => simp only [List.getElem?_cons_zero, Option.some.injEq] at ho; subst ho; exact h.1
    | succ i =>
      have e : k + (i + 1) = k + 1 + i := by omega
      rw [e]
      exact ih h.2 i (by simpa using ho)

/-- The closed facts of such a region: slots of the head apart, no guards in the head, each operation behind earlier ones alone, the tail behind all that stands ahead of it. -/
def growB (l : List Oper) (n : Nat) : Bool :=
  (List.range n).all (fun i => ((l[i]?).map fun o => o.guard.isNone && (o.dst.isNone || (List.range n).all fun j => decide (j = i) || ((l[j]?).map fun p => p.dst != o.dst).getD true)).getD false)
  && (List.range l.length).all (fun i => ((l[i]?).map fun o => o.after.toList.all fun e => !Region.binds .any e || decide (e.on < i)).getD true)
  && (List.range l.length).all (fun i => decide (i < n) || (List.range i).all fun j => anc l l.length i j)
  && decide (n ≤ l.length)

theorem all_done' {l : List Oper} (hB : ∀ i, i < l.length → ((l[i]?).map fun o => o.after.toList.all fun e => !Region.binds .any e || decide (e.on < i)).getD true = true) (L : Array Bool) (hs : L.size = l.length)
    (hr : Region.ready .any l.toArray L = []) : ∀ i, i < l.length → L.getD i false = true := by
  intro i
  induction i using Nat.strongRecOn with
  | _ i ih =>
    intro hi
    have hgi : L[i]? = some L[i] := Array.getElem?_eq_getElem (by omega)
    cases hv : L[i] with
    | true => rw [Array.getD_eq_getD_getElem?, hgi, hv]; rfl
    | false =>
      exfalso
      have hm : i ∈ Region.ready .any l.toArray L := by
        refine mem_ready.2 ⟨by rw [Array.getD_eq_getD_getElem?, hgi, hv]; rfl, l[i], by simp [hi], fun e he hb => ?_⟩
        have h1 := hB i hi
        rw [List.getElem?_eq_getElem hi] at h1
        simp only [Option.map_some, Option.getD_some, List.all_eq_true, Bool.or_eq_true, Bool.not_eq_true', decide_eq_true_eq] at h1
        have h3 := (h1 e (Array.mem_toList_iff.2 he)).resolve_left (by rw [hb]; simp)
        exact ih e.on h3 (by omega)
      rw [hr] at hm; cases hm
theorem wp_region_grow {id : Nat} {t : Array Value} {df : List Deferred} {w : World} {l : List Oper} (n : Nat) (hm : P.follows .mixedOrders = true) (hB : growB l n = true)
    (G : World → World → Prop) (C : World → Prop) (V : Nat → World → Value → Prop) (hC : ∀ w w', G w w' → C w → C w') (hV : ∀ k v w w', C w → G w w' → V k w v → V k w' v) (h0 : C w.drew)
    (hops : Grows P Q G C V (l.take n) t df (l.take n) 0)
    (hend : ∀ f w', C w' → (∀ k, k < n → V k w' (f k)) → wpList P l.toArray Q (l.drop n) ⟨setAll (l.take n) 0 f t, df⟩ w') :
    (Code.region id l.toArray true).wp P Q ⟨t, df⟩ w := by
  simp only [growB, Bool.and_eq_true, List.all_eq_true, List.mem_range, decide_eq_true_eq] at hB
  obtain ⟨⟨⟨hB1, hB2⟩, hB3⟩, hn⟩ := hB
  have hget : ∀ i o, i < n → l[i]? = some o → (l.take n)[i]? = some o := fun i o hi ho => by rw [List.getElem?_take, if_pos hi]; exact ho
  have hone : ∀ i o d, i < n → l[i]? = some o → o.dst = some d → ∀ j o', (l.take n)[j]? = some o' → o'.dst = some d → j = i := by
    intro i o d hi ho hd j o' hj hd'
    have hjn : j < n := by
      rcases Nat.lt_or_ge j n with h | h
      · exact h
      · rw [List.getElem?_take, if_neg (by omega)] at hj; cases hj
    rw [List.getElem?_take, if_pos hjn] at hj
    have := hB1 i hi
    rw [ho] at this
    simp only [Option.map_some, Option.getD_some, Bool.and_eq_true, List.all_eq_true, List.mem_range, Bool.or_eq_true, decide_eq_true_eq, hd, Option.isNone_some, Bool.false_eq_true, false_or] at this
    rcases this.2 j hjn with h | h
    · exact h
    · rw [hj] at h
      simp [hd'] at h
  have hdepAll : ∀ (L : Array Bool) i o, closedB l L → n ≤ i → l[i]? = some o → (∀ e ∈ o.after, Region.binds .any e = true → L.getD e.on false = true) → ∀ k, k < i → L.getD k false = true := by
    intro L i o hc hi ho hdep k hk
    have hil : i < l.length := (List.getElem?_eq_some_iff.1 ho).1
    have := hB3 i hil
    simp only [Bool.or_eq_true, decide_eq_true_eq, List.all_eq_true, List.mem_range] at this
    rcases this with h | h
    · omega
    · exact anc_done l L hc _ i k o ho hdep (h k hk)
  have hwpo : ∀ i o K a w, l[i]? = some o → wpList P l.toArray Q (o :: l.drop (i + 1)) a w → (∀ a w, wpList P l.toArray Q (l.drop (i + 1)) a w → K a w) → wpOp P l.toArray Q i K a w := by
    intro i o K a w ho h hK
    refine wpOp_mono hK ?_
    unfold wpOp
    have ho' : l.toArray[i]? = some o := by simpa using ho
    rw [ho']
    exact h
  have hdrop : ∀ i o, l[i]? = some o → l.drop i = o :: l.drop (i + 1) := fun i o ho => by
    obtain ⟨h1, h2⟩ := List.getElem?_eq_some_iff.1 ho
    rw [List.drop_eq_getElem_cons h1, h2]
  refine wp_region_inv hm (fun L a w => L.size = l.length ∧ closedB l L ∧
    (((∀ k, n ≤ k → ¬ L.getD k false = true) ∧ ∃ f, a = ⟨setAll (l.take n) 0 f t, df⟩ ∧ C w ∧ ∀ k, k < n → L.getD k false = true → V k w (f k))
    ∨ (∃ j, n ≤ j ∧ j ≤ l.length ∧ (∀ k, k < j → L.getD k false = true) ∧ (∀ k, j ≤ k → ¬ L.getD k false = true) ∧ wpList P l.toArray Q (l.drop j) a w))) ?_ ?_ ?_
  · have hn0 : ∀ k, ¬ ((Array.replicate l.toArray.size false).getD k false = true) := by
      intro k h
      rw [Array.getD_eq_getD_getElem?, Array.getElem?_replicate] at h
      split at h <;> simp at h
    refine ⟨by simp, fun i o _ h => absurd h (hn0 i), .inl ⟨fun k _ => hn0 k, fun k => t.getD (((l[k]?).bind (·.dst)).getD 0) undef, ?_, h0, fun k _ h => absurd h (hn0 k)⟩⟩
    rw [setAll_init]
    intro i o d ho hd
    have ho2 : l[i]? = some o := by
      rw [List.getElem?_take] at ho
      split at ho
      · exact ho
      · cases ho
    simp only [Nat.zero_add, ho2, Option.bind_some, hd, Option.getD_some]
  · rintro L a w i o ⟨hsz, hcl, hI⟩ hL ho hdep
    have ho' : l[i]? = some o := by simpa using ho
    have hil : i < l.length := (List.getElem?_eq_some_iff.1 ho').1
    have hnd := getD_not hL
    have hS : (L.setIfInBounds i true).size = l.length := by simpa using hsz
    have hdone : (L.setIfInBounds i true).getD i false = true := by
      rw [Array.getD_eq_getD_getElem?, Array.getElem?_setIfInBounds]
      simp [hsz, hil]
    have hcl' : closedB l (L.setIfInBounds i true) := by
      intro k o' ho2 hk e he hb
      rcases getD_set L i k hk with rfl | h'
      · rw [ho'] at ho2; cases ho2
        exact getD_keep L _ _ (hdep e he hb)
      · exact getD_keep L _ _ (hcl k o' ho2 h' e he hb)
    rcases hI with ⟨ht, f, rfl, hCw, hf⟩ | ⟨j, hj1, hj2, hj3, hj4, hw⟩
    · by_cases hi : i < n
      · have hgd := hB1 i hi
        rw [ho'] at hgd
        simp only [Option.map_some, Option.getD_some, Bool.and_eq_true, Option.isNone_iff_eq_none] at hgd
        have hg := hgd.1
        refine wpOp_plain ho hg (Grows.at hops i o (hget i o hi ho') f w hCw (fun k hk => ?_) _ (fun v w' hv hb => ?_))
        · unfold behind at hk
          rw [List.any_eq_true] at hk
          obtain ⟨e, he', hh⟩ := hk
          have he := Array.mem_toList_iff.1 he'
          simp only [Bool.and_eq_true, beq_iff_eq] at hh
          have h1 := hdep e he hh.2
          have h2 := hB2 i hil
          rw [ho'] at h2
          simp only [Option.map_some, Option.getD_some, List.all_eq_true, Bool.or_eq_true, Bool.not_eq_true', decide_eq_true_eq] at h2
          have h3 := (h2 e (Array.mem_toList_iff.2 he)).resolve_left (by rw [hh.2]; simp)
          rw [hh.1] at h1 h3
          exact hf k (by omega) h1
        · refine ⟨hS, hcl', .inl ⟨fun k hk h => ?_, upd f i v, ?_, hC _ _ hb hCw, fun k hk h => ?_⟩⟩
          · rcases getD_set L i k h with rfl | h'
            · omega
            · exact ht k hk h'
          · cases hd : o.dst with
            | some d =>
              have := setAll_upd (l.take n) 0 f t i v o d (hget i o hi ho') hd (hone i o d hi ho' hd)
              rw [Nat.zero_add] at this
              simp only [Act.put, this]
            | none =>
              have := setAll_none (l.take n) 0 f t i v o (hget i o hi ho') hd
              rw [Nat.zero_add] at this
              simp only [Act.put, this]
          · by_cases hki : k = i
            · subst hki
              rw [Nat.zero_add] at hv
              simpa [upd] using hv
            · have := hf k hk ((getD_set L i k h).resolve_left hki)
              simp only [upd, if_neg hki]
              exact hV k _ _ _ hCw hb this
      · have hall := hdepAll L i o hcl (by omega) ho' hdep
        have hin : i = n := by
          rcases Nat.lt_or_ge n i with h | h
          · exact absurd (hall n h) (ht n (Nat.le_refl _))
          · omega
        subst hin
        have hw := hend f w hCw fun k hk => hf k hk (hall k hk)
        rw [hdrop i o ho'] at hw
        refine hwpo i o _ _ _ ho' hw fun a w h => ⟨hS, hcl', .inr ⟨i + 1, by omega, by omega, fun k hk => ?_, fun k hk h => ?_, h⟩⟩
        · by_cases e : k = i
          · subst e; exact hdone
          · exact getD_keep L i k (hall k (by omega))
        · rcases getD_set L i k h with h' | h'
          · omega
          · exact ht k (by omega) h'
    · have hij : j ≤ i := by
        rcases Nat.lt_or_ge i j with h | h
        · exact absurd (hj3 i h) hnd
        · exact h
      have hall := hdepAll L i o hcl (by omega) ho' hdep
      have hin : i = j := by
        rcases Nat.lt_or_ge j i with h | h
        · exact absurd (hall j h) (hj4 j (Nat.le_refl _))
        · omega
      subst hin
      rw [hdrop i o ho'] at hw
      refine hwpo i o _ _ _ ho' hw fun a w h => ⟨hS, hcl', .inr ⟨i + 1, by omega, by omega, fun k hk => ?_, fun k hk h => ?_, h⟩⟩
      · by_cases e : k = i
        · subst e; exact hdone
        · exact getD_keep L i k (hall k (by omega))
      · rcases getD_set L i k h with h' | h'
        · omega
        · exact hj4 k (by omega) h'
  · rintro L a w ⟨hsz, _, hI⟩ hr
    have hall := all_done' hB2 L hsz hr
    rcases hI with ⟨ht, f, rfl, hCw, hf⟩ | ⟨j, hj1, hj2, hj3, hj4, hw⟩
    · have hnl : n = l.length := by
        rcases Nat.lt_or_ge n l.length with h | h
        · exact absurd (hall n h) (ht n (Nat.le_refl _))
        · omega
      have hw := hend f w hCw fun k hk => hf k hk (hall k (by omega))
      rw [List.drop_eq_nil_of_le (by omega)] at hw
      exact hw
    · have hjl : j = l.length := by
        rcases Nat.lt_or_ge j l.length with h | h
        · exact absurd (hall j h) (hj4 j (Nat.le_refl _))
        · omega
      rw [List.drop_eq_nil_of_le (by omega)] at hw
      exact hw

/-- An operation that only looks, or calls what leaves the world as it is. -/
theorem wp_of_quiet {o : Oper} {a : Act} {w : World} {K : Act → World → Prop} (hg : o.guard = none) (h : wpQuiet P #[] (fun w' => w' = w) (fun a' => K a' w) [o] a) : o.wp P a w K Q := by
  unfold wpQuiet at h
  simp only [Region.wanted, hg, if_true] at h
  obtain ⟨v, h1, h2⟩ := h
  have h3 := h1 w rfl
  have h2' : K (a.put o.dst v) w := h2
  clear h1 h2
  unfold Oper.quietAt at h3
  unfold Oper.wp
  generalize (execOp a.eval o).run P w = r at *
  cases r with
  | ok n w' =>
    cases n <;> simp only [Oper.quietUpon] at h3 <;> simp only [Oper.upon]
    case value u => obtain ⟨e1, e2⟩ := h3; subst e1 e2; exact h2'
    case skip => obtain ⟨e1, e2⟩ := h3; subst e1 e2; exact h2'
    case enter f args => obtain ⟨e1, e2⟩ := h3; subst e1; exact e2.mono fun e w'' hh => by obtain ⟨rfl, rfl⟩ := hh; exact h2'
  | halt x w' => simp only [Oper.quietUpon] at h3
end
end Go.Proofs.Ytikkekdmahdgaaa
