/- A region that draws its order, by an invariant: what holds whatever operations have been carried out so far. Widths: the tables, what is in spans, widths of numbers and of texts. Runes and spans behind a slice. A region that draws its order, whose head only makes memory (loads, calls, allocations: e -/
import Derived.Orders
import Derived.Deep.Quiet
import Derived.Test.YtepepoabbbjmgaaRows
import Derived.Deep.MidRow
import Derived.Below
import Derived.BigRegion
import Derived.Test.YtepepoabbbjmgaaChecked
import Derived.BigQuiet
import Derived.Deep.QuietTactic
import Derived.Laws.Small
import Derived.Test.YtepepoabbbjmgaaSL
namespace Go.Proofs.Ytepepoabbbjmgaa.Sc
open Go.RowKit Go.BigFrame
set_option linter.unusedVariables false
set_option linter.unusedSimpArgs false
set_option maxRecDepth 100000
set_option maxHeartbeats 4000000
section
variable {P : Program} {ops : Array Oper} {Q : Exit → Act → World → Prop} {md : Region.Mode}
/-- How many operations are still to come. -/
def left (L : Array Bool) : Nat := L.toList.count false
theorem left_set (L : Array Bool) (i : Nat) (h : L.getD i true = false) : left (L.setIfInBounds i true) + 1 = left L := by
 unfold left
 obtain ⟨l⟩ := L
 have hi : i < l.length := by
  rcases Nat.lt_or_ge i l.length with h' | h'
  ·exact h'
  ·have hn : (l.toArray)[i]? = none := by simpa using h'
   rw [Array.getD_eq_getD_getElem?, hn] at h
   simp at h
 have hv : l[i] = false := by
  rw [Array.getD_eq_getD_getElem?] at h
  simpa [hi] using h
 have hpos : 0 < l.count false := List.count_pos_iff.2 (hv ▸ List.getElem_mem hi)
 simp only [siB]
 rw [List.count_set hi]
 simp [hv]
 omega
theorem wpAny_inv (Inv : Array Bool → Act → World → Prop)
  (hstep : ∀ L a w i, Inv L a w → i ∈ Region.ready md ops L → wpOp P ops Q i (Inv (L.setIfInBounds i true)) a w)
  (hend : ∀ L a w, Inv L a w → Region.ready md ops L = [] → Q .normal a w) :
  ∀ (fuel : Nat) (L : Array Bool) (a : Act) (w : World), left L ≤ fuel → Inv L a w → wpAny P md ops Q fuel L a w := by
 intro fuel
 induction fuel with
 | zero =>
  intro L a w hf hI
  have hr : Region.ready md ops L = [] := by
   cases hr : Region.ready md ops L with
   | nil => rfl
   | cons i rs =>
    have hm : i ∈ Region.ready md ops L := by rw [hr]; exact List.mem_cons_self
    have := left_set L i (mem_ready.1 hm).1
    omega
  exact ⟨hr, hend L a w hI hr⟩
 | succ fuel ih =>
  intro L a w hf hI
  refine ⟨fun hr => hend L a w hI hr, fun i hi => ?_⟩
  refine wpOp_mono (fun a' w' h' => ih _ a' w' ?_ h') (hstep L a w i hI hi)
  have := left_set L i (mem_ready.1 hi).1
  omega
/-- THE LAW. -/
theorem wp_region_inv {id : Nat} {a : Act} {w : World} (hm : P.follows .mixedOrders = true) (Inv : Array Bool → Act → World → Prop)
  (h0 : Inv (Array.replicate ops.size false) a w.drew)
  (hstep : ∀ L a w i o, Inv L a w → L.getD i true = false → ops[i]? = some o → (∀ e ∈ o.after, Region.binds .any e = true → L.getD e.on false = true) → wpOp P ops Q i (Inv (L.setIfInBounds i true)) a w)
  (hend : ∀ L a w, Inv L a w → Region.ready .any ops L = [] → Q .normal a w) : (Code.region id ops true).wp P Q a w := by
 refine wp_region_any hm (wpAny_inv Inv (fun L a w i hI hi => ?_) hend ops.size _ _ _ ?_ h0)
 ·obtain ⟨h1, o, h2, h3⟩ := mem_ready.1 hi
  exact hstep L a w i o hI h1 h2 h3
 ·unfold left
  rw [Array.toList_replicate]
  simp
theorem getD_set (L : Array Bool) (i k : Nat) (h : (L.setIfInBounds i true).getD k false = true) : k = i ∨ L.getD k false = true := by
 by_cases e : k = i
 ·exact .inl e
 ·right
  rw [Array.getD_eq_getD_getElem?, Array.getElem?_setIfInBounds_ne (fun h => e h.symm)] at h
  rw [Array.getD_eq_getD_getElem?]; exact h
theorem getD_keep (L : Array Bool) (i k : Nat) (h : L.getD k false = true) : (L.setIfInBounds i true).getD k false = true := by
 rw [Array.getD_eq_getD_getElem?] at *
 rw [Array.getElem?_setIfInBounds]
 split
 ·split
  ·rfl
  ·rename_i h1 h2; subst h1
   rw [Array.getElem?_eq_none (by omega)] at h; simp at h
 ·exact h
theorem getD_not {L : Array Bool} {i : Nat} (h : L.getD i true = false) : ¬ L.getD i false = true := by
 rw [Array.getD_eq_getD_getElem?] at *
 cases hv : L[i]? with
 | none => rw [hv] at h; simp at h
 | some v => rw [hv] at h; simp at h; simp [h]
theorem wp_call {op : Oper} {a : Act} {w : World} {K : Act → World → Prop} (f : FuncId) (args : Array Value) (hrun : (execOp a.eval op).run P w = .ok (.enter f args) w) (v : Value) (R : World → Prop)
  (hc : Calls P f args w (fun e w'' => e = .returned v ∧ R w'')) (h : ∀ w'', R w'' → K (a.put op.dst v) w'') : op.wp P a w K Q := by
 unfold Oper.wp
 rw [hrun]
 exact hc.mono fun e w'' hh => by obtain ⟨rfl, hR⟩ := hh; exact h w'' hR
end
def wideL : List (Int × Int) := [(4352, 4447), (8986, 8987), (9001, 9002), (9193, 9196), (9725, 9726), (9748, 9749), (9800, 9811), (9889, 9889), (9917, 9918), (9989, 9989), (10024, 10024), (10060, 10060), (10067, 10069), (10133, 10135), (11035, 11036), (11088, 11088), (11904, 12350), (12353, 13311), (13312, 19903), (19968, 40959), (40960, 42191), (44032, 55203), (63744, 64255), (65072, 65135), (65281, 65376), (65504, 65510), (127744, 127776), (127789, 127797), (127799, 127868), (128000, 128062), (128064, 128064), (128066, 128252), (128512, 128591), (128640, 128709), (129280, 129535), (131072, 196605), (196608, 262141)]
def zeroL : List (Int × Int) := [(768, 879), (1155, 1161), (1425, 1469), (1471, 1471), (1473, 1474), (1552, 1562), (1611, 1631), (1750, 1756), (2304, 2306), (2364, 2364), (2369, 2376), (2381, 2381), (3633, 3633), (3636, 3642), (6832, 6911), (7616, 7679), (8203, 8207), (8234, 8238), (8288, 8292), (8400, 8447), (12330, 12333), (12441, 12442), (65024, 65039), (65056, 65071), (65279, 65279), (917760, 917999)]
def inF (l : List (Int × Int)) (c : Int) : Bool := l.any fun p => decide (p.1 ≤ c ∧ c ≤ p.2)
def hw (c : Int) : Bool := decide (32 ≤ c ∧ c ≤ 1114111) && !decide (127 ≤ c ∧ c ≤ 159) && !decide (55296 ≤ c ∧ c ≤ 57343)
def ofF (c : Int) : Int := if hw c then (if inF zeroL c then 0 else if inF wideL c then 2 else 1) else -1
/-- Spans that rise: none is empty, each begins behind the end of the one ahead. -/
def Rises (l : List (Int × Int)) : Prop := ∀ i, i < l.length → (l.getD i (0, 0)).1 ≤ (l.getD i (0, 0)).2 ∧ (0 < i → (l.getD (i - 1) (0, 0)).2 < (l.getD i (0, 0)).1)
theorem rises_wide : Rises wideL := by unfold Rises; decide +kernel
theorem rises_zero : Rises zeroL := by unfold Rises; decide +kernel
theorem Rises.le {l : List (Int × Int)} (h : Rises l) : ∀ d i, i + d < l.length → (l.getD i (0, 0)).1 ≤ (l.getD (i + d) (0, 0)).1 ∧ (l.getD i (0, 0)).2 ≤ (l.getD (i + d) (0, 0)).2
 | 0, i, _ => ⟨Int.le_refl _, Int.le_refl _⟩
 | d + 1, i, hi => by
  have h1 := h.le d i (by omega)
  have h2 := h (i + d) (by omega)
  have h3 := h (i + (d + 1)) hi
  have h4 := h3.2 (by omega)
  rw [show i + (d + 1) - 1 = i + d by omega] at h4
  omega
theorem in_iff (l : List (Int × Int)) (c : Int) : inF l c = true ↔ ∃ i, i < l.length ∧ (l.getD i (0, 0)).1 ≤ c ∧ c ≤ (l.getD i (0, 0)).2 := by
 unfold inF
 rw [List.any_eq_true]
 constructor
 ·rintro ⟨p, hp, h⟩
  obtain ⟨i, hi, rfl⟩ := List.mem_iff_getElem.1 hp
  exact ⟨i, hi, by simpa [hi] using h⟩
 ·rintro ⟨i, hi, h⟩
  exact ⟨l[i], List.getElem_mem hi, by simpa [hi] using h⟩
theorem in_none {l : List (Int × Int)} {c : Int} (h : ∀ i, i < l.length → ¬ ((l.getD i (0, 0)).1 ≤ c ∧ c ≤ (l.getD i (0, 0)).2)) : inF l c = false := by
 rw [Bool.eq_false_iff]
 intro h1
 obtain ⟨i, hi, h2⟩ := (in_iff l c).1 h1
 exact h i hi h2
theorem wide_lo : ∀ i, i < wideL.length → 768 ≤ (wideL.getD i (0, 0)).1 := by decide +kernel
theorem zero_lo : ∀ i, i < zeroL.length → 768 ≤ (zeroL.getD i (0, 0)).1 := by decide +kernel
theorem of_low {c : Int} (h : hw c = true) (hc : c < 768) : ofF c = 1 := by
 unfold ofF
 rw [if_pos h, in_none (fun i hi h => by have := zero_lo i hi; omega), in_none (fun i hi h => by have := wide_lo i hi; omega)]
 rfl
/-- A fact that the walk does not look through. -/
structure Box' (p : Prop) : Prop where
 out : p
theorem bcell {W w1 : World} {N : Nat} (hb : Below N W w1) : (∀ b o, b < N → w1.cell? ⟨b, o, none⟩ = W.cell? ⟨b, o, none⟩) ∧ (∀ b o, b < N → w1.frozen? ⟨b, o, none⟩ = W.frozen? ⟨b, o, none⟩) :=
 ⟨fun b o h => hb.cell (p := ⟨b, o, none⟩) h, fun b o h => hb.frozen (p := ⟨b, o, none⟩) h⟩
/-- The slice v has the spans l, in a block below N. -/
def Sps (N : Nat) (w : World) (v : Value) (l : List (Int × Int)) : Prop :=
 ∃ a c, v = .slice a l.length c ∧ l.length ≤ c ∧ (l = [] ∨ ∃ b o, a = some ⟨b, o, none⟩ ∧ b < N ∧
  ∀ k, k < l.length → w.cell? ⟨b, o + k * 2, none⟩ = some (.int .i32 (l.getD k (0, 0)).1) ∧ w.cell? ⟨b, o + k * 2 + 1, none⟩ = some (.int .i32 (l.getD k (0, 0)).2))
/-- The cells of spans. -/
def spC (l : List (Int × Int)) : List Value := l.flatMap fun p => [.int .i32 p.1, .int .i32 p.2]
def spA (l : List (Int × Int)) : Array Value := (spC l).toArray
theorem spC_len (l : List (Int × Int)) : (spC l).length = 2 * l.length := by
 induction l with
 | nil => rfl
 | cons p l ih => simp only [spC, List.flatMap_cons, List.length_append, List.length_cons, List.length_nil] at *; omega
theorem spC_get : ∀ (l : List (Int × Int)) (k : Nat), k < l.length → (spC l)[k * 2]? = some (.int .i32 (l.getD k (0, 0)).1) ∧ (spC l)[k * 2 + 1]? = some (.int .i32 (l.getD k (0, 0)).2)
 | p :: l, 0, _ => by simp [spC]
 | p :: l, k + 1, h => by
  have ih := spC_get l k (by simpa using h)
  rw [show (k + 1) * 2 = k * 2 + 2 by omega]
  simpa [spC] using ih
theorem spA_one (l : List (Int × Int)) : (spA l).all (·.oneCell') = true := by
 rw [Array.all_eq_true_iff_forall_mem]; intro v hv
 simp only [spA, spC, List.mem_toArray, List.mem_flatMap] at hv
 obtain ⟨x, _, hx⟩ := hv
 simp at hx
 rcases hx with rfl | rfl <;> rfl
theorem Row.sps {w : World} {g : Nat} {t : TypeId} {l : List (Int × Int)} {n : Nat} (h : Row w g t (spA l)) (hn : l.length = n) : Sps w.heap.size w (.slice (some ⟨g, 0, none⟩) n n) l :=
 ⟨_, _, by rw [hn], by omega, .inr ⟨g, 0, rfl, h.lt, fun k hk => by
  have := spC_get l k hk
  rw [Nat.zero_add, h.cell, h.cell]
  simpa [spA] using this⟩⟩
/-- The frame in which each operation's slot holds what 'f' says. -/
def setAll : List Oper → Nat → (Nat → Value) → Array Value → Array Value
 | [], _, _, t => t
 | o :: r, k, f, t => setAll r (k + 1) f (match o.dst with | some d => t.setIfInBounds d (f k) | none => t)
def upd (f : Nat → Value) (i : Nat) (v : Value) : Nat → Value := fun k => if k = i then v else f k
def noDst (d : Nat) (l : List Oper) : Prop := ∀ o ∈ l, o.dst ≠ some d
theorem set_comm (t : Array Value) (d e : Nat) (x y : Value) (h : d ≠ e) : (t.setIfInBounds d x).setIfInBounds e y = (t.setIfInBounds e y).setIfInBounds d x := by
 apply Array.ext_getElem?
 intro j
 simp only [Array.getElem?_setIfInBounds, Array.size_setIfInBounds]
 by_cases h1 : e = j
 ·subst h1; simp [h]
 ·simp [h1]
theorem set_set (t : Array Value) (d : Nat) (x y : Value) : (t.setIfInBounds d x).setIfInBounds d y = t.setIfInBounds d y := by
 apply Array.ext_getElem?
 intro j
 simp only [Array.getElem?_setIfInBounds, Array.size_setIfInBounds]
 by_cases h1 : d = j
 ·simp [h1]
 ·simp [h1]
theorem set_same (t : Array Value) (d : Nat) : t.setIfInBounds d (t.getD d undef) = t := by
 apply Array.ext_getElem?
 intro j
 rw [Array.getElem?_setIfInBounds]
 by_cases h1 : d = j
 ·subst h1
  by_cases h2 : d < t.size
  ·simp [h2]
  ·simp [h2]
 ·simp [h1]
theorem setAll_out (l : List Oper) (k : Nat) (f : Nat → Value) (t : Array Value) (d : Nat) (v : Value) (h : noDst d l) : (setAll l k f t).setIfInBounds d v = setAll l k f (t.setIfInBounds d v) := by
 induction l generalizing k t with
 | nil => rfl
 | cons o r ih =>
  simp only [setAll]
  rw [ih (k + 1) _ fun o' ho' => h o' (List.mem_cons_of_mem _ ho')]
  have ho := h o List.mem_cons_self
  split
  ·rename_i e he
   rw [set_comm _ e d _ _ (fun hh => ho (by rw [he, hh]))]
  ·rfl
theorem setAll_upd_out (l : List Oper) (k : Nat) (f : Nat → Value) (t : Array Value) (i : Nat) (v : Value) (h : i < k) : setAll l k (upd f i v) t = setAll l k f t := by
 induction l generalizing k t with
 | nil => rfl
 | cons o r ih =>
  simp only [setAll]
  rw [ih (k + 1) _ (by omega)]
  have : upd f i v k = f k := by simp only [upd]; rw [if_neg (by omega)]
  rw [this]
theorem setAll_upd (l : List Oper) (k : Nat) (f : Nat → Value) (t : Array Value) (i : Nat) (v : Value) (o : Oper) (d : Nat) (ho : l[i]? = some o) (hd : o.dst = some d)
  (hn : ∀ j o', l[j]? = some o' → o'.dst = some d → j = i) : (setAll l k f t).setIfInBounds d v = setAll l k (upd f (k + i) v) t := by
 induction l generalizing k t i with
 | nil => simp at ho
 | cons p r ih =>
  cases i with
  | zero =>
   simp only [List.getElem?_cons_zero, Option.some.injEq] at ho
   subst ho
   have hr : noDst d r := fun o' ho' hh => by
    obtain ⟨j, hj, rfl⟩ := List.getElem_of_mem ho'
    have := hn (j + 1) r[j] (by simp) hh
    omega
   simp only [setAll, hd, Nat.add_zero]
   rw [setAll_out _ _ _ _ _ _ hr, set_set, setAll_upd_out _ _ _ _ _ _ (by omega)]
   simp [upd]
  | succ i =>
   simp only [List.getElem?_cons_succ] at ho
   simp only [setAll]
   rw [ih (k + 1) _ i ho (fun j o' h1 h2 => by have := hn (j + 1) o' (by simpa using h1) h2; omega)]
   have e : k + 1 + i = k + (i + 1) := by omega
   have hk : upd f (k + (i + 1)) v k = f k := by simp only [upd]; rw [if_neg (by omega)]
   rw [e, hk]
theorem setAll_none (l : List Oper) (k : Nat) (f : Nat → Value) (t : Array Value) (i : Nat) (v : Value) (o : Oper) (ho : l[i]? = some o) (hd : o.dst = none) : setAll l k (upd f (k + i) v) t = setAll l k f t := by
 induction l generalizing k t i with
 | nil => simp at ho
 | cons p r ih =>
  cases i with
  | zero =>
   simp only [List.getElem?_cons_zero, Option.some.injEq] at ho
   subst ho
   simp only [setAll, hd, Nat.add_zero]
   rw [setAll_upd_out _ _ _ _ _ _ (by omega)]
  | succ i =>
   simp only [List.getElem?_cons_succ] at ho
   simp only [setAll]
   have e : k + (i + 1) = k + 1 + i := by omega
   rw [e, ih (k + 1) _ i ho]
   have hk : upd f (k + 1 + i) v k = f k := by simp only [upd]; rw [if_neg (by omega)]
   rw [hk]
theorem setAll_init (l : List Oper) (k : Nat) (t : Array Value) (f : Nat → Value) (hf : ∀ i o d, l[i]? = some o → o.dst = some d → f (k + i) = t.getD d undef) : setAll l k f t = t := by
 induction l generalizing k t with
 | nil => rfl
 | cons o r ih =>
  simp only [setAll]
  have h0 : (match o.dst with | some d => t.setIfInBounds d (f k) | none => t) = t := by
   split
   ·rename_i d hd
    have := hf 0 o d rfl hd
    rw [Nat.add_zero] at this
    rw [this, set_same]
   ·rfl
  rw [h0]
  exact ih (k + 1) t fun i o' d h1 h2 => by have := hf (i + 1) o' d (by simpa using h1) h2; rw [← this]; congr 1; omega
section
variable {P : Program} {Q : Exit → Act → World → Prop}
/-- Which operations an operation is behind. -/
def behind (o : Oper) (j : Nat) : Bool := o.after.toList.any fun e => e.on == j && Region.binds .any e
/-- The same, and what those are behind in their turn. -/
def anc (l : List Oper) : Nat → Nat → Nat → Bool
 | 0, _, _ => false
 | f + 1, i, k => match l[i]? with
  | none => false
  | some o => o.after.toList.any fun e => Region.binds .any e && (e.on == k || anc l f e.on k)
def closedB (l : List Oper) (L : Array Bool) : Prop := ∀ i o, l[i]? = some o → L.getD i false = true → ∀ e ∈ o.after, Region.binds .any e = true → L.getD e.on false = true
theorem anc_done (l : List Oper) (L : Array Bool) (hc : closedB l L) : ∀ (f i k : Nat) (o : Oper), l[i]? = some o → (∀ e ∈ o.after, Region.binds .any e = true → L.getD e.on false = true) → anc l f i k = true → L.getD k false = true := by
 intro f
 induction f with
 | zero => intro i k o _ _ h; simp [anc] at h
 | succ f ih =>
  intro i k o ho hd h
  simp only [anc, ho] at h
  rw [List.any_eq_true] at h
  obtain ⟨e, he', hh⟩ := h
  have he := Array.mem_toList_iff.1 he'
  simp only [Bool.and_eq_true, Bool.or_eq_true, beq_iff_eq] at hh
  obtain ⟨hb, hk | hk⟩ := hh
  ·rw [← hk]; exact hd e he hb
  ·have hon := hd e he hb
   cases ho' : l[e.on]? with
   | none =>
    cases f with
    | zero => simp [anc] at hk
    | succ f => simp [anc, ho'] at hk
   | some o' => exact ih e.on k o' ho' (hc e.on o' ho' hon) hk
/-- What each operation of the head must do. -/
def Grows (P : Program) (Q : Exit → Act → World → Prop) (G : World → World → Prop) (C : World → Prop) (V : Nat → World → Value → Prop) (l0 : List Oper) (t : Array Value) (df : List Deferred) : List Oper → Nat → Prop
 | [], _ => True
 | o :: r, k => (∀ f w, C w → (∀ j, behind o j = true → V j w (f j)) → ∀ K : Act → World → Prop, (∀ v w', V k w' v → G w w' → K ((⟨setAll l0 0 f t, df⟩ : Act).put o.dst v) w') → o.wp P ⟨setAll l0 0 f t, df⟩ w K Q) ∧ Grows P Q G C V l0 t df r (k + 1)
theorem Grows.at {G : World → World → Prop} {C : World → Prop} {V : Nat → World → Value → Prop} {l0 : List Oper} {t : Array Value} {df : List Deferred} {l : List Oper} {k : Nat} (h : Grows P Q G C V l0 t df l k) (i : Nat) (o : Oper) (ho : l[i]? = some o) :
  ∀ f w, C w → (∀ j, behind o j = true → V j w (f j)) → ∀ K : Act → World → Prop, (∀ v w', V (k + i) w' v → G w w' → K ((⟨setAll l0 0 f t, df⟩ : Act).put o.dst v) w') → o.wp P ⟨setAll l0 0 f t, df⟩ w K Q := by
 induction l generalizing k i with
 | nil => simp at ho
 | cons p r ih =>
  cases i with
  | zero => simp only [List.getElem?_cons_zero, Option.some.injEq] at ho; subst ho; exact h.1
  | succ i =>
   have e : k + (i + 1) = k + 1 + i := by omega
   rw [e]
   exact ih h.2 i (by simpa using ho)
theorem all_done' {l : List Oper} (hB : ∀ i, i < l.length → ((l[i]?).map fun o => o.after.toList.all fun e => !Region.binds .any e || decide (e.on < i)).getD true = true) (L : Array Bool) (hs : L.size = l.length)
  (hr : Region.ready .any l.toArray L = []) : ∀ i, i < l.length → L.getD i false = true := by
 intro i
 induction i using Nat.strongRecOn with
 | _ i ih =>
  intro hi
  have hgi : L[i]? = some L[i] := Array.getElem?_eq_getElem (by omega)
  cases hv : L[i] with
  | true => rw [Array.getD_eq_getD_getElem?, hgi, hv]; rfl
  | false =>
   exfalso
   have hm : i ∈ Region.ready .any l.toArray L := by
    refine mem_ready.2 ⟨by rw [Array.getD_eq_getD_getElem?, hgi, hv]; rfl, l[i], by simp [hi], fun e he hb => ?_⟩
    have h1 := hB i hi
    rw [List.getElem?_eq_getElem hi] at h1
    simp only [Option.map_some, Option.getD_some, List.all_eq_true, Bool.or_eq_true, Bool.not_eq_true', decide_eq_true_eq] at h1
    have h3 := (h1 e (Array.mem_toList_iff.2 he)).resolve_left (by rw [hb]; simp)
    exact ih e.on h3 (by omega)
   rw [hr] at hm; cases hm
/-- An operation that only looks, or calls what leaves the world as it is. -/
theorem wp_of_quiet {o : Oper} {a : Act} {w : World} {K : Act → World → Prop} (hg : o.guard = none) (h : wpQuiet P #[] (fun w' => w' = w) (fun a' => K a' w) [o] a) : o.wp P a w K Q := by
 unfold wpQuiet at h
 simp only [Region.wanted, hg, if_true] at h
 obtain ⟨v, h1, h2⟩ := h
 have h3 := h1 w rfl
 have h2' : K (a.put o.dst v) w := h2
 clear h1 h2
 unfold Oper.quietAt at h3
 unfold Oper.wp
 generalize (execOp a.eval o).run P w = r at *
 cases r with
 | ok n w' =>
  cases n <;> simp only [Oper.quietUpon] at h3 <;> simp only [Oper.upon]
  case value u => obtain ⟨e1, e2⟩ := h3; subst e1 e2; exact h2'
  case skip => obtain ⟨e1, e2⟩ := h3; subst e1 e2; exact h2'
  case enter f args => obtain ⟨e1, e2⟩ := h3; subst e1; exact e2.mono fun e w'' hh => by obtain ⟨rfl, rfl⟩ := hh; exact h2'
 | halt x w' => simp only [Oper.quietUpon] at h3
end
section
variable {P : Program} {Q : Exit → Act → World → Prop}
theorem setAll_size (l : List Oper) (k : Nat) (f : Nat → Value) (t : Array Value) : (setAll l k f t).size = t.size := by
 induction l generalizing k t with
 | nil => rfl
 | cons o r ih =>
  simp only [setAll]
  rw [ih]
  split <;> simp
theorem setAll_get (l : List Oper) (k : Nat) (f : Nat → Value) (t : Array Value) (i : Nat) (o : Oper) (d : Nat) (ho : l[i]? = some o) (hd : o.dst = some d)
  (hn : ∀ j o', l[j]? = some o' → o'.dst = some d → j = i) (hs : d < t.size) : (setAll l k f t)[d]? = some (f (k + i)) := by
 have h := setAll_upd l k f t i (f (k + i)) o d ho hd hn
 have hf : upd f (k + i) (f (k + i)) = f := by
  funext j
  unfold upd
  split
  ·rename_i e; rw [e]
  ·rfl
 rw [hf] at h
 rw [← h, Array.getElem?_setIfInBounds_self_of_lt (by rw [setAll_size]; exact hs)]
theorem wpOp_want {ops : Array Oper} {i : Nat} {o : Oper} {K : Act → World → Prop} {a : Act} {w : World} (ho : ops[i]? = some o) (hg : Region.wanted o (yielded ops a.tmps) = true) (h : o.wp P a w K Q) : wpOp P ops Q i K a w := by
 unfold wpOp
 rw [ho]
 simp only [hg, if_true]
 exact .inl h
/-- The closed facts of such a region: slots of the head apart, each guard behind its own, each operation behind earlier ones alone, the tail behind all that stands ahead of it. -/
def growgB (l : List Oper) (n sz : Nat) : Bool :=
 (List.range n).all (fun i => ((l[i]?).map fun o => (match o.guard with
  | none => true
  | some (j, _) => behind o j && decide (j < n) && ((l[j]?).map fun p => match p.dst with | some d => decide (d < sz) | none => false).getD false) && (o.dst.isNone || (List.range n).all fun j => decide (j = i) || ((l[j]?).map fun p => p.dst != o.dst).getD true)).getD false)
 && (List.range l.length).all (fun i => ((l[i]?).map fun o => o.after.toList.all fun e => !Region.binds .any e || decide (e.on < i)).getD true)
 && (List.range l.length).all (fun i => decide (i < n) || (List.range i).all fun j => anc l l.length i j)
 && decide (n ≤ l.length)
theorem wp_region_growg {id : Nat} {t : Array Value} {df : List Deferred} {w : World} {l : List Oper} (n : Nat) (hm : P.follows .mixedOrders = true) (sz : Nat) (hts : t.size = sz) (hB : growgB l n sz = true)
  (G : World → World → Prop) (C : World → Prop) (V : Nat → World → Value → Prop) (hgv : ∀ (i : Nat) (o : Oper) (j : Nat) (b : Bool), (l.take n)[i]? = some o → o.guard = some (j, b) → ∀ w v, C w → V j w v → v = .bool b) (hC : ∀ w w', G w w' → C w → C w') (hV : ∀ k v w w', C w → G w w' → V k w v → V k w' v) (h0 : C w.drew)
  (hops : Grows P Q G C V (l.take n) t df (l.take n) 0)
  (hend : ∀ f w', C w' → (∀ k, k < n → V k w' (f k)) → wpList P l.toArray Q (l.drop n) ⟨setAll (l.take n) 0 f t, df⟩ w') :
  (Code.region id l.toArray true).wp P Q ⟨t, df⟩ w := by
 simp only [growgB, Bool.and_eq_true, List.all_eq_true, List.mem_range, decide_eq_true_eq] at hB
 obtain ⟨⟨⟨hB1, hB2⟩, hB3⟩, hn⟩ := hB
 have hget : ∀ i o, i < n → l[i]? = some o → (l.take n)[i]? = some o := fun i o hi ho => by rw [List.getElem?_take, if_pos hi]; exact ho
 have hone : ∀ i o d, i < n → l[i]? = some o → o.dst = some d → ∀ j o', (l.take n)[j]? = some o' → o'.dst = some d → j = i := by
  intro i o d hi ho hd j o' hj hd'
  have hjn : j < n := by
   rcases Nat.lt_or_ge j n with h | h
   ·exact h
   ·rw [List.getElem?_take, if_neg (by omega)] at hj; cases hj
  rw [List.getElem?_take, if_pos hjn] at hj
  have := hB1 i hi
  rw [ho] at this
  simp only [Option.map_some, Option.getD_some, Bool.and_eq_true, List.all_eq_true, List.mem_range, Bool.or_eq_true, decide_eq_true_eq, hd, Option.isNone_some, Bool.false_eq_true, false_or] at this
  rcases this.2 j hjn with h | h
  ·exact h
  ·rw [hj] at h
   simp [hd'] at h
 have hdepAll : ∀ (L : Array Bool) i o, closedB l L → n ≤ i → l[i]? = some o → (∀ e ∈ o.after, Region.binds .any e = true → L.getD e.on false = true) → ∀ k, k < i → L.getD k false = true := by
  intro L i o hc hi ho hdep k hk
  have hil : i < l.length := (List.getElem?_eq_some_iff.1 ho).1
  have := hB3 i hil
  simp only [Bool.or_eq_true, decide_eq_true_eq, List.all_eq_true, List.mem_range] at this
  rcases this with h | h
  ·omega
  ·exact anc_done l L hc _ i k o ho hdep (h k hk)
 have hwpo : ∀ i o K a w, l[i]? = some o → wpList P l.toArray Q (o :: l.drop (i + 1)) a w → (∀ a w, wpList P l.toArray Q (l.drop (i + 1)) a w → K a w) → wpOp P l.toArray Q i K a w := by
  intro i o K a w ho h hK
  refine wpOp_mono hK ?_
  unfold wpOp
  have ho' : l.toArray[i]? = some o := by simpa using ho
  rw [ho']
  exact h
 have hdrop : ∀ i o, l[i]? = some o → l.drop i = o :: l.drop (i + 1) := fun i o ho => by
  obtain ⟨h1, h2⟩ := List.getElem?_eq_some_iff.1 ho
  rw [List.drop_eq_getElem_cons h1, h2]
 refine wp_region_inv hm (fun L a w => L.size = l.length ∧ closedB l L ∧
  (((∀ k, n ≤ k → ¬ L.getD k false = true) ∧ ∃ f, a = ⟨setAll (l.take n) 0 f t, df⟩ ∧ C w ∧ ∀ k, k < n → L.getD k false = true → V k w (f k))
  ∨ (∃ j, n ≤ j ∧ j ≤ l.length ∧ (∀ k, k < j → L.getD k false = true) ∧ (∀ k, j ≤ k → ¬ L.getD k false = true) ∧ wpList P l.toArray Q (l.drop j) a w))) ?_ ?_ ?_
 ·have hn0 : ∀ k, ¬ ((Array.replicate l.toArray.size false).getD k false = true) := by
   intro k h
   rw [Array.getD_eq_getD_getElem?, Array.getElem?_replicate] at h
   split at h <;> simp at h
  refine ⟨by simp, fun i o _ h => absurd h (hn0 i), .inl ⟨fun k _ => hn0 k, fun k => t.getD (((l[k]?).bind (·.dst)).getD 0) undef, ?_, h0, fun k _ h => absurd h (hn0 k)⟩⟩
  rw [setAll_init]
  intro i o d ho hd
  have ho2 : l[i]? = some o := by
   rw [List.getElem?_take] at ho
   split at ho
   ·exact ho
   ·cases ho
  simp only [Nat.zero_add, ho2, Option.bind_some, hd, Option.getD_some]
 ·rintro L a w i o ⟨hsz, hcl, hI⟩ hL ho hdep
  have ho' : l[i]? = some o := by simpa using ho
  have hil : i < l.length := (List.getElem?_eq_some_iff.1 ho').1
  have hnd := getD_not hL
  have hS : (L.setIfInBounds i true).size = l.length := by simpa using hsz
  have hdone : (L.setIfInBounds i true).getD i false = true := by
   rw [Array.getD_eq_getD_getElem?, Array.getElem?_setIfInBounds]
   simp [hsz, hil]
  have hcl' : closedB l (L.setIfInBounds i true) := by
   intro k o' ho2 hk e he hb
   rcases getD_set L i k hk with rfl | h'
   ·rw [ho'] at ho2; cases ho2
    exact getD_keep L _ _ (hdep e he hb)
   ·exact getD_keep L _ _ (hcl k o' ho2 h' e he hb)
  rcases hI with ⟨ht, f, rfl, hCw, hf⟩ | ⟨j, hj1, hj2, hj3, hj4, hw⟩
  ·by_cases hi : i < n
   ·have hgd := hB1 i hi
    rw [ho'] at hgd
    simp only [Option.map_some, Option.getD_some, Bool.and_eq_true] at hgd
    have hg : Region.wanted o (yielded l.toArray (setAll (l.take n) 0 f t)) = true := by
     unfold Region.wanted
     cases hgo : o.guard with
     | none => rfl
     | some jb =>
      obtain ⟨j, b⟩ := jb
      have hgg := hgd.1
      rw [hgo] at hgg
      simp only [Bool.and_eq_true, decide_eq_true_eq] at hgg
      obtain ⟨⟨hbh, hjn⟩, hds⟩ := hgg
      cases hj : l[j]? with
      | none => rw [hj] at hds; simp at hds
      | some p =>
       rw [hj] at hds
       simp only [Option.map_some, Option.getD_some] at hds
       cases hpd : p.dst with
       | none => rw [hpd] at hds; simp at hds
       | some d =>
        rw [hpd] at hds
        simp only [decide_eq_true_eq] at hds
        have hdn : L.getD j false = true := by
         unfold behind at hbh
         rw [List.any_eq_true] at hbh
         obtain ⟨e, he', hh⟩ := hbh
         have he := Array.mem_toList_iff.1 he'
         simp only [Bool.and_eq_true, beq_iff_eq] at hh
         have := hdep e he hh.2
         rw [hh.1] at this; exact this
        have hv := hgv i o j b (hget i o hi ho') hgo w (f j) hCw (hf j hjn hdn)
        have hsl := setAll_get (l.take n) 0 f t j p d (hget j p hjn hj) hpd (hone j p d hjn hj hpd) (by rw [hts]; exact hds)
        rw [Nat.zero_add] at hsl
        have hy : yielded l.toArray (setAll (l.take n) 0 f t) j = some b := by
         unfold yielded
         have : l.toArray[j]? = some p := by simpa using hj
         rw [this]
         simp only [Option.bind_some, hpd, hsl, hv]
        show (yielded l.toArray (setAll (l.take n) 0 f t) j == some b) = true
        rw [hy]
        simp
    refine wpOp_want ho hg (Grows.at hops i o (hget i o hi ho') f w hCw (fun k hk => ?_) _ (fun v w' hv hb => ?_))
    ·unfold behind at hk
     rw [List.any_eq_true] at hk
     obtain ⟨e, he', hh⟩ := hk
     have he := Array.mem_toList_iff.1 he'
     simp only [Bool.and_eq_true, beq_iff_eq] at hh
     have h1 := hdep e he hh.2
     have h2 := hB2 i hil
     rw [ho'] at h2
     simp only [Option.map_some, Option.getD_some, List.all_eq_true, Bool.or_eq_true, Bool.not_eq_true', decide_eq_true_eq] at h2
     have h3 := (h2 e (Array.mem_toList_iff.2 he)).resolve_left (by rw [hh.2]; simp)
     rw [hh.1] at h1 h3
     exact hf k (by omega) h1
    ·refine ⟨hS, hcl', .inl ⟨fun k hk h => ?_, upd f i v, ?_, hC _ _ hb hCw, fun k hk h => ?_⟩⟩
     ·rcases getD_set L i k h with rfl | h'
      ·omega
      ·exact ht k hk h'
     ·cases hd : o.dst with
      | some d =>
       have := setAll_upd (l.take n) 0 f t i v o d (hget i o hi ho') hd (hone i o d hi ho' hd)
       rw [Nat.zero_add] at this
       simp only [Act.put, this]
      | none =>
       have := setAll_none (l.take n) 0 f t i v o (hget i o hi ho') hd
       rw [Nat.zero_add] at this
       simp only [Act.put, this]
     ·by_cases hki : k = i
      ·subst hki
       rw [Nat.zero_add] at hv
       simpa [upd] using hv
      ·have := hf k hk ((getD_set L i k h).resolve_left hki)
       simp only [upd, if_neg hki]
       exact hV k _ _ _ hCw hb this
   ·have hall := hdepAll L i o hcl (by omega) ho' hdep
    have hin : i = n := by
     rcases Nat.lt_or_ge n i with h | h
     ·exact absurd (hall n h) (ht n (Nat.le_refl _))
     ·omega
    subst hin
    have hw := hend f w hCw fun k hk => hf k hk (hall k hk)
    rw [hdrop i o ho'] at hw
    refine hwpo i o _ _ _ ho' hw fun a w h => ⟨hS, hcl', .inr ⟨i + 1, by omega, by omega, fun k hk => ?_, fun k hk h => ?_, h⟩⟩
    ·by_cases e : k = i
     ·subst e; exact hdone
     ·exact getD_keep L i k (hall k (by omega))
    ·rcases getD_set L i k h with h' | h'
     ·omega
     ·exact ht k (by omega) h'
  ·have hij : j ≤ i := by
    rcases Nat.lt_or_ge i j with h | h
    ·exact absurd (hj3 i h) hnd
    ·exact h
   have hall := hdepAll L i o hcl (by omega) ho' hdep
   have hin : i = j := by
    rcases Nat.lt_or_ge j i with h | h
    ·exact absurd (hall j h) (hj4 j (Nat.le_refl _))
    ·omega
   subst hin
   rw [hdrop i o ho'] at hw
   refine hwpo i o _ _ _ ho' hw fun a w h => ⟨hS, hcl', .inr ⟨i + 1, by omega, by omega, fun k hk => ?_, fun k hk h => ?_, h⟩⟩
   ·by_cases e : k = i
    ·subst e; exact hdone
    ·exact getD_keep L i k (hall k (by omega))
   ·rcases getD_set L i k h with h' | h'
    ·omega
    ·exact hj4 k (by omega) h'
 ·rintro L a w ⟨hsz, _, hI⟩ hr
  have hall := all_done' hB2 L hsz hr
  rcases hI with ⟨ht, f, rfl, hCw, hf⟩ | ⟨j, hj1, hj2, hj3, hj4, hw⟩
  ·have hnl : n = l.length := by
    rcases Nat.lt_or_ge n l.length with h | h
    ·exact absurd (hall n h) (ht n (Nat.le_refl _))
    ·omega
   have hw := hend f w hCw fun k hk => hf k hk (hall k (by omega))
   rw [List.drop_eq_nil_of_le (by omega)] at hw
   exact hw
  ·have hjl : j = l.length := by
    rcases Nat.lt_or_ge j l.length with h | h
    ·exact absurd (hall j h) (hj4 j (Nat.le_refl _))
    ·omega
   rw [List.drop_eq_nil_of_le (by omega)] at hw
   exact hw
theorem wp_unguard {op : Oper} {a : Act} {w : World} {K : Act → World → Prop} (h : Oper.wp P { op with guard := none } a w K Q) : op.wp P a w K Q := h
end
section
variable {P : Program} {Q : Exit → Act → World → Prop}
end
theorem hasWidth_any (c : Int) (w : World) : Calls Try.prog 54 #[.int .i32 c] w fun e w' => e = .returned (.bool (hw c)) ∧ w' = w := by
 have H := Box'.mk (show hw c = (decide (32 ≤ c ∧ c ≤ 1114111) && !decide (127 ≤ c ∧ c ≤ 159) && !decide (55296 ≤ c ∧ c ≤ 57343)) from rfl)
 by_cases h1 : c < 32
 ·have := Box'.mk (show hw c = false by rw [H.out]; simp; omega)
  go_enter Try.func54, Try.ntmps54
  go_wp2_with fail
  go_ret
  exact ⟨by rw [this.out]; rfl, rfl⟩
 by_cases h2 : c > 1114111
 ·have := Box'.mk (show hw c = false by rw [H.out]; simp; omega)
  go_enter Try.func54, Try.ntmps54
  go_wp2_with fail
  go_ret
  exact ⟨by rw [this.out]; rfl, rfl⟩
 by_cases h3 : c ≥ 127 ∧ c ≤ 159
 ·have := Box'.mk (show hw c = false by rw [H.out]; simp; omega)
  obtain ⟨h3, h4⟩ := h3
  go_enter Try.func54, Try.ntmps54
  go_wp2_with fail
  go_ret
  exact ⟨by rw [this.out]; rfl, rfl⟩
 by_cases h4 : c ≥ 55296 ∧ c ≤ 57343
 ·have := Box'.mk (show hw c = false by rw [H.out]; simp; omega)
  obtain ⟨h4, h5⟩ := h4
  have h6 : ¬ c ≤ 159 := by omega
  have h7 : c ≥ 127 := by omega
  clear h3
  go_enter Try.func54, Try.ntmps54
  go_wp2_with fail
  go_ret
  exact ⟨by rw [this.out]; rfl, rfl⟩
 ·have := Box'.mk (show hw c = true by rw [H.out]; simp; omega)
  by_cases h5 : c ≥ 127
  ·have h6 : ¬ c ≤ 159 := by omega
   clear h3
   by_cases h7 : c ≥ 55296
   ·have h8 : ¬ c ≤ 57343 := by omega
    clear h4
    go_enter Try.func54, Try.ntmps54
    go_wp2_with fail
    go_ret
    exact ⟨by rw [this.out]; rfl, rfl⟩
   ·clear h4
    go_enter Try.func54, Try.ntmps54
    go_wp2_with fail
    go_ret
    exact ⟨by rw [this.out]; rfl, rfl⟩
  ·have h7 : ¬ c ≥ 55296 := by omega
   clear h3 h4
   go_enter Try.func54, Try.ntmps54
   go_wp2_with fail
   go_ret
   exact ⟨by rw [this.out]; rfl, rfl⟩
theorem wp_region_lex {id : Nat} {Q : Exit → Act → World → Prop} {a : Act} {w : World} {l : List Oper} (C : World → Prop) (hm : Try.prog.follows .mixedOrders = true) (hB : Region.lexB .any l.toArray = true) (hC : C w.drew)
  (h : wpQuiet Try.prog l.toArray C (fun a' => ∀ w', C w' → Q .normal a' w') l a) : (Code.region id l.toArray true).wp Try.prog Q a w :=
 wp_region_quiet (C := C) hm hB hC (by simpa using h)
section
variable {C : World → Prop} {op : Oper} {a : Act} {K : Act → Prop}
theorem qC_of (v : Value) (he : ∀ w, C w → (execOp a.eval op).run Try.prog w = .ok (.value v) w) (hk : K (a.put op.dst v)) : op.quiet Try.prog a C K :=
 ⟨v, fun w hw => by unfold Oper.quietAt; rw [he w hw]; exact ⟨rfl, rfl⟩, hk⟩
theorem qC_load3 (x : Operand) (ho : op.op = .load 3 x) (b o : Nat) (v : Value) (hx : a.eval x = .pointer (some ⟨b, o, none⟩)) (hc : ∀ w, C w → w.cell? ⟨b, o, none⟩ = some v) (hk : K (a.put op.dst v)) : op.quiet Try.prog a C K :=
 qC_of v (fun w hw => by unfold execOp; simp only [ho, hx]; simp [go_sem, hc w hw]) hk
theorem qC_load5 (x : Operand) (ho : op.op = .load 5 x) (b o : Nat) (v : Value) (hx : a.eval x = .pointer (some ⟨b, o, none⟩)) (hc : ∀ w, C w → w.cell? ⟨b, o, none⟩ = some v) (hk : K (a.put op.dst v)) : op.quiet Try.prog a C K :=
 qC_of v (fun w hw => by unfold execOp; simp only [ho, hx]; simp [go_sem, hc w hw]) hk
theorem qC_load22 (x : Operand) (ho : op.op = .load 37 x) (b o : Nat) (v : Value) (hx : a.eval x = .pointer (some ⟨b, o, none⟩)) (hc : ∀ w, C w → w.cell? ⟨b, o, none⟩ = some v) (hk : K (a.put op.dst v)) : op.quiet Try.prog a C K :=
 qC_of v (fun w hw => by unfold execOp; simp only [ho, hx]; simp [go_sem, hc w hw]) hk
theorem qC_load27 (x : Operand) (ho : op.op = .load 42 x) (b o : Nat) (v : Value) (hx : a.eval x = .pointer (some ⟨b, o, none⟩)) (hc : ∀ w, C w → w.cell? ⟨b, o, none⟩ = some v) (hk : K (a.put op.dst v)) : op.quiet Try.prog a C K :=
 qC_of v (fun w hw => by unfold execOp; simp only [ho, hx]; simp [go_sem, hc w hw]) hk
theorem qC_load30 (x : Operand) (ho : op.op = .load 45 x) (b o : Nat) (v : Value) (hx : a.eval x = .pointer (some ⟨b, o, none⟩)) (hc : ∀ w, C w → w.cell? ⟨b, o, none⟩ = some v) (hk : K (a.put op.dst v)) : op.quiet Try.prog a C K :=
 qC_of v (fun w hw => by unfold execOp; simp only [ho, hx]; simp [go_sem, hc w hw]) hk
theorem qC_mid (ty : TypeId) (x : Operand) (ho : op.op = .load ty x) (b o : Nat) (c : Array Value) (d : TypeDesc) (hu : Try.prog.underlying ty = some d) (hd : d.isRow = true) (hi : (Try.prog.info? ty).map (·.size) = some c.toList.length) (hx : a.eval x = .pointer (some ⟨b, o, none⟩)) (hc : ∀ w, C w → w.rangeAt b o c.toList) (hk : K (a.put op.dst (.agg c))) : op.quiet Try.prog a C K :=
 qC_of _ (fun w hw => by
  unfold execOp
  simp only [ho, hx, Instr.loadAt, Instr.sureAddr, Sem.run_bind, Sem.run_pure, Result.andThen_ok, run_loadVar_mid w b o ty c.toList d (hc w hw) hu hd hi]) hk
theorem qC_call (f : Nat) (args : Array Value) (v : Value) (he : ∀ w, (execOp a.eval op).run Try.prog w = .ok (.enter f args) w) (hc : ∀ w, C w → Calls Try.prog f args w fun e w' => e = .returned v ∧ C w') (hk : K (a.put op.dst v)) : op.quiet Try.prog a C K :=
 ⟨v, fun w hw => by unfold Oper.quietAt; rw [he w]; exact ⟨rfl, hc w hw⟩, hk⟩
end
def zs (n : Nat) : Array Value := (List.replicate n (Value.int .i32 0)).toArray
theorem info80 : (Try.prog.info? 87).map (fun i => (i.zero, i.size)) = some (some (.agg (zs 52)), 52) := by kernel_rfl
theorem info82 : (Try.prog.info? 91).map (fun i => (i.zero, i.size)) = some (some (.agg (zs 74)), 74) := by kernel_rfl
theorem size_of_zero {t : TypeId} {n : Nat} {z : Array Value} (h : (Try.prog.info? t).map (fun i => (i.zero, i.size)) = some (some (.agg z), n)) : (Try.prog.info? t).map (·.size) = some n := by
 cases hq : Try.prog.info? t with
 | none => simp [hq] at h
 | some i => simp [hq] at h ⊢; exact h.2
theorem zs_size (n : Nat) : (zs n).size = n := by simp [zs]
theorem zero_size : (spA zeroL).size = 52 := by simp [spA, spC_len]; rfl
theorem wide_size : (spA wideL).size = 74 := by simp [spA, spC_len]; rfl
theorem wpList_build {ops : Array Oper} {rest : List Oper} {op : Oper} {a : Act} {w : World} {Q : Exit → Act → World → Prop} (hgd : op.guard = none) (t : TypeId) (parts : Array (Nat × Operand)) (ho : op.op = .build t parts) (cells : Array Value)
  (hc : Try.prog.built t (parts.toList.map fun (i, x) => (i, a.eval x)) = some cells) (h : wpList Try.prog ops Q rest (a.put op.dst (.agg cells)) w) : wpList Try.prog ops Q (op :: rest) a w := by
 refine wpList_plain hgd fun K hK => ?_
 unfold Oper.wp execOp
 simp only [ho, Sem.run_bind, run_build w t _ cells ((congrArg _ Array.toList_map).trans hc), Result.andThen_ok, Sem.run_pure]
 exact hK _ _ h
theorem built79 (x y : Int) : Try.prog.built 86 [(0, .int .i32 x), (1, .int .i32 y)] = some #[.int .i32 x, .int .i32 y] := by kernel_rfl
theorem wpList_b79 {ops : Array Oper} {rest : List Oper} {op : Oper} {a : Act} {w : World} {Q : Exit → Act → World → Prop} (hgd : op.guard = none) (x y : Int) (ho : op.op = .build 86 #[(0, .const (.int .i32 x)), (1, .const (.int .i32 y))])
  (h : wpList Try.prog ops Q rest (a.put op.dst (.agg #[.int .i32 x, .int .i32 y])) w) : wpList Try.prog ops Q (op :: rest) a w :=
 wpList_build hgd 86 _ ho _ (built79 x y) h
theorem wpList_act {P : Program} {ops : Array Oper} {l : List Oper} {a b : Act} {w : World} {Q : Exit → Act → World → Prop} (h : a = b) (k : wpList P ops Q l b w) : wpList P ops Q l a w := h ▸ k
theorem below_setRow {N : Nat} {W w1 : World} {b : Nat} (h : Below N W w1) (hb : N ≤ b) (c : Array Value) : Below N W (w1.setRow b c) := ⟨h.os, h.tape, h.output, by rw [setRow_size]; exact h.size, fun k hk => by rw [setRow_other _ _ _ _ (by omega)]; exact h.block k hk⟩
theorem results67 (tmps : Array Value) (b : Nat) (hx : tmps.getD 0 undef = .pointer (some ⟨b, 0, none⟩)) (w : World) (c : Array Value) (hr : Row w b 87 c) (hn : c.size = 52) : (results Try.f55 tmps).run Try.prog w = .ok (.agg c) w :=
 results_row (p := 0) (ty := 87) rfl tmps b hx 87 c hr _ Try.underlying87 rfl 52 (size_of_zero info80) hn
theorem results69 (tmps : Array Value) (b : Nat) (hx : tmps.getD 0 undef = .pointer (some ⟨b, 0, none⟩)) (w : World) (c : Array Value) (hr : Row w b 91 c) (hn : c.size = 74) : (results Try.f57 tmps).run Try.prog w = .ok (.agg c) w :=
 results_row (p := 0) (ty := 91) rfl tmps b hx 91 c hr _ Try.underlying91 rfl 74 (size_of_zero info82) hn
theorem zeroTable_any (w : World) : Calls Try.prog 55 #[] w fun e w' => e = .returned (.agg (spA zeroL)) ∧ Below w.heap.size w w' := by
 have hi := Box'.mk info80
 have hs := Box'.mk (size_of_zero info80)
 have R0 := Box'.mk (Row.new w 87 (zs 52))
 have B0 := Box'.mk ((Below.refl w.heap.size w).alloc (Nat.le_refl _) (.cells (zs 52) 87))
 obtain ⟨Z, hz, ho⟩ : ∃ Z, Box' (spA zeroL = Z ∧ Z.size = 52) ∧ Box' (Z.all (·.oneCell') = true) := ⟨_, ⟨rfl, zero_size⟩, ⟨spA_one _⟩⟩
 rw [hz.out.1]
 go_enter Try.func55, Try.ntmps55
 go_wp2_with (first
  | (refine wpList_alloc_row rfl 87 rfl (zs 52) 52 hi.out ?_)
  | (refine wpList_b79 rfl _ _ rfl ?_)
  | (refine wpList_build rfl 87 _ rfl Z (by rw [← hz.out.1]; kernel_rfl) ?_)
  | (refine wpList_store_row rfl 87 (.tmp 0) (.tmp 27) rfl w.heap.size (by kernel_rfl) Z (by kernel_rfl) 87 52 (R0.out.room (zs_size 52)) hs.out hz.out.2 ho.out (wpList_act (b := ⟨#[.pointer (some ⟨w.heap.size, 0, none⟩), .agg #[.int .i32 768, .int .i32 879], .agg #[.int .i32 1155, .int .i32 1161], .agg #[.int .i32 1425, .int .i32 1469], .agg #[.int .i32 1471, .int .i32 1471], .agg #[.int .i32 1473, .int .i32 1474], .agg #[.int .i32 1552, .int .i32 1562], .agg #[.int .i32 1611, .int .i32 1631], .agg #[.int .i32 1750, .int .i32 1756], .agg #[.int .i32 2304, .int .i32 2306], .agg #[.int .i32 2364, .int .i32 2364], .agg #[.int .i32 2369, .int .i32 2376], .agg #[.int .i32 2381, .int .i32 2381], .agg #[.int .i32 3633, .int .i32 3633], .agg #[.int .i32 3636, .int .i32 3642], .agg #[.int .i32 6832, .int .i32 6911], .agg #[.int .i32 7616, .int .i32 7679], .agg #[.int .i32 8203, .int .i32 8207], .agg #[.int .i32 8234, .int .i32 8238], .agg #[.int .i32 8288, .int .i32 8292], .agg #[.int .i32 8400, .int .i32 8447], .agg #[.int .i32 12330, .int .i32 12333], .agg #[.int .i32 12441, .int .i32 12442], .agg #[.int .i32 65024, .int .i32 65039], .agg #[.int .i32 65056, .int .i32 65071], .agg #[.int .i32 65279, .int .i32 65279], .agg #[.int .i32 917760, .int .i32 917999], .agg Z], []⟩) (by kernel_rfl) ?_)))
 exact bodyPost_ret (results67 _ w.heap.size rfl _ Z (R0.out.setRow Z) hz.out.2) rfl ⟨rfl, below_setRow B0.out (Nat.le_refl _) _⟩
theorem wideTable_any (w : World) : Calls Try.prog 57 #[] w fun e w' => e = .returned (.agg (spA wideL)) ∧ Below w.heap.size w w' := by
 have hi := Box'.mk info82
 have hs := Box'.mk (size_of_zero info82)
 have R0 := Box'.mk (Row.new w 91 (zs 74))
 have B0 := Box'.mk ((Below.refl w.heap.size w).alloc (Nat.le_refl _) (.cells (zs 74) 91))
 obtain ⟨Z, hz, ho⟩ : ∃ Z, Box' (spA wideL = Z ∧ Z.size = 74) ∧ Box' (Z.all (·.oneCell') = true) := ⟨_, ⟨rfl, wide_size⟩, ⟨spA_one _⟩⟩
 rw [hz.out.1]
 go_enter Try.func57, Try.ntmps57
 go_wp2_with (first
  | (refine wpList_alloc_row rfl 91 rfl (zs 74) 74 hi.out ?_)
  | (refine wpList_b79 rfl _ _ rfl ?_)
  | (refine wpList_build rfl 91 _ rfl Z (by rw [← hz.out.1]; kernel_rfl) ?_)
  | (refine wpList_store_row rfl 91 (.tmp 0) (.tmp 38) rfl w.heap.size (by kernel_rfl) Z (by kernel_rfl) 91 74 (R0.out.room (zs_size 74)) hs.out hz.out.2 ho.out (wpList_act (b := ⟨#[.pointer (some ⟨w.heap.size, 0, none⟩), .agg #[.int .i32 4352, .int .i32 4447], .agg #[.int .i32 8986, .int .i32 8987], .agg #[.int .i32 9001, .int .i32 9002], .agg #[.int .i32 9193, .int .i32 9196], .agg #[.int .i32 9725, .int .i32 9726], .agg #[.int .i32 9748, .int .i32 9749], .agg #[.int .i32 9800, .int .i32 9811], .agg #[.int .i32 9889, .int .i32 9889], .agg #[.int .i32 9917, .int .i32 9918], .agg #[.int .i32 9989, .int .i32 9989], .agg #[.int .i32 10024, .int .i32 10024], .agg #[.int .i32 10060, .int .i32 10060], .agg #[.int .i32 10067, .int .i32 10069], .agg #[.int .i32 10133, .int .i32 10135], .agg #[.int .i32 11035, .int .i32 11036], .agg #[.int .i32 11088, .int .i32 11088], .agg #[.int .i32 11904, .int .i32 12350], .agg #[.int .i32 12353, .int .i32 13311], .agg #[.int .i32 13312, .int .i32 19903], .agg #[.int .i32 19968, .int .i32 40959], .agg #[.int .i32 40960, .int .i32 42191], .agg #[.int .i32 44032, .int .i32 55203], .agg #[.int .i32 63744, .int .i32 64255], .agg #[.int .i32 65072, .int .i32 65135], .agg #[.int .i32 65281, .int .i32 65376], .agg #[.int .i32 65504, .int .i32 65510], .agg #[.int .i32 127744, .int .i32 127776], .agg #[.int .i32 127789, .int .i32 127797], .agg #[.int .i32 127799, .int .i32 127868], .agg #[.int .i32 128000, .int .i32 128062], .agg #[.int .i32 128064, .int .i32 128064], .agg #[.int .i32 128066, .int .i32 128252], .agg #[.int .i32 128512, .int .i32 128591], .agg #[.int .i32 128640, .int .i32 128709], .agg #[.int .i32 129280, .int .i32 129535], .agg #[.int .i32 131072, .int .i32 196605], .agg #[.int .i32 196608, .int .i32 262141], .agg Z], []⟩) (by kernel_rfl) ?_)))
 exact bodyPost_ret (results69 _ w.heap.size rfl _ Z (R0.out.setRow Z) hz.out.2) rfl ⟨rfl, below_setRow B0.out (Nat.le_refl _) _⟩
structure St where
 fg : Int
 bg : Int
 b1 : Bool
 b2 : Bool
 b3 : Bool
 b4 : Bool
 b5 : Bool
 b7 : Bool
 b8 : Bool
 b9 : Bool
/-- Are two styles the same? -/
def stB (s t : St) : Bool := decide (s.fg = t.fg) && decide (s.bg = t.bg) && (s.b1 == t.b1) && (s.b2 == t.b2) && (s.b3 == t.b3) && (s.b4 == t.b4) && (s.b5 == t.b5) && (s.b7 == t.b7) && (s.b8 == t.b8) && (s.b9 == t.b9)
theorem stB_iff (s t : St) : stB s t = true ↔ s = t := by
 cases s; cases t
 simp [stB, and_assoc]
theorem stB_yes {s t : St} (h : s = t) : stB s t = true := (stB_iff s t).2 h
theorem stB_no {s t : St} (h : ¬ s = t) : stB s t = false := by
 cases e : stB s t with
 | false => rfl
 | true => exact absurd ((stB_iff s t).1 e) h
/-- The cells of a style. -/
def sA (s : St) : Array Value := #[.int .i64 s.fg, .int .i64 s.bg, .bool s.b1, .bool s.b2, .bool s.b3, .bool s.b4, .bool s.b5, .bool s.b7, .bool s.b8, .bool s.b9]
def pl : St := ⟨-1, -1, false, false, false, false, false, false, false, false⟩
theorem s24 : (Try.prog.info? 41).map (·.size) = some 10 := by kernel_rfl
theorem s26 : (Try.prog.info? 72).map (·.size) = some 15 := by kernel_rfl
/-- The slice v has the numbers l, in a block below N. -/
def Is (N : Nat) (w : World) (v : Value) (l : List Int) : Prop :=
 ∃ a c, v = .slice a l.length c ∧ l.length ≤ c ∧ (l = [] ∨ ∃ b o, a = some ⟨b, o, none⟩ ∧ b < N ∧
  ∀ k, k < l.length → w.cell? ⟨b, o + k, none⟩ = some (.int .i64 (l.getD k 0)))
theorem Is.below {N M : Nat} {w w' : World} {v : Value} {l : List Int} (h : Is N w v l) (hb : Below M w w') (hN : N ≤ M) : Is N w' v l := by
 obtain ⟨a, c, h1, h2, h4⟩ := h
 refine ⟨a, c, h1, h2, ?_⟩
 rcases h4 with h4 | ⟨b, o, h5, h6, h7⟩
 ·exact .inl h4
 ·refine .inr ⟨b, o, h5, h6, fun k hk => ?_⟩
  rw [hb.cell (p := ⟨b, o + k, none⟩) (by show b < M; omega)]
  exact h7 k hk
theorem slice_op {P : Program} {op : Oper} {a : Act} (t : TypeId) (x : Operand) (lo hi mx : Option Operand) (ho : op.op = .slice t x lo hi mx) (v : Value) (w : World) (h : (Instr.sliceAt t (a.eval x) (lo.map a.eval) (hi.map a.eval) (mx.map a.eval)).run P w = .ok v w) :
  (execOp a.eval op).run P w = .ok (.value v) w := by
 unfold execOp
 simp only [ho, Sem.run_bind, h, Result.andThen_ok, Sem.run_pure]
theorem wp_val {P : Program} {op : Oper} {a : Act} {w : World} {K : Act → World → Prop} {Q : Exit → Act → World → Prop} (v : Value) (hrun : (execOp a.eval op).run P w = .ok (.value v) w) (h : K (a.put op.dst v) w) : op.wp P a w K Q := by
 unfold Oper.wp; rw [hrun]; exact h
theorem wpList_slice {P : Program} {ops : Array Oper} {rest : List Oper} {op : Oper} {a : Act} {w : World} {Q : Exit → Act → World → Prop} (hgd : op.guard = none) (t : TypeId) (x : Operand) (lo hi mx : Option Operand) (ho : op.op = .slice t x lo hi mx) (v : Value)
  (h : (Instr.sliceAt t (a.eval x) (lo.map a.eval) (hi.map a.eval) (mx.map a.eval)).run P w = .ok v w) (hk : wpList P ops Q rest (a.put op.dst v) w) : wpList P ops Q (op :: rest) a w :=
 wpList_plain hgd fun K hK => wp_val v (slice_op t x lo hi mx ho v w h) (hK _ _ hk)
def isC (n : Int) : Bool := decide (0 ≤ n ∧ n ≤ 255)
theorem isColour_any (n : Int) (w : World) : Calls Try.prog 63 #[.int .i64 n] w fun e w' => e = .returned (.bool (isC n)) ∧ w' = w := by
 by_cases h1 : 0 ≤ n
 ·by_cases h2 : n ≤ 255
  ·have E : Box' (isC n = true) := ⟨by unfold isC; simp; omega⟩
   go_enter Try.func63, Try.ntmps63
   go_wp2_with fail
   go_ret
   exact ⟨by rw [E.out]; rfl, rfl⟩
  ·have E : Box' (isC n = false) := ⟨by unfold isC; simp; omega⟩
   go_enter Try.func63, Try.ntmps63
   go_wp2_with fail
   go_ret
   exact ⟨by rw [E.out]; rfl, rfl⟩
 ·have E : Box' (isC n = false) := ⟨by unfold isC; simp; omega⟩
  go_enter Try.func63, Try.ntmps63
  go_wp2_with fail
  go_ret
  exact ⟨by rw [E.out]; rfl, rfl⟩
end Go.Proofs.Ytepepoabbbjmgaa.Sc
