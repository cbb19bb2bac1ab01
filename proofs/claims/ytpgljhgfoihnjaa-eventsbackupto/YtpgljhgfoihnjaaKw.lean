/- What a reading weighs is bounded by its bulk. -/
import Derived.Test.YtpgljhgfoihnjaaRows
namespace Go.Proofs.Ytpgljhgfoihnjaa

theorem bulk_pos {H : Type} (d : DataW H) : 1 ≤ Rows.uptoBulk d := by
  cases d with
  | lit l => cases l <;> simp [Rows.uptoBulk]
  | _ => simp [Rows.uptoBulk]
theorem bulk_all {H : Type} (l : List (DataW H)) : l.length ≤ Rows.uptoBulkAll l := by
  induction l with
  | nil => exact Nat.zero_le _
  | cons x r ih => have := bulk_pos x; simp only [Rows.uptoBulkAll, List.length_cons]; omega
theorem bulk_ents {H : Type} (l : List (Lit × DataW H)) : l.length ≤ Rows.uptoBulkEntries l := by
  induction l with
  | nil => exact Nat.zero_le _
  | cons x r ih =>
    have h : 1 ≤ Rows.uptoBulkEntry x := by
      obtain ⟨k, d⟩ := x
      cases k <;> simp [Rows.uptoBulkEntry]
    simp only [Rows.uptoBulkEntries, List.length_cons]; omega
theorem step_mul {K a b : Nat} (h : a ≤ b) : 2 * K * a ≤ 2 * K * b := Nat.mul_le_mul_left _ h
/-- The types below n: what lies in them, how great they are. -/
structure Small (P : Program) (n K : Nat) : Prop where
  one : 1 ≤ K
  by' : ∀ t, t < n → P.bytesOf t ≤ K
  sl : ∀ t e, t < n → P.underlying t = some (.slice e) → e < n
  pt : ∀ t e, t < n → P.underlying t = some (.pointer e) → e < n
  ar : ∀ t k e, t < n → P.underlying t = some (.array k e) → e < n
  st : ∀ t fs, t < n → P.underlying t = some (.struct fs) → ∀ f ∈ fs.toList.map (·.type), f < n
  mp : ∀ t k e, t < n → P.underlying t = some (.map k e) → k < n ∧ e < n
theorem weights_bulk {H : Type} (P : Program) (K : Nat) (n : Nat) (hS : Small P n K) (d : DataW H) : ∀ t, t < n → ∀ y ∈ DataW.weights P t d, y ≤ 2 * K * Rows.uptoBulk d := by
  refine DataW.rec (motive_1 := fun d => ∀ t, t < n → ∀ y ∈ DataW.weights P t d, y ≤ 2 * K * Rows.uptoBulk d)
    (motive_2 := fun l => (∀ t, t < n → ∀ y ∈ DataW.weightsAll P t l, y ≤ 2 * K * Rows.uptoBulkAll l) ∧ ∀ ts, (∀ t ∈ ts, t < n) → ∀ y ∈ DataW.weightsEach P ts l, y ≤ 2 * K * Rows.uptoBulkAll l)
    (motive_3 := fun l => ∀ t, t < n → ∀ y ∈ DataW.weightsEntries P t l, y ≤ 2 * K * Rows.uptoBulkEntries l)
    (motive_4 := fun x => ∀ t, t < n → ∀ y ∈ DataW.weightsEntry P t x, y ≤ 2 * K * Rows.uptoBulkEntry x)
    ?_ ?_ ?_ ?_ ?_ ?_ ?_ ?_ ?_ ?_ ?_ ?_ ?_ d
  · intro l t ht y hy
    cases l with
    | string b =>
      simp only [DataW.weights, List.mem_cons, List.not_mem_nil, or_false] at hy
      subst hy
      simp only [Rows.uptoBulk]
      exact Nat.le_trans (by omega) (Nat.mul_le_mul_right _ (show 1 ≤ 2 * K by have := hS.one; omega) : 1 * (b.length + 1) ≤ 2 * K * (b.length + 1))
    | _ => simp [DataW.weights] at hy
  · intro t ht y hy
    simp [DataW.weights] at hy
  · intro d ih t ht y hy
    simp only [DataW.weights] at hy
    simp only [Rows.uptoBulk]
    split at hy
    · rename_i e he
      exact Nat.le_trans (ih _ (hS.pt t e ht he) y hy) (step_mul (Nat.le_succ _))
    · simp at hy
  · intro a b iha ihb t ht y hy
    simp only [DataW.weights] at hy
    simp only [Rows.uptoBulk]
    split at hy
    · rename_i e he
      have he' := hS.sl t e ht he
      simp only [List.mem_cons, List.mem_append] at hy
      rcases hy with rfl | hy | hy
      · have ha := bulk_all a
        have hb := bulk_all b
        refine Nat.le_trans (Nat.mul_le_mul_left _ (hS.by' e he')) ?_
        rw [Nat.mul_comm]
        exact Nat.le_trans (Nat.mul_le_mul_right _ (show K ≤ 2 * K by omega)) (step_mul (by omega))
      · exact Nat.le_trans (iha.1 _ he' y hy) (step_mul (by omega))
      · exact Nat.le_trans (ihb.1 _ he' y hy) (step_mul (by omega))
    · simp at hy
  · intro parts ih t ht y hy
    simp only [DataW.weights] at hy
    simp only [Rows.uptoBulk]
    split at hy
    · rename_i fs he
      exact Nat.le_trans (ih.2 _ (hS.st t fs ht he) y hy) (step_mul (Nat.le_succ _))
    · rename_i k e he
      exact Nat.le_trans (ih.1 _ (hS.ar t k e ht he) y hy) (step_mul (Nat.le_succ _))
    · simp at hy
  · intro _ d _ t ht y hy
    simp [DataW.weights] at hy
  · intro es ih t ht y hy
    simp only [DataW.weights] at hy
    simp only [Rows.uptoBulk]
    split at hy
    · rename_i k e he
      have he' := hS.mp t k e ht he
      simp only [List.mem_cons] at hy
      rcases hy with rfl | hy
      · have ha := bulk_ents es
        have q1 := hS.by' k he'.1
        have q2 := hS.by' e he'.2
        refine Nat.le_trans (Nat.mul_le_mul_left _ (show P.bytesOf k + P.bytesOf e ≤ 2 * K by omega)) ?_
        rw [Nat.mul_comm]
        exact step_mul (by omega)
      · exact Nat.le_trans (ih _ he'.2 y hy) (step_mul (Nat.le_succ _))
    · simp at hy
  · intro _ t ht y hy
    simp [DataW.weights] at hy
  · exact ⟨fun t ht y hy => by simp [DataW.weightsAll] at hy, fun ts _ y hy => by cases ts <;> simp [DataW.weightsEach] at hy⟩
  · intro d r ihd ihr
    refine ⟨fun t ht y hy => ?_, fun ts hts y hy => ?_⟩
    · simp only [DataW.weightsAll, List.mem_append] at hy
      simp only [Rows.uptoBulkAll]
      rcases hy with hy | hy
      · exact Nat.le_trans (ihd _ ht y hy) (step_mul (by omega))
      · exact Nat.le_trans (ihr.1 _ ht y hy) (step_mul (by omega))
    · cases ts with
      | nil => simp [DataW.weightsEach] at hy
      | cons t ts =>
        simp only [DataW.weightsEach, List.mem_append] at hy
        simp only [Rows.uptoBulkAll]
        rcases hy with hy | hy
        · exact Nat.le_trans (ihd _ (hts t List.mem_cons_self) y hy) (step_mul (by omega))
        · exact Nat.le_trans (ihr.2 _ (fun u hu => hts u (List.mem_cons_of_mem _ hu)) y hy) (step_mul (by omega))
  · intro t ht y hy
    simp [DataW.weightsEntries] at hy
  · intro x r ihx ihr t ht y hy
    simp only [DataW.weightsEntries, List.mem_append] at hy
    simp only [Rows.uptoBulkEntries]
    rcases hy with hy | hy
    · exact Nat.le_trans (ihx _ ht y hy) (step_mul (by omega))
    · exact Nat.le_trans (ihr _ ht y hy) (step_mul (by omega))
  · intro k d ihd t ht y hy
    have hd := ihd t ht y
    cases k with
    | string b =>
      simp only [DataW.weightsEntry, List.mem_cons] at hy
      simp only [Rows.uptoBulkEntry]
      rcases hy with rfl | hy
      · exact Nat.le_trans (show b.length ≤ 1 * (b.length + Rows.uptoBulk d + 1) by omega) (Nat.mul_le_mul_right _ (show 1 ≤ 2 * K by have := hS.one; omega))
      · exact Nat.le_trans (hd hy) (step_mul (by omega))
    | _ =>
      simp only [DataW.weightsEntry] at hy
      simp only [Rows.uptoBulkEntry]
      exact Nat.le_trans (hd hy) (step_mul (by omega))
/-- A type's parts lie below n. -/
def partsB (P : Program) (n : Nat) (t : TypeId) : Bool :=
  match P.underlying t with
  | some (.slice e) => decide (e < n)
  | some (.pointer e) => decide (e < n)
  | some (.array _ e) => decide (e < n)
  | some (.struct fs) => (fs.toList.map (·.type)).all fun f => decide (f < n)
  | some (.map k e) => decide (k < n) && decide (e < n)
  | _ => true
theorem small_of (P : Program) (n K : Nat) (h1 : 1 ≤ K) (h2 : ((List.range n).all fun t => decide (P.bytesOf t ≤ K)) = true) (h3 : ((List.range n).all fun t => partsB P n t) = true) : Small P n K := by
  have q : ∀ t, t < n → partsB P n t = true := fun t h => List.all_eq_true.1 h3 t (List.mem_range.2 h)
  refine ⟨h1, fun t h => of_decide_eq_true (List.all_eq_true.1 h2 t (List.mem_range.2 h)), ?_, ?_, ?_, ?_, ?_⟩
  · intro t e h he; have := q t h; unfold partsB at this; rw [he] at this; exact of_decide_eq_true this
  · intro t e h he; have := q t h; unfold partsB at this; rw [he] at this; exact of_decide_eq_true this
  · intro t k e h he; have := q t h; unfold partsB at this; rw [he] at this; exact of_decide_eq_true this
  · intro t fs h he f hf; have := q t h; unfold partsB at this; rw [he] at this; exact of_decide_eq_true (List.all_eq_true.1 this f hf)
  · intro t k e h he; have := q t h; unfold partsB at this; rw [he] at this; simp only [Bool.and_eq_true, decide_eq_true_eq] at this; exact this
set_option maxRecDepth 100000 in
theorem small : Small Try.prog Try.prog.types.size 100000 := small_of _ _ _ (by decide) (by kernel_rfl) (by kernel_rfl)
/-- What weighs of a reading of little bulk. -/
theorem weights_le {H : Type} {t : TypeId} (ht : t < Try.prog.types.size) {d : DataW H} (h : Rows.uptoBulk d ≤ 1048576) : ∀ y ∈ DataW.weights Try.prog t d, y ≤ 140737488351232 := fun y hy => by
  have h1 := weights_bulk Try.prog 100000 _ small d t ht y hy
  have h2 := step_mul (K := 100000) h
  omega
end Go.Proofs.Ytpgljhgfoihnjaa
