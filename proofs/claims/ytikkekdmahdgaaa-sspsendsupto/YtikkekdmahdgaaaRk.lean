/- A receiver has at most 32 states; what is asked of the program's. -/
import Derived.Test.YtikkekdmahdgaaaRf
namespace Go.Proofs.Ytikkekdmahdgaaa
open Go.RowKit Go.BigFrame
set_option linter.unusedSimpArgs false
set_option linter.unusedVariables false

def keepB (n : UInt64) (x : Rw) : Bool := decide (n.toNat ≤ x.n.toNat)
theorem take_step (l : List Rw) (k : Nat) (h : k < l.length) : l.take (k + 1) = l.take k ++ [l.getD k Rw.zero] := by
  rw [List.take_add_one, List.getElem?_eq_getElem h, show l.getD k Rw.zero = l[k] by simp [h]]
  rfl
theorem thrK_cnt (l : List Rw) (n : UInt64) : ∀ k, k ≤ l.length → (thrK l n k).length ≤ (l.take k).countP (keepB n) + (if k = l.length ∧ keepB n (l.getD (k - 1) Rw.zero) = false then 1 else 0) ∧ (l.take k).countP (keepB n) ≤ (thrK l n k).length
  | 0, _ => ⟨by simp [thrK], by simp [thrK]⟩
  | k + 1, h => by
    obtain ⟨h1, h2⟩ := thrK_cnt l n k (by omega)
    have e1 : ¬ (k = l.length ∧ keepB n (l.getD (k - 1) Rw.zero) = false) := by omega
    rw [if_neg e1] at h1
    rw [take_step l k (by omega), List.countP_append, show k + 1 - 1 = k by omega]
    have e2 : thrK l n (k + 1) = thrK l n k ++ (if n.toNat ≤ (l.getD k Rw.zero).n.toNat ∨ k + 1 = l.length then [l.getD k Rw.zero] else []) := rfl
    rw [e2, List.length_append]
    by_cases hk : n.toNat ≤ (l.getD k Rw.zero).n.toNat
    · have : keepB n (l.getD k Rw.zero) = true := decide_eq_true hk
      rw [if_pos (.inl hk)]
      simp only [List.countP_cons, List.countP_nil, this, List.length_cons, List.length_nil]
      constructor <;> simp <;> omega
    · have hf : keepB n (l.getD k Rw.zero) = false := decide_eq_false hk
      by_cases hl : k + 1 = l.length
      · rw [if_pos (.inr hl), if_pos ⟨hl, hf⟩]
        simp only [List.countP_cons, List.countP_nil, hf, List.length_cons, List.length_nil]
        constructor <;> simp <;> omega
      · rw [if_neg (by rintro (h | h); exact hk h; exact hl h), if_neg (by rintro ⟨h, _⟩; exact hl h)]
        simp only [List.countP_cons, List.countP_nil, hf, List.length_nil]
        constructor <;> simp <;> omega
theorem thrF_cnt (l : List Rw) (n : UInt64) : (thrF l n).length ≤ l.countP (keepB n) + (if keepB n (l.getD (l.length - 1) Rw.zero) = false then 1 else 0) ∧ l.countP (keepB n) ≤ (thrF l n).length := by
  have := thrK_cnt l n l.length (Nat.le_refl _)
  rw [List.take_length] at this
  refine ⟨Nat.le_trans this.1 ?_, this.2⟩
  apply Nat.add_le_add_left
  by_cases h : keepB n (l.getD (l.length - 1) Rw.zero) = false
  · rw [if_pos h, if_pos ⟨rfl, h⟩]; exact Nat.le_refl _
  · rw [if_neg h, if_neg (fun q => h q.2)]; exact Nat.le_refl _
theorem selK_filter (P : Rw → Bool) (l : List Rw) : ∀ k, k ≤ l.length → selK P l k = (l.take k).filter P
  | 0, _ => by simp [selK]
  | k + 1, h => by
    have e : selK P l (k + 1) = selK P l k ++ (if P (l.getD k Rw.zero) = true then [l.getD k Rw.zero] else []) := rfl
    rw [e, selK_filter P l k (by omega), take_step l k (by omega), List.filter_append]
    congr 1
    by_cases hp : P (l.getD k Rw.zero) = true
    · rw [if_pos hp]; simp only [List.filter_cons, hp, if_true, List.filter_nil]
    · rw [if_neg hp]; simp only [List.filter_cons, if_neg hp, List.filter_nil]
theorem cnt_two (K P Q : Rw → Bool) (h : ∀ x, ¬ (P x = true ∧ Q x = true)) (l : List Rw) : (l.filter P).countP K + (l.filter Q).countP K ≤ l.countP K := by
  induction l with
  | nil => simp
  | cons x r ih =>
    have hx := h x
    simp only [List.filter_cons, List.countP_cons]
    by_cases hP : P x = true
    · have hQ : ¬ Q x = true := fun q => hx ⟨hP, q⟩
      rw [if_pos hP, if_neg hQ, List.countP_cons]; omega
    · rw [if_neg hP]
      by_cases hQ : Q x = true
      · rw [if_pos hQ, List.countP_cons]; omega
      · rw [if_neg hQ]; omega
theorem takeF_len (l : List Rw) (x : Ins) (h : l.length ≤ 32) (h0 : 0 < l.length) : (takeF l x).1.length ≤ 32 ∧ 0 < (takeF l x).1.length := by
  unfold takeF
  split
  · exact ⟨Nat.le_trans (thrK_len _ _ _) h, thrF_pos _ _ h0⟩
  · split
    · exact ⟨h, h0⟩
    · split
      · exact ⟨h, h0⟩
      · rename_i h3
        refine ⟨?_, thrF_pos _ _ (by simp only [List.length_append, List.length_cons]; omega)⟩
        show (thrF (lowF l x.n ++ [rowF l x] ++ highF l x.n) x.thr).length ≤ 32
        have hc := (thrF_cnt l x.thr).2
        have h1 := (thrF_cnt (lowF l x.n ++ [rowF l x] ++ highF l x.n) x.thr).1
        have hlo : lowF l x.n = l.filter (fun y => decide (y.n.toNat < x.n.toNat)) := by unfold lowF; rw [selK_filter _ _ _ (Nat.le_refl _), List.take_length]
        have hhi : highF l x.n = l.filter (fun y => decide (x.n.toNat < y.n.toNat)) := by unfold highF; rw [selK_filter _ _ _ (Nat.le_refl _), List.take_length]
        have h2 := cnt_two (keepB x.thr) (fun y => decide (y.n.toNat < x.n.toNat)) (fun y => decide (x.n.toNat < y.n.toNat)) (by intro y ⟨a, b⟩; simp only [decide_eq_true_eq] at a b; omega) l
        rw [← hlo, ← hhi] at h2
        rw [List.countP_append, List.countP_append, List.countP_cons, List.countP_nil] at h1
        by_cases hk : x.thr.toNat ≤ x.n.toNat
        · have hkr : keepB x.thr (rowF l x) = true := decide_eq_true hk
          have hlast : keepB x.thr ((lowF l x.n ++ [rowF l x] ++ highF l x.n).getD ((lowF l x.n ++ [rowF l x] ++ highF l x.n).length - 1) Rw.zero) = true := by
            by_cases hh : highF l x.n = []
            · rw [hh, List.append_nil]
              rw [List.getD_eq_getElem?_getD, List.getElem?_append_right (by simp)]
              simpa using hkr
            · have hp : 0 < (highF l x.n).length := List.length_pos_iff.2 hh
              rw [List.getD_eq_getElem?_getD, List.getElem?_append_right (by simp only [List.length_append, List.length_cons, List.length_nil]; omega)]
              rw [List.getElem?_eq_getElem (by simp only [List.length_append, List.length_cons, List.length_nil]; omega)]
              have hm := List.getElem_mem (l := highF l x.n) (n := (lowF l x.n ++ [rowF l x] ++ highF l x.n).length - 1 - (lowF l x.n ++ [rowF l x]).length) (by simp only [List.length_append, List.length_cons, List.length_nil]; omega)
              generalize (highF l x.n)[(lowF l x.n ++ [rowF l x] ++ highF l x.n).length - 1 - (lowF l x.n ++ [rowF l x]).length]'(by simp only [List.length_append, List.length_cons, List.length_nil]; omega) = z at hm ⊢
              rw [hhi, List.mem_filter] at hm
              have := of_decide_eq_true hm.2
              exact decide_eq_true (show x.thr.toNat ≤ z.n.toNat by omega)
          rw [hlast, hkr] at h1
          simp only [if_true, Bool.true_eq_false, if_false] at h1
          omega
        · have hkr : keepB x.thr (rowF l x) = false := decide_eq_false hk
          rw [hkr] at h1
          simp only [Bool.false_eq_true, if_false] at h1
          split at h1 <;> omega
theorem thrK_mem (l : List Rw) (n : UInt64) : ∀ k, k ≤ l.length → ∀ y, y ∈ thrK l n k → y ∈ l
  | 0, _, y, h => by simp [thrK] at h
  | k + 1, hk, y, h => by
    have e : thrK l n (k + 1) = thrK l n k ++ (if n.toNat ≤ (l.getD k Rw.zero).n.toNat ∨ k + 1 = l.length then [l.getD k Rw.zero] else []) := rfl
    rw [e, List.mem_append] at h
    rcases h with h | h
    · exact thrK_mem l n k (by omega) y h
    · split at h
      · rw [List.mem_singleton] at h
        rw [h, show l.getD k Rw.zero = l[k] by simp [show k < l.length by omega]]
        exact List.getElem_mem _
      · simp at h
theorem getD_mem {l : List Rw} {k : Nat} (h : k < l.length) : l.getD k Rw.zero ∈ l := by
  rw [show l.getD k Rw.zero = l[k] by simp [h]]
  exact List.getElem_mem _
/-- No text grows by more than what comes. -/
theorem takeF_txt (l : List Rw) (x : Ins) (m : Nat) (h : ∀ y, y ∈ l → y.t.length ≤ m) : ∀ y, y ∈ (takeF l x).1 → y.t.length ≤ m + x.dif.length := by
  intro y hy
  unfold takeF at hy
  split at hy
  · have := h y (thrK_mem _ _ _ (Nat.le_refl _) y hy); omega
  · rename_i h1
    split at hy
    · have := h y hy; omega
    · rename_i h2
      split at hy
      · have := h y hy; omega
      · have hy' := thrK_mem _ _ _ (Nat.le_refl _) y hy
        have hf : fstAt x.o l < l.length := by
          rcases Nat.lt_or_ge (fstAt x.o l) l.length with q | q
          · exact q
          · exact absurd (.inl (by omega)) h2
        rw [List.mem_append, List.mem_append, List.mem_singleton] at hy'
        rcases hy' with (hy' | hy') | hy'
        · unfold lowF at hy'; rw [selK_filter _ _ _ (Nat.le_refl _), List.take_length] at hy'
          have := h y (List.mem_filter.1 hy').1; omega
        · rw [hy']
          have := h _ (getD_mem hf)
          simp only [rowF, List.length_append]; omega
        · unfold highF at hy'; rw [selK_filter _ _ _ (Nat.le_refl _), List.take_length] at hy'
          have := h y (List.mem_filter.1 hy').1; omega
/-- How something lies is told by its own blocks. -/
def KeepR {α : Type} (R : World → (Nat → Prop) → Nat → α → Prop) : Prop :=
  (∀ w w' F p s, R w F p s → (∀ k, F k → w'.heap[k]? = w.heap[k]?) → R w' F p s) ∧ ∀ w F p s, R w F p s → ∀ k, F k → k < w.heap.size
theorem RcR.keepR : KeepR RcR := ⟨fun w w' F p s h hk => h.keep hk, fun w F p s h => h.lt⟩
theorem SnR.keepR : KeepR SnR := ⟨fun w w' F p s h hk => h.keep hk, fun w F p s h => h.lt⟩
/-- What one does leaves the other one. -/
theorem KeepR.other {α : Type} {R : World → (Nat → Prop) → Nat → α → Prop} (K : KeepR R) {w w' : World} {F F1 F' : Nat → Prop} {p : Nat} {s : α} (h : R w F p s) (hd : ∀ k, F k → ¬ F1 k) (ht : Tch F1 w w') (hn : ∀ k, F' k → F1 k ∨ w.heap.size ≤ k) : R w' F p s ∧ ∀ k, F k → ¬ F' k :=
  ⟨K.1 _ _ _ _ _ h fun k hk => ht.block k (K.2 _ _ _ _ h k hk) (hd k hk), fun k hk hk' => by
    have := K.2 _ _ _ _ h k hk
    rcases hn k hk' with q | q
    · exact hd k hk q
    · omega⟩
theorem KeepR.below {α : Type} {R : World → (Nat → Prop) → Nat → α → Prop} (K : KeepR R) {w w' : World} {F : Nat → Prop} {p : Nat} {s : α} (h : R w F p s) (hb : Below w.heap.size w w') : R w' F p s :=
  K.1 _ _ _ _ _ h fun k hk => hb.block k (K.2 _ _ _ _ h k hk)
/-- The slice v has the numbers ns. -/
def NumU (w : World) (v : Value) (ns : List UInt64) : Prop := ∃ a c, v = .slice a ns.length c ∧ ns.length ≤ c ∧ ∀ k, k < ns.length → ∃ b o, a = some ⟨b, o, none⟩ ∧ b < w.heap.size ∧ w.cell? ⟨b, o + k, none⟩ = some (uV (ns.getD k 0))
theorem NumU.below {w w' : World} {v : Value} {ns : List UInt64} (h : NumU w v ns) (hb : Below w.heap.size w w') : NumU w' v ns := by
  obtain ⟨a, c, h1, h2, h3⟩ := h
  refine ⟨a, c, h1, h2, fun k hk => ?_⟩
  obtain ⟨b, o, q1, q2, q3⟩ := h3 k hk
  exact ⟨b, o, q1, Nat.lt_of_lt_of_le q2 hb.size, by rw [hb.cell (p := ⟨b, o + k, none⟩) q2]; exact q3⟩
/-- What is asked of a receiver's making, taking, latest state, numbers. -/
def NewRC (f : Nat) (R : World → (Nat → Prop) → Nat → List Rw → Prop) : Prop := ∀ (t : List UInt8) (w : World), Calls Try.prog f #[.agg #[sT t]] w fun e w' => ∃ p F, e = .returned (.pointer (some ⟨p, 0, none⟩)) ∧ R w' F p [⟨0, t, 0⟩] ∧ Below w.heap.size w w' ∧ ∀ k, F k → w.heap.size ≤ k
def TakeRC (f : Nat) (R : World → (Nat → Prop) → Nat → List Rw → Prop) : Prop := ∀ (w : World) (F : Nat → Prop) (p N : Nat) (l : List Rw) (x : Ins) (vb : Value), R w F p l → 0 < l.length → l.length ≤ 32 → N ≤ w.heap.size → (∀ k, F k → N ≤ k) → InE N w vb x.dif → x.dif.length ≤ 4398046511104 → (∀ y, y ∈ l → y.t.length ≤ 4398046511104) →
  Calls Try.prog f #[.pointer (some ⟨p, 0, none⟩), .agg (insA x vb)] w fun e w' => ∃ F', e = .returned (.tuple #[.bool (takeF l x).2.1, .int .i64 (takeF l x).2.2]) ∧ R w' F' p (takeF l x).1 ∧ Tch F w w' ∧ ∀ k, F' k → F k ∨ w.heap.size ≤ k
def LateRC (f : Nat) (R : World → (Nat → Prop) → Nat → List Rw → Prop) : Prop := ∀ (w : World) (F : Nat → Prop) (p : Nat) (l : List Rw), R w F p l → 0 < l.length → l.length ≤ 32 →
  Calls Try.prog f #[.pointer (some ⟨p, 0, none⟩)] w fun e w' => e = .returned (.tuple #[uV (l.getD (l.length - 1) Rw.zero).n, .agg #[sT (l.getD (l.length - 1) Rw.zero).t]]) ∧ Below w.heap.size w w'
def HoldRC (f : Nat) (R : World → (Nat → Prop) → Nat → List Rw → Prop) : Prop := ∀ (w : World) (F : Nat → Prop) (p : Nat) (l : List Rw), R w F p l → 0 < l.length → l.length ≤ 32 →
  Calls Try.prog f #[.pointer (some ⟨p, 0, none⟩)] w fun e w' => ∃ v, e = .returned v ∧ NumU w' v (l.map (·.n)) ∧ Below w.heap.size w w'
end Go.Proofs.Ytikkekdmahdgaaa
