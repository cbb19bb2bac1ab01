/- The plain mathematics of the stable sort: merges that split, insertion, blocks. -/
namespace Go.Proofs.Ytcppfoolhkcfaaa.Gs

variable {α : Type} (k : α → Int)

def le (x y : α) : Bool := decide (k x ≤ k y)
def Srt (l : List α) : Prop := l.Pairwise fun x y => le k x y = true
def mg (xs ys : List α) : List α := List.merge xs ys (le k)
theorem le_trans' (a b c : α) : le k a b = true → le k b c = true → le k a c = true := by
  unfold le; simp only [decide_eq_true_eq]; omega
theorem le_total' (a b : α) : (le k a b || le k b a) = true := by
  unfold le; simp only [Bool.or_eq_true, decide_eq_true_eq]; omega
theorem mg_srt (xs ys : List α) (h1 : Srt k xs) (h2 : Srt k ys) : Srt k (mg k xs ys) := List.pairwise_merge (le_trans' k) (le_total' k) xs ys h1 h2
theorem mg_perm (xs ys : List α) : (mg k xs ys).Perm (xs ++ ys) := List.merge_perm_append _
theorem mg_len (xs ys : List α) : (mg k xs ys).length = xs.length + ys.length := List.length_merge _ _ _
theorem mg_nil (xs : List α) : mg k xs [] = xs := List.merge_right xs
theorem nil_mg (ys : List α) : mg k [] ys = ys := List.nil_merge ys
theorem mg_le (x y : α) (xs ys : List α) (h : k x ≤ k y) : mg k (x :: xs) (y :: ys) = x :: mg k xs (y :: ys) := by
  unfold mg; rw [List.cons_merge_cons, if_pos (show le k x y = true from decide_eq_true h)]
theorem mg_lt (x y : α) (xs ys : List α) (h : k y < k x) : mg k (x :: xs) (y :: ys) = y :: mg k (x :: xs) ys := by
  unfold mg; rw [List.cons_merge_cons, if_neg (by unfold le; simp; omega)]

theorem mg_splitN : ∀ (n : Nat) (xs1 ys1 xs2 ys2 : List α), xs1.length + ys1.length ≤ n → (∀ x ∈ xs1, ∀ y ∈ ys2, k x ≤ k y) → (∀ y ∈ ys1, ∀ x ∈ xs2, k y < k x) → mg k (xs1 ++ xs2) (ys1 ++ ys2) = mg k xs1 ys1 ++ mg k xs2 ys2
  | _, [], [], xs2, ys2, _, _, _ => by simp [nil_mg]
  | 0, _ :: _, _, _, _, hn, _, _ => by simp at hn
  | 0, _, _ :: _, _, _, hn, _, _ => by simp at hn
  | _ + 1, [], y :: ys1, [], ys2, _, _, _ => by simp [nil_mg]
  | n + 1, [], y :: ys1, x :: xs2, ys2, hn, h1, h2 => by
    have h := h2 y List.mem_cons_self x List.mem_cons_self
    have ih := mg_splitN n [] ys1 (x :: xs2) ys2 (by simp at hn ⊢; omega) (fun x hx => by cases hx) (fun y' hy' => h2 y' (List.mem_cons_of_mem _ hy'))
    rw [List.nil_append, List.cons_append, mg_lt k x y _ _ h, nil_mg]
    rw [List.nil_append, nil_mg] at ih
    rw [ih]; rfl
  | _ + 1, x :: xs1, [], xs2, [], _, _, _ => by simp [mg_nil]
  | n + 1, x :: xs1, [], xs2, y :: ys2, hn, h1, h2 => by
    have h := h1 x List.mem_cons_self y List.mem_cons_self
    have ih := mg_splitN n xs1 [] xs2 (y :: ys2) (by simp at hn ⊢; omega) (fun x' hx' => h1 x' (List.mem_cons_of_mem _ hx')) (fun y' hy' => by cases hy')
    rw [List.nil_append, List.cons_append, mg_le k x y _ _ h, mg_nil]
    rw [List.nil_append, mg_nil] at ih
    rw [ih]; rfl
  | n + 1, x :: xs1, y :: ys1, xs2, ys2, hn, h1, h2 => by
    by_cases h : k x ≤ k y
    · have ih := mg_splitN n xs1 (y :: ys1) xs2 ys2 (by simp at hn ⊢; omega) (fun x' hx' => h1 x' (List.mem_cons_of_mem _ hx')) h2
      rw [List.cons_append, List.cons_append, mg_le k x y _ _ h, mg_le k x y _ _ h]
      rw [List.cons_append] at ih
      rw [ih]; rfl
    · have h' : k y < k x := by omega
      have ih := mg_splitN n (x :: xs1) ys1 xs2 ys2 (by simp at hn ⊢; omega) h1 (fun y' hy' => h2 y' (List.mem_cons_of_mem _ hy'))
      rw [List.cons_append, List.cons_append, mg_lt k x y _ _ h', mg_lt k x y _ _ h']
      rw [List.cons_append] at ih
      rw [ih]; rfl
theorem mg_split (xs1 ys1 xs2 ys2 : List α) (h1 : ∀ x ∈ xs1, ∀ y ∈ ys2, k x ≤ k y) (h2 : ∀ y ∈ ys1, ∀ x ∈ xs2, k y < k x) : mg k (xs1 ++ xs2) (ys1 ++ ys2) = mg k xs1 ys1 ++ mg k xs2 ys2 :=
  mg_splitN k _ xs1 ys1 xs2 ys2 (Nat.le_refl _) h1 h2

theorem mg_app (xs ys : List α) (h : ∀ x ∈ xs, ∀ y ∈ ys, k x ≤ k y) : mg k xs ys = xs ++ ys := by
  have := mg_split k xs [] [] ys h (fun y hy => by cases hy)
  rw [List.append_nil, List.nil_append, mg_nil, nil_mg] at this
  exact this
theorem mg_swap (xs ys : List α) (h : ∀ y ∈ ys, ∀ x ∈ xs, k y < k x) : mg k xs ys = ys ++ xs := by
  have := mg_split k [] ys xs [] (fun x hx => by cases hx) h
  rw [List.nil_append, List.append_nil, nil_mg, mg_nil] at this
  exact this
theorem mg_one (p q : List α) (x : α) (h1 : ∀ y ∈ p, k y ≤ k x) (h2 : ∀ y ∈ q, k x < k y) : mg k (p ++ q) [x] = p ++ x :: q := by
  have := mg_split k p [x] q [] (fun y _ z hz => by cases hz) (fun z hz y hy => by rw [List.mem_singleton] at hz; subst hz; exact h2 y hy)
  rw [List.append_nil, mg_nil] at this
  rw [this, mg_app k p [x] (fun y hy z hz => by rw [List.mem_singleton] at hz; subst hz; exact h1 y hy)]
  simp

/-- insertion sort -/
def isr (l : List α) : List α := l.foldl (fun p x => mg k p [x]) []
theorem foldl_srt : ∀ (l p : List α), Srt k p → Srt k (l.foldl (fun p x => mg k p [x]) p)
  | [], _, h => h
  | x :: l, p, h => foldl_srt l _ (mg_srt k p [x] h (List.pairwise_singleton _ _))
theorem foldl_perm : ∀ (l p : List α), (l.foldl (fun p x => mg k p [x]) p).Perm (p ++ l)
  | [], p => by simp
  | x :: l, p => by
    have h1 := foldl_perm l (mg k p [x])
    have h2 := (mg_perm k p [x]).append_right l
    rw [List.append_assoc, List.singleton_append] at h2
    exact h1.trans h2
theorem isr_srt (l : List α) : Srt k (isr k l) := foldl_srt k l [] List.Pairwise.nil
theorem isr_perm (l : List α) : (isr k l).Perm l := by have := foldl_perm k l []; rwa [List.nil_append] at this
theorem isr_len (l : List α) : (isr k l).length = l.length := (isr_perm k l).length_eq
theorem isr_take (l : List α) (i : Nat) (h : i < l.length) : isr k (l.take (i + 1)) = mg k (isr k (l.take i)) [l[i]] := by
  unfold isr
  rw [List.take_succ_eq_append_getElem h, List.foldl_append]; rfl

/-- blocks of twenty, each sorted -/
def blk : Nat → List α → List α
  | 0, l => isr k l
  | f + 1, l => if 20 ≤ l.length then isr k (l.take 20) ++ blk f (l.drop 20) else isr k l
/-- blocks of b, merged in pairs -/
def pass (b : Nat) : Nat → List α → List α
  | 0, l => l
  | f + 1, l => if 2 * b ≤ l.length then mg k (l.take b) ((l.drop b).take b) ++ pass b f (l.drop (2 * b)) else if b < l.length then mg k (l.take b) (l.drop b) else l
def passes : Nat → Nat → List α → List α
  | 0, _, l => l
  | f + 1, b, l => if b < l.length then passes f (2 * b) (pass k b l.length l) else l
def srt (l : List α) : List α := passes k l.length 20 (blk k l.length l)

/-- each block of b is sorted -/
def BSn (b : Nat) : Nat → List α → Prop
  | 0, l => l.length ≤ b ∧ Srt k l
  | f + 1, l => (l.length ≤ b ∧ Srt k l) ∨ ∃ x r : List α, l = x ++ r ∧ x.length = b ∧ Srt k x ∧ BSn b f r
def BS (b : Nat) (l : List α) : Prop := ∃ f, BSn k b f l
variable {k} in
theorem BS.last {b : Nat} (l : List α) (h1 : l.length ≤ b) (h2 : Srt k l) : BS k b l := ⟨0, h1, h2⟩
variable {k} in
theorem BS.more {b : Nat} (x r : List α) (h1 : x.length = b) (h2 : Srt k x) (h3 : BS k b r) : BS k b (x ++ r) := by
  obtain ⟨f, hf⟩ := h3
  exact ⟨f + 1, Or.inr ⟨x, r, rfl, h1, h2, hf⟩⟩
theorem BS.ways {b : Nat} {l : List α} (h : BS k b l) : (l.length ≤ b ∧ Srt k l) ∨ ∃ x r : List α, l = x ++ r ∧ x.length = b ∧ Srt k x ∧ BS k b r := by
  obtain ⟨f, hf⟩ := h
  cases f with
  | zero => exact Or.inl hf
  | succ f =>
    rcases hf with hf | ⟨x, r, e, h1, h2, h3⟩
    · exact Or.inl hf
    · exact Or.inr ⟨x, r, e, h1, h2, f, h3⟩

theorem blk_perm : ∀ (f : Nat) (l : List α), (blk k f l).Perm l
  | 0, l => isr_perm k l
  | f + 1, l => by
    unfold blk
    split
    · have := (isr_perm k (l.take 20)).append (blk_perm f (l.drop 20))
      rwa [List.take_append_drop] at this
    · exact isr_perm k l
theorem blk_bs : ∀ (f : Nat) (l : List α), l.length ≤ f → BS k 20 (blk k f l)
  | 0, l, h => BS.last _ (by unfold blk; rw [isr_len]; omega) (isr_srt k l)
  | f + 1, l, h => by
    unfold blk
    split
    · rename_i h1
      exact BS.more _ _ (by rw [isr_len, List.length_take]; omega) (isr_srt k _) (blk_bs f _ (by rw [List.length_drop]; omega))
    · exact BS.last _ (by rw [isr_len]; omega) (isr_srt k l)
theorem pass_perm (b : Nat) : ∀ (f : Nat) (l : List α), (pass k b f l).Perm l
  | 0, l => List.Perm.refl _
  | f + 1, l => by
    unfold pass
    split
    · have h1 := (mg_perm k (l.take b) ((l.drop b).take b)).append (pass_perm b f (l.drop (2 * b)))
      have e : l.take b ++ (l.drop b).take b ++ l.drop (2 * b) = l := by
        rw [List.append_assoc, show l.drop (2 * b) = (l.drop b).drop b by rw [List.drop_drop]; congr 1; omega, List.take_append_drop, List.take_append_drop]
      rwa [e] at h1
    · split
      · have h1 := mg_perm k (l.take b) (l.drop b)
        rwa [List.take_append_drop] at h1
      · exact List.Perm.refl _
theorem BS.take_srt {b : Nat} {l : List α} (h : BS k b l) : Srt k (l.take b) ∧ BS k b (l.drop b) := by
  rcases h.ways with ⟨h1, h2⟩ | ⟨x, r, e, h1, h2, h3⟩
  · rw [List.take_of_length_le h1, List.drop_of_length_le h1]
    exact ⟨h2, BS.last _ (by simp) List.Pairwise.nil⟩
  · subst e
    subst h1
    rw [List.take_left, List.drop_left]
    exact ⟨h2, h3⟩
theorem pass_bs (b : Nat) (hb : 0 < b) : ∀ (f : Nat) (l : List α), l.length ≤ f → BS k b l → BS k (2 * b) (pass k b f l)
  | 0, l, h, _ => by
    have : l = [] := List.eq_nil_of_length_eq_zero (by omega)
    subst this
    exact BS.last _ (by simp [pass]) List.Pairwise.nil
  | f + 1, l, h, hs => by
    have h1 := hs.take_srt
    have h2 := h1.2.take_srt
    unfold pass
    split
    · rename_i h3
      refine BS.more _ _ ?_ (mg_srt k _ _ h1.1 h2.1) (pass_bs b hb f _ (by rw [List.length_drop]; omega) ?_)
      · rw [mg_len, List.length_take, List.length_take, List.length_drop]; omega
      · have := h2.2
        rw [List.drop_drop] at this
        rw [show 2 * b = b + b by omega]; exact this
    · rename_i h3
      split
      · rename_i h4
        refine BS.last _ (by rw [mg_len, List.length_take, List.length_drop]; omega) (mg_srt k _ _ h1.1 ?_)
        have := h2.1
        rwa [List.take_of_length_le (by rw [List.length_drop]; omega)] at this
      · have := h1.1
        rw [List.take_of_length_le (by omega)] at this
        exact BS.last _ (by omega) this
theorem passes_perm : ∀ (f b : Nat) (l : List α), (passes k f b l).Perm l
  | 0, _, l => List.Perm.refl _
  | f + 1, b, l => by
    unfold passes
    split
    · exact (passes_perm f (2 * b) _).trans (pass_perm k b _ l)
    · exact List.Perm.refl _
theorem passes_srt : ∀ (f b : Nat) (l : List α), 0 < b → l.length ≤ f + b → BS k b l → Srt k (passes k f b l)
  | 0, b, l, hb, h, hs => by
    unfold passes
    have := hs.take_srt.1
    rwa [List.take_of_length_le (by omega)] at this
  | f + 1, b, l, hb, h, hs => by
    unfold passes
    split
    · have hp := pass_perm k b l.length l
      exact passes_srt f (2 * b) _ (by omega) (by rw [hp.length_eq]; omega) (pass_bs k b hb _ l (Nat.le_refl _) hs)
    · have := hs.take_srt.1
      rwa [List.take_of_length_le (by omega)] at this
theorem srt_perm (l : List α) : (srt k l).Perm l := (passes_perm k _ _ _).trans (blk_perm k _ l)
theorem srt_srt (l : List α) : Srt k (srt k l) :=
  passes_srt k _ _ _ (by decide) (by rw [(blk_perm k _ l).length_eq]; omega) (blk_bs k _ l (Nat.le_refl _))
end Go.Proofs.Ytcppfoolhkcfaaa.Gs
