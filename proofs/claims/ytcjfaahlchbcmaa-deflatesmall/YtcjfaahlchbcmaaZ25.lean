/- The plain mathematics of the stable sort: merges that split, insertion, blocks. -/
import Derived.Test.YtcjfaahlchbcmaaZ15
import Derived.Laws.AppendOwn
import Derived.Test.YtcjfaahlchbcmaaZ05
import Derived.Test.YtcjfaahlchbcmaaZ01
import Derived.Test.YtcjfaahlchbcmaaZ11
import Derived.Test.YtcjfaahlchbcmaaZ08
import Derived.Test.YtcjfaahlchbcmaaZ07
import Derived.BigRegion
namespace Go.Proofs.Ytcjfaahlchbcmaa.Gs

variable {α : Type} (k : α → Int)

def le (x y : α) : Bool := decide (k x ≤ k y)
def Srt (l : List α) : Prop := l.Pairwise fun x y => le k x y = true
def mg (xs ys : List α) : List α := List.merge xs ys (le k)
set_option maxRecDepth 100000 in
theorem le_trans' (a b c : α) : le k a b = true → le k b c = true → le k a c = true := by
  unfold le; simp only [decide_eq_true_eq]; omega
set_option maxRecDepth 100000 in
theorem le_total' (a b : α) : (le k a b || le k b a) = true := by
  unfold le; simp only [Bool.or_eq_true, decide_eq_true_eq]; omega
set_option maxRecDepth 100000 in
theorem mg_srt (xs ys : List α) (h1 : Srt k xs) (h2 : Srt k ys) : Srt k (mg k xs ys) := List.pairwise_merge (le_trans' k) (le_total' k) xs ys h1 h2
set_option maxRecDepth 100000 in
theorem mg_perm (xs ys : List α) : (mg k xs ys).Perm (xs ++ ys) := List.merge_perm_append _
set_option maxRecDepth 100000 in
theorem mg_len (xs ys : List α) : (mg k xs ys).length = xs.length + ys.length := List.length_merge _ _ _
set_option maxRecDepth 100000 in
theorem mg_nil (xs : List α) : mg k xs [] = xs := List.merge_right xs
set_option maxRecDepth 100000 in
theorem nil_mg (ys : List α) : mg k [] ys = ys := List.nil_merge ys
set_option maxRecDepth 100000 in
theorem mg_le (x y : α) (xs ys : List α) (h : k x ≤ k y) : mg k (x :: xs) (y :: ys) = x :: mg k xs (y :: ys) := by
  unfold mg; rw [List.cons_merge_cons, if_pos (show le k x y = true from decide_eq_true h)]
set_option maxRecDepth 100000 in
theorem mg_lt (x y : α) (xs ys : List α) (h : k y < k x) : mg k (x :: xs) (y :: ys) = y :: mg k (x :: xs) ys := by
  unfold mg; rw [List.cons_merge_cons, if_neg (by unfold le; simp; omega)]

set_option maxRecDepth 100000 in
theorem mg_splitN : ∀ (n : Nat) (xs1 ys1 xs2 ys2 : List α), xs1.length + ys1.length ≤ n → (∀ x ∈ xs1, ∀ y ∈ ys2, k x ≤ k y) → (∀ y ∈ ys1, ∀ x ∈ xs2, k y < k x) → mg k (xs1 ++ xs2) (ys1 ++ ys2) = mg k xs1 ys1 ++ mg k xs2 ys2
  | _, [], [], xs2, ys2, _, _, _ => by simp [nil_mg]
  | 0, _ :: _, _, _, _, hn, _, _ => by simp at hn
  | 0, _, _ :: _, _, _, hn, _, _ => by simp at hn
  | _ + 1, [], y :: ys1, [], ys2, _, _, _ => by simp [nil_mg]
  | n + 1, [], y :: ys1, x :: xs2, ys2, hn, h1, h2 => by
    have h := h2 y List.mem_cons_self x List.mem_cons_self
    have ih := mg_splitN n [] ys1 (x :: xs2) ys2 (by simp at hn ⊢; omega) (fun x hx => by cases hx) (fun y' hy' => h2 y' (List.mem_cons_of_mem _ hy'))
    rw [List.nil_append, List.cons_append, mg_lt k x y _ _ h, nil_mg]
    rw [List.nil_append, nil_mg] at ih
    rw [ih]; rfl
  | _ + 1, x :: xs1, [], xs2, [], _, _, _ => by simp [mg_nil]
  | n + 1, x :: xs1, [], xs2, y :: ys2, hn, h1, h2 => by
    have h := h1 x List.mem_cons_self y List.mem_cons_self
    have ih := mg_splitN n xs1 [] xs2 (y :: ys2) (by simp at hn ⊢; omega) (fun x' hx' => h1 x' (List.mem_cons_of_mem _ hx')) (fun y' hy' => by cases hy')
    rw [List.nil_append, List.cons_append, mg_le k x y _ _ h, mg_nil]
    rw [List.nil_append, mg_nil] at ih
    rw [ih]; rfl
  | n + 1, x :: xs1, y :: ys1, xs2, ys2, hn, h1, h2 => by
    by_cases h : k x ≤ k y
    · have ih := mg_splitN n xs1 (y :: ys1) xs2 ys2 (by simp at hn ⊢; omega) (fun x' hx' => h1 x' (List.mem_cons_of_mem _ hx')) h2
      rw [List.cons_append, List.cons_append, mg_le k x y _ _ h, mg_le k x y _ _ h]
      rw [List.cons_append] at ih
      rw [ih]; rfl
    · have h' : k y < k x := by omega
      have ih := mg_splitN n (x :: xs1) ys1 xs2 ys2 (by simp at hn ⊢; omega) h1 (fun y' hy' => h2 y' (List.mem_cons_of_mem _ hy'))
      rw [List.cons_append, List.cons_append, mg_lt k x y _ _ h', mg_lt k x y _ _ h']
      rw [List.cons_append] at ih
      rw [ih]; rfl
theorem mg_split (xs1 ys1 xs2 ys2 : List α) (h1 : ∀ x ∈ xs1, ∀ y ∈ ys2, k x ≤ k y) (h2 : ∀ y ∈ ys1, ∀ x ∈ xs2, k y < k x) : mg k (xs1 ++ xs2) (ys1 ++ ys2) = mg k xs1 ys1 ++ mg k xs2 ys2 :=
  mg_splitN k _ xs1 ys1 xs2 ys2 (Nat.le_refl _) h1 h2

theorem mg_app (xs ys : List α) (h : ∀ x ∈ xs, ∀ y ∈ ys, k x ≤ k y) : mg k xs ys = xs ++ ys := by
  have := mg_split k xs [] [] ys h (fun y hy => by cases hy)
  rw [List.append_nil, List.nil_append, mg_nil, nil_mg] at this
  exact this
set_option maxRecDepth 100000 in
theorem mg_swap (xs ys : List α) (h : ∀ y ∈ ys, ∀ x ∈ xs, k y < k x) : mg k xs ys = ys ++ xs := by
  have := mg_split k [] ys xs [] (fun x hx => by cases hx) h
  rw [List.nil_append, List.append_nil, nil_mg, mg_nil] at this
  exact this
set_option maxRecDepth 100000 in
theorem mg_one (p q : List α) (x : α) (h1 : ∀ y ∈ p, k y ≤ k x) (h2 : ∀ y ∈ q, k x < k y) : mg k (p ++ q) [x] = p ++ x :: q := by
  have := mg_split k p [x] q [] (fun y _ z hz => by cases hz) (fun z hz y hy => by rw [List.mem_singleton] at hz; subst hz; exact h2 y hy)
  rw [List.append_nil, mg_nil] at this
  rw [this, mg_app k p [x] (fun y hy z hz => by rw [List.mem_singleton] at hz; subst hz; exact h1 y hy)]
  simp

/-- insertion sort -/
def isr (l : List α) : List α := l.foldl (fun p x => mg k p [x]) []
set_option maxRecDepth 100000 in
theorem foldl_srt : ∀ (l p : List α), Srt k p → Srt k (l.foldl (fun p x => mg k p [x]) p)
  | [], _, h => h
  | x :: l, p, h => foldl_srt l _ (mg_srt k p [x] h (List.pairwise_singleton _ _))
set_option maxRecDepth 100000 in
theorem foldl_perm : ∀ (l p : List α), (l.foldl (fun p x => mg k p [x]) p).Perm (p ++ l)
  | [], p => by simp
  | x :: l, p => by
    have h1 := foldl_perm l (mg k p [x])
    have h2 := (mg_perm k p [x]).append_right l
    rw [List.append_assoc, List.singleton_append] at h2
    exact h1.trans h2
set_option maxRecDepth 100000 in
theorem isr_srt (l : List α) : Srt k (isr k l) := foldl_srt k l [] List.Pairwise.nil
set_option maxRecDepth 100000 in
theorem isr_perm (l : List α) : (isr k l).Perm l := by have := foldl_perm k l []; rwa [List.nil_append] at this
set_option maxRecDepth 100000 in
theorem isr_len (l : List α) : (isr k l).length = l.length := (isr_perm k l).length_eq
set_option maxRecDepth 100000 in
theorem isr_take (l : List α) (i : Nat) (h : i < l.length) : isr k (l.take (i + 1)) = mg k (isr k (l.take i)) [l[i]] := by
  unfold isr
  rw [List.take_succ_eq_append_getElem h, List.foldl_append]; rfl

/-- blocks of twenty, each sorted -/
def blk : Nat → List α → List α
  | 0, l => isr k l
  | f + 1, l => if 20 ≤ l.length then isr k (l.take 20) ++ blk f (l.drop 20) else isr k l
/-- blocks of b, merged in pairs -/
def pass (b : Nat) : Nat → List α → List α
  | 0, l => l
  | f + 1, l => if 2 * b ≤ l.length then mg k (l.take b) ((l.drop b).take b) ++ pass b f (l.drop (2 * b)) else if b < l.length then mg k (l.take b) (l.drop b) else l
def passes : Nat → Nat → List α → List α
  | 0, _, l => l
  | f + 1, b, l => if b < l.length then passes f (2 * b) (pass k b l.length l) else l
def srt (l : List α) : List α := passes k l.length 20 (blk k l.length l)

/-- each block of b is sorted -/
def BSn (b : Nat) : Nat → List α → Prop
  | 0, l => l.length ≤ b ∧ Srt k l
  | f + 1, l => (l.length ≤ b ∧ Srt k l) ∨ ∃ x r : List α, l = x ++ r ∧ x.length = b ∧ Srt k x ∧ BSn b f r
def BS (b : Nat) (l : List α) : Prop := ∃ f, BSn k b f l
variable {k} in
theorem BS.last {b : Nat} (l : List α) (h1 : l.length ≤ b) (h2 : Srt k l) : BS k b l := ⟨0, h1, h2⟩
variable {k} in
theorem BS.more {b : Nat} (x r : List α) (h1 : x.length = b) (h2 : Srt k x) (h3 : BS k b r) : BS k b (x ++ r) := by
  obtain ⟨f, hf⟩ := h3
  exact ⟨f + 1, Or.inr ⟨x, r, rfl, h1, h2, hf⟩⟩
theorem BS.ways {b : Nat} {l : List α} (h : BS k b l) : (l.length ≤ b ∧ Srt k l) ∨ ∃ x r : List α, l = x ++ r ∧ x.length = b ∧ Srt k x ∧ BS k b r := by
  obtain ⟨f, hf⟩ := h
  cases f with
  | zero => exact Or.inl hf
  | succ f =>
    rcases hf with hf | ⟨x, r, e, h1, h2, h3⟩
    · exact Or.inl hf
    · exact Or.inr ⟨x, r, e, h1, h2, f, h3⟩

theorem blk_perm : ∀ (f : Nat) (l : List α), (blk k f l).Perm l
  | 0, l => isr_perm k l
  | f + 1, l => by
    unfold blk
    split
    · have := (isr_perm k (l.take 20)).append (blk_perm f (l.drop 20))
      rwa [List.take_append_drop] at this
    · exact isr_perm k l
set_option maxRecDepth 100000 in
theorem blk_bs : ∀ (f : Nat) (l : List α), l.length ≤ f → BS k 20 (blk k f l)
  | 0, l, h => BS.last _ (by unfold blk; rw [isr_len]; omega) (isr_srt k l)
  | f + 1, l, h => by
    unfold blk
    split
    · rename_i h1
      exact BS.more _ _ (by rw [isr_len, List.length_take]; omega) (isr_srt k _) (blk_bs f _ (by rw [List.length_drop]; omega))
    · exact BS.last _ (by rw [isr_len]; omega) (isr_srt k l)
set_option maxRecDepth 100000 in
theorem pass_perm (b : Nat) : ∀ (f : Nat) (l : List α), (pass k b f l).Perm l
  | 0, l => List.Perm.refl _
  | f + 1, l => by
    unfold pass
    split
    · have h1 := (mg_perm k (l.take b) ((l.drop b).take b)).append (pass_perm b f (l.drop (2 * b)))
      have e : l.take b ++ (l.drop b).take b ++ l.drop (2 * b) = l := by
        rw [List.append_assoc, show l.drop (2 * b) = (l.drop b).drop b by rw [List.drop_drop]; congr 1; omega, List.take_append_drop, List.take_append_drop]
      rwa [e] at h1
    · split
      · have h1 := mg_perm k (l.take b) (l.drop b)
        rwa [List.take_append_drop] at h1
      · exact List.Perm.refl _
set_option maxRecDepth 100000 in
theorem BS.take_srt {b : Nat} {l : List α} (h : BS k b l) : Srt k (l.take b) ∧ BS k b (l.drop b) := by
  rcases h.ways with ⟨h1, h2⟩ | ⟨x, r, e, h1, h2, h3⟩
  · rw [List.take_of_length_le h1, List.drop_of_length_le h1]
    exact ⟨h2, BS.last _ (by simp) List.Pairwise.nil⟩
  · subst e
    subst h1
    rw [List.take_left, List.drop_left]
    exact ⟨h2, h3⟩
theorem pass_bs (b : Nat) (hb : 0 < b) : ∀ (f : Nat) (l : List α), l.length ≤ f → BS k b l → BS k (2 * b) (pass k b f l)
  | 0, l, h, _ => by
    have : l = [] := List.eq_nil_of_length_eq_zero (by omega)
    subst this
    exact BS.last _ (by simp [pass]) List.Pairwise.nil
  | f + 1, l, h, hs => by
    have h1 := hs.take_srt
    have h2 := h1.2.take_srt
    unfold pass
    split
    · rename_i h3
      refine BS.more _ _ ?_ (mg_srt k _ _ h1.1 h2.1) (pass_bs b hb f _ (by rw [List.length_drop]; omega) ?_)
      · rw [mg_len, List.length_take, List.length_take, List.length_drop]; omega
      · have := h2.2
        rw [List.drop_drop] at this
        rw [show 2 * b = b + b by omega]; exact this
    · rename_i h3
      split
      · rename_i h4
        refine BS.last _ (by rw [mg_len, List.length_take, List.length_drop]; omega) (mg_srt k _ _ h1.1 ?_)
        have := h2.1
        rwa [List.take_of_length_le (by rw [List.length_drop]; omega)] at this
      · have := h1.1
        rw [List.take_of_length_le (by omega)] at this
        exact BS.last _ (by omega) this
set_option maxRecDepth 100000 in
theorem passes_perm : ∀ (f b : Nat) (l : List α), (passes k f b l).Perm l
  | 0, _, l => List.Perm.refl _
  | f + 1, b, l => by
    unfold passes
    split
    · exact (passes_perm f (2 * b) _).trans (pass_perm k b _ l)
    · exact List.Perm.refl _
set_option maxRecDepth 100000 in
theorem passes_srt : ∀ (f b : Nat) (l : List α), 0 < b → l.length ≤ f + b → BS k b l → Srt k (passes k f b l)
  | 0, b, l, hb, h, hs => by
    unfold passes
    have := hs.take_srt.1
    rwa [List.take_of_length_le (by omega)] at this
  | f + 1, b, l, hb, h, hs => by
    unfold passes
    split
    · have hp := pass_perm k b l.length l
      exact passes_srt f (2 * b) _ (by omega) (by rw [hp.length_eq]; omega) (pass_bs k b hb _ l (Nat.le_refl _) hs)
    · have := hs.take_srt.1
      rwa [List.take_of_length_le (by omega)] at this
set_option maxRecDepth 100000 in
theorem srt_perm (l : List α) : (srt k l).Perm l := (passes_perm k _ _ _).trans (blk_perm k _ l)
set_option maxRecDepth 100000 in
theorem srt_srt (l : List α) : Srt k (srt k l) :=
  passes_srt k _ _ _ (by decide) (by rw [(blk_perm k _ l).length_eq]; omega) (blk_bs k _ l (Nat.le_refl _))
end Go.Proofs.Ytcjfaahlchbcmaa.Gs

/- Numbers in a block of one's own, turned about. -/
namespace Go.Proofs.Ytcjfaahlchbcmaa
open Go.RowKit Go.BigFrame

set_option maxRecDepth 100000 in
theorem get_mid {α : Type} (A R : List α) (x d : α) : (A ++ x :: R).getD A.length d = x := by simp
set_option maxRecDepth 100000 in
theorem set_mid {α : Type} (A R : List α) (x y : α) : (A ++ x :: R).set A.length y = A ++ y :: R := by simp
/-- Two numbers are swapped. -/
theorem SegI.swap {w : World} {g : Nat} {A M Z : List Int} {x y : Int} (h : SegI w g (A ++ x :: (M ++ y :: Z))) (i j : Nat) (hi : i = A.length) (hj : j = A.length + 1 + M.length) :
    SegI ((w.setCell ⟨g, i, none⟩ (.int .i64 y)).setCell ⟨g, j, none⟩ (.int .i64 x)) g (A ++ y :: (M ++ x :: Z)) := by
  subst hi hj
  have h1 := h.set A.length y (by simp)
  rw [set_mid] at h1
  have h2 := h1.set (A.length + 1 + M.length) x (by simp; omega)
  have e : (A ++ y :: (M ++ y :: Z)) = (A ++ y :: M) ++ y :: Z := by simp
  rw [e, show A.length + 1 + M.length = (A ++ y :: M).length by simp; omega, set_mid] at h2
  rw [show (A ++ y :: M).length = A.length + 1 + M.length by simp; omega] at h2
  simpa using h2
set_option maxRecDepth 100000 in
theorem SegI.swap' {w : World} {g : Nat} {A M Z : List Int} {x y : Int} (h : SegI w g (A ++ x :: (M ++ y :: Z))) (i j : Nat) (hi : i = A.length) (hj : j = A.length + 1 + M.length) :
    SegI ((w.setCell ⟨g, j, none⟩ (.int .i64 x)).setCell ⟨g, i, none⟩ (.int .i64 y)) g (A ++ y :: (M ++ x :: Z)) := by
  subst hi hj
  have e : (A ++ x :: (M ++ y :: Z)) = (A ++ x :: M) ++ y :: Z := by simp
  have h0 := h
  rw [e] at h0
  have h1 := h0.set (A ++ x :: M).length x (by simp)
  rw [set_mid] at h1
  rw [show (A ++ x :: M) ++ x :: Z = A ++ x :: (M ++ x :: Z) by simp] at h1
  have h2 := h1.set A.length y (by simp)
  rw [set_mid, show (A ++ x :: M).length = A.length + 1 + M.length by simp; omega] at h2
  exact h2

end Go.Proofs.Ytcjfaahlchbcmaa

/- The walks of swapRange and rotate, for numbers. -/
namespace Go.Proofs.Ytcjfaahlchbcmaa
open Go.RowKit Go.BigFrame

set_option maxRecDepth 100000 in
theorem results95 (T : Array Value) (w : World) : (results Try.f95 T).run Try.prog w = .ok (.tuple #[]) w := by
  unfold results
  simp [go_sem]
set_option maxRecDepth 100000 in
set_option maxHeartbeats 2000000 in
theorem swapI_any (g c : Nat) (cf : Value) (A X M Y Z : List Int) (n a b N : Nat) (hX : X.length = n) (hY : Y.length = n) (ha : A.length = a) (hb : A.length + n + M.length = b) (hN : N = A.length + n + M.length + n + Z.length) (hN2 : N ≤ 4096) (w : World) (h : SegI w g (A ++ (X ++ (M ++ (Y ++ Z))))) :
    Calls Try.prog 95 #[.slice (some ⟨g, 0, none⟩) N c, .int .i64 (a : Int), .int .i64 (b : Int), .int .i64 (n : Int), cf] w fun e w' => e = .returned (.tuple #[]) ∧ SegI w' g (A ++ (Y ++ (M ++ (X ++ Z)))) ∧ Gb g w w' := by
  go_enter Try.func95, Try.ntmps95
  go_wp2_with fail
  go_loopw [10] (fun i wr => ∃ (t : Nat) (X1 X2 Y1 Y2 : List Int), t ≤ n ∧ i = .int .i64 (t : Int) ∧ Box' (X = X1 ++ X2) ∧ Box' (Y = Y1 ++ Y2) ∧ X1.length = t ∧ Y1.length = t ∧ SegI wr g (A ++ (Y1 ++ (X2 ++ (M ++ (X1 ++ (Y2 ++ Z)))))) ∧ Gb g w wr) (fun i _ => n - (intOf i).toNat)
  case atStart => exact ⟨0, [], X, [], Y, by omega, rfl, ⟨rfl⟩, ⟨rfl⟩, rfl, rfl, by simpa using h, Gb.refl _ _⟩
  case round =>
    obtain ⟨t, X1, X2, Y1, Y2, ht, rfl, HX, HY, l1, l2, hs, hg⟩ := hrel
    by_cases hlt : t < n
    · cases X2 with
      | nil => have := HX.out; subst this; simp at hX; omega
      | cons x X2 =>
        cases Y2 with
        | nil => have := HY.out; subst this; simp at hY; omega
        | cons y Y2 =>
          have hx2 : X2.length = n - t - 1 := by have := HX.out; subst this; simp at hX; omega
          have hs' : SegI wr g ((A ++ Y1) ++ x :: ((X2 ++ (M ++ X1)) ++ y :: (Y2 ++ Z))) := by simpa using hs
          have hy2 : Y2.length = n - t - 1 := by have := HY.out; subst this; simp at hY; omega
          have hlen : ((A ++ Y1) ++ x :: ((X2 ++ (M ++ X1)) ++ y :: (Y2 ++ Z))).length = N := by simp; omega
          have c0 := hs'.cell (k := a + t) (by rw [hlen]; omega)
          have c1 := hs'.cell (k := b + t) (by rw [hlen]; omega)
          rw [show a + t = (A ++ Y1).length by simp; omega, get_mid] at c0
          rw [show (A ++ Y1) ++ x :: ((X2 ++ (M ++ X1)) ++ y :: (Y2 ++ Z)) = ((A ++ Y1) ++ x :: (X2 ++ (M ++ X1))) ++ y :: (Y2 ++ Z) by simp, show b + t = ((A ++ Y1) ++ x :: (X2 ++ (M ++ X1))).length by simp; omega, get_mid] at c1
          rw [show (A ++ Y1).length = a + t by simp; omega] at c0
          rw [show ((A ++ Y1) ++ x :: (X2 ++ (M ++ X1))).length = b + t by simp; omega] at c1
          have f0 := hs'.frozen (a + t)
          have f1 := hs'.frozen (b + t)
          have hsw := hs'.swap (a + t) (b + t) (by simp; omega) (by simp; omega)
          have hg2 := (hg.setCell (a + t) (.int .i64 y)).setCell (b + t) (.int .i64 x)
          have hat : a + t < N := by omega
          have hbt : b + t < N := by omega
          clear hs hs' hlen h
          go_wp2_with fail
          go_region
          go_wp2_with fail
          refine ⟨⟨t + 1, X1 ++ [x], X2, Y1 ++ [y], Y2, by omega, by go_num, ⟨by rw [HX.out]; simp⟩, ⟨by rw [HY.out]; simp⟩, by simp [l1], by simp [l2], by simpa using hsw.drew, hg2.drew⟩, by simp [intOf]; omega⟩
    · obtain rfl : t = n := by omega
      have hx2 : X2 = [] := by have := HX.out; subst this; simp at hX; exact List.eq_nil_of_length_eq_zero (by omega)
      have hy2 : Y2 = [] := by have := HY.out; subst this; simp at hY; exact List.eq_nil_of_length_eq_zero (by omega)
      subst hx2 hy2
      have hs2 : SegI wr g (A ++ (Y ++ (M ++ (X ++ Z)))) := by
        have e1 := HX.out
        have e2 := HY.out
        rw [List.append_nil] at e1 e2
        rw [e1, e2]; simpa using hs
      clear hs HX HY
      go_wp2_with fail
      exact ⟨rfl, _, results95 _ _, rfl, hs2, hg⟩

set_option maxRecDepth 100000 in
theorem results92 (T : Array Value) (w : World) : (results Try.f92 T).run Try.prog w = .ok (.tuple #[]) w := by
  unfold results
  simp [go_sem]
set_option maxRecDepth 100000 in
set_option maxHeartbeats 2000000 in
theorem rotI_any (g c : Nat) (cf : Value) (A X Y Z : List Int) (a m b N : Nat) (ha : A.length = a) (hm : A.length + X.length = m) (hb : A.length + X.length + Y.length = b) (hN : N = A.length + X.length + Y.length + Z.length) (hN2 : N ≤ 4096) (hX : 0 < X.length) (hY : 0 < Y.length) (w : World) (h : SegI w g (A ++ (X ++ (Y ++ Z)))) :
    Calls Try.prog 92 #[.slice (some ⟨g, 0, none⟩) N c, .int .i64 (a : Int), .int .i64 (m : Int), .int .i64 (b : Int), cf] w fun e w' => e = .returned (.tuple #[]) ∧ SegI w' g (A ++ (Y ++ (X ++ Z))) ∧ Gb g w w' := by
  have e1 : (m : Int) - (a : Int) = ((m - a : Nat) : Int) := by omega
  have e2 : (b : Int) - (m : Int) = ((b - m : Nat) : Int) := by omega
  have hma : X.length = m - a := by omega
  have hbm : Y.length = b - m := by omega
  have K1 := Box'.mk hma
  have K2 := Box'.mk hbm
  have K3 : Box' (A.length + 0 + (m - a) = m) := ⟨by omega⟩
  have K4 : Box' (N = m + (b - m) + 0 + Z.length) := ⟨by omega⟩
  have K5 : 1 ≤ m - a := by omega
  have K6 : 1 ≤ b - m := by omega
  have E1 := Box'.mk e1
  have E2 := Box'.mk e2
  have hNm : m ≤ 4096 := by omega
  have hNb : b ≤ 4096 := by omega
  have hma' : a ≤ m := by omega
  have hmb' : m ≤ b := by omega
  clear ha hm hb hN hX hY e1 e2 hma hbm
  go_enter Try.func92, Try.ntmps92
  go_wp2_with fail
  go_loopw [10, 11] (fun u v wr => ∃ (i j : Nat) (P X' Y' S : List Int), u = .int .i64 (i : Int) ∧ v = .int .i64 (j : Int) ∧ X'.length = i ∧ Y'.length = j ∧ 1 ≤ i ∧ 1 ≤ j ∧ Box' (A.length + P.length + i = m) ∧ Box' (N = m + j + S.length + Z.length) ∧ i ≤ m ∧ m + j ≤ 4096 ∧ SegI wr g (A ++ (P ++ (X' ++ (Y' ++ (S ++ Z))))) ∧ Box' (Y ++ X = P ++ (Y' ++ (X' ++ S))) ∧ Gb g w wr) (fun u v _ => (intOf u).toNat + (intOf v).toNat)
  case atStart => exact ⟨m - a, b - m, [], X, Y, [], by rw [E1.out], by rw [E2.out], K1.out, K2.out, K5, K6, ⟨K3.out⟩, ⟨K4.out⟩, by omega, by omega, by simpa using h, ⟨by simp⟩, Gb.refl _ _⟩
  case round =>
    obtain ⟨i, j, P, X', Y', S, rfl, rfl, l1, l2, h1, h2, H3, H4, him, hmj, hs, HB, hg⟩ := hrel
    have h3 := H3.out
    have h4 := H4.out
    clear h
    by_cases hij : i = j
    · subst hij
      have hsw := swapI_any g c cf (A ++ P) X' [] Y' (S ++ Z) i (m - i) m N l1 l2 (by simp; omega) (by simp; omega) (by simp; omega) hN2 wr (by simpa using hs)
      rw [show ((m - i : Nat) : Int) = (m : Int) - (i : Int) by omega] at hsw
      clear hs h3 h4 l1 l2
      go_wp2_with fail
      refine hsw.mono ?_
      rintro e w2 ⟨rfl, s2, g2⟩
      have hs2 : SegI w2 g (A ++ (Y ++ (X ++ Z))) := by
        rw [show A ++ (Y ++ (X ++ Z)) = A ++ ((Y ++ X) ++ Z) by simp, HB.out]; simpa using s2
      have hg2 := hg.trans g2
      clear hsw s2 g2 HB
      go_wp2_with fail
      exact ⟨rfl, _, results92 _ _, rfl, hs2, hg2⟩
    · have i0 : ((i : Int) == (j : Int)) = false := by rw [beq_eq_false_iff_ne]; omega
      by_cases hgt : j < i
      · obtain ⟨X1, X2, e1, e2⟩ : ∃ X1 X2, X' = X1 ++ X2 ∧ X1.length = j := ⟨X'.take j, X'.drop j, (List.take_append_drop _ _).symm, by rw [List.length_take]; omega⟩
        subst e1
        have l3 : X2.length = i - j := by simp at l1; omega
        have L2 := Box'.mk l2
        have hsw := swapI_any g c cf (A ++ P) X1 X2 Y' (S ++ Z) j (m - i) m N e2 l2 (by simp; omega) (by simp; omega) (by simp; omega) hN2 wr (by simpa using hs)
        rw [show ((m - i : Nat) : Int) = (m : Int) - (i : Int) by omega] at hsw
        have i1 : (j : Int) < (i : Int) := by omega
        clear hs h3 h4 l1 l2
        go_wp2_with fail
        refine hsw.mono ?_
        rintro e w2 ⟨rfl, s2, g2⟩
        have hg2 := hg.trans g2
        clear hsw g2
        go_wp2_with fail
        have h3 := H3.out
        have h4 := H4.out
        have l2 := L2.out
        exact ⟨⟨i - j, j, P ++ Y', X2, X1, S, by congr 1; omega, rfl, l3, e2, by omega, by omega, ⟨by simp; omega⟩, ⟨by omega⟩, by omega, by omega, by simpa using s2, ⟨by rw [HB.out]; simp⟩, hg2⟩, by simp [intOf]; omega⟩
      · obtain ⟨Y1, Y2, e1, e2⟩ : ∃ Y1 Y2, Y' = Y1 ++ Y2 ∧ Y1.length = j - i := ⟨Y'.take (j - i), Y'.drop (j - i), (List.take_append_drop _ _).symm, by rw [List.length_take]; omega⟩
        subst e1
        have l3 : Y2.length = i := by simp at l2; omega
        have hsw := swapI_any g c cf (A ++ P) X' Y1 Y2 (S ++ Z) i (m - i) (m + j - i) N l1 l3 (by simp; omega) (by simp; omega) (by simp; omega) hN2 wr (by simpa using hs)
        rw [show ((m - i : Nat) : Int) = (m : Int) - (i : Int) by omega, show ((m + j - i : Nat) : Int) = (m : Int) + (j : Int) - (i : Int) by omega] at hsw
        have i1 : ¬ (j : Int) < (i : Int) := by omega
        have L1 := Box'.mk l1
        clear hs h3 h4 l1 l2
        go_wp2_with fail
        refine hsw.mono ?_
        rintro e w2 ⟨rfl, s2, g2⟩
        have hg2 := hg.trans g2
        clear hsw g2
        go_wp2_with fail
        have h3 := H3.out
        have h4 := H4.out
        have l1 := L1.out
        exact ⟨⟨i, j - i, P, Y2, Y1, X' ++ S, rfl, by congr 1; omega, l3, e2, by omega, by omega, ⟨by omega⟩, ⟨by simp; omega⟩, by omega, by omega, by simpa using s2, ⟨by rw [HB.out]; simp⟩, hg2⟩, by simp [intOf]; omega⟩
end Go.Proofs.Ytcjfaahlchbcmaa

/- The walks of what compares: cmp.Compare, coming's and offered's. -/
namespace Go.Proofs.Ytcjfaahlchbcmaa
open Go.RowKit Go.BigFrame

def sg (x y : Int) : Int := if x < y then -1 else if y < x then 1 else 0
set_option maxRecDepth 100000 in
theorem sg_lt (x y : Int) : decide (sg x y < 0) = decide (x < y) := by
  unfold sg
  split
  · rename_i h; simp [h]
  · rename_i h
    split
    · simp [h]
    · simp [h]
set_option maxRecDepth 100000 in
theorem isNaN_any (x : Int) (w : World) : Calls Try.prog 84 #[.int .i64 x] w fun e w' => e = .returned (.bool false) ∧ w' = w := by
  go_enter Try.func84, Try.ntmps84
  go_wp2
  go_ret
  exact ⟨rfl, rfl⟩
set_option maxRecDepth 100000 in
theorem compare_any (x y : Int) (w : World) : Calls Try.prog 75 #[.int .i64 x, .int .i64 y] w fun e w' => e = .returned (.int .i64 (sg x y)) ∧ w' = w := by
  have h1 := fun w => isNaN_any x w
  have h2 := fun w => isNaN_any y w
  unfold sg
  by_cases hlt : x < y
  · rw [if_pos hlt]
    go_enter Try.func75, Try.ntmps75
    go_wp2_with (go_at_call 84; first | (refine (h1 _).mono ?_; rintro e w' ⟨rfl, hw'⟩; rw [hw']) | (refine (h2 _).mono ?_; rintro e w' ⟨rfl, hw'⟩; rw [hw']))
    go_ret
    exact ⟨rfl, rfl⟩
  · rw [if_neg hlt]
    by_cases hgt : y < x
    · rw [if_pos hgt]
      go_enter Try.func75, Try.ntmps75
      go_wp2_with (go_at_call 84; first | (refine (h1 _).mono ?_; rintro e w' ⟨rfl, hw'⟩; rw [hw']) | (refine (h2 _).mono ?_; rintro e w' ⟨rfl, hw'⟩; rw [hw']))
      go_ret
      exact ⟨rfl, rfl⟩
    · rw [if_neg hgt]
      go_enter Try.func75, Try.ntmps75
      go_wp2_with (go_at_call 84; first | (refine (h1 _).mono ?_; rintro e w' ⟨rfl, hw'⟩; rw [hw']) | (refine (h2 _).mono ?_; rintro e w' ⟨rfl, hw'⟩; rw [hw']))
      go_ret
      exact ⟨rfl, rfl⟩

set_option maxHeartbeats 1000000 in
theorem coming1_any (pb b o n c : Nat) (cs : List Int) (i j : Nat) (_hn : cs.length = n) (hi : i < n) (hj : j < n) (w : World) (hp : w.cell? ⟨pb, 0, none⟩ = some (.slice (some ⟨b, o, none⟩) n c)) (h1 : w.cell? ⟨b, o + i, none⟩ = some (.int .i64 (cs.getD i 0))) (h2 : w.cell? ⟨b, o + j, none⟩ = some (.int .i64 (cs.getD j 0))) :
    Calls Try.prog 74 #[.int .i64 (i : Int), .int .i64 (j : Int), .pointer (some ⟨pb, 0, none⟩)] w fun e w' => e = .returned (.int .i64 (sg (cs.getD i 0) (cs.getD j 0))) ∧ ∃ m, w' = w.drewN m := by
  have hc := fun w => compare_any (cs.getD i 0) (cs.getD j 0) w
  generalize cs.getD i 0 = x at *
  generalize cs.getD j 0 = y at *
  clear _hn
  go_enter Try.func74, Try.ntmps74
  go_wp2_with fail
  go_quiet ((go_at_call 75; exact Calls.quiet_of_same (hc _)))
  go_wp2_with fail
  go_ret
  exact ⟨rfl, nq, rfl⟩

set_option maxHeartbeats 1000000 in
theorem offered1_any (x y : Int) (p q : Bool) (w : World) :
    Calls Try.prog 86 #[.agg #[.int .i64 x, .bool p], .agg #[.int .i64 y, .bool q]] w fun e w' => e = .returned (.int .i64 (sg x y)) ∧ Below w.heap.size w w' := by
  have hc := fun w => compare_any x y w
  go_enter Try.func86, Try.ntmps86
  go_wp2_with (go_at_call 75; refine (hc _).mono ?_; rintro e w' ⟨rfl, hw'⟩; rw [hw'])
  go_ret
  exact ⟨rfl, ((Below.refl _ _).alloc (Nat.le_refl _) _).alloc (by simp) _⟩
end Go.Proofs.Ytcjfaahlchbcmaa
