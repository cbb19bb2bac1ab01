/- The plain mathematics of the stable sort: merges that split, insertion, blocks. -/
import Derived.Test.YtcjfaahlchbcmaaK13
import Derived.Laws.AppendOwn
import Derived.Test.YtcjfaahlchbcmaaK05
import Derived.Test.YtcjfaahlchbcmaaK01
import Derived.Test.YtcjfaahlchbcmaaK09
import Derived.Test.YtcjfaahlchbcmaaK06
import Derived.BigRegion
namespace Go.Proofs.Ytcjfaahlchbcmaa.Gs
variable {α : Type} (k : α → Int)
def le (x y : α) : Bool := decide (k x ≤ k y)
def Srt (l : List α) : Prop := l.Pairwise fun x y => le k x y = true
def mg (xs ys : List α) : List α := List.merge xs ys (le k)
set_option maxRecDepth 100000 in
theorem le_trans' (a b c : α) : le k a b = true → le k b c = true → le k a c = true := by
  unfold le; simp only [decide_eq_true_eq]; omega
set_option maxRecDepth 100000 in
theorem le_total' (a b : α) : (le k a b || le k b a) = true := by
  unfold le; simp only [Bool.or_eq_true, decide_eq_true_eq]; omega
set_option maxRecDepth 100000 in
theorem mg_srt (xs ys : List α) (h1 : Srt k xs) (h2 : Srt k ys) : Srt k (mg k xs ys) := List.pairwise_merge (le_trans' k) (le_total' k) xs ys h1 h2
set_option maxRecDepth 100000 in
theorem mg_perm (xs ys : List α) : (mg k xs ys).Perm (xs ++ ys) := List.merge_perm_append _
set_option maxRecDepth 100000 in
theorem mg_len (xs ys : List α) : (mg k xs ys).length = xs.length + ys.length := List.length_merge _ _ _
set_option maxRecDepth 100000 in
theorem mg_nil (xs : List α) : mg k xs [] = xs := List.merge_right xs
set_option maxRecDepth 100000 in
theorem nil_mg (ys : List α) : mg k [] ys = ys := List.nil_merge ys
set_option maxRecDepth 100000 in
theorem mg_le (x y : α) (xs ys : List α) (h : k x ≤ k y) : mg k (x :: xs) (y :: ys) = x :: mg k xs (y :: ys) := by
  unfold mg; rw [List.cons_merge_cons, if_pos (show le k x y = true from decide_eq_true h)]
set_option maxRecDepth 100000 in
theorem mg_lt (x y : α) (xs ys : List α) (h : k y < k x) : mg k (x :: xs) (y :: ys) = y :: mg k (x :: xs) ys := by
  unfold mg; rw [List.cons_merge_cons, if_neg (by unfold le; simp; omega)]
set_option maxRecDepth 100000 in
theorem mg_splitN : ∀ (n : Nat) (xs1 ys1 xs2 ys2 : List α), xs1.length + ys1.length ≤ n → (∀ x ∈ xs1, ∀ y ∈ ys2, k x ≤ k y) → (∀ y ∈ ys1, ∀ x ∈ xs2, k y < k x) → mg k (xs1 ++ xs2) (ys1 ++ ys2) = mg k xs1 ys1 ++ mg k xs2 ys2
  | _, [], [], xs2, ys2, _, _, _ => by simp [nil_mg]
  | 0, _ :: _, _, _, _, hn, _, _ => by simp at hn
  | 0, _, _ :: _, _, _, hn, _, _ => by simp at hn
  | _ + 1, [], y :: ys1, [], ys2, _, _, _ => by simp [nil_mg]
  | n + 1, [], y :: ys1, x :: xs2, ys2, hn, h1, h2 => by
    have h := h2 y List.mem_cons_self x List.mem_cons_self
    have ih := mg_splitN n [] ys1 (x :: xs2) ys2 (by simp at hn ⊢; omega) (fun x hx => by cases hx) (fun y' hy' => h2 y' (List.mem_cons_of_mem _ hy'))
    rw [List.nil_append, List.cons_append, mg_lt k x y _ _ h, nil_mg]
    rw [List.nil_append, nil_mg] at ih
    rw [ih]; rfl
  | _ + 1, x :: xs1, [], xs2, [], _, _, _ => by simp [mg_nil]
  | n + 1, x :: xs1, [], xs2, y :: ys2, hn, h1, h2 => by
    have h := h1 x List.mem_cons_self y List.mem_cons_self
    have ih := mg_splitN n xs1 [] xs2 (y :: ys2) (by simp at hn ⊢; omega) (fun x' hx' => h1 x' (List.mem_cons_of_mem _ hx')) (fun y' hy' => by cases hy')
    rw [List.nil_append, List.cons_append, mg_le k x y _ _ h, mg_nil]
    rw [List.nil_append, mg_nil] at ih
    rw [ih]; rfl
  | n + 1, x :: xs1, y :: ys1, xs2, ys2, hn, h1, h2 => by
    by_cases h : k x ≤ k y
    · have ih := mg_splitN n xs1 (y :: ys1) xs2 ys2 (by simp at hn ⊢; omega) (fun x' hx' => h1 x' (List.mem_cons_of_mem _ hx')) h2
      rw [List.cons_append, List.cons_append, mg_le k x y _ _ h, mg_le k x y _ _ h]
      rw [List.cons_append] at ih
      rw [ih]; rfl
    · have h' : k y < k x := by omega
      have ih := mg_splitN n (x :: xs1) ys1 xs2 ys2 (by simp at hn ⊢; omega) h1 (fun y' hy' => h2 y' (List.mem_cons_of_mem _ hy'))
      rw [List.cons_append, List.cons_append, mg_lt k x y _ _ h', mg_lt k x y _ _ h']
      rw [List.cons_append] at ih
      rw [ih]; rfl
theorem mg_split (xs1 ys1 xs2 ys2 : List α) (h1 : ∀ x ∈ xs1, ∀ y ∈ ys2, k x ≤ k y) (h2 : ∀ y ∈ ys1, ∀ x ∈ xs2, k y < k x) : mg k (xs1 ++ xs2) (ys1 ++ ys2) = mg k xs1 ys1 ++ mg k xs2 ys2 :=
  mg_splitN k _ xs1 ys1 xs2 ys2 (Nat.le_refl _) h1 h2

theorem mg_app (xs ys : List α) (h : ∀ x ∈ xs, ∀ y ∈ ys, k x ≤ k y) : mg k xs ys = xs ++ ys := by
  have := mg_split k xs [] [] ys h (fun y hy => by cases hy)
  rw [List.append_nil, List.nil_append, mg_nil, nil_mg] at this
  exact this
set_option maxRecDepth 100000 in
theorem mg_one (p q : List α) (x : α) (h1 : ∀ y ∈ p, k y ≤ k x) (h2 : ∀ y ∈ q, k x < k y) : mg k (p ++ q) [x] = p ++ x :: q := by
  have := mg_split k p [x] q [] (fun y _ z hz => by cases hz) (fun z hz y hy => by rw [List.mem_singleton] at hz; subst hz; exact h2 y hy)
  rw [List.append_nil, mg_nil] at this
  rw [this, mg_app k p [x] (fun y hy z hz => by rw [List.mem_singleton] at hz; subst hz; exact h1 y hy)]
  simp
def isr (l : List α) : List α := l.foldl (fun p x => mg k p [x]) []
set_option maxRecDepth 100000 in
theorem foldl_srt : ∀ (l p : List α), Srt k p → Srt k (l.foldl (fun p x => mg k p [x]) p)
  | [], _, h => h
  | x :: l, p, h => foldl_srt l _ (mg_srt k p [x] h (List.pairwise_singleton _ _))
set_option maxRecDepth 100000 in
theorem foldl_perm : ∀ (l p : List α), (l.foldl (fun p x => mg k p [x]) p).Perm (p ++ l)
  | [], p => by simp
  | x :: l, p => by
    have h1 := foldl_perm l (mg k p [x])
    have h2 := (mg_perm k p [x]).append_right l
    rw [List.append_assoc, List.singleton_append] at h2
    exact h1.trans h2
set_option maxRecDepth 100000 in
theorem isr_srt (l : List α) : Srt k (isr k l) := foldl_srt k l [] List.Pairwise.nil
set_option maxRecDepth 100000 in
theorem isr_perm (l : List α) : (isr k l).Perm l := by have := foldl_perm k l []; rwa [List.nil_append] at this
set_option maxRecDepth 100000 in
theorem isr_len (l : List α) : (isr k l).length = l.length := (isr_perm k l).length_eq
set_option maxRecDepth 100000 in
theorem isr_take (l : List α) (i : Nat) (h : i < l.length) : isr k (l.take (i + 1)) = mg k (isr k (l.take i)) [l[i]] := by
  unfold isr
  rw [List.take_succ_eq_append_getElem h, List.foldl_append]; rfl
def blk : Nat → List α → List α
  | 0, l => isr k l
  | f + 1, l => if 20 ≤ l.length then isr k (l.take 20) ++ blk f (l.drop 20) else isr k l
def pass (b : Nat) : Nat → List α → List α
  | 0, l => l
  | f + 1, l => if 2 * b ≤ l.length then mg k (l.take b) ((l.drop b).take b) ++ pass b f (l.drop (2 * b)) else if b < l.length then mg k (l.take b) (l.drop b) else l
def passes : Nat → Nat → List α → List α
  | 0, _, l => l
  | f + 1, b, l => if b < l.length then passes f (2 * b) (pass k b l.length l) else l
def srt (l : List α) : List α := passes k l.length 20 (blk k l.length l)
def BSn (b : Nat) : Nat → List α → Prop
  | 0, l => l.length ≤ b ∧ Srt k l
  | f + 1, l => (l.length ≤ b ∧ Srt k l) ∨ ∃ x r : List α, l = x ++ r ∧ x.length = b ∧ Srt k x ∧ BSn b f r
def BS (b : Nat) (l : List α) : Prop := ∃ f, BSn k b f l
variable {k} in
theorem BS.last {b : Nat} (l : List α) (h1 : l.length ≤ b) (h2 : Srt k l) : BS k b l := ⟨0, h1, h2⟩
variable {k} in
theorem BS.more {b : Nat} (x r : List α) (h1 : x.length = b) (h2 : Srt k x) (h3 : BS k b r) : BS k b (x ++ r) := by
  obtain ⟨f, hf⟩ := h3
  exact ⟨f + 1, Or.inr ⟨x, r, rfl, h1, h2, hf⟩⟩
theorem BS.ways {b : Nat} {l : List α} (h : BS k b l) : (l.length ≤ b ∧ Srt k l) ∨ ∃ x r : List α, l = x ++ r ∧ x.length = b ∧ Srt k x ∧ BS k b r := by
  obtain ⟨f, hf⟩ := h
  cases f with
  | zero => exact Or.inl hf
  | succ f =>
    rcases hf with hf | ⟨x, r, e, h1, h2, h3⟩
    · exact Or.inl hf
    · exact Or.inr ⟨x, r, e, h1, h2, f, h3⟩

theorem blk_perm : ∀ (f : Nat) (l : List α), (blk k f l).Perm l
  | 0, l => isr_perm k l
  | f + 1, l => by
    unfold blk
    split
    · have := (isr_perm k (l.take 20)).append (blk_perm f (l.drop 20))
      rwa [List.take_append_drop] at this
    · exact isr_perm k l
set_option maxRecDepth 100000 in
theorem blk_bs : ∀ (f : Nat) (l : List α), l.length ≤ f → BS k 20 (blk k f l)
  | 0, l, h => BS.last _ (by unfold blk; rw [isr_len]; omega) (isr_srt k l)
  | f + 1, l, h => by
    unfold blk
    split
    · rename_i h1
      exact BS.more _ _ (by rw [isr_len, List.length_take]; omega) (isr_srt k _) (blk_bs f _ (by rw [List.length_drop]; omega))
    · exact BS.last _ (by rw [isr_len]; omega) (isr_srt k l)
set_option maxRecDepth 100000 in
theorem pass_perm (b : Nat) : ∀ (f : Nat) (l : List α), (pass k b f l).Perm l
  | 0, l => List.Perm.refl _
  | f + 1, l => by
    unfold pass
    split
    · have h1 := (mg_perm k (l.take b) ((l.drop b).take b)).append (pass_perm b f (l.drop (2 * b)))
      have e : l.take b ++ (l.drop b).take b ++ l.drop (2 * b) = l := by
        rw [List.append_assoc, show l.drop (2 * b) = (l.drop b).drop b by rw [List.drop_drop]; congr 1; omega, List.take_append_drop, List.take_append_drop]
      rwa [e] at h1
    · split
      · have h1 := mg_perm k (l.take b) (l.drop b)
        rwa [List.take_append_drop] at h1
      · exact List.Perm.refl _
set_option maxRecDepth 100000 in
theorem BS.take_srt {b : Nat} {l : List α} (h : BS k b l) : Srt k (l.take b) ∧ BS k b (l.drop b) := by
  rcases h.ways with ⟨h1, h2⟩ | ⟨x, r, e, h1, h2, h3⟩
  · rw [List.take_of_length_le h1, List.drop_of_length_le h1]
    exact ⟨h2, BS.last _ (by simp) List.Pairwise.nil⟩
  · subst e
    subst h1
    rw [List.take_left, List.drop_left]
    exact ⟨h2, h3⟩
theorem pass_bs (b : Nat) (hb : 0 < b) : ∀ (f : Nat) (l : List α), l.length ≤ f → BS k b l → BS k (2 * b) (pass k b f l)
  | 0, l, h, _ => by
    have : l = [] := List.eq_nil_of_length_eq_zero (by omega)
    subst this
    exact BS.last _ (by simp [pass]) List.Pairwise.nil
  | f + 1, l, h, hs => by
    have h1 := hs.take_srt
    have h2 := h1.2.take_srt
    unfold pass
    split
    · rename_i h3
      refine BS.more _ _ ?_ (mg_srt k _ _ h1.1 h2.1) (pass_bs b hb f _ (by rw [List.length_drop]; omega) ?_)
      · rw [mg_len, List.length_take, List.length_take, List.length_drop]; omega
      · have := h2.2
        rw [List.drop_drop] at this
        rw [show 2 * b = b + b by omega]; exact this
    · rename_i h3
      split
      · rename_i h4
        refine BS.last _ (by rw [mg_len, List.length_take, List.length_drop]; omega) (mg_srt k _ _ h1.1 ?_)
        have := h2.1
        rwa [List.take_of_length_le (by rw [List.length_drop]; omega)] at this
      · have := h1.1
        rw [List.take_of_length_le (by omega)] at this
        exact BS.last _ (by omega) this
set_option maxRecDepth 100000 in
theorem passes_perm : ∀ (f b : Nat) (l : List α), (passes k f b l).Perm l
  | 0, _, l => List.Perm.refl _
  | f + 1, b, l => by
    unfold passes
    split
    · exact (passes_perm f (2 * b) _).trans (pass_perm k b _ l)
    · exact List.Perm.refl _
set_option maxRecDepth 100000 in
theorem passes_srt : ∀ (f b : Nat) (l : List α), 0 < b → l.length ≤ f + b → BS k b l → Srt k (passes k f b l)
  | 0, b, l, hb, h, hs => by
    unfold passes
    have := hs.take_srt.1
    rwa [List.take_of_length_le (by omega)] at this
  | f + 1, b, l, hb, h, hs => by
    unfold passes
    split
    · have hp := pass_perm k b l.length l
      exact passes_srt f (2 * b) _ (by omega) (by rw [hp.length_eq]; omega) (pass_bs k b hb _ l (Nat.le_refl _) hs)
    · have := hs.take_srt.1
      rwa [List.take_of_length_le (by omega)] at this
set_option maxRecDepth 100000 in
theorem srt_perm (l : List α) : (srt k l).Perm l := (passes_perm k _ _ _).trans (blk_perm k _ l)
set_option maxRecDepth 100000 in
theorem srt_srt (l : List α) : Srt k (srt k l) :=
  passes_srt k _ _ _ (by decide) (by rw [(blk_perm k _ l).length_eq]; omega) (blk_bs k _ l (Nat.le_refl _))
end Go.Proofs.Ytcjfaahlchbcmaa.Gs
namespace Go.Proofs.Ytcjfaahlchbcmaa
open Go.RowKit Go.BigFrame
set_option maxRecDepth 100000 in
theorem get_mid {α : Type} (A R : List α) (x d : α) : (A ++ x :: R).getD A.length d = x := by simp
set_option maxRecDepth 100000 in
theorem set_mid {α : Type} (A R : List α) (x y : α) : (A ++ x :: R).set A.length y = A ++ y :: R := by simp
theorem SegI.swap {w : World} {g : Nat} {A M Z : List Int} {x y : Int} (h : SegI w g (A ++ x :: (M ++ y :: Z))) (i j : Nat) (hi : i = A.length) (hj : j = A.length + 1 + M.length) :
    SegI ((w.setCell ⟨g, i, none⟩ (.int .i64 y)).setCell ⟨g, j, none⟩ (.int .i64 x)) g (A ++ y :: (M ++ x :: Z)) := by
  subst hi hj
  have h1 := h.set A.length y (by simp)
  rw [set_mid] at h1
  have h2 := h1.set (A.length + 1 + M.length) x (by simp; omega)
  have e : (A ++ y :: (M ++ y :: Z)) = (A ++ y :: M) ++ y :: Z := by simp
  rw [e, show A.length + 1 + M.length = (A ++ y :: M).length by simp; omega, set_mid] at h2
  rw [show (A ++ y :: M).length = A.length + 1 + M.length by simp; omega] at h2
  simpa using h2
set_option maxRecDepth 100000 in
theorem SegI.swap' {w : World} {g : Nat} {A M Z : List Int} {x y : Int} (h : SegI w g (A ++ x :: (M ++ y :: Z))) (i j : Nat) (hi : i = A.length) (hj : j = A.length + 1 + M.length) :
    SegI ((w.setCell ⟨g, j, none⟩ (.int .i64 x)).setCell ⟨g, i, none⟩ (.int .i64 y)) g (A ++ y :: (M ++ x :: Z)) := by
  subst hi hj
  have e : (A ++ x :: (M ++ y :: Z)) = (A ++ x :: M) ++ y :: Z := by simp
  have h0 := h
  rw [e] at h0
  have h1 := h0.set (A ++ x :: M).length x (by simp)
  rw [set_mid] at h1
  rw [show (A ++ x :: M) ++ x :: Z = A ++ x :: (M ++ x :: Z) by simp] at h1
  have h2 := h1.set A.length y (by simp)
  rw [set_mid, show (A ++ x :: M).length = A.length + 1 + M.length by simp; omega] at h2
  exact h2
open Go.RowKit Go.BigFrame
set_option maxRecDepth 100000 in
theorem results95 (T : Array Value) (w : World) : (results Try.f95 T).run Try.prog w = .ok (.tuple #[]) w := by
  unfold results
  simp [go_sem]
set_option maxRecDepth 100000 in
set_option maxHeartbeats 2000000 in
theorem swapI_any (g c : Nat) (cf : Value) (A X M Y Z : List Int) (n a b N : Nat) (hX : X.length = n) (hY : Y.length = n) (ha : A.length = a) (hb : A.length + n + M.length = b) (hN : N = A.length + n + M.length + n + Z.length) (hN2 : N ≤ 4096) (w : World) (h : SegI w g (A ++ (X ++ (M ++ (Y ++ Z))))) :
    Calls Try.prog 95 #[.slice (some ⟨g, 0, none⟩) N c, .int .i64 (a : Int), .int .i64 (b : Int), .int .i64 (n : Int), cf] w fun e w' => e = .returned (.tuple #[]) ∧ SegI w' g (A ++ (Y ++ (M ++ (X ++ Z)))) ∧ Gb g w w' := by
  go_enter Try.func95, Try.ntmps95
  go_wp2_with fail
  go_loopw [10] (fun i wr => ∃ (t : Nat) (X1 X2 Y1 Y2 : List Int), t ≤ n ∧ i = .int .i64 (t : Int) ∧ Box' (X = X1 ++ X2) ∧ Box' (Y = Y1 ++ Y2) ∧ X1.length = t ∧ Y1.length = t ∧ SegI wr g (A ++ (Y1 ++ (X2 ++ (M ++ (X1 ++ (Y2 ++ Z)))))) ∧ Gb g w wr) (fun i _ => n - (intOf i).toNat)
  case atStart => exact ⟨0, [], X, [], Y, by omega, rfl, ⟨rfl⟩, ⟨rfl⟩, rfl, rfl, by simpa using h, Gb.refl _ _⟩
  case round =>
    obtain ⟨t, X1, X2, Y1, Y2, ht, rfl, HX, HY, l1, l2, hs, hg⟩ := hrel
    by_cases hlt : t < n
    · cases X2 with
      | nil => have := HX.out; subst this; simp at hX; omega
      | cons x X2 =>
        cases Y2 with
        | nil => have := HY.out; subst this; simp at hY; omega
        | cons y Y2 =>
          have hx2 : X2.length = n - t - 1 := by have := HX.out; subst this; simp at hX; omega
          have hs' : SegI wr g ((A ++ Y1) ++ x :: ((X2 ++ (M ++ X1)) ++ y :: (Y2 ++ Z))) := by simpa using hs
          have hy2 : Y2.length = n - t - 1 := by have := HY.out; subst this; simp at hY; omega
          have hlen : ((A ++ Y1) ++ x :: ((X2 ++ (M ++ X1)) ++ y :: (Y2 ++ Z))).length = N := by simp; omega
          have c0 := hs'.cell (k := a + t) (by rw [hlen]; omega)
          have c1 := hs'.cell (k := b + t) (by rw [hlen]; omega)
          rw [show a + t = (A ++ Y1).length by simp; omega, get_mid] at c0
          rw [show (A ++ Y1) ++ x :: ((X2 ++ (M ++ X1)) ++ y :: (Y2 ++ Z)) = ((A ++ Y1) ++ x :: (X2 ++ (M ++ X1))) ++ y :: (Y2 ++ Z) by simp, show b + t = ((A ++ Y1) ++ x :: (X2 ++ (M ++ X1))).length by simp; omega, get_mid] at c1
          rw [show (A ++ Y1).length = a + t by simp; omega] at c0
          rw [show ((A ++ Y1) ++ x :: (X2 ++ (M ++ X1))).length = b + t by simp; omega] at c1
          have f0 := hs'.frozen (a + t)
          have f1 := hs'.frozen (b + t)
          have hsw := hs'.swap (a + t) (b + t) (by simp; omega) (by simp; omega)
          have hg2 := (hg.setCell (a + t) (.int .i64 y)).setCell (b + t) (.int .i64 x)
          have hat : a + t < N := by omega
          have hbt : b + t < N := by omega
          clear hs hs' hlen h
          go_wp2_with fail
          go_region
          go_wp2_with fail
          refine ⟨⟨t + 1, X1 ++ [x], X2, Y1 ++ [y], Y2, by omega, by go_num, ⟨by rw [HX.out]; simp⟩, ⟨by rw [HY.out]; simp⟩, by simp [l1], by simp [l2], by simpa using hsw.drew, hg2.drew⟩, by simp [intOf]; omega⟩
    · obtain rfl : t = n := by omega
      have hx2 : X2 = [] := by have := HX.out; subst this; simp at hX; exact List.eq_nil_of_length_eq_zero (by omega)
      have hy2 : Y2 = [] := by have := HY.out; subst this; simp at hY; exact List.eq_nil_of_length_eq_zero (by omega)
      subst hx2 hy2
      have hs2 : SegI wr g (A ++ (Y ++ (M ++ (X ++ Z)))) := by
        have e1 := HX.out
        have e2 := HY.out
        rw [List.append_nil] at e1 e2
        rw [e1, e2]; simpa using hs
      clear hs HX HY
      go_wp2_with fail
      exact ⟨rfl, _, results95 _ _, rfl, hs2, hg⟩
set_option maxRecDepth 100000 in
theorem results92 (T : Array Value) (w : World) : (results Try.f92 T).run Try.prog w = .ok (.tuple #[]) w := by
  unfold results
  simp [go_sem]
set_option maxRecDepth 100000 in
set_option maxHeartbeats 2000000 in
theorem rotI_any (g c : Nat) (cf : Value) (A X Y Z : List Int) (a m b N : Nat) (ha : A.length = a) (hm : A.length + X.length = m) (hb : A.length + X.length + Y.length = b) (hN : N = A.length + X.length + Y.length + Z.length) (hN2 : N ≤ 4096) (hX : 0 < X.length) (hY : 0 < Y.length) (w : World) (h : SegI w g (A ++ (X ++ (Y ++ Z)))) :
    Calls Try.prog 92 #[.slice (some ⟨g, 0, none⟩) N c, .int .i64 (a : Int), .int .i64 (m : Int), .int .i64 (b : Int), cf] w fun e w' => e = .returned (.tuple #[]) ∧ SegI w' g (A ++ (Y ++ (X ++ Z))) ∧ Gb g w w' := by
  have e1 : (m : Int) - (a : Int) = ((m - a : Nat) : Int) := by omega
  have e2 : (b : Int) - (m : Int) = ((b - m : Nat) : Int) := by omega
  have hma : X.length = m - a := by omega
  have hbm : Y.length = b - m := by omega
  have K1 := Box'.mk hma
  have K2 := Box'.mk hbm
  have K3 : Box' (A.length + 0 + (m - a) = m) := ⟨by omega⟩
  have K4 : Box' (N = m + (b - m) + 0 + Z.length) := ⟨by omega⟩
  have K5 : 1 ≤ m - a := by omega
  have K6 : 1 ≤ b - m := by omega
  have E1 := Box'.mk e1
  have E2 := Box'.mk e2
  have hNm : m ≤ 4096 := by omega
  have hNb : b ≤ 4096 := by omega
  have hma' : a ≤ m := by omega
  have hmb' : m ≤ b := by omega
  clear ha hm hb hN hX hY e1 e2 hma hbm
  go_enter Try.func92, Try.ntmps92
  go_wp2_with fail
  go_loopw [10, 11] (fun u v wr => ∃ (i j : Nat) (P X' Y' S : List Int), u = .int .i64 (i : Int) ∧ v = .int .i64 (j : Int) ∧ X'.length = i ∧ Y'.length = j ∧ 1 ≤ i ∧ 1 ≤ j ∧ Box' (A.length + P.length + i = m) ∧ Box' (N = m + j + S.length + Z.length) ∧ i ≤ m ∧ m + j ≤ 4096 ∧ SegI wr g (A ++ (P ++ (X' ++ (Y' ++ (S ++ Z))))) ∧ Box' (Y ++ X = P ++ (Y' ++ (X' ++ S))) ∧ Gb g w wr) (fun u v _ => (intOf u).toNat + (intOf v).toNat)
  case atStart => exact ⟨m - a, b - m, [], X, Y, [], by rw [E1.out], by rw [E2.out], K1.out, K2.out, K5, K6, ⟨K3.out⟩, ⟨K4.out⟩, by omega, by omega, by simpa using h, ⟨by simp⟩, Gb.refl _ _⟩
  case round =>
    obtain ⟨i, j, P, X', Y', S, rfl, rfl, l1, l2, h1, h2, H3, H4, him, hmj, hs, HB, hg⟩ := hrel
    have h3 := H3.out
    have h4 := H4.out
    clear h
    by_cases hij : i = j
    · subst hij
      have hsw := swapI_any g c cf (A ++ P) X' [] Y' (S ++ Z) i (m - i) m N l1 l2 (by simp; omega) (by simp; omega) (by simp; omega) hN2 wr (by simpa using hs)
      rw [show ((m - i : Nat) : Int) = (m : Int) - (i : Int) by omega] at hsw
      clear hs h3 h4 l1 l2
      go_wp2_with fail
      refine hsw.mono ?_
      rintro e w2 ⟨rfl, s2, g2⟩
      have hs2 : SegI w2 g (A ++ (Y ++ (X ++ Z))) := by
        rw [show A ++ (Y ++ (X ++ Z)) = A ++ ((Y ++ X) ++ Z) by simp, HB.out]; simpa using s2
      have hg2 := hg.trans g2
      clear hsw s2 g2 HB
      go_wp2_with fail
      exact ⟨rfl, _, results92 _ _, rfl, hs2, hg2⟩
    · have i0 : ((i : Int) == (j : Int)) = false := by rw [beq_eq_false_iff_ne]; omega
      by_cases hgt : j < i
      · obtain ⟨X1, X2, e1, e2⟩ : ∃ X1 X2, X' = X1 ++ X2 ∧ X1.length = j := ⟨X'.take j, X'.drop j, (List.take_append_drop _ _).symm, by rw [List.length_take]; omega⟩
        subst e1
        have l3 : X2.length = i - j := by simp at l1; omega
        have L2 := Box'.mk l2
        have hsw := swapI_any g c cf (A ++ P) X1 X2 Y' (S ++ Z) j (m - i) m N e2 l2 (by simp; omega) (by simp; omega) (by simp; omega) hN2 wr (by simpa using hs)
        rw [show ((m - i : Nat) : Int) = (m : Int) - (i : Int) by omega] at hsw
        have i1 : (j : Int) < (i : Int) := by omega
        clear hs h3 h4 l1 l2
        go_wp2_with fail
        refine hsw.mono ?_
        rintro e w2 ⟨rfl, s2, g2⟩
        have hg2 := hg.trans g2
        clear hsw g2
        go_wp2_with fail
        have h3 := H3.out
        have h4 := H4.out
        have l2 := L2.out
        exact ⟨⟨i - j, j, P ++ Y', X2, X1, S, by congr 1; omega, rfl, l3, e2, by omega, by omega, ⟨by simp; omega⟩, ⟨by omega⟩, by omega, by omega, by simpa using s2, ⟨by rw [HB.out]; simp⟩, hg2⟩, by simp [intOf]; omega⟩
      · obtain ⟨Y1, Y2, e1, e2⟩ : ∃ Y1 Y2, Y' = Y1 ++ Y2 ∧ Y1.length = j - i := ⟨Y'.take (j - i), Y'.drop (j - i), (List.take_append_drop _ _).symm, by rw [List.length_take]; omega⟩
        subst e1
        have l3 : Y2.length = i := by simp at l2; omega
        have hsw := swapI_any g c cf (A ++ P) X' Y1 Y2 (S ++ Z) i (m - i) (m + j - i) N l1 l3 (by simp; omega) (by simp; omega) (by simp; omega) hN2 wr (by simpa using hs)
        rw [show ((m - i : Nat) : Int) = (m : Int) - (i : Int) by omega, show ((m + j - i : Nat) : Int) = (m : Int) + (j : Int) - (i : Int) by omega] at hsw
        have i1 : ¬ (j : Int) < (i : Int) := by omega
        have L1 := Box'.mk l1
        clear hs h3 h4 l1 l2
        go_wp2_with fail
        refine hsw.mono ?_
        rintro e w2 ⟨rfl, s2, g2⟩
        have hg2 := hg.trans g2
        clear hsw g2
        go_wp2_with fail
        have h3 := H3.out
        have h4 := H4.out
        have l1 := L1.out
        exact ⟨⟨i, j - i, P, Y2, Y1, X' ++ S, rfl, by congr 1; omega, l3, e2, by omega, by omega, ⟨by omega⟩, ⟨by simp; omega⟩, by omega, by omega, by simpa using s2, ⟨by rw [HB.out]; simp⟩, hg2⟩, by simp [intOf]; omega⟩
open Go.RowKit Go.BigFrame
def sg (x y : Int) : Int := if x < y then -1 else if y < x then 1 else 0
set_option maxRecDepth 100000 in
theorem sg_lt (x y : Int) : decide (sg x y < 0) = decide (x < y) := by
  unfold sg
  split
  · rename_i h; simp [h]
  · rename_i h
    split
    · simp [h]
    · simp [h]
set_option maxRecDepth 100000 in
theorem isNaN_any (x : Int) (w : World) : Calls Try.prog 84 #[.int .i64 x] w fun e w' => e = .returned (.bool false) ∧ w' = w := by
  go_enter Try.func84, Try.ntmps84
  go_wp2
  go_ret
  exact ⟨rfl, rfl⟩
set_option maxRecDepth 100000 in
theorem compare_any (x y : Int) (w : World) : Calls Try.prog 75 #[.int .i64 x, .int .i64 y] w fun e w' => e = .returned (.int .i64 (sg x y)) ∧ w' = w := by
  have h1 := fun w => isNaN_any x w
  have h2 := fun w => isNaN_any y w
  unfold sg
  by_cases hlt : x < y
  · rw [if_pos hlt]
    go_enter Try.func75, Try.ntmps75
    go_wp2_with (go_at_call 84; first | (refine (h1 _).mono ?_; rintro e w' ⟨rfl, hw'⟩; rw [hw']) | (refine (h2 _).mono ?_; rintro e w' ⟨rfl, hw'⟩; rw [hw']))
    go_ret
    exact ⟨rfl, rfl⟩
  · rw [if_neg hlt]
    by_cases hgt : y < x
    · rw [if_pos hgt]
      go_enter Try.func75, Try.ntmps75
      go_wp2_with (go_at_call 84; first | (refine (h1 _).mono ?_; rintro e w' ⟨rfl, hw'⟩; rw [hw']) | (refine (h2 _).mono ?_; rintro e w' ⟨rfl, hw'⟩; rw [hw']))
      go_ret
      exact ⟨rfl, rfl⟩
    · rw [if_neg hgt]
      go_enter Try.func75, Try.ntmps75
      go_wp2_with (go_at_call 84; first | (refine (h1 _).mono ?_; rintro e w' ⟨rfl, hw'⟩; rw [hw']) | (refine (h2 _).mono ?_; rintro e w' ⟨rfl, hw'⟩; rw [hw']))
      go_ret
      exact ⟨rfl, rfl⟩
set_option maxHeartbeats 1000000 in
theorem coming1_any (pb b o n c : Nat) (cs : List Int) (i j : Nat) (_hn : cs.length = n) (hi : i < n) (hj : j < n) (w : World) (hp : w.cell? ⟨pb, 0, none⟩ = some (.slice (some ⟨b, o, none⟩) n c)) (h1 : w.cell? ⟨b, o + i, none⟩ = some (.int .i64 (cs.getD i 0))) (h2 : w.cell? ⟨b, o + j, none⟩ = some (.int .i64 (cs.getD j 0))) :
    Calls Try.prog 74 #[.int .i64 (i : Int), .int .i64 (j : Int), .pointer (some ⟨pb, 0, none⟩)] w fun e w' => e = .returned (.int .i64 (sg (cs.getD i 0) (cs.getD j 0))) ∧ ∃ m, w' = w.drewN m := by
  have hc := fun w => compare_any (cs.getD i 0) (cs.getD j 0) w
  generalize cs.getD i 0 = x at *
  generalize cs.getD j 0 = y at *
  clear _hn
  go_enter Try.func74, Try.ntmps74
  go_wp2_with fail
  go_quiet ((go_at_call 75; exact Calls.quiet_of_same (hc _)))
  go_wp2_with fail
  go_ret
  exact ⟨rfl, nq, rfl⟩
set_option maxHeartbeats 1000000 in
theorem offered1_any (x y : Int) (p q : Bool) (w : World) :
    Calls Try.prog 86 #[.agg #[.int .i64 x, .bool p], .agg #[.int .i64 y, .bool q]] w fun e w' => e = .returned (.int .i64 (sg x y)) ∧ Below w.heap.size w w' := by
  have hc := fun w => compare_any x y w
  go_enter Try.func86, Try.ntmps86
  go_wp2_with (go_at_call 75; refine (hc _).mono ?_; rintro e w' ⟨rfl, hw'⟩; rw [hw'])
  go_ret
  exact ⟨rfl, ((Below.refl _ _).alloc (Nat.le_refl _) _).alloc (by simp) _⟩
open Go.RowKit Go.BigFrame
set_option maxRecDepth 100000 in
theorem results89 (T : Array Value) (w : World) : (results Try.f89 T).run Try.prog w = .ok (.tuple #[]) w := by
  unfold results
  simp [go_sem]
def cfI (pb : Nat) : Value := .func (.func 74) #[] #[.pointer (some ⟨pb, 0, none⟩)]
def CmpI (B : Nat) (w0 : World) (pb : Nat) (k : Int → Int) (S : Int → Prop) : Prop :=
  ∀ W, Below B w0 W → ∀ x y, S x → S y → Calls Try.prog 74 #[.int .i64 x, .int .i64 y, .pointer (some ⟨pb, 0, none⟩)] W fun e w' => e = .returned (.int .i64 (sg (k x) (k y))) ∧ ∃ m, w' = W.drewN m
set_option maxRecDepth 100000 in
theorem ins_done (k : Int → Int) (P1 P2 : List Int) (x : Int) (hs : Gs.Srt k (P1 ++ P2)) (h2 : ∀ y ∈ P2, k x < k y) (h1 : P1 = [] ∨ ∃ Q p, P1 = Q ++ [p] ∧ ¬ k x < k p) : P1 ++ x :: P2 = Gs.mg k (P1 ++ P2) [x] := by
  rw [Gs.mg_one k P1 P2 x ?_ h2]
  intro y hy
  rcases h1 with rfl | ⟨Q, p, rfl, hp⟩
  · cases hy
  · rw [List.mem_append, List.mem_singleton] at hy
    rcases hy with hy | rfl
    · unfold Gs.Srt at hs
      rw [List.append_assoc, List.pairwise_append] at hs
      have := hs.2.2 y hy p (by simp)
      unfold Gs.le at this
      have := of_decide_eq_true this
      omega
    · omega
set_option maxRecDepth 100000 in
set_option maxHeartbeats 4000000 in
theorem insI_any (g c B pb : Nat) (w0 : World) (k : Int → Int) (S : Int → Prop) (hcmp : CmpI B w0 pb k S) (hB : B ≤ g) (hB0 : B ≤ w0.heap.size) (A X Z : List Int) (a b N : Nat) (hS : ∀ x ∈ X, S x) (ha : A.length = a) (hb : A.length + X.length = b) (hN : N = A.length + X.length + Z.length) (hN2 : N ≤ 4096) (w : World) (hbl : Below B w0 w) (h : SegI w g (A ++ (X ++ Z))) :
    Calls Try.prog 89 #[.slice (some ⟨g, 0, none⟩) N c, .int .i64 (a : Int), .int .i64 (b : Int), cfI pb] w fun e w' => e = .returned (.tuple #[]) ∧ SegI w' g (A ++ (Gs.isr k X ++ Z)) ∧ Gb g w w' := by
  have IT := Box'.mk (Gs.isr_take k X)
  have IL := Box'.mk (Gs.isr_len k)
  have IS := Box'.mk (Gs.isr_srt k)
  have HS := Box'.mk hS
  have HCM := Box'.mk hcmp
  have HA := Box'.mk ha
  have HBB := Box'.mk hb
  have HNN := Box'.mk hN
  have hab : a ≤ b := by omega
  have hbN : b ≤ N := by omega
  have IP : Box' (∀ l y, y ∈ Gs.isr k l → y ∈ l) := ⟨fun l y hy => (Gs.isr_perm k l).mem_iff.1 hy⟩
  have I1 : Box' (Gs.isr k (X.take 1) = X.take 1) := ⟨by
    cases X with
    | nil => rfl
    | cons x r => show Gs.isr k [x] = [x]; unfold Gs.isr; simp [Gs.nil_mg]⟩
  unfold cfI
  clear hcmp hS ha hb hN
  have hs0 : SegI w g (A ++ (Gs.isr k (X.take 1) ++ (X.drop 1 ++ Z))) := by
    rw [I1.out, ← List.append_assoc (X.take 1), List.take_append_drop]; exact h
  clear h I1
  go_enter Try.func89, Try.ntmps89
  go_wp2_with fail
  go_loopw [8] (fun i wr => ∃ t : Nat, (t = 0 ∨ t + 1 ≤ X.length) ∧ a + 1 + t ≤ 5000 ∧ i = .int .i64 ((a + 1 + t : Nat) : Int) ∧ SegI wr g (A ++ (Gs.isr k (X.take (t + 1)) ++ (X.drop (t + 1) ++ Z))) ∧ Gb g w wr) (fun i _ => b + 1 - (intOf i).toNat)
  case atStart => exact ⟨0, .inl rfl, by omega, by congr 1, hs0, Gb.refl _ _⟩
  case round =>
    clear hs0
    obtain ⟨t, ht, ht5, rfl, hs, hg⟩ := hrel
    by_cases hlt : a + 1 + t < b
    · have hx : t + 1 < X.length := by have := HA.out; have := HBB.out; omega
      have ITk := Box'.mk (IT.out (t + 1) hx)
      have hPs := IS.out (X.take (t + 1))
      have hPl : (Gs.isr k (X.take (t + 1))).length = t + 1 := by rw [IL.out, List.length_take]; omega
      have hSx : S X[t + 1] := HS.out _ (List.getElem_mem hx)
      have hSP : ∀ y ∈ Gs.isr k (X.take (t + 1)), S y := fun y hy => HS.out y (List.mem_of_mem_take (IP.out _ _ hy))
      have hdr : X.drop (t + 1) = X[t + 1] :: X.drop (t + 2) := List.drop_eq_getElem_cons hx
      rw [hdr] at hs
      have HD : Box' ((X.drop (t + 2)).length = X.length - (t + 2)) := ⟨List.length_drop⟩
      have XL : Box' (a + X.length = b) := ⟨by have := HA.out; have := HBB.out; omega⟩
      have NL : Box' (N = a + X.length + Z.length) := ⟨by have := HA.out; have := HNN.out; omega⟩
      generalize hP : Gs.isr k (X.take (t + 1)) = P at *
      generalize hxx : X[t + 1] = x at *
      have hs : SegI wr g (A ++ (P ++ x :: (X.drop (t + 2) ++ Z))) := by simpa using hs
      generalize hR : X.drop (t + 2) ++ Z = R at *
      have RL : Box' (N = a + (t + 2) + R.length) := ⟨by have := HD.out; have := NL.out; have := XL.out; rw [← hR, List.length_append]; omega⟩
      have HPS := Box'.mk hPs
      have HSP := Box'.mk hSP
      have HPL := Box'.mk hPl
      have ENDK : Box' (∀ W, SegI W g (A ++ (Gs.mg k P [x] ++ R)) → SegI W g (A ++ (Gs.isr k (X.take (t + 1 + 1)) ++ (X.drop (t + 1 + 1) ++ Z)))) := ⟨fun W hW => by
        rw [ITk.out, hR]; exact hW⟩
      clear IT IS IL HS IP ITk hPs hPl hSP hdr HD hP hxx hR HNN
      go_wp2_with fail
      go_loopw [9] (fun j wr => ∃ (jn : Nat) (P1 P2 : List Int), j = .int .i64 (jn : Int) ∧ a ≤ jn ∧ jn ≤ a + 1 + t ∧ Box' (jn = a + P1.length) ∧ Box' (P = P1 ++ P2) ∧ Box' (∀ y ∈ P2, k x < k y) ∧ SegI wr g (A ++ (P1 ++ x :: (P2 ++ R))) ∧ Gb g w wr) (fun j _ => (intOf j).toNat)
      case atStart => exact ⟨a + 1 + t, P, [], rfl, by omega, by omega, ⟨by have := HPL.out; omega⟩, ⟨by simp⟩, ⟨fun y hy => by cases hy⟩, by simpa using hs, hg⟩
      case round =>
        clear hs hg
        obtain ⟨jn, P1, P2, rfl, hj1, hj2, HJ, HP, HL, hs, hg⟩ := hrel
        by_cases hja : jn = a
        · have hP1 : P1 = [] := List.eq_nil_of_length_eq_zero (by have := HJ.out; omega)
          subst hP1 hja
          have hend := ENDK.out wr (by
            have := ins_done k [] P2 x (by have := HPS.out; rw [HP.out] at this; exact this) HL.out (.inl rfl)
            rw [HP.out, ← this]; simpa using hs)
          clear ENDK HPS HSP HPL HP HL HJ hs HCM RL
          go_wp2_with fail
          go_quiet (fail)
          go_wp2_with fail
          exact ⟨⟨t + 1, .inr (by omega), by omega, by go_num, hend.drewN nq, hg.drewN nq⟩, by simp [intOf]; omega⟩
        · obtain ⟨Q, p, hQ⟩ : ∃ Q p, P1 = Q ++ [p] := by
            rcases List.eq_nil_or_concat P1 with h | ⟨Q, p, h⟩
            · exfalso; subst h; have := HJ.out; simp at this; omega
            · exact ⟨Q, p, by rw [h, List.concat_eq_append]⟩
          subst hQ
          obtain ⟨q, rfl⟩ : ∃ q, jn = q + 1 := ⟨jn - 1, by omega⟩
          have hq : q = a + Q.length := by have := HJ.out; simp at this; omega
          have hql : (A ++ Q).length = q := by have := HA.out; simp; omega
          have hs' : SegI wr g ((A ++ Q) ++ p :: ([] ++ x :: (P2 ++ R))) := by simpa using hs
          have hPl2 : Q.length + 1 + P2.length = t + 1 := by have := HPL.out; rw [HP.out] at this; simp at this; omega
          have hlen : ((A ++ Q) ++ p :: ([] ++ x :: (P2 ++ R))).length = N := by have := RL.out; have := HA.out; simp; omega
          have c0 := hs'.cell (k := q) (by rw [hlen]; have := RL.out; omega)
          have c1 := hs'.cell (k := q + 1) (by rw [hlen]; have := RL.out; omega)
          rw [← hql, get_mid, hql] at c0
          rw [show (A ++ Q) ++ p :: ([] ++ x :: (P2 ++ R)) = ((A ++ Q) ++ [p]) ++ x :: (P2 ++ R) by simp, show q + 1 = ((A ++ Q) ++ [p]).length by rw [List.length_append, hql]; rfl, get_mid, show ((A ++ Q) ++ [p]).length = q + 1 by rw [List.length_append, hql]; rfl] at c1
          have f0 := hs'.frozen q
          have f1 := hs'.frozen (q + 1)
          have ja1 : a ≤ q := by omega
          have ja2 : a < q + 1 := by omega
          have ja3 : (a : Int) < (q : Int) + 1 := by omega
          have hqN : q + 1 < N := by have := RL.out; omega
          have hcm := HCM.out
          have hbw := hg.on hbl hB hB0
          have hcc : ∀ n, Calls Try.prog 74 #[.int .i64 x, .int .i64 p, .pointer (some ⟨pb, 0, none⟩)] (wr.drewN n) fun e w' => e = .returned (.int .i64 (sg (k x) (k p))) ∧ ∃ m, w' = (wr.drewN n).drewN m := fun n => hcm _ (Below.drewN hbw n) x p hSx (HSP.out p (by rw [HP.out]; simp))
          have hsg := sg_lt (k x) (k p)
          generalize sg (k x) (k p) = sv' at *
          by_cases hlt2 : k x < k p
          · have hs2 := hs'
            have HQL := Box'.mk hql
            have i1 : sv' < 0 := by have := decide_eq_true hlt2; rw [← hsg] at this; exact of_decide_eq_true this
            have HQ := Box'.mk hq
            clear hs hs' hlen hq hql hPl2 hsg hcm
            go_wp2_with fail
            go_quiet ((go_at_call 74; exact Calls.quiet_of (hcc _)))
            have hsq := hs2.drewN nq
            have hg3 := hg.drewN nq
            clear hs2
            generalize hwq : wr.drewN nq = wq at *
            have c0' : wq.cell? ⟨g, q, none⟩ = some (.int .i64 p) := by rw [← hwq]; exact c0
            have c1' : wq.cell? ⟨g, q + 1, none⟩ = some (.int .i64 x) := by rw [← hwq]; exact c1
            have f0' : wq.frozen? ⟨g, q, none⟩ = false := by rw [← hwq]; exact f0
            have f1' : wq.frozen? ⟨g, q + 1, none⟩ = false := by rw [← hwq]; exact f1
            clear c0 c1 f0 f1 hcc hwq
            go_wp2_with fail
            go_region
            go_wp2_with fail
            have hsw := hsq.swap' q (q + 1) HQL.out.symm (by rw [HQL.out]; rfl)
            have hg2 := (hg3.setCell (q + 1) (.int .i64 p)).setCell q (.int .i64 x)
            exact ⟨⟨q, Q, p :: P2, by go_num, by omega, by omega, HQ, ⟨by rw [HP.out]; simp⟩, ⟨fun y hy => by
              rcases List.mem_cons.1 hy with rfl | hy
              · exact hlt2
              · exact HL.out y hy⟩, by simpa using hsw.drew, hg2.drew⟩, by simp [intOf]⟩
          · have i1 : ¬ sv' < 0 := by have := decide_eq_false hlt2; rw [← hsg] at this; exact of_decide_eq_false this
            have hend := ENDK.out wr (by
              have := ins_done k (Q ++ [p]) P2 x (by have := HPS.out; rw [HP.out] at this; exact this) HL.out (.inr ⟨Q, p, rfl, hlt2⟩)
              rw [HP.out, ← this]; simpa using hs)
            clear hs hs' hlen hq hql hPl2 hsg hcm ENDK HPS HSP HPL HP HL HJ HCM RL hlt2
            go_wp2_with fail
            go_quiet ((go_at_call 74; exact Calls.quiet_of (hcc _)))
            go_wp2_with fail
            exact ⟨⟨t + 1, .inr (by omega), by omega, by go_num, hend.drewN nq, hg.drewN nq⟩, by simp [intOf]; omega⟩
    · have hend : SegI wr g (A ++ (Gs.isr k X ++ Z)) := by
        have h1 : X.length ≤ t + 1 := by have := HA.out; have := HBB.out; omega
        rw [List.take_of_length_le h1, List.drop_of_length_le h1] at hs
        simpa using hs
      clear hs IT IL IS HS HCM HA HBB HNN IP
      go_wp2_with fail
      exact ⟨rfl, _, results89 _ _, rfl, hend, hg⟩
open Go.RowKit Go.BigFrame
set_option maxRecDepth 100000 in
theorem results90 (T : Array Value) (w : World) : (results Try.f90 T).run Try.prog w = .ok (.tuple #[]) w := by
  unfold results
  simp [go_sem]
set_option maxRecDepth 100000 in
theorem getD_add {α : Type} (A R : List α) (u : Nat) (d : α) : (A ++ R).getD (A.length + u) d = R.getD u d := by
  simp [List.getD_eq_getElem?_getD, List.getElem?_append_right]
set_option maxRecDepth 100000 in
theorem getD_left {α : Type} (X R : List α) (u : Nat) (d : α) (h : u < X.length) : (X ++ R).getD u d = X.getD u d := by
  simp [List.getD_eq_getElem?_getD, List.getElem?_append_left h]
set_option maxRecDepth 100000 in
theorem srt_get (k : Int → Int) (Y : List Int) (h : Gs.Srt k Y) (u v : Nat) (huv : u ≤ v) (hv : v < Y.length) : k (Y.getD u 0) ≤ k (Y.getD v 0) := by
  rcases Nat.lt_or_ge u v with h1 | h1
  · have := List.pairwise_iff_getElem.1 h u v (by omega) hv h1
    unfold Gs.le at this
    have := of_decide_eq_true this
    simpa [hv, Nat.lt_of_lt_of_le h1 (Nat.le_of_lt hv)] using this
  · have : u = v := by omega
    subst this; exact Int.le_refl _
set_option maxRecDepth 100000 in
theorem mem_take_get {Y : List Int} {n : Nat} {y : Int} (h : y ∈ Y.take n) : ∃ u, u < n ∧ u < Y.length ∧ Y.getD u 0 = y := by
  obtain ⟨u, hu, rfl⟩ := List.getElem_of_mem h
  rw [List.length_take] at hu
  exact ⟨u, by omega, by omega, by simp [show u < Y.length by omega]⟩
set_option maxRecDepth 100000 in
theorem mem_drop_get {Y : List Int} {n : Nat} {y : Int} (h : y ∈ Y.drop n) : ∃ u, n ≤ u ∧ u < Y.length ∧ Y.getD u 0 = y := by
  obtain ⟨u, hu, rfl⟩ := List.getElem_of_mem h
  rw [List.length_drop] at hu
  exact ⟨n + u, by omega, by omega, by simp [show n + u < Y.length by omega]⟩
set_option maxRecDepth 100000 in
theorem one_left (k : Int → Int) (Y : List Int) (x : Int) (n : Nat) (h1 : ∀ u, u < n → k (Y.getD u 0) < k x) (h2 : ∀ u, n ≤ u → u < Y.length → k x ≤ k (Y.getD u 0)) : Gs.mg k [x] Y = Y.take n ++ x :: Y.drop n := by
  have := Gs.mg_split k [] (Y.take n) [x] (Y.drop n) (fun x hx => by cases hx) (fun y hy z hz => by
    rw [List.mem_singleton] at hz; subst hz
    obtain ⟨u, hu, _, rfl⟩ := mem_take_get hy
    exact h1 u hu)
  rw [List.nil_append, List.take_append_drop, Gs.nil_mg] at this
  rw [this, Gs.mg_app k [x] (Y.drop n) (fun z hz y hy => by
    rw [List.mem_singleton] at hz; subst hz
    obtain ⟨u, hu, hl, rfl⟩ := mem_drop_get hy
    exact h2 u hu hl)]
  rfl
set_option maxRecDepth 100000 in
theorem one_right (k : Int → Int) (X : List Int) (y : Int) (n : Nat) (h1 : ∀ u, u < n → k (X.getD u 0) ≤ k y) (h2 : ∀ u, n ≤ u → u < X.length → k y < k (X.getD u 0)) : Gs.mg k X [y] = X.take n ++ y :: X.drop n := by
  have := Gs.mg_one k (X.take n) (X.drop n) y (fun z hz => by
    obtain ⟨u, hu, _, rfl⟩ := mem_take_get hz
    exact h1 u hu) (fun z hz => by
    obtain ⟨u, hu, hl, rfl⟩ := mem_drop_get hz
    exact h2 u hu hl)
  rwa [List.take_append_drop] at this
set_option maxRecDepth 100000 in
set_option maxHeartbeats 4000000 in
theorem symI_left (g c B pb : Nat) (w0 : World) (k : Int → Int) (S : Int → Prop) (hcmp : CmpI B w0 pb k S) (hB : B ≤ g) (hB0 : B ≤ w0.heap.size) (A : List Int) (x : Int) (Y Z : List Int) (a m b N : Nat) (hx : S x) (hS : ∀ y ∈ Y, S y) (hY : Gs.Srt k Y) (ha : A.length = a) (hm : a + 1 = m) (hb : m + Y.length = b) (hN : N = b + Z.length) (hN2 : N ≤ 4096) (w : World) (hbl : Below B w0 w) (h : SegI w g (A ++ ([x] ++ (Y ++ Z)))) :
    Calls Try.prog 90 #[.slice (some ⟨g, 0, none⟩) N c, .int .i64 (a : Int), .int .i64 (m : Int), .int .i64 (b : Int), cfI pb] w fun e w' => e = .returned (.tuple #[]) ∧ SegI w' g (A ++ (Gs.mg k [x] Y ++ Z)) ∧ Gb g w w' := by
  have HSY : Box' (∀ u, u < Y.length → S (Y.getD u 0)) := ⟨fun u hu => hS _ (by simp [hu])⟩
  have HYS := Box'.mk (srt_get k Y hY)
  have HCM := Box'.mk hcmp
  have CEL : Box' (∀ W, SegI W g (A ++ ([x] ++ (Y ++ Z))) → ∀ u, u < Y.length → W.cell? ⟨g, m + u, none⟩ = some (.int .i64 (Y.getD u 0))) := ⟨fun W hW u hu => by
    have := hW.cell (k := m + u) (by simp; omega)
    rw [show m + u = A.length + (1 + u) by omega, getD_add, show (1 + u) = [x].length + u from rfl, getD_add, getD_left _ _ _ _ hu] at this
    rw [show A.length + ([x].length + u) = m + u by simp; omega] at this
    exact this⟩
  have CEX : Box' (∀ W, SegI W g (A ++ ([x] ++ (Y ++ Z))) → W.cell? ⟨g, a, none⟩ = some (.int .i64 x)) := ⟨fun W hW => by
    have := hW.cell (k := a) (by simp; omega)
    rw [← ha, show ([x] ++ (Y ++ Z)) = x :: (Y ++ Z) from rfl, get_mid, ha] at this
    exact this⟩
  have DONE : Box' (∀ n, (∀ u, u < n → k (Y.getD u 0) < k x) → (∀ u, n ≤ u → u < Y.length → k x ≤ k (Y.getD u 0)) → Gs.mg k [x] Y = Y.take n ++ x :: Y.drop n) := ⟨one_left k Y x⟩
  have YL : Box' (m + Y.length = b) := ⟨hb⟩
  have AL : Box' (A.length = a) := ⟨ha⟩
  have NL : Box' (N = b + Z.length) := ⟨hN⟩
  have hmb : m ≤ b := by omega
  have hbN : b ≤ N := by omega
  unfold cfI
  have hm0 : ((m : Int) - (a : Int) == 1) = true := by rw [beq_iff_eq]; omega
  have hm1 : a + 1 ≤ m := by omega
  have hm2 : m ≤ a + 1 := by omega
  clear hcmp hS hY ha hb hN hm
  go_enter Try.func90, Try.ntmps90
  go_wp2_with fail
  go_loopw [10, 11] (fun u v wr => ∃ i j : Nat, u = .int .i64 (i : Int) ∧ v = .int .i64 (j : Int) ∧ m ≤ i ∧ i ≤ j ∧ j ≤ b ∧ Box' (∀ u, u < i - m → k (Y.getD u 0) < k x) ∧ Box' (∀ u, j - m ≤ u → u < Y.length → k x ≤ k (Y.getD u 0)) ∧ SegI wr g (A ++ ([x] ++ (Y ++ Z))) ∧ Gb g w wr) (fun u v _ => (intOf v).toNat - (intOf u).toNat)
  case atStart => exact ⟨m, b, rfl, rfl, by omega, by omega, by omega, ⟨fun u hu => by omega⟩, ⟨fun u hu hl => by have := YL.out; omega⟩, h, Gb.refl _ _⟩
  case round =>
    clear h
    obtain ⟨i, j, rfl, rfl, h1, h2, h3, L1, L2, hs, hg⟩ := hrel
    by_cases hij : i < j
    · have hh : (i + j) / 2 - m < Y.length := by have := YL.out; omega
      have c0 := CEL.out wr hs ((i + j) / 2 - m) hh
      rw [show m + ((i + j) / 2 - m) = (i + j) / 2 by omega] at c0
      have c1 := CEX.out wr hs
      have hbw := hg.on hbl hB hB0
      have hcc : ∀ n, Calls Try.prog 74 #[.int .i64 (Y.getD ((i + j) / 2 - m) 0), .int .i64 x, .pointer (some ⟨pb, 0, none⟩)] (wr.drewN n) fun e w' => e = .returned (.int .i64 (sg (k (Y.getD ((i + j) / 2 - m) 0)) (k x))) ∧ ∃ m, w' = (wr.drewN n).drewN m := fun n => HCM.out _ (Below.drewN hbw n) _ _ (HSY.out _ hh) hx
      have hsg := sg_lt (k (Y.getD ((i + j) / 2 - m) 0)) (k x)
      have up1 : k (Y.getD ((i + j) / 2 - m) 0) < k x → Box' (∀ u, u < (i + j) / 2 + 1 - m → k (Y.getD u 0) < k x) := fun hlt => ⟨fun u hu => by
        have := HYS.out u ((i + j) / 2 - m) (by omega) hh; omega⟩
      have up2 : ¬ k (Y.getD ((i + j) / 2 - m) 0) < k x → Box' (∀ u, (i + j) / 2 - m ≤ u → u < Y.length → k x ≤ k (Y.getD u 0)) := fun hlt => ⟨fun u hu hl => by
        have := HYS.out ((i + j) / 2 - m) u hu hl; omega⟩
      have UP1 := Box'.mk up1
      have UP2 := Box'.mk up2
      have hiN : (i + j) / 2 < N := by omega
      generalize sg (k (Y.getD ((i + j) / 2 - m) 0)) (k x) = sv' at *
      by_cases hlt : k (Y.getD ((i + j) / 2 - m) 0) < k x
      · have U := UP1.out hlt
        have i1 : sv' < 0 := by have := decide_eq_true hlt; rw [← hsg] at this; exact of_decide_eq_true this
        generalize Y.getD ((i + j) / 2 - m) 0 = yh at *
        clear HSY HYS HCM CEL CEX DONE YL AL NL hsg up1 up2 UP1 UP2 hh L1 hlt
        go_wp2_with fail
        go_quiet ((go_at_call 74; exact Calls.quiet_of (hcc _)))
        go_wp2_with fail
        exact ⟨⟨(i + j) / 2 + 1, j, by go_num, rfl, by omega, by omega, by omega, U, L2, hs.drewN nq, hg.drewN nq⟩, by simp [intOf]; omega⟩
      · have U := UP2.out hlt
        have i1 : ¬ sv' < 0 := by have := decide_eq_false hlt; rw [← hsg] at this; exact of_decide_eq_false this
        generalize Y.getD ((i + j) / 2 - m) 0 = yh at *
        clear HSY HYS HCM CEL CEX DONE YL AL NL hsg up1 up2 UP1 UP2 hh L2 hlt
        go_wp2_with fail
        go_quiet ((go_at_call 74; exact Calls.quiet_of (hcc _)))
        go_wp2_with fail
        exact ⟨⟨i, (i + j) / 2, rfl, by go_num, by omega, by omega, by omega, L1, U, hs.drewN nq, hg.drewN nq⟩, by simp [intOf]; omega⟩
    · obtain rfl : i = j := by omega
      have hD := DONE.out (i - m) L1.out L2.out
      have HD : Box' (∀ W, SegI W g (A ++ (Y.take (i - m) ++ x :: (Y.drop (i - m) ++ Z))) → SegI W g (A ++ (Gs.mg k [x] Y ++ Z))) := ⟨fun W hW => by rw [hD]; simpa using hW⟩
      have hY1 : (Y.take (i - m)).length = i - m := by rw [List.length_take]; have := YL.out; omega
      have HY1 := Box'.mk hY1
      have hs2 : SegI wr g (A ++ ([] ++ x :: (Y.take (i - m) ++ (Y.drop (i - m) ++ Z)))) := by
        rw [← List.append_assoc (Y.take _), List.take_append_drop]; simpa using hs
      have hZL : Box' ((Y.drop (i - m) ++ Z).length = N - i) := ⟨by rw [List.length_append, List.length_drop]; have := YL.out; have := NL.out; omega⟩
      generalize Y.take (i - m) = Y1 at *
      generalize Y.drop (i - m) ++ Z = R at *
      clear HSY HYS HCM CEL CEX DONE YL NL L1 L2 hs hD hY1
      go_wp2_with fail
      go_loopw [13] (fun u wr => ∃ (q : Nat) (U1 U2 : List Int), u = .int .i64 (q : Int) ∧ a ≤ q ∧ q ≤ i - 1 ∧ Box' (q = a + U1.length) ∧ Box' (Y1 = U1 ++ U2) ∧ SegI wr g (A ++ (U1 ++ x :: (U2 ++ R))) ∧ Gb g w wr) (fun u _ => i - (intOf u).toNat)
      case atStart => exact ⟨a, [], Y1, rfl, by omega, by omega, ⟨rfl⟩, ⟨rfl⟩, hs2, hg⟩
      case round =>
        clear hs2 hg
        obtain ⟨q, U1, U2, rfl, q1, q2, HQ, HU, hs, hg⟩ := hrel
        by_cases hlt : q < i - 1
        · obtain ⟨y, U2', hU2⟩ : ∃ y U2', U2 = y :: U2' := by
            cases U2 with
            | nil => exfalso; have := HU.out; have := HY1.out; have := HQ.out; simp_all; omega
            | cons y r => exact ⟨y, r, rfl⟩
          subst hU2
          have hql : (A ++ U1).length = q := by have := AL.out; have := HQ.out; simp; omega
          have hs' : SegI wr g ((A ++ U1) ++ x :: ([] ++ y :: (U2' ++ R))) := by simpa using hs
          have hlen : q + 1 < ((A ++ U1) ++ x :: ([] ++ y :: (U2' ++ R))).length := by rw [List.length_append, hql]; simp
          have c0 := hs'.cell (k := q) (by omega)
          have c1 := hs'.cell (k := q + 1) hlen
          rw [← hql, get_mid, hql] at c0
          rw [show (A ++ U1) ++ x :: ([] ++ y :: (U2' ++ R)) = ((A ++ U1) ++ [x]) ++ y :: (U2' ++ R) by simp, show q + 1 = ((A ++ U1) ++ [x]).length by rw [List.length_append, hql]; rfl, get_mid, show ((A ++ U1) ++ [x]).length = q + 1 by rw [List.length_append, hql]; rfl] at c1
          have f0 := hs'.frozen q
          have f1 := hs'.frozen (q + 1)
          have hsw := hs'.swap q (q + 1) hql.symm (by rw [hql]; rfl)
          have hg2 := (hg.setCell q (.int .i64 y)).setCell (q + 1) (.int .i64 x)
          have hqN : q + 1 < N := by omega
          clear hs hs' hlen hql HD
          go_wp2_with fail
          go_region
          go_wp2_with fail
          exact ⟨⟨q + 1, U1 ++ [y], U2', by go_num, by omega, by omega, ⟨by have := HQ.out; simp; omega⟩, ⟨by rw [HU.out]; simp⟩, by simpa using hsw.drew, hg2.drew⟩, by simp [intOf]; omega⟩
        · have hU2 : U2 = [] := by
            have h1 := HU.out; have h2 := HY1.out; have h3 := HQ.out
            rw [h1, List.length_append] at h2
            exact List.eq_nil_of_length_eq_zero (by omega)
          subst hU2
          have hend := HD.out wr (by have h1 := HU.out; rw [List.append_nil] at h1; rw [h1]; simpa using hs)
          clear hs HD HU HQ HY1 hZL
          go_wp2_with fail
          exact ⟨rfl, _, results90 _ _, rfl, hend, hg⟩
open Go.RowKit Go.BigFrame
set_option maxRecDepth 100000 in
set_option maxHeartbeats 4000000 in
theorem symI_right (g c B pb : Nat) (w0 : World) (k : Int → Int) (S : Int → Prop) (hcmp : CmpI B w0 pb k S) (hB : B ≤ g) (hB0 : B ≤ w0.heap.size) (A : List Int) (y : Int) (X Z : List Int) (a m b N : Nat) (hy : S y) (hS : ∀ x ∈ X, S x) (hX : Gs.Srt k X) (ha : A.length = a) (hm : a + X.length = m) (hX2 : 2 ≤ X.length) (hb : m + 1 = b) (hN : N = b + Z.length) (hN2 : N ≤ 4096) (w : World) (hbl : Below B w0 w) (h : SegI w g (A ++ (X ++ ([y] ++ Z)))) :
    Calls Try.prog 90 #[.slice (some ⟨g, 0, none⟩) N c, .int .i64 (a : Int), .int .i64 (m : Int), .int .i64 (b : Int), cfI pb] w fun e w' => e = .returned (.tuple #[]) ∧ SegI w' g (A ++ (Gs.mg k X [y] ++ Z)) ∧ Gb g w w' := by
  have HSX : Box' (∀ u, u < X.length → S (X.getD u 0)) := ⟨fun u hu => hS _ (by simp [hu])⟩
  have HXS := Box'.mk (srt_get k X hX)
  have HCM := Box'.mk hcmp
  have CEL : Box' (∀ W, SegI W g (A ++ (X ++ ([y] ++ Z))) → ∀ u, u < X.length → W.cell? ⟨g, a + u, none⟩ = some (.int .i64 (X.getD u 0))) := ⟨fun W hW u hu => by
    have := hW.cell (k := a + u) (by simp; omega)
    rw [← ha, getD_add, getD_left _ _ _ _ hu, ha] at this
    exact this⟩
  have CEY : Box' (∀ W, SegI W g (A ++ (X ++ ([y] ++ Z))) → W.cell? ⟨g, m, none⟩ = some (.int .i64 y)) := ⟨fun W hW => by
    have := hW.cell (k := m) (by simp; omega)
    rw [show m = A.length + (X.length + 0) by omega, getD_add, getD_add] at this
    rw [show A.length + (X.length + 0) = m by omega] at this
    exact this⟩
  have DONE : Box' (∀ n, (∀ u, u < n → k (X.getD u 0) ≤ k y) → (∀ u, n ≤ u → u < X.length → k y < k (X.getD u 0)) → Gs.mg k X [y] = X.take n ++ y :: X.drop n) := ⟨one_right k X y⟩
  have XL : Box' (a + X.length = m) := ⟨hm⟩
  have AL : Box' (A.length = a) := ⟨ha⟩
  have NL : Box' (N = b + Z.length) := ⟨hN⟩
  have ham : a + 2 ≤ m := by omega
  have hbN : b ≤ N := by omega
  unfold cfI
  have hm0 : ((m : Int) - (a : Int) == 1) = false := by rw [beq_eq_false_iff_ne]; omega
  have hb0 : ((b : Int) - (m : Int) == 1) = true := by rw [beq_iff_eq]; omega
  have hb1 : m + 1 ≤ b := by omega
  have hb2 : b ≤ m + 1 := by omega
  clear hcmp hS hX ha hb hN hm hX2
  go_enter Try.func90, Try.ntmps90
  go_wp2_with fail
  go_loopw [14, 15] (fun u v wr => ∃ i j : Nat, u = .int .i64 (i : Int) ∧ v = .int .i64 (j : Int) ∧ a ≤ i ∧ i ≤ j ∧ j ≤ m ∧ Box' (∀ u, u < i - a → k (X.getD u 0) ≤ k y) ∧ Box' (∀ u, j - a ≤ u → u < X.length → k y < k (X.getD u 0)) ∧ SegI wr g (A ++ (X ++ ([y] ++ Z))) ∧ Gb g w wr) (fun u v _ => (intOf v).toNat - (intOf u).toNat)
  case atStart => exact ⟨a, m, rfl, rfl, by omega, by omega, by omega, ⟨fun u hu => by omega⟩, ⟨fun u hu hl => by have := XL.out; omega⟩, h, Gb.refl _ _⟩
  case round =>
    clear h
    obtain ⟨i, j, rfl, rfl, h1, h2, h3, L1, L2, hs, hg⟩ := hrel
    by_cases hij : i < j
    · have hh : (i + j) / 2 - a < X.length := by have := XL.out; omega
      have c0 := CEL.out wr hs ((i + j) / 2 - a) hh
      rw [show a + ((i + j) / 2 - a) = (i + j) / 2 by omega] at c0
      have c1 := CEY.out wr hs
      have hbw := hg.on hbl hB hB0
      have hcc : ∀ n, Calls Try.prog 74 #[.int .i64 y, .int .i64 (X.getD ((i + j) / 2 - a) 0), .pointer (some ⟨pb, 0, none⟩)] (wr.drewN n) fun e w' => e = .returned (.int .i64 (sg (k y) (k (X.getD ((i + j) / 2 - a) 0)))) ∧ ∃ m, w' = (wr.drewN n).drewN m := fun n => HCM.out _ (Below.drewN hbw n) _ _ hy (HSX.out _ hh)
      have hsg := sg_lt (k y) (k (X.getD ((i + j) / 2 - a) 0))
      have up1 : ¬ k y < k (X.getD ((i + j) / 2 - a) 0) → Box' (∀ u, u < (i + j) / 2 + 1 - a → k (X.getD u 0) ≤ k y) := fun hlt => ⟨fun u hu => by
        have := HXS.out u ((i + j) / 2 - a) (by omega) hh; omega⟩
      have up2 : k y < k (X.getD ((i + j) / 2 - a) 0) → Box' (∀ u, (i + j) / 2 - a ≤ u → u < X.length → k y < k (X.getD u 0)) := fun hlt => ⟨fun u hu hl => by
        have := HXS.out ((i + j) / 2 - a) u hu hl; omega⟩
      have UP1 := Box'.mk up1
      have UP2 := Box'.mk up2
      have hiN : (i + j) / 2 < N := by omega
      have hmN : m < N := by omega
      generalize sg (k y) (k (X.getD ((i + j) / 2 - a) 0)) = sv' at *
      by_cases hlt : k y < k (X.getD ((i + j) / 2 - a) 0)
      · have U := UP2.out hlt
        have i1 : sv' < 0 := by have := decide_eq_true hlt; rw [← hsg] at this; exact of_decide_eq_true this
        have i2 : (!decide (sv' < 0)) = false := by rw [decide_eq_true i1]; rfl
        generalize X.getD ((i + j) / 2 - a) 0 = xh at *
        clear HSX HXS HCM CEL CEY DONE XL AL NL hsg up1 up2 UP1 UP2 hh L2 hlt
        go_wp2_with fail
        go_quiet ((go_at_call 74; exact Calls.quiet_of (hcc _)))
        go_wp2_with fail
        exact ⟨⟨i, (i + j) / 2, rfl, by go_num, by omega, by omega, by omega, L1, U, hs.drewN nq, hg.drewN nq⟩, by simp [intOf]; omega⟩
      · have U := UP1.out hlt
        have i1 : ¬ sv' < 0 := by have := decide_eq_false hlt; rw [← hsg] at this; exact of_decide_eq_false this
        have i2 : (!decide (sv' < 0)) = true := by rw [decide_eq_false i1]; rfl
        generalize X.getD ((i + j) / 2 - a) 0 = xh at *
        clear HSX HXS HCM CEL CEY DONE XL AL NL hsg up1 up2 UP1 UP2 hh L1 hlt
        go_wp2_with fail
        go_quiet ((go_at_call 74; exact Calls.quiet_of (hcc _)))
        go_wp2_with fail
        exact ⟨⟨(i + j) / 2 + 1, j, by go_num, rfl, by omega, by omega, by omega, U, L2, hs.drewN nq, hg.drewN nq⟩, by simp [intOf]; omega⟩
    · obtain rfl : i = j := by omega
      have hD := DONE.out (i - a) L1.out L2.out
      have HD : Box' (∀ W, SegI W g (A ++ (X.take (i - a) ++ y :: (X.drop (i - a) ++ Z))) → SegI W g (A ++ (Gs.mg k X [y] ++ Z))) := ⟨fun W hW => by rw [hD]; simpa using hW⟩
      have hX1 : (X.take (i - a)).length = i - a := by rw [List.length_take]; have := XL.out; omega
      have hX2 : (X.drop (i - a)).length = m - i := by rw [List.length_drop]; have := XL.out; omega
      have HX1 := Box'.mk hX1
      have HX2 := Box'.mk hX2
      have hs2 : SegI wr g (A ++ (X.take (i - a) ++ (X.drop (i - a) ++ y :: ([] ++ Z)))) := by
        rw [← List.append_assoc (X.take _), List.take_append_drop]; simpa using hs
      have XT := Box'.mk (List.take_append_drop (i - a) X)
      generalize X.take (i - a) = X1 at *
      generalize X.drop (i - a) = X2 at *
      clear HSX HXS HCM CEL CEY DONE XL L1 L2 hs hD hX1 hX2 XT
      go_wp2_with fail
      go_loopw [17] (fun u wr => ∃ (q : Nat) (U1 U2 : List Int), u = .int .i64 (q : Int) ∧ i ≤ q ∧ q ≤ m ∧ Box' (q = i + U1.length) ∧ Box' (X2 = U1 ++ U2) ∧ SegI wr g (A ++ (X1 ++ (U1 ++ y :: (U2 ++ Z)))) ∧ Gb g w wr) (fun u _ => (intOf u).toNat)
      case atStart => exact ⟨m, X2, [], rfl, by omega, by omega, ⟨by have := HX2.out; omega⟩, ⟨by simp⟩, hs2, hg⟩
      case round =>
        clear hs2 hg
        obtain ⟨q, U1, U2, rfl, q1, q2, HQ, HU, hs, hg⟩ := hrel
        by_cases hlt : i < q
        · obtain ⟨Q, p, hQ⟩ : ∃ Q p, U1 = Q ++ [p] := by
            rcases List.eq_nil_or_concat U1 with h | ⟨Q, p, h⟩
            · exfalso; subst h; have := HQ.out; simp at this; omega
            · exact ⟨Q, p, by rw [h, List.concat_eq_append]⟩
          subst hQ
          obtain ⟨q, rfl⟩ : ∃ r, q = r + 1 := ⟨q - 1, by omega⟩
          have hql : (A ++ (X1 ++ Q)).length = q := by have := AL.out; have := HQ.out; have := HX1.out; simp at *; omega
          have hs' : SegI wr g ((A ++ (X1 ++ Q)) ++ p :: ([] ++ y :: (U2 ++ Z))) := by simpa using hs
          have hlen : q + 1 < ((A ++ (X1 ++ Q)) ++ p :: ([] ++ y :: (U2 ++ Z))).length := by rw [List.length_append, hql]; simp
          have c0 := hs'.cell (k := q) (by omega)
          have c1 := hs'.cell (k := q + 1) hlen
          rw [← hql, get_mid, hql] at c0
          rw [show (A ++ (X1 ++ Q)) ++ p :: ([] ++ y :: (U2 ++ Z)) = ((A ++ (X1 ++ Q)) ++ [p]) ++ y :: (U2 ++ Z) by simp, show q + 1 = ((A ++ (X1 ++ Q)) ++ [p]).length by rw [List.length_append, hql]; rfl, get_mid, show ((A ++ (X1 ++ Q)) ++ [p]).length = q + 1 by rw [List.length_append, hql]; rfl] at c1
          have f0 := hs'.frozen q
          have f1 := hs'.frozen (q + 1)
          have hsw := hs'.swap' q (q + 1) hql.symm (by rw [hql]; rfl)
          have hg2 := (hg.setCell (q + 1) (.int .i64 p)).setCell q (.int .i64 y)
          have hqN : q + 1 < N := by omega
          have HQ2 : Box' (q = i + Q.length) := ⟨by have := HQ.out; simp at this; omega⟩
          clear hs hs' hlen hql HD HQ
          go_wp2_with fail
          go_region
          go_wp2_with fail
          exact ⟨⟨q, Q, p :: U2, by go_num, by omega, by omega, HQ2, ⟨by rw [HU.out]; simp⟩, by simpa using hsw.drew, hg2.drew⟩, by simp [intOf]⟩
        · have hU1 : U1 = [] := List.eq_nil_of_length_eq_zero (by have := HQ.out; omega)
          subst hU1
          have hend := HD.out wr (by have h1 := HU.out; rw [List.nil_append] at h1; rw [h1]; simpa using hs)
          clear hs HD HU HQ HX1 HX2
          go_wp2_with fail
          exact ⟨rfl, _, results90 _ _, rfl, hend, hg⟩
end Go.Proofs.Ytcjfaahlchbcmaa
