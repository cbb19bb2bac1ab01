/- Alike: whatever of what a sender tells comes, the receiver's states are the sender's. -/
import Derived.Test.YtikkekdmahdgaaaRm
namespace Go.Proofs.Ytikkekdmahdgaaa
set_option maxRecDepth 100000
open Go.RowKit Go.BigFrame
set_option linter.unusedSimpArgs false
set_option linter.unusedVariables false

theorem getH_old {had : List (List UInt8)} (a : List UInt8) {k : Nat} (h : k < had.length) : (had ++ [a]).getD k [] = had.getD k [] := by
  simp [List.getD_eq_getElem?_getD, List.getElem?_append_left h]
theorem getH_new (had : List (List UInt8)) (a : List UInt8) : (had ++ [a]).getD had.length [] = a := by simp [List.getD_eq_getElem?_getD]
/-- Each text goes on from those ahead of it, and what there is now from all of them. -/
structure HdI (had : List (List UInt8)) (all : List UInt8) : Prop where
  pre : ∀ i j, i ≤ j → j < had.length → had.getD i [] <+: had.getD j []
  up : ∀ i, i < had.length → had.getD i [] <+: all
theorem HdI.more {had : List (List UInt8)} {all : List UInt8} (h : HdI had all) (b : List UInt8) : HdI had (all ++ b) := ⟨h.pre, fun i hi => (h.up i hi).trans (List.prefix_append _ _)⟩
theorem HdI.put {had : List (List UInt8)} {all : List UInt8} (h : HdI had all) : HdI (had ++ [all]) all := by
  refine ⟨fun i j hij hj => ?_, fun i hi => ?_⟩
  · rw [List.length_append, List.length_singleton] at hj
    rcases Nat.lt_succ_iff_lt_or_eq.1 hj with h1 | rfl
    · rw [getH_old _ h1, getH_old _ (by omega)]; exact h.pre i j hij h1
    · rw [getH_new]
      rcases Nat.lt_or_eq_of_le hij with h2 | rfl
      · rw [getH_old _ h2]; exact h.up i h2
      · rw [getH_new]; exact List.prefix_refl _
  · rw [List.length_append, List.length_singleton] at hi
    rcases Nat.lt_succ_iff_lt_or_eq.1 hi with h1 | rfl
    · rw [getH_old _ h1]; exact h.up i h1
    · rw [getH_new]; exact List.prefix_refl _
/-- A state that was had, with its number. -/
def InH (had : List (List UInt8)) (y : Rw) : Prop := y.n.toNat < had.length ∧ y.t = had.getD y.n.toNat []
theorem InH.more {had : List (List UInt8)} {y : Rw} (h : InH had y) (a : List UInt8) : InH (had ++ [a]) y :=
  ⟨by rw [List.length_append]; have := h.1; omega, by rw [getH_old _ h.1]; exact h.2⟩
/-- The states that a sender has sent: the last ones that were had. -/
structure SnL (had : List (List UInt8)) (l : List Rw) : Prop where
  pos : 0 < l.length
  len : l.length ≤ 32
  rows : ∀ k, k < l.length → InH had (l.getD k Rw.zero)
  seq : ∀ k, k < l.length → (l.getD k Rw.zero).n.toNat + l.length = had.length + k
/-- An instruction that was told of what was had. -/
structure GdI (had : List (List UInt8)) (x : Ins) : Prop where
  le : x.o.toNat ≤ x.n.toNat
  lt : x.n.toNat < had.length
  dif : had.getD x.o.toNat [] ++ x.dif = had.getD x.n.toNat []
theorem GdI.more {had : List (List UInt8)} {x : Ins} (h : GdI had x) (a : List UInt8) : GdI (had ++ [a]) x :=
  ⟨h.le, by rw [List.length_append]; have := h.lt; omega, by rw [getH_old _ h.lt, getH_old _ (Nat.lt_of_le_of_lt h.le h.lt)]; exact h.dif⟩
theorem sufF_pre {a b : List UInt8} (h : a <+: b) : sufF a b = (b.drop a.length, true) := by
  unfold sufF
  rw [if_pos ⟨h.length_le, (List.prefix_iff_eq_take.1 h).symm⟩]
theorem setA_lenS (l : List Rw) (now : UInt64) : (setA l now).length = l.length := by simp [setA]
theorem setA_get (l : List Rw) (now : UInt64) (k : Nat) : ((setA l now).getD k Rw.zero).n = (l.getD k Rw.zero).n ∧ ((setA l now).getD k Rw.zero).t = (l.getD k Rw.zero).t := by
  unfold setA lastR
  by_cases hk : k < l.length
  · by_cases he : l.length - 1 = k
    · subst he
      simp [List.getD_eq_getElem?_getD, List.getElem?_set, hk]
    · simp [List.getD_eq_getElem?_getD, List.getElem?_set, he]
  · simp [List.getD_eq_getElem?_getD, List.getElem?_set, hk]
theorem SnL.setA {had : List (List UInt8)} {l : List Rw} (h : SnL had l) (now : UInt64) : SnL had (setA l now) := by
  refine ⟨by rw [setA_lenS]; exact h.pos, by rw [setA_lenS]; exact h.len, fun k hk => ?_, fun k hk => ?_⟩
  · rw [setA_lenS] at hk
    have := h.rows k hk
    unfold InH at *
    rw [(setA_get l now k).1, (setA_get l now k).2]; exact this
  · rw [setA_lenS] at hk
    rw [(setA_get l now k).1, setA_lenS]; exact h.seq k hk
theorem SnL.drop {had : List (List UInt8)} {l : List Rw} (h : SnL had l) {j : Nat} (hj : j < l.length) : SnL had (l.drop j) := by
  have hl := h.len
  have e : ∀ k, (l.drop j).getD k Rw.zero = l.getD (j + k) Rw.zero := fun k => by simp [List.getD_eq_getElem?_getD]
  refine ⟨by rw [List.length_drop]; omega, by rw [List.length_drop]; omega, fun k hk => ?_, fun k hk => ?_⟩
  · rw [List.length_drop] at hk; rw [e]; exact h.rows _ (by omega)
  · rw [List.length_drop] at hk ⊢
    rw [e]
    have := h.seq (j + k) (by omega)
    omega
theorem SnL.put {had : List (List UInt8)} {l : List Rw} (h : SnL had l) (t : List UInt8) (a : UInt64) (h32 : l.length < 32) (hw : had.length < 18446744073709551616) : SnL (had ++ [t]) (l ++ [⟨(lastR l).n + 1, t, a⟩]) := by
  have hp := h.pos
  have hn : ((lastR l).n + 1).toNat = had.length := by
    have := h.seq (l.length - 1) (by omega)
    have e : (lastR l).n.toNat + 1 = had.length := by unfold lastR; omega
    rw [UInt64.toNat_add, show (1 : UInt64).toNat = 1 from rfl, e]
    omega
  have g1 : ∀ k, k < l.length → (l ++ [(⟨(lastR l).n + 1, t, a⟩ : Rw)]).getD k Rw.zero = l.getD k Rw.zero := fun k hk => by simp [List.getD_eq_getElem?_getD, List.getElem?_append_left hk]
  have g2 : (l ++ [(⟨(lastR l).n + 1, t, a⟩ : Rw)]).getD l.length Rw.zero = ⟨(lastR l).n + 1, t, a⟩ := by simp [List.getD_eq_getElem?_getD]
  refine ⟨by simp, by simp; omega, fun k hk => ?_, fun k hk => ?_⟩
  · rw [List.length_append, List.length_singleton] at hk
    rcases Nat.lt_succ_iff_lt_or_eq.1 hk with h1 | rfl
    · rw [g1 k h1]; exact (h.rows k h1).more t
    · rw [g2]
      refine ⟨by show ((lastR l).n + 1).toNat < _; rw [hn]; simp, ?_⟩
      show t = (had ++ [t]).getD ((lastR l).n + 1).toNat []
      rw [hn, getH_new]
  · rw [List.length_append, List.length_singleton] at hk ⊢
    rw [List.length_append, List.length_singleton]
    rcases Nat.lt_succ_iff_lt_or_eq.1 hk with h1 | rfl
    · rw [g1 k h1]; have := h.seq k h1; omega
    · rw [g2]; show ((lastR l).n + 1).toNat + _ = _; rw [hn]; omega
theorem snd_ok {had : List (List UInt8)} {l : List Rw} (s : Sd) (now : UInt64) (h : SnL had l) (hp : ∀ i j, i ≤ j → j < had.length → had.getD i [] <+: had.getD j []) :
    (sndF s now l).2.2 = (true, 0) ∧ (sndF s now l).1 = ⟨s.now, setA l now, true, now, now⟩ ∧ (sndF s now l).2.1.n.toNat + 1 = had.length ∧ GdI had (sndF s now l).2.1 := by
  have h0 := h.pos
  have r0 := h.rows 0 h0
  have r1 := h.rows (l.length - 1) (by omega)
  have s0 := h.seq 0 h0
  have s1 := h.seq (l.length - 1) (by omega)
  have hle : (l.getD 0 Rw.zero).n.toNat ≤ (lastR l).n.toNat := by unfold lastR; omega
  have hpre : (l.getD 0 Rw.zero).t <+: (lastR l).t := by
    unfold lastR
    rw [r0.2, r1.2]
    exact hp _ _ (by unfold lastR at hle; exact hle) r1.1
  have hs := sufF_pre hpre
  have e : sndF s now l = (⟨s.now, Go.Proofs.Ytikkekdmahdgaaa.setA l now, true, now, now⟩, ⟨(l.getD 0 Rw.zero).n, (lastR l).n, 0, (l.getD 0 Rw.zero).n, (lastR l).t.drop (l.getD 0 Rw.zero).t.length⟩, true, 0) := by
    unfold sndF
    rw [hs, if_pos rfl]
  rw [e]
  refine ⟨rfl, rfl, by show (lastR l).n.toNat + 1 = _; unfold lastR; omega, ⟨hle, r1.1, ?_⟩⟩
  show had.getD (l.getD 0 Rw.zero).n.toNat [] ++ (lastR l).t.drop (l.getD 0 Rw.zero).t.length = had.getD (lastR l).n.toNat []
  rw [← r0.2, List.prefix_iff_eq_append.1 hpre]
  exact r1.2
/-- What a tick tells. -/
theorem tick_ok {had : List (List UInt8)} (s : Sd) (now : UInt64) (pace timeout : Int) (h : SnL had s.l) (hh : HdI had s.now) (h0 : 0 ≤ pace) (h1 : 0 ≤ timeout) (hn : s.seen.toNat ≤ now.toNat) (hw : had.length < 18446744073709551616) :
    (tickF s now pace timeout).2.2.2 = 0 ∧ (tickF s now pace timeout).1.now = s.now ∧ (tickF s now pace timeout).1.seen = now ∧
    (((tickF s now pace timeout).2.2.1 = false ∧ SnL had (tickF s now pace timeout).1.l) ∨
     ((tickF s now pace timeout).2.2.1 = true ∧ (tickF s now pace timeout).2.1.n.toNat = had.length ∧ SnL (had ++ [s.now]) (tickF s now pace timeout).1.l ∧ GdI (had ++ [s.now]) (tickF s now pace timeout).2.1) ∨
     ((tickF s now pace timeout).2.2.1 = true ∧ (tickF s now pace timeout).2.1.n.toNat + 1 = had.length ∧ SnL had (tickF s now pace timeout).1.l ∧ GdI had (tickF s now pace timeout).2.1)) := by
  unfold tickF
  rw [if_neg (by omega)]
  split
  · exact ⟨rfl, rfl, rfl, .inl ⟨rfl, h⟩⟩
  · by_cases hf : frF s now pace = true
    · have h32 : s.l.length < 32 := by
        unfold frF at hf
        simp only [Bool.and_eq_true, decide_eq_true_eq] at hf
        exact hf.1.2
      have hl := h.put s.now 0 h32 hw
      obtain ⟨q1, q2, q3, q4⟩ := snd_ok s now hl hh.put.pre
      have e : rowsT s now pace = s.l ++ [⟨(lastR s.l).n + 1, s.now, 0⟩] := by unfold rowsT; rw [if_pos hf]
      rw [e, q1, q2]
      refine ⟨rfl, rfl, rfl, .inr (.inl ⟨rfl, ?_, hl.setA now, q4⟩)⟩
      rw [List.length_append, List.length_singleton] at q3
      omega
    · obtain ⟨q1, q2, q3, q4⟩ := snd_ok s now h hh.pre
      have e : rowsT s now pace = s.l := by unfold rowsT; rw [if_neg hf]
      rw [e, q1, q2]
      exact ⟨rfl, rfl, rfl, .inr (.inr ⟨rfl, q3, h.setA now, q4⟩)⟩
theorem ack_ok {had : List (List UInt8)} (s : Sd) (n : UInt64) (h : SnL had s.l) : SnL had (ackF s n).1.l ∧ (ackF s n).1.now = s.now ∧ (ackF s n).1.seen = s.seen := by
  unfold ackF
  split
  · rename_i hj; exact ⟨h.drop hj, rfl, rfl⟩
  · exact ⟨h, rfl, rfl⟩
/-- The states of a receiver: each was had, and they rise. -/
structure RcI (had : List (List UInt8)) (l : List Rw) : Prop where
  pos : 0 < l.length
  rows : ∀ y, y ∈ l → InH had y
  up : l.Pairwise fun a b => a.n.toNat < b.n.toNat
theorem RcI.more {had : List (List UInt8)} {l : List Rw} (h : RcI had l) (a : List UInt8) : RcI (had ++ [a]) l := ⟨h.pos, fun y hy => (h.rows y hy).more a, h.up⟩
theorem lastR_app (l : List Rw) (x : Rw) : lastR (l ++ [x]) = x := by simp [lastR, List.getD_eq_getElem?_getD]
theorem lastR_mem {l : List Rw} (h : 0 < l.length) : lastR l ∈ l := getD_mem (by omega)
theorem last_split {l : List Rw} (h : 0 < l.length) : l = l.take (l.length - 1) ++ [lastR l] := by
  have := take_step l (l.length - 1) (by omega)
  rw [show l.length - 1 + 1 = l.length by omega, List.take_length] at this
  exact this
theorem top_le {l : List Rw} (hu : l.Pairwise fun a b => a.n.toNat < b.n.toNat) (h : 0 < l.length) : ∀ y, y ∈ l → y.n.toNat ≤ (lastR l).n.toNat := by
  intro y hy
  have e := last_split h
  generalize lastR l = z at *
  rw [e] at hu hy
  rw [List.pairwise_append] at hu
  rcases List.mem_append.1 hy with q | q
  · exact Nat.le_of_lt (hu.2.2 y q z (by simp))
  · rw [List.mem_singleton] at q; rw [q]; exact Nat.le_refl _
theorem thrK_sub (l : List Rw) (n : UInt64) : ∀ k, k ≤ l.length → (thrK l n k).Sublist (l.take k)
  | 0, _ => by simp [thrK]
  | k + 1, h => by
    have e : thrK l n (k + 1) = thrK l n k ++ (if n.toNat ≤ (l.getD k Rw.zero).n.toNat ∨ k + 1 = l.length then [l.getD k Rw.zero] else []) := rfl
    rw [e, take_step l k (by omega)]
    refine List.Sublist.append (thrK_sub l n k (by omega)) ?_
    split
    · exact List.Sublist.refl _
    · exact List.nil_sublist _
theorem thrF_ok {had : List (List UInt8)} {l : List Rw} (h : RcI had l) (n : UInt64) : RcI had (thrF l n) ∧ lastR (thrF l n) = lastR l := by
  have hs := thrK_sub l n l.length (Nat.le_refl _)
  rw [List.take_length] at hs
  refine ⟨⟨thrF_pos _ _ h.pos, fun y hy => h.rows y (hs.subset hy), h.up.sublist hs⟩, ?_⟩
  unfold thrF
  obtain ⟨k, hk⟩ : ∃ k, l.length = k + 1 := ⟨l.length - 1, by have := h.pos; omega⟩
  have e : thrK l n (k + 1) = thrK l n k ++ (if n.toNat ≤ (l.getD k Rw.zero).n.toNat ∨ k + 1 = l.length then [l.getD k Rw.zero] else []) := rfl
  rw [hk, e, if_pos (.inr hk.symm), lastR_app]
  unfold lastR
  rw [hk]
  rfl
theorem fstAt_at (n : UInt64) : ∀ (l : List Rw), fstAt n l < l.length → (l.getD (fstAt n l) Rw.zero).n = n
  | [], h => by simp at h
  | x :: r, h => by
    by_cases hx : x.n = n
    · have e : fstAt n (x :: r) = 0 := by simp [fstAt, hx]
      rw [e]; exact hx
    · have e : fstAt n (x :: r) = fstAt n r + 1 := by simp [fstAt, hx]
      rw [e] at h ⊢
      have := fstAt_at n r (by simpa using h)
      simpa using this
/-- What comes of an instruction that was told: the states were had, and the latest number does not fall. -/
theorem take_ok {had : List (List UInt8)} {l : List Rw} (x : Ins) (h : RcI had l) (g : GdI had x) : RcI had (takeF l x).1 ∧ (lastR l).n.toNat ≤ (lastR (takeF l x).1).n.toNat := by
  unfold takeF
  split
  · obtain ⟨q1, q2⟩ := thrF_ok h x.thr
    exact ⟨q1, by rw [q2]; exact Nat.le_refl _⟩
  · split
    · exact ⟨h, Nat.le_refl _⟩
    · rename_i h2
      split
      · exact ⟨h, Nat.le_refl _⟩
      · have hf : fstAt x.o l < l.length := by
          rcases Nat.lt_or_ge (fstAt x.o l) l.length with q | q
          · exact q
          · exact absurd (.inl (by omega)) h2
        have hn := fstAt_at x.o l hf
        have ho := h.rows _ (getD_mem hf)
        have hlo : lowF l x.n = l.filter (fun y => decide (y.n.toNat < x.n.toNat)) := by unfold lowF; rw [selK_filter _ _ _ (Nat.le_refl _), List.take_length]
        have hhi : highF l x.n = l.filter (fun y => decide (x.n.toNat < y.n.toNat)) := by unfold highF; rw [selK_filter _ _ _ (Nat.le_refl _), List.take_length]
        have hr : InH had (rowF l x) := by
          refine ⟨g.lt, ?_⟩
          show (l.getD (fstAt x.o l) Rw.zero).t ++ x.dif = had.getD x.n.toNat []
          rw [ho.2, hn]; exact g.dif
        have hm : RcI had (lowF l x.n ++ [rowF l x] ++ highF l x.n) := by
          refine ⟨by simp only [List.length_append, List.length_cons]; omega, fun y hy => ?_, ?_⟩
          · rw [List.mem_append, List.mem_append, List.mem_singleton] at hy
            rcases hy with (hy | hy) | hy
            · rw [hlo, List.mem_filter] at hy; exact h.rows y hy.1
            · rw [hy]; exact hr
            · rw [hhi, List.mem_filter] at hy; exact h.rows y hy.1
          · rw [List.pairwise_append, List.pairwise_append]
            refine ⟨⟨by rw [hlo]; exact h.up.filter _, List.pairwise_singleton _ _, fun a ha b hb => ?_⟩, by rw [hhi]; exact h.up.filter _, fun a ha b hb => ?_⟩
            · rw [hlo, List.mem_filter] at ha
              rw [List.mem_singleton] at hb
              rw [hb]; exact of_decide_eq_true ha.2
            · rw [hhi, List.mem_filter] at hb
              have hb2 := of_decide_eq_true hb.2
              rw [List.mem_append, List.mem_singleton] at ha
              rcases ha with ha | ha
              · rw [hlo, List.mem_filter] at ha
                have := of_decide_eq_true ha.2
                omega
              · rw [ha]; exact hb2
        obtain ⟨q1, q2⟩ := thrF_ok hm x.thr
        refine ⟨q1, ?_⟩
        show (lastR l).n.toNat ≤ (lastR (thrF (lowF l x.n ++ [rowF l x] ++ highF l x.n) x.thr)).n.toNat
        rw [q2]
        have hl := lastR_mem h.pos
        rcases Nat.lt_trichotomy (lastR l).n.toNat x.n.toNat with q | q | q
        · exact Nat.le_trans (Nat.le_of_lt q) (top_le hm.up hm.pos (rowF l x) (by simp))
        · exact Nat.le_trans (Nat.le_of_eq q) (top_le hm.up hm.pos (rowF l x) (by simp))
        · refine top_le hm.up hm.pos (lastR l) ?_
          rw [List.mem_append]
          exact .inr (by rw [hhi, List.mem_filter]; exact ⟨hl, decide_eq_true q⟩)
/-- At the start. -/
theorem alike_start : HdI [[]] [] ∧ SnL [[]] (newS []).l ∧ RcI [[]] [⟨0, [], 0⟩] := by
  refine ⟨⟨fun i j hij hj => ?_, fun i hi => ?_⟩, ⟨by simp [newS], by simp [newS], fun k hk => ?_, fun k hk => ?_⟩, ⟨by simp, fun y hy => ?_, List.pairwise_singleton _ _⟩⟩
  · have : j = 0 := by simpa using hj
    subst this
    obtain rfl : i = 0 := by omega
    exact List.prefix_refl _
  · have : i = 0 := by simpa using hi
    subst this
    exact List.prefix_refl _
  · have : k = 0 := by simpa [newS] using hk
    subst this
    exact ⟨by show (0 : UInt64).toNat < 1; decide, rfl⟩
  · have : k = 0 := by simpa [newS] using hk
    subst this
    rfl
  · rw [List.mem_singleton] at hy
    rw [hy]
    exact ⟨by show (0 : UInt64).toNat < 1; decide, rfl⟩
end Go.Proofs.Ytikkekdmahdgaaa
