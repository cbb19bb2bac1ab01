/- What lies behind a stream, and a greater bound, change nothing: plain mathematics. What lies behind a stream, and a greater bound, change nothing: blocks and the whole. -/
import Derived.Test.YtbnghmeeddjaoaaHb
namespace Go.Proofs.Ytbnghmeeddjaoaa
open Gt

theorem nbr_app (b c : List UInt8) (p size : Nat) (h : p + size ≤ 8 * b.length) : nbr (b ++ c) p size = nbr b p size := by
  unfold nbr
  apply Nat.eq_of_testBit_eq
  intro i
  rw [Nat.testBit_mod_two_pow, Nat.testBit_mod_two_pow, Nat.testBit_div_two_pow, Nat.testBit_div_two_pow, Gf.num_bit, Gf.num_bit]
  by_cases hi : i < size
  · have hlt : (i + p) / 8 < b.length := by omega
    have e : (b ++ c).getD ((i + p) / 8) 0 = b.getD ((i + p) / 8) 0 := by
      simp [List.getD_eq_getElem?_getD, List.getElem?_append_left hlt]
    rw [e]
  · simp [hi]
theorem bit_app (b c : List UInt8) (p n v : Nat) (h : Gf.bitAt b p n = some v) : Gf.bitAt (b ++ c) p n = some v ∧ p + n + 1 ≤ 8 * b.length := by
  unfold Gf.bitAt at *
  split at h
  · rename_i hl
    refine ⟨?_, hl⟩
    rw [if_pos (by rw [List.length_append]; omega), ← h]
    have := nbr_app b c (p + n) 1 (by omega)
    unfold nbr at this
    rw [Nat.pow_one] at this
    rw [this]
  · cases h
theorem ext_sym (l : List Int) (b c : List UInt8) (p : Nat) : ∀ f n cc, p + n ≤ 8 * b.length → (Gf.symF l (Gf.bitAt b p) f n cc).2.2 = 0 → Gf.symF l (Gf.bitAt (b ++ c) p) f n cc = Gf.symF l (Gf.bitAt b p) f n cc ∧ p + (Gf.symF l (Gf.bitAt b p) f n cc).2.1 ≤ 8 * b.length := by
  intro f
  induction f with
  | zero => intro n cc _ h; simp [Gf.symF] at h
  | succ f ih =>
    intro n cc hn h
    rw [Gf.symF] at h
    rw [Gf.symF, Gf.symF]
    cases hh : Gf.hit l n cc with
    | some i => exact ⟨rfl, hn⟩
    | none =>
      simp only [hh] at h ⊢
      by_cases hl : Gf.live l n cc l.length = true
      · simp only [hl, if_true] at h ⊢
        cases hb : Gf.bitAt b p n with
        | none => simp [hb] at h
        | some v =>
          obtain ⟨h1, h2⟩ := bit_app b c p n v hb
          simp only [hb, h1] at h ⊢
          exact ih (n + 1) (2 * cc + v) (by omega) h
      · simp [hl] at h
theorem ext_rd {l : List Int} {b c : List UInt8} {p s q : Nat} (hp : p ≤ 8 * b.length) (h : rdF l b p = .ok (s, q)) : rdF l (b ++ c) p = .ok (s, q) ∧ q ≤ 8 * b.length := by
  unfold rdF at h ⊢
  split at h
  · rename_i h0
    obtain ⟨h1, h2⟩ := ext_sym l b c p 17 0 0 (by omega) h0
    rw [h1, if_pos h0]
    cases h
    exact ⟨rfl, h2⟩
  · cases h
theorem ext_mea {T : Int × Int × Int} {b c : List UInt8} {p n q : Nat} (h : meaF T b p = .ok (n, q)) : meaF T (b ++ c) p = .ok (n, q) ∧ q ≤ 8 * b.length := by
  unfold meaF at h ⊢
  split at h
  · rename_i h0
    split at h
    · rename_i h1
      rw [if_pos h0, if_pos (by rw [List.length_append]; omega), nbr_app b c p _ h1]
      cases h
      exact ⟨rfl, h1⟩
    · cases h
  · cases h
theorem ext_puts (b c : List UInt8) (most most' : Nat) (hm : most ≤ most') : ∀ k p out q o, p ≤ 8 * b.length → out.length ≤ most → putsF b most k p out = .ok (q, o) → putsF (b ++ c) most' k p out = .ok (q, o) ∧ q ≤ 8 * b.length ∧ o.length ≤ most
  | 0, p, out, q, o, hp, ho, h => by cases h; exact ⟨rfl, hp, ho⟩
  | k + 1, p, out, q, o, hp, ho, h => by
    rw [putsF] at h ⊢
    split at h
    · rename_i h1
      split at h
      · cases h
      · rename_i h2
        rw [if_pos (by rw [List.length_append]; omega), if_neg (by omega), nbr_app b c p 8 h1]
        exact ext_puts b c most most' hm k (p + 8) _ q o h1 (by rw [List.length_append]; show out.length + 1 ≤ most; omega) h
    · cases h
theorem ext_stored {b c : List UInt8} {most most' p : Nat} (hm : most ≤ most') {out o : List UInt8} {q : Nat} (ho : out.length ≤ most) (h : storedF b most p out = .ok (q, o)) : storedF (b ++ c) most' p out = .ok (q, o) ∧ q ≤ 8 * b.length ∧ o.length ≤ most := by
  unfold storedF at h ⊢
  split at h
  · rename_i h1
    split at h
    · rename_i h2
      split at h
      · rename_i h3
        rw [if_pos (by rw [List.length_append]; omega), if_pos (by rw [List.length_append]; omega), nbr_app b c _ 16 h1, nbr_app b c _ 16 (by omega), if_pos h3]
        exact ext_puts b c most most' hm _ _ out q o h2 ho h
      · cases h
    · cases h
  · cases h
theorem ext_tell (most most' dist : Nat) (hm : most ≤ most') : ∀ k out o, out.length ≤ most → tellF most dist k out = .ok o → tellF most' dist k out = .ok o ∧ o.length ≤ most
  | 0, out, o, ho, h => by cases h; exact ⟨rfl, ho⟩
  | k + 1, out, o, ho, h => by
    rw [tell_step] at h ⊢
    split at h
    · cases h
    · rw [if_neg (by omega)]
      exact ext_tell most most' dist hm k _ o (by rw [List.length_append]; show out.length + 1 ≤ most; omega) h
theorem ext_again {most most' p len dist : Nat} (hm : most ≤ most') {out o : List UInt8} {q : Nat} (ho : out.length ≤ most) (h : againF most p len dist out = .ok (q, o)) : againF most' p len dist out = .ok (q, o) ∧ o.length ≤ most := by
  unfold againF at h ⊢
  split at h
  · cases h
  · rename_i h0
    rw [if_neg h0]
    cases ht : tellF most dist len out with
    | error x => rw [ht] at h; cases h
    | ok o' =>
      obtain ⟨h1, h2⟩ := ext_tell most most' dist hm len out o' ho ht
      rw [ht] at h
      rw [h1]
      cases h
      exact ⟨rfl, h2⟩
set_option maxRecDepth 100000 in
set_option maxHeartbeats 1000000 in
theorem ext_told (l1 l2 : List Int) (b c : List UInt8) (most most' : Nat) (hm : most ≤ most') : ∀ f f' p out q o, f ≤ f' → p ≤ 8 * b.length → out.length ≤ most → toldF l1 l2 b most f p out = .ok (q, o) → toldF l1 l2 (b ++ c) most' f' p out = .ok (q, o) ∧ q ≤ 8 * b.length ∧ o.length ≤ most := by
  intro f
  induction f with
  | zero => intro f' p out q o _ _ _ h; rw [told_zero] at h; cases h
  | succ f ih =>
    intro f' p out q o hf hp ho h
    obtain ⟨f', rfl⟩ : ∃ k, f' = k + 1 := ⟨f' - 1, by omega⟩
    rw [(told_step l1 l2 b most f p out).out] at h
    rw [(told_step l1 l2 (b ++ c) most' f' p out).out]
    cases hr : rdF l1 b p with
    | error x => rw [hr] at h; cases h
    | ok sq =>
      obtain ⟨s, q0⟩ := sq
      obtain ⟨e1, hq0⟩ := ext_rd (c := c) hp hr
      rw [hr] at h
      rw [e1]
      simp only at h ⊢
      by_cases h256 : s = 256
      · rw [if_pos h256] at h ⊢
        cases h
        exact ⟨rfl, hq0, ho⟩
      rw [if_neg h256] at h ⊢
      by_cases hs : s < 256
      · rw [if_pos hs] at h ⊢
        split at h
        · cases h
        · rename_i h2
          rw [if_neg (by omega)]
          exact ih f' q0 _ q o (by omega) hq0 (by rw [List.length_append]; show out.length + 1 ≤ most; omega) h
      rw [if_neg hs] at h ⊢
      cases hme : meaF (Gf.lenT s) b q0 with
      | error x => rw [hme] at h; cases h
      | ok lq =>
        obtain ⟨len, q1⟩ := lq
        obtain ⟨e2, hq1⟩ := ext_mea (c := c) hme
        rw [hme] at h
        rw [e2]
        simp only at h ⊢
        cases hd : rdF l2 b q1 with
        | error x => rw [hd] at h; cases h
        | ok dq =>
          obtain ⟨d, q2⟩ := dq
          obtain ⟨e3, hq2⟩ := ext_rd (c := c) hq1 hd
          rw [hd] at h
          rw [e3]
          simp only at h ⊢
          cases hme2 : meaF (Gf.disT d) b q2 with
          | error x => rw [hme2] at h; cases h
          | ok eq =>
            obtain ⟨dist, q3⟩ := eq
            obtain ⟨e4, hq3⟩ := ext_mea (c := c) hme2
            rw [hme2] at h
            rw [e4]
            simp only at h ⊢
            cases ha : againF most q3 len dist out with
            | error x => rw [ha] at h; cases h
            | ok po =>
              obtain ⟨p', out'⟩ := po
              obtain ⟨e5, ho'⟩ := ext_again hm ho ha
              have hpe := again_ends ha
              subst hpe
              rw [ha] at h
              rw [e5]
              exact ih f' p' out' q o (by omega) hq3 ho' h
theorem ext_kind (b c : List UInt8) (p : Nat) : ∀ k, p + 3 * k ≤ 8 * b.length → kindL (b ++ c) p k = kindL b p k
  | 0, _ => rfl
  | k + 1, h => by rw [kindL, kindL, ext_kind b c p k (by omega), nbr_app b c (p + 3 * k) 3 (by omega)]
theorem ext_row (lk : List Int) (b c : List UInt8) (count : Nat) : ∀ f p row q row', p ≤ 8 * b.length → rowF lk b count f p row = .ok (q, row') → rowF lk (b ++ c) count f p row = .ok (q, row') ∧ q ≤ 8 * b.length
  | 0, p, row, q, row', hp, h => by rw [rowF] at h ⊢; cases h; exact ⟨rfl, hp⟩
  | f + 1, p, row, q, row', hp, h => by
    by_cases hl : row.length < count
    · rw [row_step _ _ _ _ _ _ hl] at h ⊢
      cases hr : rdF lk b p with
      | error x => rw [hr] at h; cases h
      | ok sq =>
        obtain ⟨s, q0⟩ := sq
        obtain ⟨e1, hq0⟩ := ext_rd (c := c) hp hr
        rw [hr] at h
        rw [e1]
        simp only at h ⊢
        split at h
        · cases h
        rename_i h1
        rw [if_neg h1]
        split at h
        · rename_i h2
          rw [if_pos (by rw [List.length_append]; omega), nbr_app b c q0 _ h2]
          split at h
          · rename_i h3
            rw [if_pos h3]
            exact ext_row lk b c count f _ _ q row' h2 h
          · cases h
        · cases h
    · rw [row_done _ _ _ _ _ _ hl] at h ⊢
      cases h
      exact ⟨rfl, hp⟩
end Go.Proofs.Ytbnghmeeddjaoaa
namespace Go.Proofs.Ytbnghmeeddjaoaa
open Gt

set_option maxRecDepth 100000 in
theorem ext_dyn {b c : List UInt8} {p q : Nat} {l1 l2 : List Int} (h : dynF b p = .ok (q, l1, l2)) : dynF (b ++ c) p = .ok (q, l1, l2) ∧ q ≤ 8 * b.length := by
  have hL : (b ++ c).length = b.length + c.length := List.length_append
  unfold dynF at h
  split at h
  case isFalse => cases h
  rename_i h1
  split at h
  case isFalse => cases h
  rename_i h2
  split at h
  case isFalse => cases h
  rename_i h3
  split at h
  case isFalse => cases h
  rename_i h4
  split at h
  case isFalse => cases h
  rename_i h5
  split at h
  case isFalse => cases h
  rename_i h6
  split at h
  case isFalse => cases h
  rename_i h7
  unfold dynF
  rw [nbr_app b c p 5 h1, nbr_app b c (p + 5) 5 h3, nbr_app b c (p + 5 + 5) 4 h5, ext_kind b c _ _ h6]
  rw [if_pos (by omega), if_pos h2, if_pos (by omega), if_pos h4, if_pos (by omega), if_pos (by omega), if_pos h7]
  generalize kindL b (p + 5 + 5 + 4) (nbr b (p + 5 + 5) 4 + 4) = lk at *
  generalize hS : nbr b p 5 + 257 = S at *
  generalize nbr b (p + 5) 5 + 1 = D at *
  cases hr : rowF lk b (S + D) (S + D + 1) (p + 5 + 5 + 4 + 3 * (nbr b (p + 5 + 5) 4 + 4)) [] with
  | error x => rw [hr] at h; cases h
  | ok qr =>
    obtain ⟨q0, row⟩ := qr
    obtain ⟨e1, hq⟩ := ext_row lk b c (S + D) (S + D + 1) _ [] q0 row h6 hr
    rw [hr] at h
    rw [e1]
    simp only at h ⊢
    split at h
    · cases h
    rename_i h8
    rw [if_neg h8]
    split at h
    · rename_i h9
      rw [if_pos h9]
      cases h
      exact ⟨rfl, hq⟩
    · cases h
set_option maxRecDepth 100000 in
theorem ext_block {b c : List UInt8} {most most' p : Nat} (hm : most ≤ most') {out o : List UInt8} {q : Nat} (ho : out.length ≤ most) (h : blockF b most p out = .ok (q, o)) : blockF (b ++ c) most' p out = .ok (q, o) ∧ q ≤ 8 * b.length ∧ o.length ≤ most := by
  have hL : (b ++ c).length = b.length + c.length := List.length_append
  unfold blockF at h ⊢
  split at h
  case isFalse => cases h
  rename_i h1
  rw [if_pos (by omega), nbr_app b c p 2 h1]
  by_cases k0 : nbr b p 2 = 0
  · rw [if_pos k0] at h ⊢
    exact ext_stored hm ho h
  rw [if_neg k0] at h ⊢
  by_cases k1 : nbr b p 2 = 1
  · rw [if_pos k1] at h ⊢
    exact ext_told fixS fixD b c most most' hm _ _ (p + 2) out q o (by omega) h1 ho h
  rw [if_neg k1] at h ⊢
  by_cases k2 : nbr b p 2 = 2
  · rw [if_pos k2] at h ⊢
    cases hd : dynF b (p + 2) with
    | error x => rw [hd] at h; cases h
    | ok ql =>
      obtain ⟨q0, l1, l2⟩ := ql
      obtain ⟨e1, hq⟩ := ext_dyn (c := c) hd
      rw [hd] at h
      rw [e1]
      exact ext_told l1 l2 b c most most' hm _ _ q0 out q o (by omega) hq ho h
  · rw [if_neg k2] at h
    cases h
theorem ext_blocks (b c : List UInt8) (most most' : Nat) (hm : most ≤ most') : ∀ f f' p out q o, f ≤ f' → out.length ≤ most → blocksF b most f p out = .ok (q, o) → blocksF (b ++ c) most' f' p out = .ok (q, o) ∧ q ≤ 8 * b.length ∧ o.length ≤ most := by
  have hL : (b ++ c).length = b.length + c.length := List.length_append
  intro f
  induction f with
  | zero => intro f' p out q o _ _ h; rw [blocksF] at h; cases h
  | succ f ih =>
    intro f' p out q o hf ho h
    obtain ⟨f', rfl⟩ : ∃ k, f' = k + 1 := ⟨f' - 1, by omega⟩
    rw [(blocks_step b most f p out).out] at h
    rw [(blocks_step (b ++ c) most' f' p out).out]
    split at h
    case isFalse => cases h
    rename_i h1
    rw [if_pos (by omega), nbr_app b c p 1 h1]
    cases hb : blockF b most (p + 1) out with
    | error x => rw [hb] at h; cases h
    | ok qo =>
      obtain ⟨q0, o0⟩ := qo
      obtain ⟨e1, hq0, ho0⟩ := ext_block (c := c) hm ho hb
      rw [hb] at h
      rw [e1]
      simp only at h ⊢
      by_cases hl : nbr b p 1 = 1
      · rw [if_pos hl] at h ⊢
        cases h
        exact ⟨rfl, hq0, ho0⟩
      · rw [if_neg hl] at h ⊢
        exact ih f' q0 o0 q o (by omega) ho0 h
/-- What a stream tells is told with bytes behind it too, and with a greater bound. -/
theorem inf_ahead (b c : List UInt8) (n n' : Nat) (hn : n ≤ n') (hn' : n' ≤ 65536) (h : (infR b (n : Int)).2.2 = 0) : infR (b ++ c) (n' : Int) = infR b (n : Int) ∧ (infR b (n : Int)).2.1 ≤ b.length ∧ (infR b (n : Int)).1.length ≤ n := by
  unfold infR at h ⊢
  rw [if_neg (by omega), Int.toNat_natCast] at h
  rw [if_neg (by omega), if_neg (by omega), Int.toNat_natCast, Int.toNat_natCast]
  cases hb : blocksF b n (8 * b.length + 1) 0 [] with
  | error x =>
    rw [hb] at h
    have := up_blocks b n (8 * b.length + 1) 0 []
    rw [hb] at this
    exact absurd h this
  | ok qo =>
    obtain ⟨q, o⟩ := qo
    obtain ⟨e1, hq, ho⟩ := ext_blocks b c n n' hn (8 * b.length + 1) (8 * (b ++ c).length + 1) 0 [] q o (by rw [List.length_append]; omega) (Nat.zero_le _) hb
    rw [e1]
    exact ⟨rfl, show (q + 7) / 8 ≤ b.length by omega, ho⟩
theorem inf_bad (b : List UInt8) (n : Nat) (h : (infR b (n : Int)).2.2 ≠ 0) : (infR b (n : Int)).1 = [] ∧ (infR b (n : Int)).2.1 = 0 := by
  unfold infR at h ⊢
  split at h
  · rename_i h1; rw [if_pos h1]; exact ⟨rfl, rfl⟩
  · rename_i h1
    rw [if_neg h1]
    cases hb : blocksF b (n : Int).toNat (8 * b.length + 1) 0 [] with
    | error x => exact ⟨rfl, rfl⟩
    | ok qo => rw [hb] at h; exact absurd rfl h
end Go.Proofs.Ytbnghmeeddjaoaa
