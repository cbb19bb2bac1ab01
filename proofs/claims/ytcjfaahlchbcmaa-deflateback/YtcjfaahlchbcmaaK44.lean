/- The walk of write. -/
import Derived.Test.YtcjfaahlchbcmaaK42
import Derived.Test.YtcjfaahlchbcmaaK43
import Derived.Test.YtcjfaahlchbcmaaK41
import Derived.Test.YtcjfaahlchbcmaaK40
namespace Go.Proofs.Ytcjfaahlchbcmaa
open Go.RowKit Go.BigFrame
set_option linter.unusedVariables false
set_option linter.unusedSimpArgs false
theorem may_lt {x : Bt} (h : Gf.may x = true) : x.1 < 18446744073709551616 := by
  unfold Gf.may at h
  rw [decide_eq_true_eq] at h
  have h1 : x.2.toNat ≤ 64 := by omega
  exact Nat.lt_of_lt_of_le h.2.2 (Nat.pow_le_pow_right (by decide) h1 : 2 ^ x.2.toNat ≤ 2 ^ 64)
theorem Bts'.prs {N : Nat} {w : World} {v : Value} {l : List Bt} (h : Bts' N w v l) (hm : ∀ x ∈ l, Gf.may x = true) (hl : 0 < l.length) : Prs N w v l := by
  obtain ⟨a, c, h1, h2, h3⟩ := h
  refine ⟨a, c, h1, h2, fun x hx => may_lt (hm x hx), .inr ?_⟩
  obtain ⟨b, o, e, hb, _, _⟩ := h3 0 hl
  refine ⟨b, o, e, hb, fun k hk => ?_⟩
  obtain ⟨b', o', e', _, c0, c1⟩ := h3 k hk
  rw [e] at e'
  injection e' with e'
  injection e' with e1 e2
  subst e1 e2
  exact ⟨c0, c1⟩
set_option maxRecDepth 100000 in
set_option maxHeartbeats 8000000 in
theorem write_is (N : Nat) (w : World) (vw vT : Value) (hd : List Bt) (l1 l2 : List Int) (T : List Tok)
    (hl1 : 257 ≤ l1.length ∧ l1.length ≤ 288) (hl2 : l2.length ≤ 30) (hin : ∀ t ∈ T, t.2.1 ≠ 0 → (lenS t.2.1.toNat).1 < l1.length ∧ (nthF 2 (t.2.2.toNat - 1)).1 < l2.length) (hhd : hd.length ≤ 100000) (hT : T.length ≤ 65536) (hok : ∀ t ∈ T, TokOk t) (hN : N ≤ w.heap.size) (hw : WayOk N w vw hd l1 l2) (h : Toks N w vT T) (hO : ∀ x ∈ telF hd l1 l2 T, Gf.may x = true) :
    Calls Try.prog 23 #[vw, vT] w fun e w' => ∃ u, e = .returned (.tuple #[u, .int .i64 (Gf.cntE (telF hd l1 l2 T))]) ∧ Wrote w w' (telF hd l1 l2 T) u ∧ Below w.heap.size w w' := by
  have hm : (telF hd l1 l2 T).length ≤ 900000 := by
    have := telP_len hd l1 l2 T T.length
    unfold telF
    rw [List.length_append, List.length_singleton]
    omega
  have hpos : 0 < (telF hd l1 l2 T).length := by unfold telF; simp
  have HLN := Box'.mk hm
  have HPS := Box'.mk hpos
  have HO := Box'.mk hO
  have hw' := hw
  obtain ⟨vh, g1, g2, rfl, ⟨ha, hc, rfl, hhc, hh⟩, hg1, hg2, r1, r2⟩ := hw'
  obtain ⟨w1, hw1⟩ : ∃ w1, w.alloc (.cells #[.slice ha hd.length hc, .slice (some ⟨g1, 0, none⟩) l1.length l1.length, .slice (some ⟨g2, 0, none⟩) l2.length l2.length] 50) = w1 := ⟨_, rfl⟩
  obtain ⟨w2, hw2⟩ : ∃ w2, w1.alloc (.cells #[.slice none 0 0] 48) = w2 := ⟨_, rfl⟩
  have b1 : Below w.heap.size w w1 := by rw [← hw1]; exact (Below.refl _ _).alloc (Nat.le_refl _) _
  have b2 : Below w1.heap.size w1 w2 := by rw [← hw2]; exact (Below.refl _ _).alloc (Nat.le_refl _) _
  have rc : Row w2 w1.heap.size 48 #[.slice none 0 0] := by rw [← hw2]; exact Row.new _ _ _
  have s1 : w1.heap.size = w.heap.size + 1 := by rw [← hw1]; exact Array.size_push _
  rw [s1] at rc
  have b12 := b1.trans (b2.mono b1.size)
  have gm : ∀ k, k < w.heap.size → ¬ GaM (w.heap.size + 1) w2 k := fun k hk e => by
    rcases e with e | ⟨v, rv, ev⟩
    · omega
    · cases row_one rc rv
      simp [Value.ownBlock] at ev
  have GM := Box'.mk gm
  have L := Box'.mk (tell_is 41 _ _ 900000 _ _ (gatherK w2.heap.size (w.heap.size + 1)) N w2 _ vT hd l1 l2 T hl1 hl2 hin hhd hT hok (Nat.le_trans hN b12.size) (fun k hk => gm k (by omega)) (hw.keep hN b12) (h.keep hN b12) hm (fun _ _ => trivial) ⟨Nat.le_refl _, _, rc, ⟨rfl, .inl ⟨rfl, rfl⟩⟩⟩)
  have B := Box'.mk b12
  have HW1 := Box'.mk hw1
  have HW2 := Box'.mk hw2
  clear hh r1 r2 hw1 hw2 b1 b2 rc s1 b12 hm hO hok hw h hl1 hhd hT hl2 hin hpos gm
  generalize telF hd l1 l2 T = D at *
  go_enter Try.func23, Try.ntmps23
  go_wp2_with fail
  rw [HW1.out, HW2.out]
  clear HW1 HW2
  refine L.out.mono ?_
  rintro e w3 ⟨rfl, ⟨n3, v3, r3, o3⟩, k3⟩
  have B3 : Box' (Below w.heap.size w w3) := ⟨⟨k3.os.trans B.out.os, k3.tape.trans B.out.tape, k3.output.trans B.out.output, Nat.le_trans B.out.size k3.size, fun k hk => (k3.block k (Nat.lt_of_lt_of_le hk B.out.size) (GM.out k hk)).trans (B.out.block k hk)⟩⟩
  have c0 : w3.cell? ⟨w.heap.size + 1, 0, none⟩ = some v3 := r3.cell 0
  have WR := Box'.mk (bitsWrite_any v3 D (by have := HLN.out; omega) w3 ((o3.bts HPS.out).prs HO.out HPS.out))
  obtain ⟨a3, c3, hv3⟩ := o3.slice
  subst hv3
  generalize D.length = dl at *
  clear L B r3 k3 o3 n3 GM
  go_wp2_with fail
  refine WR.out.mono ?_
  rintro e w4 ⟨u4, rfl, wr4, b4⟩
  have B4 := B3.out.trans (b4.mono B3.out.size)
  have W4 : Wrote w w4 D u4 := by
    rcases wr4 with ⟨e0, g, e1, e2, e3⟩ | h
    · exact .inl ⟨e0, g, e1, Nat.le_trans B3.out.size e2, e3⟩
    · exact .inr h
  clear WR B3 wr4 b4 c0
  go_wp2_with fail
  go_ret2
  exact ⟨_, rfl, W4, B4⟩
theorem may_of {x : Nat} {y : Int} (h0 : 0 ≤ y) (h1 : y ≤ 64) (h2 : x < 2 ^ y.toNat) : Gf.may (x, y) = true := by
  unfold Gf.may
  rw [decide_eq_true_eq]
  exact ⟨h0, h1, h2⟩
theorem cdA_may {l : List Int} (hl : ∀ k, 0 ≤ l.getD k 0 ∧ l.getD k 0 ≤ 15) {k : Nat} (hk : k < l.length) : Gf.may (cdA l k) = true := by
  unfold cdA
  rw [cds_full l k hk]
  have h := hl k
  refine may_of h.1 (by omega) ?_
  exact Gf.rev_lt _ _
theorem nthF_may (row n : Nat) (hz : szF row n 16 0 ≤ 64) : Gf.may ((nthF row n).2.1, ((nthF row n).2.2 : Int)) = true := by
  refine may_of (by omega) (by show ((szF row n 16 0 : Nat) : Int) ≤ 64; omega) ?_
  show n - n / 2 ^ szF row n 16 0 * 2 ^ szF row n 16 0 < 2 ^ ((szF row n 16 0 : Nat) : Int).toNat
  rw [Int.toNat_natCast]
  have h1 := Nat.div_add_mod n (2 ^ szF row n 16 0)
  have h2 := Nat.mod_lt n (Nat.two_pow_pos (szF row n 16 0))
  rw [Nat.mul_comm] at h1
  omega
theorem tok_may {l1 l2 : List Int} (h1 : ∀ k, 0 ≤ l1.getD k 0 ∧ l1.getD k 0 ≤ 15) (h2 : ∀ k, 0 ≤ l2.getD k 0 ∧ l2.getD k 0 ≤ 15) (hn : 257 ≤ l1.length) {t : Tok} (ht : TokOk t) (hin : t.2.1 ≠ 0 → (lenS t.2.1.toNat).1 < l1.length ∧ (nthF 2 (t.2.2.toNat - 1)).1 < l2.length) :
    ∀ x ∈ tokB l1 l2 t, Gf.may x = true := by
  intro x hx
  unfold tokB at hx
  split at hx
  · rw [List.mem_singleton] at hx
    subst hx
    exact cdA_may h1 (by have := t.1.toNat_lt; omega)
  · rename_i hz
    obtain ⟨i1, i2⟩ := hin hz
    rcases ht with ⟨h, _⟩ | ⟨_, a1, a2, a3, a4⟩
    · exact absurd h hz
    · simp only [List.mem_cons, List.not_mem_nil, or_false] at hx
      have hn2 := nth2_lt (d := t.2.2.toNat - 1) (by omega)
      have hl := lenS_lt (d := t.2.1.toNat) (by omega) (by omega)
      rcases hx with rfl | rfl | rfl | rfl
      · exact cdA_may h1 i1
      · unfold lenS at hl ⊢
        split
        · exact may_of (by decide) (by decide) (by decide)
        · rename_i hne
          rw [if_neg hne] at hl
          exact nthF_may 4 _ (by have : (nthF 4 (t.2.1.toNat - 3)).2.2 ≤ 5 := hl.2.2; show szF 4 (t.2.1.toNat - 3) 16 0 ≤ 64; exact Nat.le_trans this (by decide))
      · exact cdA_may h2 i2
      · exact nthF_may 2 _ (by have := hn2.2; show szF 2 (t.2.2.toNat - 1) 16 0 ≤ 64; exact Nat.le_trans this (by decide))
theorem telF_may {hd : List Bt} {l1 l2 : List Int} {T : List Tok} (h1 : ∀ k, 0 ≤ l1.getD k 0 ∧ l1.getD k 0 ≤ 15) (h2 : ∀ k, 0 ≤ l2.getD k 0 ∧ l2.getD k 0 ≤ 15) (hn : 257 ≤ l1.length) (hok : ∀ t ∈ T, TokOk t) (hin : ∀ t ∈ T, t.2.1 ≠ 0 → (lenS t.2.1.toNat).1 < l1.length ∧ (nthF 2 (t.2.2.toNat - 1)).1 < l2.length) (hhd : ∀ x ∈ hd, Gf.may x = true) :
    ∀ x ∈ telF hd l1 l2 T, Gf.may x = true := by
  intro x hx
  unfold telF telP at hx
  rw [List.take_length] at hx
  simp only [List.mem_append, List.mem_flatten, List.mem_map, List.mem_singleton] at hx
  rcases hx with (hx | ⟨y, ⟨t, ht, rfl⟩, hx⟩) | rfl
  · exact hhd x hx
  · exact tok_may h1 h2 hn (hok t ht) (hin t ht) x hx
  · exact cdA_may h1 (by omega)
theorem inc_ge (l : List Int) (j k : Nat) : l.getD k 0 ≤ (inc l j).getD k 0 := by
  unfold inc
  rw [List.getD_eq_getElem?_getD, List.getD_eq_getElem?_getD, List.getElem?_set]
  by_cases e : j = k
  · subst e
    by_cases hl : j < l.length
    · simp [hl]; omega
    · simp [hl]
  · simp [e]
theorem inc_at {l : List Int} {k : Nat} (hk : k < l.length) : (inc l k).getD k 0 = l.getD k 0 + 1 := by
  unfold inc
  simp [hk]
theorem cnt1_ge (s : List Int × List Int) (t : Tok) (k : Nat) : s.1.getD k 0 ≤ (cnt1 s t).1.getD k 0 ∧ s.2.getD k 0 ≤ (cnt1 s t).2.getD k 0 := by
  unfold cnt1
  split
  · exact ⟨inc_ge _ _ _, Int.le_refl _⟩
  · exact ⟨inc_ge _ _ _, inc_ge _ _ _⟩
theorem cnt_ge : ∀ (T : List Tok) (s : List Int × List Int) (k : Nat), s.1.getD k 0 ≤ (T.foldl cnt1 s).1.getD k 0 ∧ s.2.getD k 0 ≤ (T.foldl cnt1 s).2.getD k 0
  | [], s, k => ⟨Int.le_refl _, Int.le_refl _⟩
  | t :: r, s, k => by
    have h := cnt_ge r (cnt1 s t) k
    have g := cnt1_ge s t k
    rw [List.foldl_cons]
    omega
theorem cnt_pos : ∀ (T : List Tok) (s : List Int × List Int), s.1.length = 286 → s.2.length = 30 → (∀ k, 0 ≤ s.1.getD k 0) → (∀ k, 0 ≤ s.2.getD k 0) → ∀ t ∈ T, TokOk t → t.2.1 ≠ 0 → 0 < (T.foldl cnt1 s).1.getD (lenS t.2.1.toNat).1 0 ∧ 0 < (T.foldl cnt1 s).2.getD (nthF 2 (t.2.2.toNat - 1)).1 0
  | [], s, _, _, _, _, t, ht, _, _ => by simp at ht
  | x :: r, s, l1, l2, p1, p2, t, ht, hok, hz => by
    rw [List.foldl_cons]
    have g1 : ∀ k, 0 ≤ (cnt1 s x).1.getD k 0 := fun k => Int.le_trans (p1 k) (cnt1_ge s x k).1
    have g2 : ∀ k, 0 ≤ (cnt1 s x).2.getD k 0 := fun k => Int.le_trans (p2 k) (cnt1_ge s x k).2
    have e1 : (cnt1 s x).1.length = 286 := by unfold cnt1; split <;> simp [inc_len, l1]
    have e2 : (cnt1 s x).2.length = 30 := by unfold cnt1; split <;> simp [inc_len, l2]
    rcases List.mem_cons.1 ht with rfl | ht
    · rcases hok with ⟨h, _⟩ | ⟨_, a1, a2, a3, a4⟩
      · exact absurd h hz
      · have hn2 := nth2_lt (d := t.2.2.toNat - 1) (by omega)
        have hl := lenS_lt (d := t.2.1.toNat) (by omega) (by omega)
        have q := cnt_ge r (cnt1 s t) (lenS t.2.1.toNat).1
        have q2 := cnt_ge r (cnt1 s t) (nthF 2 (t.2.2.toNat - 1)).1
        have u1 : (cnt1 s t).1.getD (lenS t.2.1.toNat).1 0 = s.1.getD (lenS t.2.1.toNat).1 0 + 1 := by
          unfold cnt1; rw [if_neg hz]; exact inc_at (by omega)
        have u2 : (cnt1 s t).2.getD (nthF 2 (t.2.2.toNat - 1)).1 0 = s.2.getD (nthF 2 (t.2.2.toNat - 1)).1 0 + 1 := by
          unfold cnt1; rw [if_neg hz]; exact inc_at (by omega)
        have w1 := p1 (lenS t.2.1.toNat).1
        have w2 := p2 (nthF 2 (t.2.2.toNat - 1)).1
        exact ⟨by omega, by omega⟩
    · exact cnt_pos r (cnt1 s x) e1 e2 g1 g2 t ht hok hz
theorem rep_nn (n k : Nat) : 0 ≤ (List.replicate n (0 : Int)).getD k 0 := by
  rw [List.getD_eq_getElem?_getD, List.getElem?_replicate]; split <;> simp
theorem own_in {T : List Tok} (hT : T.length ≤ 65536) (hok : ∀ t ∈ T, TokOk t) : ∀ t ∈ T, t.2.1 ≠ 0 → (lenS t.2.1.toNat).1 < (oS T).length ∧ (nthF 2 (t.2.2.toNat - 1)).1 < (oD T).length := by
  intro t ht hz
  have OL := ownLens hT
  have hl := cntF_len T
  have hb := cntF_bd hT
  obtain ⟨_, _, _, _, _, s6⟩ := lens_good (cs := (cntF T).1) (m := 15) (by omega) (by omega) (by omega) (by rw [hl.1]; decide) hb.1
  obtain ⟨_, _, _, _, _, d6⟩ := lens_good (cs := (cntF T).2) (m := 15) (by omega) (by omega) (by omega) (by rw [hl.2]; decide) hb.2
  obtain ⟨c1, c2⟩ := cnt_pos T (List.replicate 286 0, List.replicate 30 0) List.length_replicate List.length_replicate (rep_nn 286) (rep_nn 30) t ht (hok t ht) hz
  have c1' : 0 < (cntF T).1.getD (lenS t.2.1.toNat).1 0 := Int.lt_of_lt_of_le c1 (inc_ge _ _ _)
  have c2' : 0 < (cntF T).2.getD (nthF 2 (t.2.2.toNat - 1)).1 0 := c2
  rcases hok t ht with ⟨h, _⟩ | ⟨_, a1, a2, a3, a4⟩
  · exact absurd h hz
  · have hn2 := nth2_lt (d := t.2.2.toNat - 1) (by omega)
    have hln := lenS_lt (d := t.2.1.toNat) (by omega) (by omega)
    have z1 : (slF T).getD (lenS t.2.1.toNat).1 0 ≠ 0 := fun e => by have := (s6 _ (by omega)).1 e; omega
    have z2 : (dlF T).getD (nthF 2 (t.2.2.toNat - 1)).1 0 ≠ 0 := fun e => by have := (d6 _ (by omega)).1 e; omega
    have t1 := trm_ge (slF T) 257 286 (by omega)
    have t2 := trm_ge (dlF T) 1 30 (by omega)
    rw [OL.sol, OL.dol]
    constructor
    · rcases Nat.lt_or_ge (lenS t.2.1.toNat).1 (snF T) with h | h
      · exact h
      · exact absurd (t1.2.2 _ h (by omega)) z1
    · rcases Nat.lt_or_ge (nthF 2 (t.2.2.toNat - 1)).1 (dnF T) with h | h
      · exact h
      · exact absurd (t2.2.2 _ h (by omega)) z2
theorem wdG_may (l : List Int) (hl : ∀ k, 0 ≤ l.getD k 0 ∧ l.getD k 0 ≤ 15) : ∀ f a, ∀ t ∈ wdG l f a, Gf.may (t.2.1, (t.2.2 : Int)) = true := by
  intro f
  induction f with
  | zero => intro a t ht; simp [wdG] at ht
  | succ f ih =>
    intro a t ht
    by_cases ha : a < l.length
    · have hb := nw_bd l a ha hl
      rw [wdG, if_pos ha] at ht
      rcases List.mem_cons.mp ht with rfl | ht
      · exact may_of (by omega) (by have := hb.2.2.2.2.1; omega) (by rw [Int.toNat_natCast]; exact hb.2.2.2.2.2)
      · exact ih _ t ht
    · rw [wdG, if_neg ha] at ht; simp at ht
theorem kcS_bd2 (W : List Wd) : (kcS W).length = 19 ∧ ∀ k, 0 ≤ (kcS W).getD k 0 ∧ (kcS W).getD k 0 ≤ (W.length : Int) := by
  have key : ∀ (W : List Wd) (s : List Int) (n : Int), (∀ k, 0 ≤ s.getD k 0 ∧ s.getD k 0 ≤ n) → (W.foldl (fun s t => inc s t.1.toNat) s).length = s.length ∧ ∀ k, 0 ≤ (W.foldl (fun s t => inc s t.1.toNat) s).getD k 0 ∧ (W.foldl (fun s t => inc s t.1.toNat) s).getD k 0 ≤ n + (W.length : Int) := by
    intro W
    induction W with
    | nil => intro s n h; simpa using h
    | cons t r ih =>
      intro s n h
      have q := ih (inc s t.1.toNat) (n + 1) (inc_bd h _)
      rw [List.foldl_cons]
      refine ⟨q.1.trans (inc_len _ _), fun k => ?_⟩
      have := q.2 k
      simp only [List.length_cons]
      omega
  have z : ∀ k, 0 ≤ (zs 19).getD k 0 ∧ (zs 19).getD k 0 ≤ 0 := by
    intro k
    unfold zs
    rw [List.getD_eq_getElem?_getD, List.getElem?_replicate]
    split <;> simp
  have h := key W (zs 19) 0 z
  rw [Int.zero_add] at h
  exact ⟨h.1.trans (by simp [zs]), h.2⟩
theorem klF_bd {W : List Wd} (hW : W.length ≤ 60000) : (klF W).length = 19 ∧ ∀ k, 0 ≤ (klF W).getD k 0 ∧ (klF W).getD k 0 ≤ 7 := by
  have h := kcS_bd2 W
  obtain ⟨_, _, _, s4, s5, _⟩ := lens_good (cs := kcS W) (m := 7) (by omega) (by omega) (by omega) (by rw [h.1]; decide) (fun k => ⟨(h.2 k).1, by have := (h.2 k).2; omega⟩)
  exact ⟨s4.trans h.1, fun k => by have := s5 k; exact ⟨this.1, by have := this.2; exact_mod_cast this⟩⟩
theorem splF_may {W : List Wd} (hW : W.length ≤ 60000) (h18 : ∀ t ∈ W, 0 ≤ t.1 ∧ t.1 ≤ 18) (hm : ∀ t ∈ W, Gf.may (t.2.1, (t.2.2 : Int)) = true) : ∀ x ∈ splF W, Gf.may x = true := by
  intro x hx
  have hk := klF_bd hW
  have ht := tn_bd W
  unfold splF at hx
  simp only [List.mem_append, List.mem_singleton, List.mem_map, List.mem_flatten] at hx
  rcases hx with (rfl | ⟨y, hy, rfl⟩) | ⟨L, ⟨t, htW, rfl⟩, hx⟩
  · refine may_of (by decide) (by decide) ?_
    show tnF W - 4 < 2 ^ 4
    omega
  · refine may_of (by decide) (by decide) ?_
    have hy' := List.mem_of_mem_take hy
    unfold ordF at hy'
    obtain ⟨k, _, rfl⟩ := List.mem_map.1 hy'
    have := hk.2 k
    show ((klF W).getD k 0).toNat < 2 ^ 3
    omega
  · unfold tellW at hx
    simp only [List.mem_cons, List.not_mem_nil, or_false] at hx
    rcases hx with rfl | rfl
    · have h := h18 t htW
      exact cdA_may (l := klF W) (fun k => ⟨(hk.2 k).1, by have := (hk.2 k).2; omega⟩) (by omega)
    · exact hm t htW
theorem hdO_may {T : List Tok} (hT : T.length ≤ 65536) : ∀ x ∈ hdO T, Gf.may x = true := by
  intro x hx
  have OL := ownLens hT
  have hr := rowO_bd OL
  have hw := wdG_bd (rowO T) hr (rowO T).length 0
  have hln := rowO_len OL
  unfold hdO at hx
  rcases List.mem_append.1 hx with hx | hx
  · simp only [List.mem_cons, List.not_mem_nil, or_false] at hx
    have := OL.sn
    have := OL.dn
    rcases hx with rfl | rfl | rfl
    · exact may_of (by decide) (by decide) (by decide)
    · exact may_of (by decide) (by decide) (by show snF T - 257 < 2 ^ 5; omega)
    · exact may_of (by decide) (by decide) (by show dnF T - 1 < 2 ^ 5; omega)
  · exact splF_may (W := wdF (rowO T)) (by have := hw.1; have := OL.sn; have := OL.dn; show (wdG (rowO T) (rowO T).length 0).length ≤ _; omega) hw.2 (wdG_may _ hr _ _) x hx
theorem own_may {T : List Tok} (hT : T.length ≤ 65536) (hok : ∀ t ∈ T, TokOk t) : ∀ x ∈ telF (hdO T) (oS T) (oD T) T, Gf.may x = true := by
  have OL := ownLens hT
  exact telF_may (take_bd OL.sb _) (take_bd OL.db _) (by have := OL.sol; have := OL.sn; omega) hok (own_in hT hok) (hdO_may hT)
theorem fix_bd : (∀ k, 0 ≤ fixS.getD k 0 ∧ fixS.getD k 0 ≤ 15) ∧ (∀ k, 0 ≤ fixD.getD k 0 ∧ fixD.getD k 0 ≤ 15) := by
  have a1 : fixS.all (fun x => decide (0 ≤ x ∧ x ≤ 15)) = true := by decide +kernel
  have a2 : fixD.all (fun x => decide (0 ≤ x ∧ x ≤ 15)) = true := by decide +kernel
  have key : ∀ l : List Int, l.all (fun x => decide (0 ≤ x ∧ x ≤ 15)) = true → ∀ k, 0 ≤ l.getD k 0 ∧ l.getD k 0 ≤ 15 := by
    intro l h k
    by_cases hk : k < l.length
    · have := List.all_eq_true.1 h l[k] (List.getElem_mem hk)
      rw [List.getD_eq_getElem?_getD, List.getElem?_eq_getElem hk]
      simpa using this
    · rw [List.getD_eq_getElem?_getD, List.getElem?_eq_none (by omega)]; simp
  exact ⟨key _ a1, key _ a2⟩
theorem fix_in {T : List Tok} (hok : ∀ t ∈ T, TokOk t) : ∀ t ∈ T, t.2.1 ≠ 0 → (lenS t.2.1.toNat).1 < fixS.length ∧ (nthF 2 (t.2.2.toNat - 1)).1 < fixD.length := by
  intro t ht hz
  rcases hok t ht with ⟨h, _⟩ | ⟨_, a1, a2, a3, a4⟩
  · exact absurd h hz
  · have hn2 := nth2_lt (d := t.2.2.toNat - 1) (by omega)
    have hln := lenS_lt (d := t.2.1.toNat) (by omega) (by omega)
    rw [fxS_len, fxD_len]
    exact ⟨by omega, hn2.1⟩
theorem fix_may {T : List Tok} (hok : ∀ t ∈ T, TokOk t) : ∀ x ∈ telF [(3, 3)] fixS fixD T, Gf.may x = true :=
  telF_may fix_bd.1 fix_bd.2 (by rw [fxS_len]; decide) hok (fix_in hok) (fun x hx => by rw [List.mem_singleton] at hx; subst hx; decide)
end Go.Proofs.Ytcjfaahlchbcmaa
