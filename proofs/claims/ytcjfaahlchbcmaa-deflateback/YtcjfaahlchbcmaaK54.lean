/- Lengths that were told by words are read back. -/
import Derived.Test.YtcjfaahlchbcmaaK53
import Derived.Test.YtcjfaahlchbcmaaK48
namespace Go.Proofs.Ytcjfaahlchbcmaa
open Go.RowKit Go.BigFrame
set_option linter.unusedVariables false
set_option linter.unusedSimpArgs false
theorem row_go {lk : List Int} {b : List UInt8} {count f p sym q : Nat} {row : List Int} (hr : rdF lk b p = .ok (sym, q)) (hl : row.length < count) (h16 : ¬ (sym = 16 ∧ row = [])) (hq : q + (moreF sym).1 ≤ 8 * b.length) (hm : (moreF sym).2 + nbr b q (moreF sym).1 ≤ count - row.length) :
    rowF lk b count (f + 1) p row = rowF lk b count f (q + (moreF sym).1) (row ++ List.replicate ((moreF sym).2 + nbr b q (moreF sym).1) (whatF sym row)) := by
  rw [row_step _ _ _ _ _ _ hl]
  simp only [hr]
  rw [if_neg h16, if_pos hq, if_pos hm]
theorem take_rep {l : List Int} {a : Nat} {v : Int} : ∀ n, a + n ≤ l.length → (∀ j, a ≤ j → j < a + n → l.getD j 0 = v) → l.take a ++ List.replicate n v = l.take (a + n)
  | 0, _, _ => by simp
  | n + 1, h1, h2 => by
    have ih := take_rep n (by omega) fun j h3 h4 => h2 j h3 (by omega)
    rw [List.replicate_succ', ← List.append_assoc, ih, show a + (n + 1) = (a + n) + 1 by omega, List.take_succ_eq_append_getElem (by omega)]
    have := h2 (a + n) (by omega) (by omega)
    rw [List.getD_eq_getElem?_getD, List.getElem?_eq_getElem (by omega), Option.getD_some] at this
    rw [this]
theorem word_is {l : List Int} {a : Nat} (ha : a < l.length) (hb : ∀ k, 0 ≤ l.getD k 0 ∧ l.getD k 0 ≤ 15) :
    (moreF (nwF l a).1.1.toNat).1 = (nwF l a).1.2.2 ∧ (moreF (nwF l a).1.1.toNat).2 + (nwF l a).1.2.1 = (nwF l a).2 ∧ ¬ ((nwF l a).1.1.toNat = 16 ∧ l.take a = []) ∧ l.take a ++ List.replicate (nwF l a).2 (whatF (nwF l a).1.1.toNat (l.take a)) = l.take (a + (nwF l a).2) := by
  have hs := same_bd l a ha
  have he := end_ge l (l.getD a 0) (l.length - a) a
  have hv : ∀ n, n ≤ sameF l a → ∀ j, a ≤ j → j < a + n → l.getD j 0 = l.getD a 0 := by
    intro n hn j h1 h2
    refine he.2.2 j h1 ?_
    unfold sameF at hn
    omega
  have hx := hb a
  unfold nwF
  split
  · rename_i h
    refine ⟨rfl, ?_, fun hh => absurd (show (18 : Int).toNat = 16 from hh.1) (by decide), ?_⟩
    · show 11 + (min (sameF l a) 138 - 11) = min (sameF l a) 138
      omega
    · show l.take a ++ List.replicate (min (sameF l a) 138) 0 = l.take (a + min (sameF l a) 138)
      exact take_rep _ (by omega) fun j h1 h2 => (hv _ (by omega) j h1 h2).trans h.1
  · split
    · rename_i h
      refine ⟨rfl, ?_, fun hh => absurd (show (17 : Int).toNat = 16 from hh.1) (by decide), ?_⟩
      · show 3 + (sameF l a - 3) = sameF l a
        omega
      · show l.take a ++ List.replicate (sameF l a) 0 = l.take (a + sameF l a)
        exact take_rep _ (by omega) fun j h1 h2 => (hv _ (by omega) j h1 h2).trans h.1
    · split
      · rename_i h
        refine ⟨rfl, ?_, ?_, ?_⟩
        · show 3 + (min (sameF l a) 6 - 3) = min (sameF l a) 6
          omega
        · rintro ⟨_, h1⟩
          have := congrArg List.length h1
          rw [List.length_take, List.length_nil] at this
          have := h.1
          omega
        · show l.take a ++ List.replicate (min (sameF l a) 6) ((l.take a).getD ((l.take a).length - 1) 0) = l.take (a + min (sameF l a) 6)
          have e : (l.take a).getD ((l.take a).length - 1) 0 = l.getD a 0 := by
            rw [h.2.1, List.length_take, Nat.min_eq_left (by omega), List.getD_eq_getElem?_getD, List.getElem?_take_of_lt (by omega), ← List.getD_eq_getElem?_getD]
          rw [e]
          exact take_rep _ (by omega) fun j h1 h2 => hv _ (by omega) j h1 h2
      · have h16 : (l.getD a 0).toNat < 16 := by omega
        have e1 : moreF (l.getD a 0).toNat = (0, 1) := by
          unfold moreF
          rw [if_neg (by omega), if_neg (by omega), if_neg (by omega)]
        have e2 : whatF (l.getD a 0).toNat (l.take a) = l.getD a 0 := by
          unfold whatF
          rw [if_neg (by omega), if_neg (by omega), if_neg (by omega)]
          omega
        refine ⟨?_, ?_, ?_, ?_⟩
        · show (moreF (l.getD a 0).toNat).1 = 0
          rw [e1]
        · show (moreF (l.getD a 0).toNat).2 + 0 = 1
          rw [e1]
        · rintro ⟨h1, _⟩
          have h1' : (l.getD a 0).toNat = 16 := h1
          omega
        · show l.take a ++ List.replicate 1 (whatF (l.getD a 0).toNat (l.take a)) = l.take (a + 1)
          rw [e2]
          exact take_rep 1 (by omega) fun j h1 h2 => by rw [show j = a by omega]
theorem row_back {W : List Wd} (hA : (klF W).all Gf.lenB = true) (hW : Gf.wgt (klF W) ≤ 32768) (hkl : (klF W).length = 19) {l : List Int} (hb : ∀ k, 0 ≤ l.getD k 0 ∧ l.getD k 0 ≤ 15) {b : List UInt8} {R : List Bt} :
    ∀ (f g a p : Nat), a ≤ l.length → l.length - a ≤ g → l.length - a < f → (∀ t ∈ wdG l g a, Gf.ln (klF W) t.1.toNat ≠ 0) → Rd b p (((wdG l g a).map (tellW W)).flatten ++ R) →
      rowF (klF W) b l.length f p (l.take a) = .ok (p + Gf.tot (((wdG l g a).map (tellW W)).flatten), l)
  | 0, g, a, p, h1, h2, h3, _, _ => by omega
  | f + 1, g, a, p, h1, h2, h3, hc, hr => by
    by_cases ha : a < l.length
    · obtain ⟨g', rfl⟩ : ∃ g', g = g' + 1 := ⟨g - 1, by omega⟩
      have hn := nw_bd l a ha hb
      obtain ⟨w1, w2, w3, w4⟩ := word_is ha hb
      have e0 : wdG l (g' + 1) a = (nwF l a).1 :: wdG l g' (a + (nwF l a).2) := by rw [wdG, if_pos ha]
      rw [e0] at hc hr ⊢
      have c1 := hc _ List.mem_cons_self
      rw [List.map_cons, List.flatten_cons, List.append_assoc] at hr
      rw [List.map_cons, List.flatten_cons, Gf.tot_app]
      have hk : (nwF l a).1.1.toNat < (klF W).length := by rw [hkl]; omega
      have hr' : Rd b p (cdA (klF W) (nwF l a).1.1.toNat :: (((nwF l a).1.2.1, ((nwF l a).1.2.2 : Int)) :: (((wdG l g' (a + (nwF l a).2)).map (tellW W)).flatten ++ R))) := hr
      obtain ⟨r1, r2⟩ := rd_sym hA hW hk c1 hr'
      obtain ⟨q1, q2, q3⟩ := r2.cons
      have e1 : (((nwF l a).1.2.1, ((nwF l a).1.2.2 : Int)) : Bt).2.toNat = (nwF l a).1.2.2 := rfl
      rw [e1] at q1 q2 q3
      have q1' : nbr b (p + Gf.ln (klF W) (nwF l a).1.1.toNat) (nwF l a).1.2.2 = (nwF l a).1.2.1 := q1
      have hll : (l.take a).length = a := by rw [List.length_take]; omega
      rw [row_go r1 (by rw [hll]; exact ha) w3 (by rw [w1]; exact q2) (by rw [w1, q1', w2, hll]; omega)]
      rw [w1, q1', w2, w4]
      have ih := row_back hA hW hkl hb (b := b) (R := R) f g' (a + (nwF l a).2) (p + Gf.ln (klF W) (nwF l a).1.1.toNat + (nwF l a).1.2.2) (by omega) (by omega) (by omega) (fun t ht => hc t (List.mem_cons_of_mem _ ht)) q3
      rw [ih]
      have e2 : Gf.tot (tellW W (nwF l a).1) = Gf.ln (klF W) (nwF l a).1.1.toNat + (nwF l a).1.2.2 := by
        show (cdA (klF W) (nwF l a).1.1.toNat).2.toNat + ((nwF l a).1.2.2 + 0) = _
        rw [cdA_ln hk]; rfl
      rw [e2]
      congr 2
      omega
    · have e : a = l.length := by omega
      subst e
      rw [List.take_length, row_done _ _ _ _ _ _ (by omega), wdG_end _ _ _ (Nat.le_refl _)]
      rfl
theorem kc_pos : ∀ (W : List Wd) (s : List Int), (∀ k, 0 ≤ s.getD k 0) → ∀ t ∈ W, t.1.toNat < s.length → 0 < (W.foldl (fun s t => inc s t.1.toNat) s).getD t.1.toNat 0
  | [], s, _, t, ht, _ => by simp at ht
  | x :: r, s, hs, t, ht, hl => by
    rw [List.foldl_cons]
    have mono : ∀ (W : List Wd) (s : List Int) (k : Nat), s.getD k 0 ≤ (W.foldl (fun s t => inc s t.1.toNat) s).getD k 0 := by
      intro W
      induction W with
      | nil => intro s k; exact Int.le_refl _
      | cons y q ih =>
        intro s k
        rw [List.foldl_cons]
        exact Int.le_trans (inc_ge s y.1.toNat k) (ih _ k)
    rcases List.mem_cons.1 ht with rfl | ht
    · have h1 := mono r (inc s t.1.toNat) t.1.toNat
      rw [inc_at hl] at h1
      have := hs t.1.toNat
      omega
    · exact kc_pos r (inc s x.1.toNat) (fun k => Int.le_trans (hs k) (inc_ge _ _ _)) t ht (by rw [inc_len]; exact hl)
theorem kl_good {W : List Wd} (hW : W.length ≤ 60000) (h18 : ∀ t ∈ W, 0 ≤ t.1 ∧ t.1 ≤ 18) : Gf.chkE (klF W) = 0 ∧ (klF W).length = 19 ∧ (∀ k, 0 ≤ (klF W).getD k 0 ∧ (klF W).getD k 0 ≤ 7) ∧ ∀ t ∈ W, Gf.ln (klF W) t.1.toNat ≠ 0 := by
  have h := kcS_bd2 W
  obtain ⟨_, _, s3, s4, s5, s6⟩ := lens_good (cs := kcS W) (m := 7) (by omega) (by omega) (by omega) (by rw [h.1]; decide) (fun k => ⟨(h.2 k).1, by have := (h.2 k).2; omega⟩)
  refine ⟨s3, s4.trans h.1, fun k => ⟨(s5 k).1, by have := (s5 k).2; exact_mod_cast this⟩, fun t ht => ?_⟩
  have hb := h18 t ht
  have hp := kc_pos W (zs 19) (fun k => by unfold zs; exact rep_nn 19 k) t ht (by show t.1.toNat < (zs 19).length; simp [zs]; omega)
  have hz : (klF W).getD t.1.toNat 0 ≠ 0 := fun e => by
    have h1 := (s6 t.1.toNat (by rw [h.1]; omega)).1 e
    have h2 : 0 < (kcS W).getD t.1.toNat 0 := hp
    omega
  have h5 : 0 ≤ (klF W).getD t.1.toNat 0 := (s5 t.1.toNat).1
  unfold Gf.ln
  omega
theorem rd_threes {b : List UInt8} {R : List Bt} : ∀ (L : List Int) (p : Nat), Rd b p (L.map (fun x => (x.toNat, (3 : Int))) ++ R) → (∀ j, j < L.length → nbr b (p + 3 * j) 3 = (L.getD j 0).toNat) ∧ Rd b (p + 3 * L.length) R
  | [], p, h => ⟨fun j hj => absurd hj (Nat.not_lt_zero _), h⟩
  | x :: r, p, h => by
    obtain ⟨h1, h2, h3⟩ := Rd.cons (x := (x.toNat, (3 : Int))) (R := r.map (fun x => (x.toNat, (3 : Int))) ++ R) h
    have e : ((x.toNat, (3 : Int)) : Bt).2.toNat = 3 := rfl
    rw [e] at h1 h3
    obtain ⟨i1, i2⟩ := rd_threes r (p + 3) h3
    refine ⟨fun j hj => ?_, by rw [List.length_cons, show p + 3 * (r.length + 1) = p + 3 + 3 * r.length by omega]; exact i2⟩
    cases j with
    | zero => exact h1
    | succ j =>
      have := i1 j (by rw [List.length_cons] at hj; omega)
      rw [show p + 3 * (j + 1) = p + 3 + 3 * j by omega, this]
      rfl
theorem ord_eq : ∀ j, j < 19 → (ordL.getD j 0).toNat = ordK.getD j 0 := by decide
theorem ord_lt19 : ∀ j, j < 19 → ordK.getD j 0 < 19 := by decide
theorem ord_inj : ∀ i, i < 19 → ∀ j, j < 19 → ordK.getD i 0 = ordK.getD j 0 → i = j := by decide
theorem ord_sur : ∀ i, i < 19 → ∃ j, j < 19 ∧ ordK.getD j 0 = i := by decide
theorem kind_at {b : List UInt8} {p : Nat} {kl : List Int} (hkl : ∀ k, 0 ≤ kl.getD k 0) {n : Nat} (hn : n ≤ 19) (h : ∀ j, j < n → nbr b (p + 3 * j) 3 = (kl.getD (ordK.getD j 0) 0).toNat) :
    ∀ k, k ≤ n → ∀ j, j < 19 → (kindL b p k).getD (ordK.getD j 0) 0 = if j < k then kl.getD (ordK.getD j 0) 0 else 0
  | 0, _, j, hj => by
    show (List.replicate 19 (0 : Int)).getD _ 0 = _
    rw [List.getD_eq_getElem?_getD, List.getElem?_replicate, if_pos (ord_lt19 j hj)]; rfl
  | k + 1, hk, j, hj => by
    have ih := kind_at hkl hn h k (by omega) j hj
    rw [kindL, ord_eq k (by omega), h k (by omega), List.getD_eq_getElem?_getD, List.getElem?_set]
    by_cases hjk : j = k
    · subst hjk
      rw [if_pos rfl, if_pos (by rw [kindL_len]; exact ord_lt19 j hj), if_pos (by omega)]
      have := hkl (ordK.getD j 0)
      show (((kl.getD (ordK.getD j 0) 0).toNat : Nat) : Int) = _
      omega
    · rw [if_neg (fun e => hjk (ord_inj _ (by omega) _ hj e).symm), ← List.getD_eq_getElem?_getD, ih]
      by_cases h1 : j < k
      · rw [if_pos h1, if_pos (by omega)]
      · rw [if_neg h1, if_neg (by omega)]
theorem kind_is {b : List UInt8} {p : Nat} {kl : List Int} (hl : kl.length = 19) (hkl : ∀ k, 0 ≤ kl.getD k 0) {n : Nat} (hn : n ≤ 19) (h : ∀ j, j < n → nbr b (p + 3 * j) 3 = (kl.getD (ordK.getD j 0) 0).toNat) (hz : ∀ j, n ≤ j → j < 19 → kl.getD (ordK.getD j 0) 0 = 0) : kindL b p n = kl := by
  apply List.ext_getElem
  · rw [kindL_len, hl]
  · intro i h1 h2
    rw [hl] at h2
    obtain ⟨j, hj, rfl⟩ := ord_sur i h2
    have e := kind_at hkl hn h n (Nat.le_refl _) j hj
    have e2 : (kindL b p n).getD (ordK.getD j 0) 0 = kl.getD (ordK.getD j 0) 0 := by
      rw [e]
      by_cases hjn : j < n
      · rw [if_pos hjn]
      · rw [if_neg hjn, hz j (by omega) hj]
    clear e h hz
    generalize ordK.getD j 0 = i at *
    rw [List.getD_eq_getElem?_getD, List.getD_eq_getElem?_getD, List.getElem?_eq_getElem h1, List.getElem?_eq_getElem (by rw [hl]; exact h2)] at e2
    exact e2
theorem ordF_at (kl : List Int) {j : Nat} (hj : j < 19) : (ordF kl).getD j 0 = kl.getD (ordK.getD j 0) 0 := by
  unfold ordF
  have h : j < ordK.length := hj
  rw [List.getD_eq_getElem?_getD, List.getElem?_map, List.getElem?_eq_getElem h, List.getD_eq_getElem?_getD (l := ordK), List.getElem?_eq_getElem h]
  rfl
theorem cnt_posB : ∀ (T : List Tok) (s : List Int × List Int), s.1.length = 286 → (∀ k, 0 ≤ s.1.getD k 0) → ∀ t ∈ T, t.2.1 = 0 → 0 < (T.foldl cnt1 s).1.getD t.1.toNat 0
  | [], s, _, _, t, ht, _ => by simp at ht
  | x :: r, s, l1, p1, t, ht, hz => by
    rw [List.foldl_cons]
    have g1 : ∀ k, 0 ≤ (cnt1 s x).1.getD k 0 := fun k => Int.le_trans (p1 k) (cnt1_ge s x k).1
    have e1 : (cnt1 s x).1.length = 286 := by unfold cnt1; split <;> simp [inc_len, l1]
    rcases List.mem_cons.1 ht with rfl | ht
    · have hb := t.1.toNat_lt
      have q := cnt_ge r (cnt1 s t) t.1.toNat
      have u1 : (cnt1 s t).1.getD t.1.toNat 0 = s.1.getD t.1.toNat 0 + 1 := by
        unfold cnt1; rw [if_pos hz]; exact inc_at (by omega)
      have w1 := p1 t.1.toNat
      omega
    · exact cnt_posB r (cnt1 s x) e1 g1 t ht hz
theorem take_ln {l : List Int} {n k : Nat} (hk : k < n) : Gf.ln (l.take n) k = Gf.ln l k := by
  unfold Gf.ln
  rw [List.getD_eq_getElem?_getD, List.getElem?_take_of_lt hk, ← List.getD_eq_getElem?_getD]
theorem own_sym {T : List Tok} (hT : T.length ≤ 65536) (hok : ∀ t ∈ T, TokOk t) : SymOk (oS T) (oD T) T ∧ 256 < (oS T).length ∧ Gf.ln (oS T) 256 ≠ 0 := by
  have OL := ownLens hT
  have hl := cntF_len T
  have hb := cntF_bd hT
  have hsl := cntS_len T
  obtain ⟨_, _, _, _, s5, s6⟩ := lens_good (cs := (cntF T).1) (m := 15) (by omega) (by omega) (by omega) (by rw [hl.1]; decide) hb.1
  obtain ⟨_, _, _, _, d5, d6⟩ := lens_good (cs := (cntF T).2) (m := 15) (by omega) (by omega) (by omega) (by rw [hl.2]; decide) hb.2
  have lnS : ∀ k, k < snF T → 0 < (cntF T).1.getD k 0 → Gf.ln (oS T) k ≠ 0 := by
    intro k hk hp
    have e : Gf.ln (oS T) k = Gf.ln (slF T) k := take_ln hk
    rw [e]
    have z : (slF T).getD k 0 ≠ 0 := fun e => by have := (s6 k (by rw [hl.1]; have := OL.sn; omega)).1 e; omega
    have := (OL.sb k).1
    unfold Gf.ln
    omega
  have lnD : ∀ k, k < dnF T → 0 < (cntF T).2.getD k 0 → Gf.ln (oD T) k ≠ 0 := by
    intro k hk hp
    have e : Gf.ln (oD T) k = Gf.ln (dlF T) k := take_ln hk
    rw [e]
    have z : (dlF T).getD k 0 ≠ 0 := fun e => by have := (d6 k (by rw [hl.2]; have := OL.dn; omega)).1 e; omega
    have := (OL.db k).1
    unfold Gf.ln
    omega
  have nn := cnt_ge T (List.replicate 286 0, List.replicate 30 0)
  refine ⟨fun t ht => ⟨fun hz => ?_, fun hz => ?_⟩, by rw [OL.sol]; have := OL.sn; omega, ?_⟩
  · have hb := t.1.toNat_lt
    have := OL.sn
    have c := cnt_posB T (List.replicate 286 0, List.replicate 30 0) List.length_replicate (rep_nn 286) t ht hz
    exact ⟨by rw [OL.sol]; omega, lnS _ (by omega) (Int.lt_of_lt_of_le c (inc_ge _ _ _))⟩
  · obtain ⟨h1, h2⟩ := own_in hT hok t ht hz
    obtain ⟨c1, c2⟩ := cnt_pos T (List.replicate 286 0, List.replicate 30 0) List.length_replicate List.length_replicate (rep_nn 286) (rep_nn 30) t ht (hok t ht) hz
    refine ⟨h1, lnS _ (by rw [← OL.sol]; exact h1) (Int.lt_of_lt_of_le c1 (inc_ge _ _ _)), h2, lnD _ (by rw [← OL.dol]; exact h2) c2⟩
  · refine lnS 256 (by have := OL.sn; omega) ?_
    show 0 < (inc (cntS T).1 256).getD 256 0
    rw [inc_at (by rw [hsl.1]; decide)]
    have h1 := (nn 256).1
    have h2 : 0 ≤ (List.replicate 286 (0 : Int)).getD 256 0 := rep_nn 286 256
    have h3 : 0 ≤ (cntS T).1.getD 256 0 := Int.le_trans h2 h1
    omega
theorem rd_num {b : List UInt8} {p x e : Nat} {z : Int} {R : List Bt} (h : Rd b p ((x, z) :: R)) (hz : z = (e : Int)) : p + e ≤ 8 * b.length ∧ nbr b p e = x ∧ Rd b (p + e) R := by
  subst hz
  obtain ⟨h1, h2, h3⟩ := h.cons
  exact ⟨h2, h1, h3⟩
set_option maxHeartbeats 1000000 in
theorem dyn_back {T : List Tok} (hT : T.length ≤ 65536) (hok : ∀ t ∈ T, TokOk t) {b : List UInt8} {R : List Bt} (h : Rd b 3 ((snF T - 257, 5) :: (dnF T - 1, 5) :: (splF (wdF (rowO T)) ++ R))) :
    ∃ q, dynF b 3 = .ok (q, oS T, oD T) ∧ q = 3 + Gf.tot ((snF T - 257, 5) :: (dnF T - 1, 5) :: splF (wdF (rowO T))) ∧ Rd b q R := by
  have OL := ownLens hT
  have hr := rowO_bd OL
  have hw := wdG_bd (rowO T) hr (rowO T).length 0
  have hln := rowO_len OL
  have hsn := OL.sn
  have hdn := OL.dn
  obtain ⟨os, h256, hn256⟩ := own_sym hT hok
  have hWl : (wdF (rowO T)).length ≤ 60000 := by have := hw.1; show (wdG (rowO T) (rowO T).length 0).length ≤ _; omega
  have kg := kl_good hWl hw.2
  obtain ⟨W, hWd⟩ : ∃ W, wdF (rowO T) = W := ⟨_, rfl⟩
  have hWd' : wdG (rowO T) (rowO T).length 0 = W := hWd
  rw [hWd] at h kg ⊢
  clear hWl hw
  obtain ⟨k1, k2, k3, k4⟩ := kg
  obtain ⟨kA, kW⟩ := chk_good k1
  have ht := tn_bd W
  obtain ⟨a1, a2, h⟩ := rd_num (e := 5) h rfl
  obtain ⟨b1, b2, h⟩ := rd_num (e := 5) h rfl
  have hsp : splF W = (tnF W - 4, 4) :: (((ordF (klF W)).take (tnF W)).map (fun x => (x.toNat, (3 : Int))) ++ (W.map (tellW W)).flatten) := by
    unfold splF
    rw [List.append_assoc]; rfl
  rw [hsp] at h
  have h' : Rd b (3 + 5 + 5) ((tnF W - 4, 4) :: (((ordF (klF W)).take (tnF W)).map (fun x => (x.toNat, (3 : Int))) ++ ((W.map (tellW W)).flatten ++ R))) := by
    rw [List.cons_append, List.append_assoc] at h; exact h
  obtain ⟨c1, c2, h⟩ := rd_num (e := 4) h' rfl
  obtain ⟨d1, h⟩ := rd_threes _ _ h
  have hol := ordF_len (klF W)
  have htl : ((ordF (klF W)).take (tnF W)).length = tnF W := by rw [List.length_take, hol]; omega
  rw [htl] at d1 h
  have htr := trm_ge (ordF (klF W)) 4 19 (by omega)
  have hkd : kindL b (3 + 5 + 5 + 4) (tnF W) = klF W := by
    refine kind_is k2 (fun k => (k3 k).1) ht.2 (fun j hj => ?_) (fun j h1 h2 => ?_)
    · rw [d1 j hj, List.getD_eq_getElem?_getD, List.getElem?_take_of_lt hj, ← List.getD_eq_getElem?_getD, ordF_at _ (by omega)]
    · rw [← ordF_at _ h2]
      exact htr.2.2 j h1 h2
  have hrow := row_back (W := W) kA kW k2 hr (b := b) (R := R) ((rowO T).length + 1) (rowO T).length 0 (3 + 5 + 5 + 4 + 3 * tnF W) (Nat.zero_le _) (by omega) (by omega) (by rw [hWd']; exact k4) (by rw [hWd']; exact h)
  rw [hWd'] at hrow
  have hq := h.app
  have e0 : (rowO T).take 0 = [] := rfl
  rw [e0] at hrow
  have n1 : nbr b 3 5 + 257 = snF T := by rw [a2]; omega
  have n2 : nbr b (3 + 5) 5 + 1 = dnF T := by rw [b2]; omega
  have n3 : nbr b (3 + 5 + 5) 4 + 4 = tnF W := by rw [c2]; omega
  have t1 : (rowO T).take (snF T) = oS T := by unfold rowO; rw [← OL.sol]; exact List.take_left
  have t2 : (rowO T).drop (snF T) = oD T := by unfold rowO; rw [← OL.sol]; exact List.drop_left
  have g256 : (rowO T).getD 256 0 ≠ 0 := by
    intro e
    apply hn256
    unfold Gf.ln
    have : (rowO T).getD 256 0 = (oS T).getD 256 0 := by
      unfold rowO
      rw [List.getD_eq_getElem?_getD, List.getElem?_append_left h256, ← List.getD_eq_getElem?_getD]
    rw [← this, e]; rfl
  refine ⟨3 + 5 + 5 + 4 + 3 * tnF W + Gf.tot ((W.map (tellW W)).flatten), ?_, ?_, hq⟩
  · unfold dynF
    rw [n1, n2, n3, hkd, ← hln, hrow]
    rw [if_pos a1, if_pos (by rw [a2]; omega), if_pos b1, if_pos (by rw [b2]; omega), if_pos c1, if_pos (by have := h.1; omega), if_pos k1]
    simp only [t1, t2]
    rw [if_neg g256, if_pos ⟨OL.soc, OL.doc⟩]
  · have m3 : ∀ L : List Int, Gf.tot (L.map (fun x => (x.toNat, (3 : Int)))) = 3 * L.length := by
      intro L
      induction L with
      | nil => rfl
      | cons x r ih => rw [List.map_cons, Gf.tot, ih, List.length_cons]; show 3 + 3 * r.length = _; omega
    rw [hsp, Gf.tot, Gf.tot, Gf.tot, Gf.tot_app, m3, htl]
    show _ = 3 + (5 + (5 + (4 + _)))
    omega
theorem own_back {T : List Tok} {o : List UInt8} (hT : T.length ≤ 65536) (hok : ∀ t ∈ T, TokOk t) (he : expF T [] = (o, 0)) :
    infR (Gf.byt (Gf.wid (telF (hdO T) (oS T) (oD T) T)) (Gf.val (telF (hdO T) (oS T) (oD T) T))) 65536 = (o, Gf.wid (telF (hdO T) (oS T) (oD T) T), 0) := by
  have OL := ownLens hT
  have hm := own_may hT hok
  have hr := rd_whole hm
  have hE : telF (hdO T) (oS T) (oD T) T = (5, 3) :: (snF T - 257, 5) :: (dnF T - 1, 5) :: (splF (wdF (rowO T)) ++ ((T.map (tokB (oS T) (oD T))).flatten ++ [cdA (oS T) 256])) := by
    unfold telF telP hdO
    rw [List.take_length]
    simp only [List.cons_append, List.nil_append, List.append_assoc]
  generalize hD : telF (hdO T) (oS T) (oD T) T = D at *
  generalize hb : Gf.byt (Gf.wid D) (Gf.val D) = b at *
  obtain ⟨hs, h256, hn256⟩ := own_sym hT hok
  rw [hE] at hr
  obtain ⟨b1, b2, b3, b4⟩ := rd_three hr
  obtain ⟨q, dq, eq, rq⟩ := dyn_back hT hok b4
  obtain ⟨g1, g2⟩ := chk_good OL.soc
  obtain ⟨g3, g4⟩ := chk_good OL.doc
  have ht := toks_tot T hs
  have hlen : T.length < 8 * b.length + 1 := by
    have := rq.1
    rw [Gf.tot_app] at this
    omega
  obtain ⟨mo, hmo⟩ : ∃ mo : Nat, mo = 65536 := ⟨_, rfl⟩
  have tb := told_back g1 g2 g3 g4 ⟨h256, hn256⟩ hmo T (8 * b.length + 1) q [] hlen hok hs rq he
  have hbl : blockF b mo 1 [] = .ok (q + Gf.tot ((T.map (tokB (oS T) (oD T))).flatten ++ [cdA (oS T) 256]), o) := by
    unfold blockF
    rw [if_pos (by omega), b3, if_neg (by decide), if_neg (by decide), if_pos (by decide), show 1 + 2 = 3 from rfl, dq]
    exact tb
  rw [hmo] at hbl
  rw [inf_last (x := 5) b1 (by rw [b2]) hbl]
  have hw : Gf.wid D = (Gf.tot D + 7) / 8 := rfl
  have ht2 : Gf.tot D = q + Gf.tot ((T.map (tokB (oS T) (oD T))).flatten ++ [cdA (oS T) 256]) := by
    rw [hE, eq]
    simp only [Gf.tot, Gf.tot_app]
    show 3 + _ = _
    omega
  rw [hw, ht2]
end Go.Proofs.Ytcjfaahlchbcmaa
