/- Closures as values, kept; what the lengths of a block of its own tell. -/
import Derived.Test.YtbnghmeeddjaoaaFt
namespace Go.Proofs.Ytbnghmeeddjaoaa
open Go.RowKit Go.BigFrame Gt

theorem RdV.keep {N : Nat} {w w' : World} {sb : Nat} {l : List Int} {u : Value} (h : RdV N w sb l u) (hk : ∀ k, N ≤ k → k < w.heap.size → w'.heap[k]? = w.heap[k]?) : RdV N w' sb l u := by
  obtain ⟨fb, xb, fv, rfl, h1, h2, r1, r2, ho⟩ := h
  exact ⟨fb, xb, fv, rfl, h1, h2, r1.same (hk fb h1 r1.lt), r2.same (hk xb h2 r2.lt), ho.same fun g hg => hk g (ho.lt g hg).1 (ho.lt g hg).2⟩
theorem RdV.mono {N M : Nat} {w : World} {sb : Nat} {l : List Int} {u : Value} (h : RdV N w sb l u) (hM : M ≤ N) : RdV M w sb l u := by
  obtain ⟨fb, xb, fv, rfl, h1, h2, r1, r2, ho⟩ := h
  refine ⟨fb, xb, fv, rfl, by omega, by omega, r1, r2, ho.1, ?_⟩
  rcases ho.2 with h2 | ⟨q, cap, cur, e1, e2, e3⟩
  · exact .inl h2
  · exact .inr ⟨q, cap, cur, e1, by omega, e3⟩
theorem RdV.below {N : Nat} {w w' : World} {sb : Nat} {l : List Int} {u : Value} (h : RdV N w sb l u) (hb : Below w.heap.size w w') : RdV N w' sb l u := h.keep fun k _ hk => hb.block k hk
theorem row_type {w : World} {g : Nat} {t t' : TypeId} {c c' : Array Value} (h : Row w g t c) (h' : Row w g t' c') : t = t' := by
  unfold Row at h h'
  rw [h] at h'
  simp at h'
  exact h'.2
theorem treeB_pos (l : List Int) (hchk : Gf.chkE l = 0) : 0 < (treeB l l.length).length := by
  obtain ⟨hA, hW, _⟩ := good_of hchk
  obtain ⟨P, hT⟩ := tree_ok hA hW l.length (Nat.le_refl _)
  exact hT.len
/-- A closure beside the stream: its blocks are kept from now on. -/
theorem RdV.toK {K : Nat → Prop} {M N : Nat} {w : World} {sb : Nat} {vb : Value} {b : List UInt8} {p : Nat} {out : List UInt8} {most : Nat} {fx : Value} {l : List Int} {u : Value} (h : RdV M w sb l u) (hchk : Gf.chkE l = 0) (st : St K N w sb vb b p out most fx) :
    ∃ (K' : Nat → Prop) (fb xb : Nat), (∀ k, K k → K' k) ∧ (∀ k, K' k → K k ∨ M ≤ k) ∧ u = .func (.func 48) #[] #[.pointer (some ⟨fb, 0, none⟩), .pointer (some ⟨xb, 0, none⟩)] ∧ RdK K' w sb l fb xb ∧ St K' N w sb vb b p out most fx := by
  obtain ⟨fb, xb, fv, rfl, h1, h2, r1, r2, ho⟩ := h
  obtain ⟨g, cap, rfl, hg, hcap, hgl, hcl, _⟩ := ho.seg (treeB_pos l hchk)
  obtain ⟨cur, rg⟩ := ho.row g rfl
  obtain ⟨vo, hr, _⟩ := st.row
  have n1 : fb ≠ sb := fun e => by subst e; exact absurd (row_type r1 hr) (by decide)
  have n2 : xb ≠ sb := fun e => by subst e; exact absurd (row_type r2 hr) (by decide)
  have n3 : g ≠ sb := fun e => by subst e; exact absurd (row_type rg hr) (by decide)
  refine ⟨fun k => ((K k ∨ k = fb) ∨ k = xb) ∨ k = g, fb, xb, fun k hk => .inl (.inl (.inl hk)), ?_, rfl, ⟨g, cap, .inl (.inl (.inr rfl)), .inl (.inr rfl), .inr rfl, r1, r2, hcap, hcl⟩, ((st.more fb r1 (by decide) n1).more xb r2 (by decide) n2).more g rg (by decide) n3⟩
  rintro k (((hk | rfl) | rfl) | rfl)
  · exact .inl hk
  · exact .inr h1
  · exact .inr h2
  · exact .inr hg
theorem St.setRow {K : Nat → Prop} {N : Nat} {w : World} {sb : Nat} {vb : Value} {b : List UInt8} {p : Nat} {out : List UInt8} {most : Nat} {fx : Value} (h : St K N w sb vb b p out most fx) (g : Nat) (c' : Array Value) {t : TypeId} {cur : Array Value} (r : Row w g t cur) (ht : t ≠ 5) (hs : g ≠ sb) (hg : ¬ K g) : St K N (w.setRow g c') sb vb b p out most fx ∧ Kp K w (w.setRow g c') := by
  obtain ⟨vo, hr, ho⟩ := h.row
  have hk : ∀ k, k ≠ g → (w.setRow g c').heap[k]? = w.heap[k]? := fun k hk => setRow_other _ _ _ _ hk
  have hne : ∀ k, K k → k ≠ g := fun k hk e => hg (e ▸ hk)
  have hsz : (w.setRow g c').heap.size = w.heap.size := by simp [World.setRow]
  refine ⟨⟨⟨vo, hr.same (hk sb (Ne.symm hs)), ho.same fun q hq => hk q ?_⟩, kt_keep h.kt fun k hk' => hk k (hne k hk'), h.bts.keep fun q hq => ⟨hq, hk q (hne q hq)⟩, h.sbK, fun k hk' => by rw [hsz]; exact h.kl k hk', h.bl, h.pl, h.ol, h.ml, by rw [hsz]; exact h.nl⟩, ⟨rfl, rfl, rfl, by rw [hsz]; exact Nat.le_refl _, fun k hk' => hk k (hne k hk')⟩⟩
  rintro rfl
  obtain ⟨-, c2, r2⟩ := ho.lt q hq
  exact ht (row_type r r2)
theorem row_len (lk : List Int) (b : List UInt8) (count : Nat) : ∀ (f p : Nat) (row : List Int) (q : Nat) (row' : List Int), row.length ≤ count → count < row.length + f → rowF lk b count f p row = .ok (q, row') → row'.length = count
  | 0, p, row, q, row', h1, h2, h => by omega
  | f + 1, p, row, q, row', h1, h2, h => by
    by_cases hl : row.length < count
    · rw [row_step _ _ _ _ _ _ hl] at h
      cases hr : rdF lk b p with
      | error x => rw [hr] at h; cases h
      | ok sq =>
        rw [hr] at h
        simp only at h
        split at h
        · cases h
        split at h
        · split at h
          · rename_i ht
            have hm := (more_le sq.1 b sq.2).1
            exact row_len lk b count f _ _ q row' (by rw [List.length_append, List.length_replicate]; omega) (by rw [List.length_append, List.length_replicate]; omega) h
          · cases h
        · cases h
    · rw [row_done _ _ _ _ _ _ hl] at h
      cases h
      omega
/-- The lengths that a block tells of its own: of symbols, of distances. -/
def dynF (b : List UInt8) (p : Nat) : Except Int (Nat × List Int × List Int) :=
  if p + 5 ≤ 8 * b.length then
    if nbr b p 5 ≤ 29 then
      if p + 5 + 5 ≤ 8 * b.length then
        if nbr b (p + 5) 5 ≤ 29 then
          if p + 5 + 5 + 4 ≤ 8 * b.length then
            if p + 5 + 5 + 4 + 3 * (nbr b (p + 5 + 5) 4 + 4) ≤ 8 * b.length then
              if Gf.chkE (kindL b (p + 5 + 5 + 4) (nbr b (p + 5 + 5) 4 + 4)) = 0 then
                match rowF (kindL b (p + 5 + 5 + 4) (nbr b (p + 5 + 5) 4 + 4)) b (nbr b p 5 + 257 + (nbr b (p + 5) 5 + 1)) (nbr b p 5 + 257 + (nbr b (p + 5) 5 + 1) + 1) (p + 5 + 5 + 4 + 3 * (nbr b (p + 5 + 5) 4 + 4)) [] with
                | .error x => .error x
                | .ok (q, row) => if row.getD 256 0 = 0 then .error 8
                  else if Gf.chkE (row.take (nbr b p 5 + 257)) = 0 ∧ Gf.chkE (row.drop (nbr b p 5 + 257)) = 0 then .ok (q, row.take (nbr b p 5 + 257), row.drop (nbr b p 5 + 257)) else .error 8
              else .error 8
            else .error 7
          else .error 7
        else .error 8
      else .error 7
    else .error 8
  else .error 7
end Go.Proofs.Ytbnghmeeddjaoaa
