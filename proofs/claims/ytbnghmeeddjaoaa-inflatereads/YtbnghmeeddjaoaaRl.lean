/- What stands while the reference reads a row of lengths. -/
import Derived.Test.YtbnghmeeddjaoaaRd
namespace Go.Proofs.Ytbnghmeeddjaoaa
open Go.RowKit Go.BigFrame Gt

theorem OwnI.slice {N : Nat} {w : World} {v : Value} {d : List Int} (h : OwnI N w v d) : ∃ a c, v = .slice a d.length c ∧ d.length ≤ c := by
  rcases h.2 with ⟨e, e0⟩ | ⟨g, cap, cur, e1, e2, e3, e4, _⟩
  · exact ⟨none, 0, by rw [e, e0], by omega⟩
  · exact ⟨_, _, e1, e4⟩
/-- A row more that is to stay, if there is one. -/
theorem Rs.moreO {K : Nat → Prop} {N : Nat} {w : World} {sb : Nat} {vb : Value} {b : List UInt8} {p : Nat} {out : List UInt8} {most : Nat} {fx : Value} (h : Rs K N w sb vb b p out most fx) (o : Option Nat) (hg : ∀ g, o = some g → g ≠ sb ∧ ∃ cur, Row w g 3 cur) : Rs (fun k => K k ∨ o = some k) N w sb vb b p out most fx := by
  refine ⟨h.row, ?_, h.bts.keep fun g hg => ⟨.inl hg, rfl⟩, fun hh => ?_, fun k hk => ?_, h.bl, h.pl, h.ol, h.ml, h.nl⟩
  · rintro k (hk | hk)
    · exact h.kt k hk
    · obtain ⟨_, cur, r⟩ := hg k hk
      refine .inr fun c hc => ?_
      unfold Row at r hc
      rw [r] at hc
      simp at hc
  · rcases hh with hh | hh
    · exact h.sbK hh
    · exact (hg sb hh).1 rfl
  · rcases hk with hk | hk
    · exact h.kl k hk
    · obtain ⟨_, cur, r⟩ := hg k hk
      exact r.lt
/-- What stands while the reference reads a row of lengths: the stream, the nineteen lengths, the row so far. -/
structure Lp (K : Nat → Prop) (N : Nat) (w wl : World) (sb : Nat) (vb : Value) (b : List UInt8) (p : Nat) (out : List UInt8) (most : Nat) (er : Int) (gf : Nat) (lk : List Int) (r : Value) (row : List Int) : Prop where
  st : Rs K N wl sb vb b p out most (.int .i64 er)
  rf : Row wl gf 3 (ai lk)
  kp : Kp K w wl
  ow : OwnI (gf + 2) wl r row
  ks : ∀ k, K k → k < gf
  ss : sb < gf
  sz : gf + 2 ≤ wl.heap.size
section
variable {K : Nat → Prop} {N : Nat} {w wl : World} {sb : Nat} {vb : Value} {b : List UInt8} {p : Nat} {out : List UInt8} {most : Nat} {er : Int} {gf : Nat} {lk : List Int} {r : Value} {row : List Int}
theorem Lp.drew (h : Lp K N w wl sb vb b p out most er gf lk r row) : Lp K N w wl.drew sb vb b p out most er gf lk r row :=
  ⟨h.st.drewN 1, h.rf, h.kp.drew, h.ow, h.ks, h.ss, h.sz⟩
/-- The blocks that stay while the stream is read. -/
def LK (K : Nat → Prop) (gf : Nat) (r : Value) (k : Nat) : Prop := (K k ∨ k = gf) ∨ r.ownBlock = some k
theorem Lp.wide (h : Lp K N w wl sb vb b p out most er gf lk r row) : Rs (LK K gf r) N wl sb vb b p out most (.int .i64 er) :=
  (h.st.more gf h.rf (by decide) (by have := h.ss; omega)).moreO r.ownBlock fun g hg => ⟨by have := (h.ow.row g hg).1; have := h.ss; omega, (h.ow.row g hg).2⟩
theorem Lp.next (h : Lp K N w wl sb vb b p out most er gf lk r row) {w' : World} {q : Nat} {x : Int} (kp : Kp (LK K gf r) wl w') (st : Rs (LK K gf r) N w' sb vb b q out most (.int .i64 x)) : Lp K N w w' sb vb b q out most x gf lk r row :=
  ⟨h.st.back2 st (kp.less fun _ hk => .inl (.inl hk)), h.rf.same (kp.block gf (.inl (.inr rfl))), h.kp.trans (kp.less fun _ hk => .inl (.inl hk)), h.ow.same fun g hg => kp.block g (.inr hg), h.ks, h.ss, Nat.le_trans h.sz kp.size⟩
theorem Lp.sym (h : Lp K N w wl sb vb b p out most 0 gf lk r row) (hlk : lk.length = 19) (hck : Gf.chkE lk = 0) :
    Calls Try.prog 32 #[.pointer (some ⟨sb, 0, none⟩), .slice (some ⟨gf, 0, none⟩) 19 19] wl fun e w' => (∃ s q, rdF lk b p = .ok (s, q) ∧ s < 19 ∧ e = .returned (.int .i64 (s : Int)) ∧ Lp K N w w' sb vb b q out most 0 gf lk r row) ∨ (∃ x, rdF lk b p = .error x ∧ x ≠ 0 ∧ e = .returned (.int .i64 0) ∧ Lp K N w w' sb vb b p out most x gf lk r row) := by
  refine (rsym_any (LK K gf r) N wl sb vb b p out most _ lk (by omega) hck (h.rf.ints hlk) h.wide).mono ?_
  rintro e w' ⟨kp, ⟨s, q, h1, h2, h3⟩ | ⟨x, h1, h2, h3, h4⟩⟩
  · exact .inl ⟨s, q, h1, by have := rdF_lt h1; omega, h2, h.next kp h3⟩
  · exact .inr ⟨x, h1, h2, h3, h.next kp h4⟩
theorem Lp.take (h : Lp K N w wl sb vb b p out most 0 gf lk r row) (n : Nat) (hn : n ≤ 16) (hs : p + n ≤ 8 * b.length) :
    Calls Try.prog 20 #[.pointer (some ⟨sb, 0, none⟩), .int .i64 (n : Int)] wl fun e w' => e = .returned (.int .i64 ((nbr b p n : Nat) : Int)) ∧ Lp K N w w' sb vb b (p + n) out most 0 gf lk r row := by
  refine (rtake_any (LK K gf r) N wl sb vb b p out most n hn h.wide).mono ?_
  rintro e w' ⟨kp, ⟨s, q, h1, h2, h3⟩ | ⟨x, h1, h2, h3, h4⟩⟩
  · obtain ⟨_, rfl, rfl⟩ := tk_ok h1
    exact ⟨h2, h.next kp h3⟩
  · exact absurd hs (tk_err h1).1
theorem Lp.short (h : Lp K N w wl sb vb b p out most 0 gf lk r row) (n : Nat) (hn : n ≤ 16) (hs : ¬ p + n ≤ 8 * b.length) :
    Calls Try.prog 20 #[.pointer (some ⟨sb, 0, none⟩), .int .i64 (n : Int)] wl fun e w' => e = .returned (.int .i64 0) ∧ Lp K N w w' sb vb b p out most 7 gf lk r row := by
  refine (rtake_any (LK K gf r) N wl sb vb b p out most n hn h.wide).mono ?_
  rintro e w' ⟨kp, ⟨s, q, h1, h2, h3⟩ | ⟨x, h1, h2, h3, h4⟩⟩
  · exact absurd (tk_ok h1).1 hs
  · obtain ⟨_, rfl⟩ := tk_err h1
    exact ⟨h3, h.next kp h4⟩
theorem Lp.fail (h : Lp K N w wl sb vb b p out most 0 gf lk r row) (x : Int) :
    Calls Try.prog 24 #[.pointer (some ⟨sb, 0, none⟩), .int .i64 x] wl fun e w' => e = .returned (.tuple #[]) ∧ Lp K N w w' sb vb b p out most x gf lk r row :=
  (rfail_any (LK K gf r) N wl sb vb b p out most x h.wide).mono fun _ _ ⟨h1, h2, h3⟩ => ⟨h1, h.next h2 h3⟩
/-- The last of the row. -/
theorem Lp.last {g cap : Nat} (h : Lp K N w wl sb vb b p out most er gf lk (.slice (some ⟨g, 0, none⟩) row.length cap) row) (h0 : 0 < row.length) : wl.cell? ⟨g, row.length - 1, none⟩ = some (.int .i64 (row.getD (row.length - 1) 0)) := by
  obtain ⟨g', c', e, _, _, sg⟩ := h.ow.seg h0
  cases e
  exact sg.cell (by omega)
/-- A length more. -/
theorem Lp.app (h : Lp K N w wl sb vb b p out most er gf lk r row) (x : Int) :
    OwnI (gf + 2) (wl.alloc (.cells #[.int .i64 x] 3)) r row ∧ gf + 2 ≤ (wl.alloc (.cells #[.int .i64 x] 3)).heap.size ∧ (∀ j u, ([x].map (Value.int .i64))[j]? = some u → (wl.alloc (.cells #[.int .i64 x] 3)).cell? ((⟨wl.heap.size, 0, none⟩ : Addr).add j) = some u) ∧
    ∀ v' w', OwnI (gf + 2) w' v' (row ++ [x]) → (wl.alloc (.cells #[.int .i64 x] 3)).grownBy w' r.ownBlock → Lp K N w w' sb vb b p out most er gf lk v' (row ++ [x]) := by
  have hz := h.sz
  have ow := h.ow.alloc (.cells #[.int .i64 x] 3)
  refine ⟨ow, by simp; omega, (Row.new wl 3 (ai [x])).cells_ai, fun v' w' o' g' => ?_⟩
  have hne : ∀ g, r.ownBlock = some g → gf + 2 ≤ g := fun g hg => (h.ow.row g hg).1
  obtain ⟨s1, k1⟩ := (h.st.alloc (.cells #[.int .i64 x] 3)).grown _ g' fun g hg => ⟨fun hk => by have := h.ks g hk; have := hne g hg; omega, (ow.row g hg).2⟩
  have kp := Kp.below ((Below.refl wl.heap.size wl).alloc (Nat.le_refl _) (.cells #[.int .i64 x] 3)) h.st.kl
  refine ⟨s1, ?_, (h.kp.trans kp).trans k1, o', h.ks, h.ss, ?_⟩
  · exact (h.rf.alloc _).same (g'.block gf (by simp; omega) fun e => by have := hne gf e.symm; omega)
  · have := g'.size; simp at this; omega
end
/-- What the rest of the reading comes to. -/
def Md (b : List UInt8) (lk : List Int) (cnt : Nat) (RR : Except Int (Nat × List Int)) (p : Nat) (er : Int) (row : List Int) : Prop :=
  (er = 0 ∧ row.length ≤ cnt ∧ ∃ f, cnt + 1 ≤ row.length + f ∧ RR = rowF lk b cnt f p row) ∨ (er = 0 ∧ cnt < row.length ∧ RR = .error 8) ∨ (er ≠ 0 ∧ RR = .error er)
theorem md_step {b : List UInt8} {lk : List Int} {cnt : Nat} {RR : Except Int (Nat × List Int)} {p : Nat} {row : List Int} (h : Md b lk cnt RR p 0 row) (hlt : row.length < cnt) : ∃ f, cnt ≤ row.length + f ∧ RR = match rdF lk b p with
      | .error x => .error x
      | .ok (sym, q) =>
        if sym = 16 ∧ row = [] then .error 8
        else if q + (moreF sym).1 ≤ 8 * b.length then
          if (moreF sym).2 + nbr b q (moreF sym).1 ≤ cnt - row.length then rowF lk b cnt f (q + (moreF sym).1) (row ++ List.replicate ((moreF sym).2 + nbr b q (moreF sym).1) (whatF sym row))
          else .error 8
        else .error 7 := by
  rcases h with ⟨_, h1, f, h2, h3⟩ | ⟨_, h1, _⟩ | ⟨h1, _⟩
  · obtain ⟨f', rfl⟩ : ∃ f', f = f' + 1 := ⟨f - 1, by omega⟩
    refine ⟨f', by omega, ?_⟩
    rw [h3, row_step lk b cnt f' p row hlt]
    rcases rdF lk b p with x | ⟨sym, q⟩
    · rfl
    · rfl
  · omega
  · exact absurd rfl h1
/-- The row grew by what a symbol told. -/
theorem md_ok {b : List UInt8} {lk : List Int} {cnt : Nat} {RR : Except Int (Nat × List Int)} {p : Nat} {row : List Int} (h : Md b lk cnt RR p 0 row) (hlt : row.length < cnt) {sym q : Nat} (hrd : rdF lk b p = .ok (sym, q)) (h16 : ¬ (sym = 16 ∧ row = [])) (hs : q + (moreF sym).1 ≤ 8 * b.length) :
    Md b lk cnt RR (q + (moreF sym).1) 0 (row ++ List.replicate ((moreF sym).2 + nbr b q (moreF sym).1) (whatF sym row)) := by
  obtain ⟨f, h1, h2⟩ := md_step h hlt
  rw [hrd] at h2
  simp only at h2
  rw [if_neg h16, if_pos hs] at h2
  have hm := (more_le sym b q).1
  generalize (moreF sym).2 + nbr b q (moreF sym).1 = m at *
  by_cases hm2 : m ≤ cnt - row.length
  · rw [if_pos hm2] at h2
    exact .inl ⟨rfl, by simp; omega, f, by simp; omega, h2⟩
  · rw [if_neg hm2] at h2
    exact .inr (.inl ⟨rfl, by simp; omega, h2⟩)
theorem md_short {b : List UInt8} {lk : List Int} {cnt : Nat} {RR : Except Int (Nat × List Int)} {p : Nat} {row : List Int} (h : Md b lk cnt RR p 0 row) (hlt : row.length < cnt) {sym q : Nat} (hrd : rdF lk b p = .ok (sym, q)) (h16 : ¬ (sym = 16 ∧ row = [])) (hs : ¬ q + (moreF sym).1 ≤ 8 * b.length) (q' : Nat) (row' : List Int) :
    Md b lk cnt RR q' 7 row' := by
  obtain ⟨f, h1, h2⟩ := md_step h hlt
  rw [hrd] at h2
  simp only at h2
  rw [if_neg h16, if_neg hs] at h2
  exact .inr (.inr ⟨by decide, h2⟩)
theorem md_none {b : List UInt8} {lk : List Int} {cnt : Nat} {RR : Except Int (Nat × List Int)} {p : Nat} {row : List Int} (h : Md b lk cnt RR p 0 row) (hlt : row.length < cnt) {sym q : Nat} (hrd : rdF lk b p = .ok (sym, q)) (h16 : sym = 16 ∧ row = []) : RR = .error 8 := by
  obtain ⟨f, h1, h2⟩ := md_step h hlt
  rw [hrd] at h2
  simp only at h2
  rwa [if_pos h16] at h2
theorem md_bad {b : List UInt8} {lk : List Int} {cnt : Nat} {RR : Except Int (Nat × List Int)} {p : Nat} {row : List Int} (h : Md b lk cnt RR p 0 row) (hlt : row.length < cnt) {x : Int} (hrd : rdF lk b p = .error x) : RR = .error x := by
  obtain ⟨f, h1, h2⟩ := md_step h hlt
  rwa [hrd] at h2
theorem md_end {b : List UInt8} {lk : List Int} {cnt : Nat} {RR : Except Int (Nat × List Int)} {p : Nat} {row : List Int} (h : Md b lk cnt RR p 0 row) (hlt : ¬ row.length < cnt) : (row.length = cnt ∧ RR = .ok (p, row)) ∨ (cnt < row.length ∧ RR = .error 8) := by
  rcases h with ⟨_, h1, f, h2, h3⟩ | ⟨_, h1, h2⟩ | ⟨h1, _⟩
  · exact .inl ⟨by omega, by rw [h3, row_done lk b cnt f p row hlt]⟩
  · exact .inr ⟨h1, h2⟩
  · exact absurd rfl h1
theorem md_err {b : List UInt8} {lk : List Int} {cnt : Nat} {RR : Except Int (Nat × List Int)} {p : Nat} {er : Int} {row : List Int} (h : Md b lk cnt RR p er row) (he : er ≠ 0) : RR = .error er := by
  rcases h with ⟨h1, _⟩ | ⟨h1, _⟩ | ⟨_, h2⟩
  · exact absurd h1 he
  · exact absurd h1 he
  · exact h2
theorem REnds.less {K K2 : Nat → Prop} {N : Nat} {w w1 w' : World} {sb : Nat} {vb : Value} {b : List UInt8} {most p : Nat} {out : List UInt8} {r : Except Int (Nat × List UInt8)} {e : Ending} (h : Rs K N w1 sb vb b p out most (.int .i64 0)) (kp : Kp K w w1) (h2 : REnds K2 N w1 sb vb b most r e w') (hk : ∀ k, K k → K2 k) : REnds K N w sb vb b most r e w' := by
  obtain ⟨h3, h4, h5⟩ := h2
  have k4 := h4.less hk
  refine ⟨h3, kp.trans k4, ?_⟩
  rcases h5 with ⟨q, o, h6, h7⟩ | ⟨x, q, o, h6, h7, h8⟩
  · exact .inl ⟨q, o, h6, h.back2 h7 k4⟩
  · exact .inr ⟨x, q, o, h6, h7, h.back2 h8 k4⟩
end Go.Proofs.Ytbnghmeeddjaoaa
