/- The walk of row. -/
import Derived.Test.YtbnghmeeddjaoaaFq
namespace Go.Proofs.Ytbnghmeeddjaoaa
open Go.RowKit Go.BigFrame Gt

theorem symF_lt (l : List Int) (bit : Nat → Option Nat) : ∀ f n c, (Gf.symF l bit f n c).2.2 = 0 → (Gf.symF l bit f n c).1 < l.length
  | 0, n, c, h => by simp [Gf.symF] at h
  | f + 1, n, c, h => by
    rw [Gf.symF] at h ⊢
    cases hh : Gf.hit l n c with
    | some i =>
      simp only
      exact (Gf.some_hit hh).1
    | none =>
      simp only [hh] at h ⊢
      by_cases hl : Gf.live l n c l.length = true
      · simp only [hl, if_true] at h ⊢
        cases hb : bit n with
        | none => simp [hb] at h
        | some v =>
          simp only [hb] at h ⊢
          exact symF_lt l bit f (n + 1) (2 * c + v) h
      · simp [hl] at h
theorem rdF_lt {l : List Int} {b : List UInt8} {p s q : Nat} (h : rdF l b p = .ok (s, q)) : s < l.length := by
  unfold rdF at h
  split at h
  · rename_i h0
    have := symF_lt l _ _ _ _ h0
    cases h
    exact this
  · cases h
theorem more_le (sym : Nat) (b : List UInt8) (q : Nat) : 1 ≤ (moreF sym).2 + nbr b q (moreF sym).1 ∧ (moreF sym).2 + nbr b q (moreF sym).1 ≤ 200 := by
  have h := nbr_lt b q (moreF sym).1
  have h7 : (moreF sym).1 ≤ 7 ∧ 1 ≤ (moreF sym).2 ∧ (moreF sym).2 ≤ 11 := by
    unfold moreF
    split
    · decide
    split
    · decide
    split <;> decide
  have h8 : nbr b q (moreF sym).1 < 2 ^ 7 := Nat.lt_of_lt_of_le h (Nat.pow_le_pow_right (by decide) h7.1)
  have : (2 : Nat) ^ 7 = 128 := rfl
  omega
theorem Row.cells_ai {w : World} {g : Nat} {l : List Int} (h : Row w g 3 (ai l)) : ∀ j u, (l.map (Value.int .i64))[j]? = some u → w.cell? ((⟨g, 0, none⟩ : Addr).add j) = some u := by
  intro j u hu
  have hj : j < l.length := by
    have := (List.getElem?_eq_some_iff.1 hu).1
    rwa [List.length_map] at this
  rw [Addr.add_mid, Nat.zero_add, h.cell, ai_get hj]
  simpa [hj] using hu
def lenV : Value → Nat
  | .slice _ n _ => n
  | _ => 0

/-- How the reading of a row of lengths ends. -/
def RowEnds (K : Nat → Prop) (N M : Nat) (w : World) (sb : Nat) (vb : Value) (b out : List UInt8) (most : Nat) (fx : Value) (r : Except Int (Nat × List Int)) (e : Ending) (w' : World) : Prop :=
  Kp K w w' ∧ match r with
      | .ok (q, row) => (∃ g cap, e = .returned (.slice (some ⟨g, 0, none⟩) row.length cap) ∧ M ≤ g ∧ row.length ≤ cap ∧ SegI w' g row) ∧ St K N w' sb vb b q out most fx
      | .error x => e = flt x
theorem RowEnds.bad {K : Nat → Prop} {N M : Nat} {w w' : World} {sb : Nat} {vb : Value} {b out : List UInt8} {most : Nat} {fx : Value} {r : Except Int (Nat × List Int)} {x : Int} (h : r = .error x) (kp : Kp K w w') : RowEnds K N M w sb vb b out most fx r (flt x) w' := by subst h; exact ⟨kp, rfl⟩
theorem RowEnds.good {K : Nat → Prop} {N M : Nat} {w w' : World} {sb : Nat} {vb : Value} {b out : List UInt8} {most : Nat} {fx : Value} {r : Except Int (Nat × List Int)} {q g cap : Nat} {row : List Int} (h : r = .ok (q, row)) (kp : Kp K w w') (hM : M ≤ g) (hc : row.length ≤ cap) (sg : SegI w' g row) (st : St K N w' sb vb b q out most fx) : RowEnds K N M w sb vb b out most fx r (.returned (.slice (some ⟨g, 0, none⟩) row.length cap)) w' := by subst h; exact ⟨kp, ⟨g, cap, rfl, hM, hc, sg⟩, st⟩

set_option maxRecDepth 100000 in
set_option maxHeartbeats 4000000 in
theorem row_any (K : Nat → Prop) (N : Nat) (w : World) (sb : Nat) (vb : Value) (b : List UInt8) (p : Nat) (out : List UInt8) (most : Nat) (fx : Value) (lk : List Int) (fb xb : Nat) (hchk : Gf.chkE lk = 0) (hR : RdK K w sb lk fb xb) (count : Nat) (hc1 : 1 ≤ count) (hc : count ≤ 1000) (h : St K N w sb vb b p out most fx) :
    Calls Try.prog 52 #[.pointer (some ⟨sb, 0, none⟩), .func (.func 48) #[] #[.pointer (some ⟨fb, 0, none⟩), .pointer (some ⟨xb, 0, none⟩)], .int .i64 (count : Int)] w (RowEnds K N w.heap.size w sb vb b out most fx (rowF lk b count (count + 1) p [])) := by
  have h512 := (good_of hchk).2.2
  have HCH := Box'.mk hchk
  have HR := Box'.mk hR
  have H := Box'.mk h
  have RS := Box'.mk (row_step lk b count)
  have RD := Box'.mk (row_done lk b count)
  have KL : Box' (∀ k, K k → k < w.heap.size) := ⟨h.kl⟩
  obtain ⟨R0, hR0⟩ : ∃ R0, R0 = rowF lk b count (count + 1) p [] := ⟨_, rfl⟩
  rw [← hR0]
  have HR0 := Box'.mk hR0
  have OR := Box'.mk (OwnI.room w count (by omega))
  have ST0 := Box'.mk (h.alloc (.cells (ai (List.replicate count 0)) 3))
  have KP0 : Box' (Kp K w (w.alloc (.cells (ai (List.replicate count 0)) 3))) := ⟨Kp.below ((Below.refl _ _).alloc (Nat.le_refl _) _) h.kl⟩
  clear hchk hR h hR0
  generalize hM : w.heap.size = M at *
  have HM := Box'.mk hM
  clear hM
  go_enter Try.func52, Try.ntmps52
  go_wp2_with (refine wpList_make_room rfl _ _ rfl _ count rfl rfl rfl (by omega) ?_; intro W hW)
  rw [HM.out]
  go_loopw [7] (fun r wr => ∃ (f p' : Nat) (row : List Int) (g cap : Nat), r = .slice (some ⟨g, 0, none⟩) row.length cap ∧ Box' (row.length ≤ count ∧ count + 1 ≤ row.length + f) ∧ Box' (R0 = rowF lk b count f p' row) ∧ Box' (OwnI M wr r row) ∧ Box' (St K N wr sb vb b p' out most fx) ∧ Box' (Kp K w wr)) (fun r _ => count - lenV r)
  case atStart => exact ⟨count + 1, p, [], M, count, rfl, ⟨by simp⟩, HR0, OR, ST0, KP0⟩
  case round =>
    clear H HR0 OR ST0 KP0
    obtain ⟨f, p', row, g, cap, rfl, HF, HE, HO, ST, KP⟩ := hrel
    by_cases hlt : row.length < count
    · obtain ⟨f', rfl⟩ : ∃ f', f = f' + 1 := ⟨f - 1, by have := HF.out.2; omega⟩
      have EK := HE.out
      rw [RS.out f' p' row hlt] at EK
      have EKB := Box'.mk EK
      obtain ⟨hMg, cur, rg⟩ := HO.out.row g rfl
      have hgs : g ≠ sb := by
        rintro rfl
        obtain ⟨vo, hr, _⟩ := ST.out.row
        unfold Row at rg hr
        rw [rg] at hr
        simp at hr
      have st' := ST.out.more g rg (by decide) hgs
      have rd' : RdK (fun k => K k ∨ k = g) wr sb lk fb xb := (HR.out.keep KP.out).more fun _ hk => .inl hk
      have hnx := next_any _ N wr sb vb b p' out most fx lk fb xb HCH.out rd' st'
      have hnK : ¬ K g := fun hk => by have := KL.out g hk; omega
      have SG : Box' (row = [] ∨ SegI wr g row) := ⟨by
        by_cases hr0 : row = []
        · exact .inl hr0
        · obtain ⟨g', c', e, _, _, sg⟩ := HO.out.seg (List.length_pos_iff.2 hr0)
          cases e
          exact .inr sg⟩
      clear EK HE rd' rg st'
      have hML := Box'.mk hlt
      cases hrd : rdF lk b p' with
      | error x =>
        rw [hrd] at hnx EKB
        have HNX := Box'.mk hnx
        clear hrd hnx
        generalize row.length = L at *
        go_wp2_with fail
        refine HNX.out.mono ?_
        rintro e w1 ⟨kp, rfl⟩
        have e0 : R0 = .error x := EKB.out
        exact ⟨rfl, RowEnds.bad e0 (KP.out.trans (kp.less fun _ hk => .inl hk))⟩
      | ok sq =>
        obtain ⟨sym, q⟩ := sq
        have hsy := rdF_lt hrd
        rw [hrd] at hnx EKB
        have HNX := Box'.mk hnx
        have hsy2 : sym ≤ 1000 := by omega
        clear hrd hnx
        have LG : Box' (∀ w1, Kp (fun k => K k ∨ k = g) wr w1 → St (fun k => K k ∨ k = g) N w1 sb vb b q out most fx → Calls Try.prog 57 #[.pointer (some ⟨sb, 0, none⟩), .int .i64 (sym : Int), .slice (some ⟨g, 0, none⟩) row.length cap] w1 fun e w' => Kp (fun k => K k ∨ k = g) w1 w' ∧
            ((sym = 16 ∧ row = [] ∧ e = flt 8) ∨ (¬ (sym = 16 ∧ row = []) ∧ q + (moreF sym).1 ≤ 8 * b.length ∧ e = .returned (.tuple #[.int .i64 (whatF sym row), .int .i64 (((moreF sym).2 + nbr b q (moreF sym).1 : Nat) : Int)]) ∧ St (fun k => K k ∨ k = g) N w' sb vb b (q + (moreF sym).1) out most fx) ∨ (¬ (sym = 16 ∧ row = []) ∧ ¬ q + (moreF sym).1 ≤ 8 * b.length ∧ e = flt 7))) := ⟨fun w1 kp st => lengths_any _ N w1 sb vb b q out most fx sym hsy2 (some ⟨g, 0, none⟩) cap row (by omega) (SG.out.imp id fun sg => ⟨g, rfl, .inr rfl, sg.same (kp.block g (.inr rfl))⟩) st⟩
        have ML := Box'.mk (more_le sym b q)
        have HLB := Box'.mk HF.out
        generalize hL : row.length = L at *
        have HL := Box'.mk hL
        clear hL SG
        go_wp2_with fail
        refine HNX.out.mono ?_
        clear HNX
        rintro e w1 ⟨kp1, rfl, st1⟩
        have hlg := LG.out w1 kp1 st1
        clear LG
        have KP1 := Box'.mk kp1
        clear kp1 st1
        go_wp2_with fail
        refine hlg.mono ?_
        clear hlg
        rintro e w2 ⟨kp2, ⟨h1, h2, rfl⟩ | ⟨h1, h2, rfl, st2⟩ | ⟨h1, h2, rfl⟩⟩
        · have e0 : R0 = .error 8 := by rw [EKB.out, if_pos ⟨h1, h2⟩]
          exact ⟨rfl, RowEnds.bad e0 (KP.out.trans ((KP1.out.trans kp2).less fun _ hk => .inl hk))⟩
        · have EK := EKB.out
          rw [if_neg h1, if_pos h2] at EK
          have EKC := Box'.mk EK
          have KP2 := Box'.mk (KP1.out.trans kp2)
          have ST2 := Box'.mk (ST.out.back st2 (KP2.out.less fun _ hk => .inl hk))
          have O2 := Box'.mk (HO.out.same fun k hk => KP2.out.block k (.inr (by cases hk; rfl)))
          clear EK EKB kp2 st2 h1 h2 KP1 ST HO
          obtain ⟨hm1, hm2⟩ := ML.out
          clear ML
          generalize (moreF sym).2 + nbr b q (moreF sym).1 = tm at *
          generalize q + (moreF sym).1 = q2 at *
          generalize whatF sym row = x at *
          by_cases htm : tm ≤ count - L
          · have htm' : decide ((count : Int) - (L : Int) < (tm : Int)) = false := decide_eq_false (by omega)
            have hrep := repeated_any x tm (by omega) w2
            have EK := EKC.out
            rw [if_pos htm] at EK
            have EKD := Box'.mk EK
            clear EK EKC
            go_wp2_with fail
            refine hrep.mono ?_
            clear hrep
            rintro e w3 ⟨g', rfl, hg', r', b3⟩
            have ST3 := Box'.mk (ST2.out.below b3)
            have KP3 := Box'.mk ((KP.out.trans (KP2.out.less fun _ hk => .inl hk)).trans (Kp.below b3 ST2.out.kl))
            have O3 : OwnI M w3 (.slice (some ⟨g, 0, none⟩) L cap) row := O2.out.same fun k hk => b3.block k (by obtain ⟨_, cur, r⟩ := O2.out.row k hk; exact r.lt)
            have hN3 : M ≤ w3.heap.size := by have := KP3.out.size; have := HM.out; omega
            have hcl := r'.cells_ai
            have HMX : Box' (row.length + (List.replicate tm x).length ≤ 17592186044416) := ⟨by rw [HL.out]; simp; omega⟩
            have HTL : Box' ((List.replicate tm x).length = tm) := ⟨by simp⟩
            have GR : Box' (∀ v' w4, OwnI M w4 v' (row ++ List.replicate tm x) → w3.grownBy w4 (Value.slice (some ⟨g, 0, none⟩) L cap).ownBlock → Box' (St K N w4 sb vb b q2 out most fx) ∧ Box' (Kp K w w4) ∧ ∃ g4 c4, v' = .slice (some ⟨g4, 0, none⟩) (row ++ List.replicate tm x).length c4) := ⟨fun v' w4 o4 g4 => by
              obtain ⟨s4, k4⟩ := ST3.out.grown _ g4 (fun k hk => by cases hk; exact ⟨hnK, (O3.row g rfl).2⟩)
              obtain ⟨g5, c5, e5, _⟩ := o4.seg (by rw [List.length_append, HTL.out]; omega)
              exact ⟨⟨s4⟩, ⟨KP3.out.trans k4⟩, g5, c5, e5⟩⟩
            have HRL : Box' ((row ++ List.replicate tm x).length = L + tm) := ⟨by rw [List.length_append, HL.out, HTL.out]⟩
            clear ST2 KP2 O2 ST3 KP3 b3 r' KP
            go_wp2_with (refine wpList_append_intsG rfl (.tmp 31) (.tmp 34) rfl M hN3 _ row rfl O3 _ _ _ (List.replicate tm x) rfl HTL.out hcl HMX.out ?_; intro v4 w4 o4 g4; obtain ⟨s4, k4, g5, c5, e5⟩ := GR.out v4 w4 o4 g4; rw [HRL.out] at e5; subst e5; have O4 := Box'.mk o4; clear GR o4 g4 O3 hcl hN3)
            have HF2 : Box' ((row ++ List.replicate tm x).length ≤ count ∧ count + 1 ≤ (row ++ List.replicate tm x).length + f') := ⟨by rw [HRL.out]; have := HLB.out; omega⟩
            exact ⟨⟨f', q2, row ++ List.replicate tm x, g5, c5, by rw [HRL.out], HF2, EKD, O4, s4, k4⟩, by show count - (L + tm) < count - L; have := hML.out; omega⟩
          · have htm' : (count : Int) - (L : Int) < (tm : Int) := by omega
            have EK := EKC.out
            rw [if_neg htm] at EK
            have EKD := Box'.mk EK
            have hf := fail_any 8 w2
            have KP3 := Box'.mk (KP.out.trans (KP2.out.less fun _ hk => .inl hk))
            clear EK EKC htm ST2 KP2 O2 KP
            go_wp2_with fail
            refine hf.mono ?_
            rintro e w' ⟨rfl, rfl⟩
            have e0 : R0 = .error 8 := EKD.out
            exact ⟨rfl, RowEnds.bad e0 KP3.out⟩
        · have e0 : R0 = .error 7 := by rw [EKB.out, if_neg h1, if_neg h2]
          exact ⟨rfl, RowEnds.bad e0 (KP.out.trans ((KP1.out.trans kp2).less fun _ hk => .inl hk))⟩
    · have EK := HE.out
      rw [RD.out f p' row hlt] at EK
      have hpos : 0 < row.length := by omega
      obtain ⟨g', c', e, hMg, hcl, sg⟩ := HO.out.seg hpos
      have e' := e
      cases e'
      have RES := Box'.mk (RowEnds.good EK KP.out hMg hcl sg ST.out)
      clear EK HE HO ST KP sg e RS RD HCH HR
      generalize row.length = L at *
      go_wp2_with fail
      go_ret
      exact RES.out
end Go.Proofs.Ytbnghmeeddjaoaa
