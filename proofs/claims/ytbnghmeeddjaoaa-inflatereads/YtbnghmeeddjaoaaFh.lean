/- The walk of lengths. -/
import Derived.Test.YtbnghmeeddjaoaaFg
import Derived.Deep.RegionWith
namespace Go.Proofs.Ytbnghmeeddjaoaa
open Go.RowKit Go.BigFrame

/-- How many bits say how often a symbol tells its length, and how often at the least. -/
def moreF (sym : Nat) : Nat × Nat := if sym = 16 then (2, 3) else if sym = 17 then (3, 3) else if sym = 18 then (7, 11) else (0, 1)
/-- The length that a symbol tells behind a row. -/
def whatF (sym : Nat) (row : List Int) : Int := if sym = 16 then row.getD (row.length - 1) 0 else if sym = 17 then 0 else if sym = 18 then 0 else (sym : Int)
theorem wp_call_flt {P : Program} {Q : Exit → Act → World → Prop} {op : Oper} {a : Act} {w : World} {K : Act → World → Prop} (f : FuncId) (args : Array Value) (hrun : (execOp a.eval op).run P w = .ok (.enter f args) w) (x : Int) (R : World → Prop)
    (hc : Calls P f args w (fun e w'' => R w'' ∧ e = flt x)) (h : ∀ w'', R w'' → Q (.panic [{ v := .iface 60 (.agg #[.int .i64 x]), recovered := false }]) a w'') : op.wp P a w K Q := by
  unfold Oper.wp
  rw [hrun]
  exact hc.mono fun e w'' hh => by obtain ⟨hR, rfl⟩ := hh; exact h w'' hR
set_option maxRecDepth 100000 in
set_option maxHeartbeats 4000000 in
theorem lengths_any (K : Nat → Prop) (N : Nat) (w : World) (sb : Nat) (vb : Value) (b : List UInt8) (p : Nat) (out : List UInt8) (most : Nat) (fx : Value) (sym : Nat) (hsym : sym ≤ 1000) (a : Option Addr) (c : Nat) (row : List Int) (hrl : row.length ≤ 1000) (hrow : row = [] ∨ ∃ g, a = some ⟨g, 0, none⟩ ∧ K g ∧ SegI w g row) (h : St K N w sb vb b p out most fx) :
    Calls Try.prog 57 #[.pointer (some ⟨sb, 0, none⟩), .int .i64 (sym : Int), .slice a row.length c] w fun e w' => Kp K w w' ∧
      ((sym = 16 ∧ row = [] ∧ e = flt 8) ∨ (¬ (sym = 16 ∧ row = []) ∧ p + (moreF sym).1 ≤ 8 * b.length ∧ e = .returned (.tuple #[.int .i64 (whatF sym row), .int .i64 (((moreF sym).2 + nbr b p (moreF sym).1 : Nat) : Int)]) ∧ St K N w' sb vb b (p + (moreF sym).1) out most fx) ∨ (¬ (sym = 16 ∧ row = []) ∧ ¬ p + (moreF sym).1 ≤ 8 * b.length ∧ e = flt 7)) := by
  by_cases h16 : sym = 16
  · subst h16
    rw [show moreF 16 = (2, 3) from rfl, show whatF 16 row = row.getD (row.length - 1) 0 from rfl]
    rcases hrow with rfl | ⟨g, rfl, hKg, hseg⟩
    · have hf := fail_any 8 w
      clear h
      go_enter Try.func57, Try.ntmps57
      go_wp2_with fail
      refine hf.mono ?_
      rintro e w' ⟨rfl, rfl⟩
      exact ⟨rfl, Kp.refl _ _, .inl ⟨trivial, trivial, rfl⟩⟩
    · by_cases hr0 : row = []
      · subst hr0
        have hf := fail_any 8 w
        clear h hseg
        go_enter Try.func57, Try.ntmps57
        go_wp2_with fail
        refine hf.mono ?_
        rintro e w' ⟨rfl, rfl⟩
        exact ⟨rfl, Kp.refl _ _, .inl ⟨trivial, trivial, rfl⟩⟩
      · have hL : 0 < row.length := List.length_pos_iff.2 hr0
        have hcell : ∀ W, Kp K w W → W.cell? ⟨g, row.length - 1, none⟩ = some (.int .i64 (row.getD (row.length - 1) 0)) := fun W hW => (hseg.same (hW.block g hKg)).cell (by omega)
        have hnum := number_any K N w.drew sb vb b p out most fx 2 (by decide) (h.drewN 1)
        have kd : Kp K w w.drew := (Kp.refl K w).drew
        have l2 := nbr_lt b p 2
        generalize nbr b p 2 = v at *
        generalize row.getD (row.length - 1) 0 = x at *
        have HNE := Box'.mk hr0
        have HST := Box'.mk h
        have HC := Box'.mk hcell
        have c0 : w.cell? ⟨g, row.length - 1, none⟩ = some (.int .i64 x) := hcell w (Kp.refl _ _)
        generalize row.length = L at *
        have hL1 : 1 ≤ L := hL
        have hi1 : (0 : Int) ≤ (L : Int) - 1 := by omega
        have hi2 : (L : Int) - 1 < (L : Int) := by omega
        have hi3 : ((L : Int) - 1).toNat = L - 1 := by omega
        have hi4 : wrap64 ((L : Int) - 1) = (L : Int) - 1 := by unfold wrap64; omega
        have hi5 : IntKind.i64.wrap ((L : Int) - 1) = (L : Int) - 1 := (by rw [IntKind.wrap_i64]; omega)
        have l2' : v < 4 := l2
        have hi6 : IntKind.i64.wrap (3 + (v : Int)) = 3 + (v : Int) := (by rw [IntKind.wrap_i64]; omega)
        clear hcell h hseg hr0
        obtain ⟨Ag, hAg⟩ : ∃ Ag : World → Prop, Ag = fun W => St K N W sb vb b p out most fx ∧ Kp K w W := ⟨_, rfl⟩
        by_cases hs : p + 2 ≤ 8 * b.length
        · have hnum2 : Calls Try.prog 28 #[.pointer (some ⟨sb, 0, none⟩), .int .i64 2] w.drew fun e w' => e = .returned (.int .i64 (v : Int)) ∧ Kp K w.drew w' ∧ St K N w' sb vb b (p + 2) out most fx := hnum.mono fun e w' hh => by
            obtain ⟨kp, ⟨_, h1, h2⟩ | ⟨h1, _⟩⟩ := hh
            · exact ⟨h1, kp, h2⟩
            · exact absurd hs h1
          clear hnum
          have HS := Box'.mk hs
          clear hs
          go_enter Try.func57, Try.ntmps57
          go_wp2_with fail
          have cc : w.drew.cell? ⟨g, L - 1, none⟩ = some (.int .i64 x) := c0
          go_region_with (go_at_call 28; refine hnum2.mono ?_; rintro e w1 ⟨rfl, kp, st⟩; have c5 := HC.out w1 (kd.trans kp))
          all_goals go_wp2_with fail
          all_goals go_ret2
          all_goals exact ⟨kd.trans kp, .inr (.inl ⟨fun hh => HNE.out hh.2, HS.out, by
            rw [Int.natCast_add]
            rfl, st⟩)⟩
        · have HS := Box'.mk hs
          have AGN : Box' (∀ W, Ag W → Calls Try.prog 28 #[.pointer (some ⟨sb, 0, none⟩), .int .i64 2] W fun e w' => Kp K w w' ∧ e = flt 7) := ⟨fun W hW => by
            rw [hAg] at hW
            refine (number_any K N W sb vb b p out most fx 2 (by decide) hW.1).mono fun e w' hh => ?_
            obtain ⟨kp, ⟨h1, _⟩ | ⟨_, h2⟩⟩ := hh
            · exact absurd h1 HS.out
            · exact ⟨hW.2.trans kp, h2⟩⟩
          have AGC : Box' (∀ W, Ag W → W.cell? ⟨g, L - 1, none⟩ = some (.int .i64 x)) := ⟨fun W hW => by rw [hAg] at hW; exact HC.out W hW.2⟩
          have AG0 : Box' (Ag w.drew) := ⟨by rw [hAg]; exact ⟨HST.out.drewN 1, kd⟩⟩
          clear hnum hs hAg
          go_enter Try.func57, Try.ntmps57
          go_wp2_with fail
          refine wp_region_grow 11 (by kernel_rfl) (by kernel_rfl) (fun w1 w2 => w2 = w1) (fun w1 => Ag w1) (fun k w1 v => match k with
            | 0 => v = .slice (some ⟨g, 0, none⟩) L c
            | 1 => v = .slice (some ⟨g, 0, none⟩) L c
            | 2 => v = .int .i64 (L : Int)
            | 3 => v = .int .i64 ((L : Int) - 1)
            | 4 => v = .pointer (some ⟨g, L - 1, none⟩)
            | 5 => v = .int .i64 x
            | 6 => v = .pointer (some ⟨sb, 0, none⟩)
            | 7 => False
            | 8 => False
            | 9 => True
            | 10 => False
            | _ => True) ?_ ?_ ?_ ?_ ?_
          · rintro w1 w2 rfl hA
            exact hA
          · intro k v w1 w2 hC1 hb h
            match k, h with
            | 0, h => exact h
            | 1, h => exact h
            | 2, h => exact h
            | 3, h => exact h
            | 4, h => exact h
            | 5, h => exact h
            | 6, h => exact h
            | 7, h => exact h
            | 8, h => exact h
            | 9, h => exact h
            | 10, h => exact h
            | k + 11, h => trivial
          · exact AG0.out
          · refine ⟨?_, ?_, ?_, ?_, ?_, ?_, ?_, ?_, ?_, ?_, ?_, trivial⟩
            · intro f w1 hC hd KK hK
              simp only [List.take_succ_cons, List.take_zero, setAll, List.setIfInBounds_toArray, List.set_cons_succ, List.set_cons_zero, Nat.zero_add, Nat.reduceAdd] at hK ⊢
              refine wp_of_quiet rfl ?_
              go_big_quiet_step (fail)
              exact wpQuiet_nil (hK _ _ rfl rfl)
            · intro f w1 hC hd KK hK
              simp only [List.take_succ_cons, List.take_zero, setAll, List.setIfInBounds_toArray, List.set_cons_succ, List.set_cons_zero, Nat.zero_add, Nat.reduceAdd] at hK ⊢
              refine wp_of_quiet rfl ?_
              go_big_quiet_step (fail)
              exact wpQuiet_nil (hK _ _ rfl rfl)
            · intro f w1 hC hd KK hK
              have g1 : f 1 = _ := hd 1 rfl
              simp only [List.take_succ_cons, List.take_zero, setAll, List.setIfInBounds_toArray, List.set_cons_succ, List.set_cons_zero, Nat.zero_add, Nat.reduceAdd, g1] at hK ⊢
              refine wp_of_quiet rfl ?_
              go_big_quiet_step (fail)
              exact wpQuiet_nil (hK _ _ rfl rfl)
            · intro f w1 hC hd KK hK
              have g2 : f 2 = _ := hd 2 rfl
              simp only [List.take_succ_cons, List.take_zero, setAll, List.setIfInBounds_toArray, List.set_cons_succ, List.set_cons_zero, Nat.zero_add, Nat.reduceAdd, g2] at hK ⊢
              refine wp_of_quiet rfl ?_
              go_big_quiet_step (fail)
              exact wpQuiet_nil (hK _ _ rfl rfl)
            · intro f w1 hC hd KK hK
              have g0 : f 0 = _ := hd 0 rfl
              have g3 : f 3 = _ := hd 3 rfl
              simp only [List.take_succ_cons, List.take_zero, setAll, List.setIfInBounds_toArray, List.set_cons_succ, List.set_cons_zero, Nat.zero_add, Nat.reduceAdd, g0, g3] at hK ⊢
              refine wp_of_quiet rfl ?_
              go_big_quiet_step (fail)
              exact wpQuiet_nil (hK _ _ rfl rfl)
            · intro f w1 hC hd KK hK
              have cc := (AGC.out w1 hC)
              have g4 : f 4 = _ := hd 4 rfl
              simp only [List.take_succ_cons, List.take_zero, setAll, List.setIfInBounds_toArray, List.set_cons_succ, List.set_cons_zero, Nat.zero_add, Nat.reduceAdd, g4] at hK ⊢
              refine wp_of_quiet rfl ?_
              go_big_quiet_step (fail)
              exact wpQuiet_nil (hK _ _ rfl rfl)
            · intro f w1 hC hd KK hK
              simp only [List.take_succ_cons, List.take_zero, setAll, List.setIfInBounds_toArray, List.set_cons_succ, List.set_cons_zero, Nat.zero_add, Nat.reduceAdd] at hK ⊢
              refine wp_of_quiet rfl ?_
              go_big_quiet_step (fail)
              exact wpQuiet_nil (hK _ _ rfl rfl)
            · intro f w1 hC hd KK hK
              have g6 : f 6 = _ := hd 6 rfl
              simp only [List.take_succ_cons, List.take_zero, setAll, List.setIfInBounds_toArray, List.set_cons_succ, List.set_cons_zero, Nat.zero_add, Nat.reduceAdd, g6] at hK ⊢
              exact wp_call_flt 28 #[.pointer (some ⟨sb, 0, none⟩), .int .i64 2] (by simp [go_sem]) 7 _ (AGN.out w1 hC) (fun w' hw' => ⟨rfl, hw', .inr (.inr ⟨fun hh => HNE.out hh.2, HS.out, rfl⟩)⟩)
            · intro f w1 hC hd KK hK
              have g7 : False := hd 7 rfl
              exact g7.elim
            · intro f w1 hC hd KK hK
              have g5 : f 5 = _ := hd 5 rfl
              simp only [List.take_succ_cons, List.take_zero, setAll, List.setIfInBounds_toArray, List.set_cons_succ, List.set_cons_zero, Nat.zero_add, Nat.reduceAdd, g5] at hK ⊢
              refine wp_of_quiet rfl ?_
              go_big_quiet_step (fail)
              exact wpQuiet_nil (hK _ _ trivial rfl)
            · intro f w1 hC hd KK hK
              have g8 : False := hd 8 rfl
              exact g8.elim
          · intro f w1 hC hv
            have g7 : False := hv 7 (by decide)
            exact g7.elim
  · by_cases h17 : sym = 17
    · subst h17
      rw [show moreF 17 = (3, 3) from rfl, show whatF 17 row = 0 from rfl]
      have hnum := number_any K N w sb vb b p out most fx 3 (by decide) h
      have l2 := nbr_lt b p 3
      have l3 : nbr b p 3 < 128 := Nat.lt_of_lt_of_le l2 (by decide)
      generalize nbr b p 3 = v at *
      generalize row.length = L at *
      clear h hrow h16 l2
      go_enter Try.func57, Try.ntmps57
      go_wp2_with fail
      refine hnum.mono ?_
      clear hnum
      rintro e w1 ⟨kp, ⟨hs, rfl, st⟩ | ⟨hs, rfl⟩⟩
      · have ST := Box'.mk st
        have HS := Box'.mk hs
        clear st hs
        go_wp2_with fail
        go_ret2
        exact ⟨kp, .inr (.inl ⟨fun hh => absurd hh.1 (by decide), HS.out, by rw [Int.natCast_add]; rfl, ST.out⟩)⟩
      · exact ⟨rfl, kp, .inr (.inr ⟨fun hh => absurd hh.1 (by decide), hs, rfl⟩)⟩
    by_cases h18 : sym = 18
    · subst h18
      rw [show moreF 18 = (7, 11) from rfl, show whatF 18 row = 0 from rfl]
      have hnum := number_any K N w sb vb b p out most fx 7 (by decide) h
      have l2 := nbr_lt b p 7
      have l3 : nbr b p 7 < 128 := Nat.lt_of_lt_of_le l2 (by decide)
      generalize nbr b p 7 = v at *
      generalize row.length = L at *
      clear h hrow h16 l2
      go_enter Try.func57, Try.ntmps57
      go_wp2_with fail
      refine hnum.mono ?_
      clear hnum
      rintro e w1 ⟨kp, ⟨hs, rfl, st⟩ | ⟨hs, rfl⟩⟩
      · have ST := Box'.mk st
        have HS := Box'.mk hs
        clear st hs
        go_wp2_with fail
        go_ret2
        exact ⟨kp, .inr (.inl ⟨fun hh => absurd hh.1 (by decide), HS.out, by rw [Int.natCast_add]; rfl, ST.out⟩)⟩
      · exact ⟨rfl, kp, .inr (.inr ⟨fun hh => absurd hh.1 (by decide), hs, rfl⟩)⟩
    · have e1 : moreF sym = (0, 1) := by unfold moreF; rw [if_neg h16, if_neg h17, if_neg h18]
      have e2 : whatF sym row = (sym : Int) := by unfold whatF; rw [if_neg h16, if_neg h17, if_neg h18]
      have e3 : nbr b p 0 = 0 := by unfold nbr; exact Nat.mod_one _
      rw [e1, e2]
      have RES : Box' (Kp K w w ∧ ((sym = 16 ∧ row = [] ∧ (Ending.returned (.tuple #[.int .i64 (sym : Int), .int .i64 1])) = flt 8) ∨ (¬ (sym = 16 ∧ row = []) ∧ p + 0 ≤ 8 * b.length ∧ (Ending.returned (.tuple #[.int .i64 (sym : Int), .int .i64 1])) = .returned (.tuple #[.int .i64 (sym : Int), .int .i64 ((1 + nbr b p 0 : Nat) : Int)]) ∧ St K N w sb vb b (p + 0) out most fx) ∨ (¬ (sym = 16 ∧ row = []) ∧ ¬ p + 0 ≤ 8 * b.length ∧ (Ending.returned (.tuple #[.int .i64 (sym : Int), .int .i64 1])) = flt 7))) := ⟨Kp.refl _ _, .inr (.inl ⟨fun hh => h16 hh.1, h.pl, by rw [e3]; rfl, h⟩)⟩
      have b16 : ((sym : Int) == 16) = false := by rw [beq_eq_false_iff_ne]; omega
      have b17 : ((sym : Int) == 17) = false := by rw [beq_eq_false_iff_ne]; omega
      have b18 : ((sym : Int) == 18) = false := by rw [beq_eq_false_iff_ne]; omega
      clear h hrow h16 h17 h18 e1 e2 e3
      go_enter Try.func57, Try.ntmps57
      go_wp2_with fail
      go_ret2
      exact RES.out
end Go.Proofs.Ytbnghmeeddjaoaa
