/- CellStays, walked. -/
import Derived.Test.YtnlladjkajmpoaaSb
namespace Go.Proofs.Ytnlladjkajmpoaa
open Go.RowKit Go.BigFrame
set_option linter.unusedVariables false
set_option linter.unusedSimpArgs false

theorem Cls.at {N : Nat} {w : World} {v : Value} {l : List Cl} (h : Cls N w v l) : ∃ a c, v = .slice a l.length c ∧ l.length ≤ c ∧ ∀ k, k < l.length → ∃ b o, a = some ⟨b, o, none⟩ ∧ b < N ∧ ∀ j, j < 15 → w.cell? ⟨b, o + k * 15 + j, none⟩ = (cA (l.getD k (hf pl)))[j]? := by
  obtain ⟨a, c, e, hc, h⟩ := h
  refine ⟨a, c, e, hc, fun k hk => ?_⟩
  rcases h with rfl | ⟨b, o, h1, h2, h3⟩
  · simp at hk
  · exact ⟨b, o, h1, h2, h3 k hk⟩
def sbad : St := ⟨0, 256, false, false, false, false, false, false, false, false⟩
theorem bad_no : mayS (bl sbad).st = false := by decide
theorem lit_bad : sA sbad = #[.int .i64 0, .int .i64 256, .bool false, .bool false, .bool false, .bool false, .bool false, .bool false, .bool false, .bool false] := rfl
theorem put_len (c : Int) (s : St) : (putF c s).length ≤ 2 := by
  unfold putF
  by_cases h1 : ofF c = 1
  · rw [if_pos h1]; simp
  by_cases h2 : ofF c = 2
  · rw [if_neg h1, if_pos h2]; simp
  · rw [if_neg h1, if_neg h2]; simp
set_option maxRecDepth 100000 in
set_option maxHeartbeats 16000000 in
theorem stays_any (s : St) (va : Value) (l : List Int) (hl : l.length ≤ 140737488355328) (w : World) (h : Rns w.heap.size w va l) :
    Calls Try.prog 6 #[.agg (sA s), va] w fun e w' => e = .returned (.bool true) ∧ Below w.heap.size w w' := by
  obtain ⟨a, cp, rfl, hc, h3⟩ := h
  have hcl : ∀ k, k < l.length → ∃ b o, a = some ⟨b, o, none⟩ ∧ b < w.heap.size ∧ w.cell? ⟨b, o + k, none⟩ = some (.int .i32 (l.getD k 0)) := by
    intro k hk
    rcases h3 with rfl | ⟨b, o, rfl, h5, h6⟩
    · simp at hk
    exact ⟨b, o, rfl, h5, h6 k hk⟩
  have HCL := Box'.mk hcl
  have AN := Box'.mk anch_any
  have S24 := Box'.mk s24
  have S26 := Box'.mk s26
  have U24 := Box'.mk Try.underlying24
  have U26 := Box'.mk Try.underlying26
  have MS := Box'.mk (refMayStyle_any s)
  have BL := Box'.mk (blank_any s)
  have RS := Box'.mk (Row.new w 24 (sA s))
  have BB := Box'.mk ((Below.refl w.heap.size w).alloc (Nat.le_refl _) (.cells (sA s) 24))
  generalize hn : l.length = n at *
  clear hcl h3 hn
  go_enter Try.func6, Try.ntmps6
  go_upto_region 1 with (fail)
  generalize w.alloc (.cells (sA s) 24) = w1 at *
  cases hs : mayS s with
  | false =>
    rw [hs] at MS
    have BD := Box'.mk (blank_any sbad)
    rw [lit_bad] at BD
    have MD := Box'.mk (may_no (bl sbad) bad_no)
    clear HCL BL hs hl
    go_wp2_with (first
      | (refine wpList_load_row rfl 24 (.tmp 2) rfl w.heap.size rfl 24 (sA s) RS.out _ U24.out rfl 10 S24.out rfl ?_))
    refine (MS.out _).mono ?_
    rintro e w2 ⟨rfl, hb2⟩
    have B2 := Box'.mk (BB.out.trans (hb2.mono BB.out.size))
    clear hb2 MS BB RS
    go_wp2_with fail
    refine (AN.out _).mono ?_
    rintro e w3 ⟨rfl, hb3⟩
    have B3 := Box'.mk (B2.out.trans (hb3.mono B2.out.size))
    clear hb3 AN B2
    go_wp2_with fail
    refine (BD.out _).mono ?_
    rintro e w4 ⟨rfl, hb4⟩
    have B4 := Box'.mk (B3.out.trans (hb4.mono B3.out.size))
    clear hb4 BD B3
    go_wp2_with fail
    refine (MD.out _).mono ?_
    rintro e w5 ⟨rfl, hb5⟩
    have B5 := Box'.mk (B4.out.trans (hb5.mono B4.out.size))
    clear hb5 MD B4
    go_wp2_with fail
    go_ret
    exact ⟨rfl, B5.out⟩
  | true =>
    rw [hs] at MS
    have MD := Box'.mk (may_any (bl s) (gd_bl s hs))
    have PU : Box' (∀ c wd, Calls Try.prog 7 #[.int .i32 c, .agg (sA s)] wd fun e w' => ∃ v, e = .returned v ∧ Cls w'.heap.size w' v (putF c s) ∧ Below wd.heap.size wd w') := ⟨fun c wd => put_any c s wd⟩
    have GP : Box' (∀ c, ∀ x ∈ putF c s, gd x) := ⟨fun c => gd_put c s hs⟩
    have LP := Box'.mk (fun c => put_len c s)
    clear hs
    go_wp2_with (first
      | (refine wpList_load_row rfl 24 (.tmp 2) rfl w.heap.size rfl 24 (sA s) RS.out _ U24.out rfl 10 S24.out rfl ?_))
    refine (MS.out _).mono ?_
    rintro e w2 ⟨rfl, hb2⟩
    have R2 := Box'.mk (RS.out.below hb2 RS.out.lt)
    have B2 := Box'.mk (BB.out.trans (hb2.mono BB.out.size))
    clear hb2 MS BB RS
    go_wp2_with (first
      | (refine wpList_load_row rfl 24 (.tmp 2) rfl w.heap.size rfl 24 (sA s) R2.out _ U24.out rfl 10 S24.out rfl ?_))
    refine (BL.out _).mono ?_
    rintro e w3 ⟨rfl, hb3⟩
    have R3 := Box'.mk (R2.out.below hb3 R2.out.lt)
    have B3 := Box'.mk (B2.out.trans (hb3.mono B2.out.size))
    clear hb3 BL R2 B2
    go_wp2_with fail
    refine (MD.out _).mono ?_
    rintro e w4 ⟨rfl, hb4⟩
    have R4 := Box'.mk (R3.out.below hb4 R3.out.lt)
    have B4 := Box'.mk (B3.out.trans (hb4.mono B3.out.size))
    clear hb4 MD R3 B3
    go_wp2_with fail
    go_loopw [5] (fun i wr => ∃ k : Nat, k ≤ n ∧ i = .int .i64 (k : Int) ∧ Box' (Row wr w.heap.size 24 (sA s)) ∧ Box' (Below w.heap.size w wr)) (fun i _ => n - (intOf i).toNat)
    case atStart => exact ⟨0, by omega, rfl, R4, B4⟩
    case round =>
      obtain ⟨i, hi, rfl, RR, BB⟩ := hrel
      clear R4 B4
      by_cases hlt : i < n
      case neg =>
        clear HCL PU GP LP
        go_wp2_with fail
        refine (AN.out _).mono ?_
        rintro e w9 ⟨rfl, hb9⟩
        have B9 := Box'.mk (BB.out.trans (hb9.mono BB.out.size))
        clear hb9
        go_wp2_with fail
        go_ret
        exact ⟨rfl, B9.out⟩
      case pos =>
        obtain ⟨b, o, rfl, hbw, ci⟩ := HCL.out i hlt
        have HC2 : Box' (∀ k, k < n → w.cell? ⟨b, o + k, none⟩ = some (.int .i32 (l.getD k 0))) := ⟨fun k hk => by
          obtain ⟨b', o', e, _, c'⟩ := HCL.out k hk
          simp only [Option.some.injEq, Addr.mk.injEq, and_true] at e
          obtain ⟨rfl, rfl⟩ := e
          exact c'⟩
        clear HCL
        generalize l.getD i 0 = ch at *
        have CI := Box'.mk ci
        clear ci
        go_wp2_with fail
        refine wp_region_growg 5 (by kernel_rfl) 72 rfl (by kernel_rfl) (fun wa wb => Below wa.heap.size wa wb) (fun wa => Row wa w.heap.size 24 (sA s) ∧ Below w.heap.size w wa) (fun kc wa v => match kc with
          | 0 => v = .slice (some ⟨b, o, none⟩) n cp
          | 1 => v = .int .i64 (i : Int)
          | 2 => v = .pointer (some ⟨b, o + i, none⟩)
          | 3 => v = .int .i32 ch
          | 4 => v = .agg (sA s)
          | _ => True) ?_ ?_ ?_ ?_ ?_ ?_
        · intro i o' j b' hi hg wa v hC hV
          have hlt : i < 5 := by rcases Nat.lt_or_ge i 5 with q | q; exact q; rw [List.getElem?_eq_none (by simpa using q)] at hi; cases hi
          revert hi hg hV
          rcases (show i = 0 ∨ i = 1 ∨ i = 2 ∨ i = 3 ∨ i = 4 by omega) with rfl | rfl | rfl | rfl | rfl <;>
            (intro hi hg hV; simp only [List.take_succ_cons, List.getElem?_cons_zero, List.getElem?_cons_succ, Option.some.injEq] at hi; subst hi; first | (cases hg; exact hV) | (cases hg))
        · rintro wa wb hb ⟨q1, q2⟩; exact ⟨q1.below hb q1.lt, q2.trans (hb.mono q2.size)⟩
        · intro kc v wa wb hC1 hb h
          match kc, h with
          | 0, h => exact h
          | 1, h => exact h
          | 2, h => exact h
          | 3, h => exact h
          | 4, h => exact h
          | kc + 5, h => trivial
        · exact ⟨RR.out.drew, BB.out.drew⟩
        · refine ⟨?_, ?_, ?_, ?_, ?_, trivial⟩
          · intro f wq hC hd KK hK
            clear hd
            simp only [List.take_succ_cons, List.take_zero, setAll, List.setIfInBounds_toArray, List.set_cons_succ, List.set_cons_zero, Nat.zero_add, Nat.reduceAdd] at hK ⊢
            refine wp_of_quiet rfl ?_
            go_big_quiet_step (fail)
            exact wpQuiet_nil (hK _ _ (rfl) (Below.refl _ _))
          · intro f wq hC hd KK hK
            clear hd
            simp only [List.take_succ_cons, List.take_zero, setAll, List.setIfInBounds_toArray, List.set_cons_succ, List.set_cons_zero, Nat.zero_add, Nat.reduceAdd] at hK ⊢
            refine wp_of_quiet rfl ?_
            go_big_quiet_step (fail)
            exact wpQuiet_nil (hK _ _ (rfl) (Below.refl _ _))
          · intro f wq hC hd KK hK
            have g0 : f 0 = .slice (some ⟨b, o, none⟩) n cp := hd 0 (by kernel_rfl)
            have g1 : f 1 = .int .i64 (i : Int) := hd 1 (by kernel_rfl)
            clear hd
            simp only [List.take_succ_cons, List.take_zero, setAll, List.setIfInBounds_toArray, List.set_cons_succ, List.set_cons_zero, Nat.zero_add, Nat.reduceAdd, g0, g1] at hK ⊢
            refine wp_of_quiet rfl ?_
            go_big_quiet_step (fail)
            exact wpQuiet_nil (hK _ _ (rfl) (Below.refl _ _))
          · intro f wq hC hd KK hK
            have g2 : f 2 = .pointer (some ⟨b, o + i, none⟩) := hd 2 (by kernel_rfl)
            clear hd
            have ci : wq.cell? ⟨b, o + i, none⟩ = some (.int .i32 ch) := by rw [hC.2.cell (p := ⟨b, o + i, none⟩) hbw]; exact CI.out
            clear hC
            simp only [List.take_succ_cons, List.take_zero, setAll, List.setIfInBounds_toArray, List.set_cons_succ, List.set_cons_zero, Nat.zero_add, Nat.reduceAdd, g2] at hK ⊢
            refine wp_of_quiet rfl ?_
            go_big_quiet_step (fail)
            exact wpQuiet_nil (hK _ _ (rfl) (Below.refl _ _))
          · intro f wq hC hd KK hK
            clear hd
            have hR : Row wq w.heap.size 24 (sA s) := hC.1
            have c0 : wq.cell? ⟨w.heap.size, 0, none⟩ = some (.int .i64 s.fg) := hR.cell 0
            have c1 : wq.cell? ⟨w.heap.size, 1, none⟩ = some (.int .i64 s.bg) := hR.cell 1
            have c2 : wq.cell? ⟨w.heap.size, 2, none⟩ = some (.bool s.b1) := hR.cell 2
            have c3 : wq.cell? ⟨w.heap.size, 3, none⟩ = some (.bool s.b2) := hR.cell 3
            have c4 : wq.cell? ⟨w.heap.size, 4, none⟩ = some (.bool s.b3) := hR.cell 4
            have c5 : wq.cell? ⟨w.heap.size, 5, none⟩ = some (.bool s.b4) := hR.cell 5
            have c6 : wq.cell? ⟨w.heap.size, 6, none⟩ = some (.bool s.b5) := hR.cell 6
            have c7 : wq.cell? ⟨w.heap.size, 7, none⟩ = some (.bool s.b7) := hR.cell 7
            have c8 : wq.cell? ⟨w.heap.size, 8, none⟩ = some (.bool s.b8) := hR.cell 8
            have c9 : wq.cell? ⟨w.heap.size, 9, none⟩ = some (.bool s.b9) := hR.cell 9
            clear hC hR
            simp only [List.take_succ_cons, List.take_zero, setAll, List.setIfInBounds_toArray, List.set_cons_succ, List.set_cons_zero, Nat.zero_add, Nat.reduceAdd] at hK ⊢
            refine wp_of_quiet rfl ?_
            go_big_quiet_step (fail)
            exact wpQuiet_nil (hK _ _ (rfl) (Below.refl _ _))
        · intro f wz hC hv
          have p0 : f 0 = .slice (some ⟨b, o, none⟩) n cp := hv 0 (by decide)
          have p1 : f 1 = .int .i64 (i : Int) := hv 1 (by decide)
          have p2 : f 2 = .pointer (some ⟨b, o + i, none⟩) := hv 2 (by decide)
          have p3 : f 3 = .int .i32 ch := hv 3 (by decide)
          have p4 : f 4 = .agg (sA s) := hv 4 (by decide)
          simp only [List.take_succ_cons, List.take_zero, List.drop_succ_cons, List.drop_zero, setAll, List.setIfInBounds_toArray, List.set_cons_succ, List.set_cons_zero, Nat.zero_add, Nat.reduceAdd, p0, p1, p2, p3, p4]
          clear hv p0 p1 p2 p3 p4
          have R5 := Box'.mk hC.1
          have B5 := Box'.mk hC.2
          clear hC RR BB
          go_wp2_with fail
          refine (PU.out _ _).mono ?_
          rintro e w6 ⟨v6, rfl, hcl6, hb6⟩
          have R6 := Box'.mk (R5.out.below hb6 R5.out.lt)
          have B6 := Box'.mk (B5.out.trans (hb6.mono B5.out.size))
          have GQ := Box'.mk (GP.out ch)
          have LQ := LP.out ch
          obtain ⟨a6, c6, rfl, hc6, HX⟩ := hcl6.at
          have XX := Box'.mk HX
          clear hb6 R5 B5 hcl6 HX CI
          obtain ⟨P, hP⟩ : ∃ P, putF ch s = P := ⟨_, rfl⟩
          rw [hP] at GQ XX hc6 LQ ⊢
          clear hP
          obtain ⟨m, hm⟩ : ∃ m, P.length = m := ⟨_, rfl⟩
          have HM := Box'.mk hm
          rw [hm] at XX hc6 LQ ⊢
          clear hm
          go_wp2_with fail
          go_loopw [7] (fun j wr => ∃ k : Nat, k ≤ m ∧ j = .int .i64 (k : Int) ∧ Box' (Below w6.heap.size w6 wr)) (fun j _ => m - (intOf j).toNat)
          case atStart => exact ⟨0, by omega, rfl, ⟨Below.refl _ _⟩⟩
          case round =>
            obtain ⟨k, hk, rfl, BW⟩ := hrel
            by_cases hlk : k < m
            case neg =>
              have R7 := Box'.mk (R6.out.below BW.out R6.out.lt)
              have B7 := Box'.mk (B6.out.trans (BW.out.mono B6.out.size))
              clear XX GQ PU GP LP AN HC2 R6 B6 BW
              go_wp2_with fail
              exact ⟨⟨i + 1, by omega, by go_num, R7, B7⟩, by simp [intOf]; omega⟩
            case pos =>
              obtain ⟨b6, o6, rfl, hb6, hx6⟩ := XX.out k hlk
              have GX : Box' (gd (P.getD k (hf pl))) := ⟨GQ.out _ (by rw [List.getD_eq_getElem?_getD, List.getElem?_eq_getElem (by rw [HM.out]; exact hlk)]; exact List.getElem_mem _)⟩
              obtain ⟨x, hx⟩ : ∃ x, P.getD k (hf pl) = x := ⟨_, rfl⟩
              rw [hx] at hx6 GX
              clear hx
              have X6 : Box' (∀ j, j < 15 → wr.cell? ⟨b6, o6 + k * 15 + j, none⟩ = (cA x)[j]?) := ⟨fun j hj => by rw [BW.out.cell (p := ⟨b6, o6 + k * 15 + j, none⟩) hb6]; exact hx6 j hj⟩
              clear hx6
              have e0 : wr.cell? ⟨b6, o6 + k * 15, none⟩ = some (.int .i32 x.ch) := X6.out 0 (by decide)
              have e1 : wr.cell? ⟨b6, o6 + k * 15 + 1, none⟩ = some (.int .i32 x.m0) := X6.out 1 (by decide)
              have e2 : wr.cell? ⟨b6, o6 + k * 15 + 2, none⟩ = some (.int .i32 x.m1) := X6.out 2 (by decide)
              have e3 : wr.cell? ⟨b6, o6 + k * 15 + 3, none⟩ = some (.int .i32 x.m2) := X6.out 3 (by decide)
              have e4 : wr.cell? ⟨b6, o6 + k * 15 + 4, none⟩ = some (.int .u8 (x.wd : Int)) := X6.out 4 (by decide)
              have e5 : wr.cell? ⟨b6, o6 + k * 15 + 5, none⟩ = some (.int .i64 x.st.fg) := X6.out 5 (by decide)
              have e6 : wr.cell? ⟨b6, o6 + k * 15 + 6, none⟩ = some (.int .i64 x.st.bg) := X6.out 6 (by decide)
              have e7 : wr.cell? ⟨b6, o6 + k * 15 + 7, none⟩ = some (.bool x.st.b1) := X6.out 7 (by decide)
              have e8 : wr.cell? ⟨b6, o6 + k * 15 + 8, none⟩ = some (.bool x.st.b2) := X6.out 8 (by decide)
              have e9 : wr.cell? ⟨b6, o6 + k * 15 + 9, none⟩ = some (.bool x.st.b3) := X6.out 9 (by decide)
              have e10 : wr.cell? ⟨b6, o6 + k * 15 + 10, none⟩ = some (.bool x.st.b4) := X6.out 10 (by decide)
              have e11 : wr.cell? ⟨b6, o6 + k * 15 + 11, none⟩ = some (.bool x.st.b5) := X6.out 11 (by decide)
              have e12 : wr.cell? ⟨b6, o6 + k * 15 + 12, none⟩ = some (.bool x.st.b7) := X6.out 12 (by decide)
              have e13 : wr.cell? ⟨b6, o6 + k * 15 + 13, none⟩ = some (.bool x.st.b8) := X6.out 13 (by decide)
              have e14 : wr.cell? ⟨b6, o6 + k * 15 + 14, none⟩ = some (.bool x.st.b9) := X6.out 14 (by decide)
              have RG : Box' (Row (wr.alloc (.cells #[.int .i32 x.ch, .int .i32 x.m0, .int .i32 x.m1, .int .i32 x.m2, .int .u8 (x.wd : Int), .int .i64 x.st.fg, .int .i64 x.st.bg, .bool x.st.b1, .bool x.st.b2, .bool x.st.b3, .bool x.st.b4, .bool x.st.b5, .bool x.st.b7, .bool x.st.b8, .bool x.st.b9] 26)) wr.heap.size 26 (cA x)) := ⟨Row.new _ _ _⟩
              have BG : Box' (Below wr.heap.size wr (wr.alloc (.cells #[.int .i32 x.ch, .int .i32 x.m0, .int .i32 x.m1, .int .i32 x.m2, .int .u8 (x.wd : Int), .int .i64 x.st.fg, .int .i64 x.st.bg, .bool x.st.b1, .bool x.st.b2, .bool x.st.b3, .bool x.st.b4, .bool x.st.b5, .bool x.st.b7, .bool x.st.b8, .bool x.st.b9] 26))) := ⟨(Below.refl _ _).alloc (Nat.le_refl _) _⟩
              go_upto_region 13 with (fail)
              generalize (wr.alloc (.cells #[.int .i32 x.ch, .int .i32 x.m0, .int .i32 x.m1, .int .i32 x.m2, .int .u8 (x.wd : Int), .int .i64 x.st.fg, .int .i64 x.st.bg, .bool x.st.b1, .bool x.st.b2, .bool x.st.b3, .bool x.st.b4, .bool x.st.b5, .bool x.st.b7, .bool x.st.b8, .bool x.st.b9] 26)) = w7 at *
              have hgz : w6.heap.size ≤ wr.heap.size := BW.out.size
              have hb6' : b6 < wr.heap.size := Nat.lt_of_lt_of_le hb6 hgz
              clear e0 e1 e2 e3 e4 e5 e6 e7 e8 e9 e10 e11 e12 e13 e14
              obtain ⟨g, hg⟩ : ∃ g, wr.heap.size = g := ⟨_, rfl⟩
              rw [hg] at RG BG hgz hb6' ⊢
              clear hg
              obtain ⟨wo, rfl⟩ : ∃ wo, wo = wr := ⟨wr, rfl⟩
              have WW : Box' (∀ wa, Below g wo wa → Below w.heap.size w wa) := ⟨fun wa h => (B6.out.trans (BW.out.mono B6.out.size)).trans (h.mono (Nat.le_trans B6.out.size hgz))⟩
              have W6 : Box' (∀ wa, Below g wo wa → Below w6.heap.size w6 wa) := ⟨fun wa h => BW.out.trans (h.mono hgz)⟩
              have C6 : Box' (∀ wa, Below g wo wa → wa.cell? ⟨b6, o6 + k * 15, none⟩ = some (.int .i32 x.ch)) := ⟨fun wa h => by rw [h.cell (p := ⟨b6, o6 + k * 15, none⟩) hb6']; exact X6.out 0 (by decide)⟩
              clear X6 BW R6 B6 XX GQ
              go_wp2_with fail
              go_loopw [9] (fun q wr => ∃ (z : Nat) (y : Cl), z ≤ n ∧ q = .int .i64 (z : Int) ∧ Box' (gd y ∧ y.ch = x.ch) ∧ Box' (Row wr g 26 (cA y)) ∧ Box' (Below g wo wr)) (fun q _ => n - (intOf q).toNat)
              case atStart => exact ⟨0, x, by omega, rfl, ⟨GX.out, rfl⟩, RG, BG⟩
              case round =>
                obtain ⟨z, y, hz, rfl, GY, RY, BY⟩ := hrel
                clear RG BG GX
                by_cases hlz : z < n
                case pos =>
                  have CZ := Box'.mk (HC2.out z hlz)
                  generalize l.getD z 0 = cz at *
                  clear PU GP LP AN C6 W6 HC2
                  go_wp2_with fail
                  refine wp_region_growg 5 (by kernel_rfl) 72 rfl (by kernel_rfl) (fun wa wb => Below wa.heap.size wa wb) (fun wa => Row wa g 26 (cA y) ∧ Below g wo wa) (fun kc wa v => match kc with
                    | 0 => v = .agg (cA y)
                    | 1 => v = .slice (some ⟨b, o, none⟩) n cp
                    | 2 => v = .int .i64 (z : Int)
                    | 3 => v = .pointer (some ⟨b, o + z, none⟩)
                    | 4 => v = .int .i32 cz
                    | _ => True) ?_ ?_ ?_ ?_ ?_ ?_
                  · intro i o' j b' hi hg wa v hC hV
                    have hlt : i < 5 := by rcases Nat.lt_or_ge i 5 with q | q; exact q; rw [List.getElem?_eq_none (by simpa using q)] at hi; cases hi
                    revert hi hg hV
                    rcases (show i = 0 ∨ i = 1 ∨ i = 2 ∨ i = 3 ∨ i = 4 by omega) with rfl | rfl | rfl | rfl | rfl <;>
                      (intro hi hg hV; simp only [List.take_succ_cons, List.getElem?_cons_zero, List.getElem?_cons_succ, Option.some.injEq] at hi; subst hi; first | (cases hg; exact hV) | (cases hg))
                  · rintro wa wb hb ⟨q1, q2⟩; exact ⟨q1.below hb q1.lt, q2.trans (hb.mono (Nat.le_of_lt q1.lt))⟩
                  · intro kc v wa wb hC1 hb h
                    match kc, h with
                    | 0, h => exact h
                    | 1, h => exact h
                    | 2, h => exact h
                    | 3, h => exact h
                    | 4, h => exact h
                    | kc + 5, h => trivial
                  · exact ⟨RY.out.drew, BY.out.drew⟩
                  · refine ⟨?_, ?_, ?_, ?_, ?_, trivial⟩
                    · intro f wq hC hd KK hK
                      clear hd
                      have hR : Row wq g 26 (cA y) := hC.1
                      have c0 : wq.cell? ⟨g, 0, none⟩ = some (.int .i32 y.ch) := hR.cell 0
                      have c1 : wq.cell? ⟨g, 1, none⟩ = some (.int .i32 y.m0) := hR.cell 1
                      have c2 : wq.cell? ⟨g, 2, none⟩ = some (.int .i32 y.m1) := hR.cell 2
                      have c3 : wq.cell? ⟨g, 3, none⟩ = some (.int .i32 y.m2) := hR.cell 3
                      have c4 : wq.cell? ⟨g, 4, none⟩ = some (.int .u8 (y.wd : Int)) := hR.cell 4
                      have c5 : wq.cell? ⟨g, 5, none⟩ = some (.int .i64 y.st.fg) := hR.cell 5
                      have c6 : wq.cell? ⟨g, 6, none⟩ = some (.int .i64 y.st.bg) := hR.cell 6
                      have c7 : wq.cell? ⟨g, 7, none⟩ = some (.bool y.st.b1) := hR.cell 7
                      have c8 : wq.cell? ⟨g, 8, none⟩ = some (.bool y.st.b2) := hR.cell 8
                      have c9 : wq.cell? ⟨g, 9, none⟩ = some (.bool y.st.b3) := hR.cell 9
                      have c10 : wq.cell? ⟨g, 10, none⟩ = some (.bool y.st.b4) := hR.cell 10
                      have c11 : wq.cell? ⟨g, 11, none⟩ = some (.bool y.st.b5) := hR.cell 11
                      have c12 : wq.cell? ⟨g, 12, none⟩ = some (.bool y.st.b7) := hR.cell 12
                      have c13 : wq.cell? ⟨g, 13, none⟩ = some (.bool y.st.b8) := hR.cell 13
                      have c14 : wq.cell? ⟨g, 14, none⟩ = some (.bool y.st.b9) := hR.cell 14
                      clear hC hR
                      simp only [List.take_succ_cons, List.take_zero, setAll, List.setIfInBounds_toArray, List.set_cons_succ, List.set_cons_zero, Nat.zero_add, Nat.reduceAdd] at hK ⊢
                      refine wp_of_quiet rfl ?_
                      go_big_quiet_step (fail)
                      exact wpQuiet_nil (hK _ _ (rfl) (Below.refl _ _))
                    · intro f wq hC hd KK hK
                      clear hd
                      simp only [List.take_succ_cons, List.take_zero, setAll, List.setIfInBounds_toArray, List.set_cons_succ, List.set_cons_zero, Nat.zero_add, Nat.reduceAdd] at hK ⊢
                      refine wp_of_quiet rfl ?_
                      go_big_quiet_step (fail)
                      exact wpQuiet_nil (hK _ _ (rfl) (Below.refl _ _))
                    · intro f wq hC hd KK hK
                      clear hd
                      simp only [List.take_succ_cons, List.take_zero, setAll, List.setIfInBounds_toArray, List.set_cons_succ, List.set_cons_zero, Nat.zero_add, Nat.reduceAdd] at hK ⊢
                      refine wp_of_quiet rfl ?_
                      go_big_quiet_step (fail)
                      exact wpQuiet_nil (hK _ _ (rfl) (Below.refl _ _))
                    · intro f wq hC hd KK hK
                      have g1 : f 1 = .slice (some ⟨b, o, none⟩) n cp := hd 1 (by kernel_rfl)
                      have g2 : f 2 = .int .i64 (z : Int) := hd 2 (by kernel_rfl)
                      clear hd
                      simp only [List.take_succ_cons, List.take_zero, setAll, List.setIfInBounds_toArray, List.set_cons_succ, List.set_cons_zero, Nat.zero_add, Nat.reduceAdd, g1, g2] at hK ⊢
                      refine wp_of_quiet rfl ?_
                      go_big_quiet_step (fail)
                      exact wpQuiet_nil (hK _ _ (rfl) (Below.refl _ _))
                    · intro f wq hC hd KK hK
                      have g3 : f 3 = .pointer (some ⟨b, o + z, none⟩) := hd 3 (by kernel_rfl)
                      clear hd
                      have ci : wq.cell? ⟨b, o + z, none⟩ = some (.int .i32 cz) := by rw [(WW.out wq hC.2).cell (p := ⟨b, o + z, none⟩) hbw]; exact CZ.out
                      clear hC
                      simp only [List.take_succ_cons, List.take_zero, setAll, List.setIfInBounds_toArray, List.set_cons_succ, List.set_cons_zero, Nat.zero_add, Nat.reduceAdd, g3] at hK ⊢
                      refine wp_of_quiet rfl ?_
                      go_big_quiet_step (fail)
                      exact wpQuiet_nil (hK _ _ (rfl) (Below.refl _ _))
                  · intro f wz hC hv
                    have p0 : f 0 = .agg (cA y) := hv 0 (by decide)
                    have p1 : f 1 = .slice (some ⟨b, o, none⟩) n cp := hv 1 (by decide)
                    have p2 : f 2 = .int .i64 (z : Int) := hv 2 (by decide)
                    have p3 : f 3 = .pointer (some ⟨b, o + z, none⟩) := hv 3 (by decide)
                    have p4 : f 4 = .int .i32 cz := hv 4 (by decide)
                    simp only [List.take_succ_cons, List.take_zero, List.drop_succ_cons, List.drop_zero, setAll, List.setIfInBounds_toArray, List.set_cons_succ, List.set_cons_zero, Nat.zero_add, Nat.reduceAdd, p0, p1, p2, p3, p4]
                    clear hv p0 p1 p2 p3 p4
                    have R5 := Box'.mk hC.1
                    have B5 := Box'.mk hC.2
                    have MK := Box'.mk (mark_any y GY.out.1 cz)
                    clear hC RY BY
                    go_wp2_with fail
                    refine (MK.out _).mono ?_
                    rintro e w8 ⟨y2, g2, ch2, rfl, hb8⟩
                    have M8 : Box' (Room w8 g 26 15) := ⟨(R5.out.room rfl).below hb8 R5.out.lt⟩
                    have B8 : Box' (Below g wo w8) := ⟨B5.out.trans (hb8.mono (Nat.le_of_lt R5.out.lt))⟩
                    have O := Box'.mk (one15 y2)
                    have GZ : Box' (gd y2 ∧ y2.ch = x.ch) := ⟨g2, ch2.trans GY.out.2⟩
                    clear hb8 R5 B5 MK g2 ch2 GY
                    go_wp2_with (first
                      | (refine wpList_store_row rfl 26 (.tmp 8) (.tmp 57) rfl g rfl (cA y2) rfl 26 15 M8.out S26.out rfl O.out ?_))
                    exact ⟨⟨z + 1, y2, by omega, by go_num, GZ, ⟨M8.out.setRow _⟩, ⟨below_setRow B8.out (Nat.le_refl _) _⟩⟩, by simp [intOf]; omega⟩
                case neg =>
                  clear PU GP LP HC2
                  have MY := Box'.mk (may_any y GY.out.1)
                  have EY := Box'.mk GY.out.2
                  go_wp2_with fail
                  refine wp_region_growg 13 (by kernel_rfl) 72 rfl (by kernel_rfl) (fun wa wb => Below wa.heap.size wa wb) (fun wa => Row wa g 26 (cA y) ∧ Below g wo wa) (fun kc wa v => match kc with
                    | 0 => v = .agg (cA y)
                    | 1 => v = .bool true
                    | 2 => v = .bool false
                    | 3 => v = .bool false
                    | 4 => v = .pointer (some ⟨g, 0, none⟩)
                    | 5 => v = .int .i32 x.ch
                    | 6 => v = .slice (some ⟨b6, o6, none⟩) m c6
                    | 7 => v = .int .i64 (k : Int)
                    | 8 => v = .pointer (some ⟨b6, o6 + k * 15, none⟩)
                    | 9 => v = .pointer (some ⟨b6, o6 + k * 15, none⟩)
                    | 10 => v = .int .i32 x.ch
                    | 11 => v = .bool false
                    | 12 => v = .bool false
                    | _ => True) ?_ ?_ ?_ ?_ ?_ ?_
                  · intro i o' j b' hi hg wa v hC hV
                    have hlt : i < 13 := by rcases Nat.lt_or_ge i 13 with q | q; exact q; rw [List.getElem?_eq_none (by simpa using q)] at hi; cases hi
                    revert hi hg hV
                    rcases (show i = 0 ∨ i = 1 ∨ i = 2 ∨ i = 3 ∨ i = 4 ∨ i = 5 ∨ i = 6 ∨ i = 7 ∨ i = 8 ∨ i = 9 ∨ i = 10 ∨ i = 11 ∨ i = 12 by omega) with rfl | rfl | rfl | rfl | rfl | rfl | rfl | rfl | rfl | rfl | rfl | rfl | rfl <;>
                      (intro hi hg hV; simp only [List.take_succ_cons, List.getElem?_cons_zero, List.getElem?_cons_succ, Option.some.injEq] at hi; subst hi; first | (cases hg; exact hV) | (cases hg))
                  · rintro wa wb hb ⟨q1, q2⟩; exact ⟨q1.below hb q1.lt, q2.trans (hb.mono (Nat.le_of_lt q1.lt))⟩
                  · intro kc v wa wb hC1 hb h
                    match kc, h with
                    | 0, h => exact h
                    | 1, h => exact h
                    | 2, h => exact h
                    | 3, h => exact h
                    | 4, h => exact h
                    | 5, h => exact h
                    | 6, h => exact h
                    | 7, h => exact h
                    | 8, h => exact h
                    | 9, h => exact h
                    | 10, h => exact h
                    | 11, h => exact h
                    | 12, h => exact h
                    | kc + 13, h => trivial
                  · exact ⟨RY.out.drew, BY.out.drew⟩
                  · refine ⟨?_, ?_, ?_, ?_, ?_, ?_, ?_, ?_, ?_, ?_, ?_, ?_, ?_, trivial⟩
                    · intro f wq hC hd KK hK
                      clear hd
                      have hR : Row wq g 26 (cA y) := hC.1
                      have c0 : wq.cell? ⟨g, 0, none⟩ = some (.int .i32 y.ch) := hR.cell 0
                      have c1 : wq.cell? ⟨g, 1, none⟩ = some (.int .i32 y.m0) := hR.cell 1
                      have c2 : wq.cell? ⟨g, 2, none⟩ = some (.int .i32 y.m1) := hR.cell 2
                      have c3 : wq.cell? ⟨g, 3, none⟩ = some (.int .i32 y.m2) := hR.cell 3
                      have c4 : wq.cell? ⟨g, 4, none⟩ = some (.int .u8 (y.wd : Int)) := hR.cell 4
                      have c5 : wq.cell? ⟨g, 5, none⟩ = some (.int .i64 y.st.fg) := hR.cell 5
                      have c6 : wq.cell? ⟨g, 6, none⟩ = some (.int .i64 y.st.bg) := hR.cell 6
                      have c7 : wq.cell? ⟨g, 7, none⟩ = some (.bool y.st.b1) := hR.cell 7
                      have c8 : wq.cell? ⟨g, 8, none⟩ = some (.bool y.st.b2) := hR.cell 8
                      have c9 : wq.cell? ⟨g, 9, none⟩ = some (.bool y.st.b3) := hR.cell 9
                      have c10 : wq.cell? ⟨g, 10, none⟩ = some (.bool y.st.b4) := hR.cell 10
                      have c11 : wq.cell? ⟨g, 11, none⟩ = some (.bool y.st.b5) := hR.cell 11
                      have c12 : wq.cell? ⟨g, 12, none⟩ = some (.bool y.st.b7) := hR.cell 12
                      have c13 : wq.cell? ⟨g, 13, none⟩ = some (.bool y.st.b8) := hR.cell 13
                      have c14 : wq.cell? ⟨g, 14, none⟩ = some (.bool y.st.b9) := hR.cell 14
                      clear hC hR
                      simp only [List.take_succ_cons, List.take_zero, setAll, List.setIfInBounds_toArray, List.set_cons_succ, List.set_cons_zero, Nat.zero_add, Nat.reduceAdd] at hK ⊢
                      refine wp_of_quiet rfl ?_
                      go_big_quiet_step (fail)
                      exact wpQuiet_nil (hK _ _ (rfl) (Below.refl _ _))
                    · intro f wq hC hd KK hK
                      have g0 : f 0 = .agg (cA y) := hd 0 (by kernel_rfl)
                      clear hd
                      simp only [List.take_succ_cons, List.take_zero, setAll, List.setIfInBounds_toArray, List.set_cons_succ, List.set_cons_zero, Nat.zero_add, Nat.reduceAdd, g0] at hK ⊢
                      exact wp_call 9 #[.agg (cA y)] (by simp [go_sem]) _ _ (MY.out wq) (fun w' hb => hK _ _ rfl hb)
                    · intro f wq hC hd KK hK
                      have g1 : f 1 = .bool true := hd 1 (by kernel_rfl)
                      clear hd
                      simp only [List.take_succ_cons, List.take_zero, setAll, List.setIfInBounds_toArray, List.set_cons_succ, List.set_cons_zero, Nat.zero_add, Nat.reduceAdd, g1] at hK ⊢
                      refine wp_of_quiet rfl ?_
                      go_big_quiet_step (fail)
                      exact wpQuiet_nil (hK _ _ (rfl) (Below.refl _ _))
                    · intro f wq hC hd KK hK
                      have g2 : f 2 = .bool false := hd 2 (by kernel_rfl)
                      clear hd
                      simp only [List.take_succ_cons, List.take_zero, setAll, List.setIfInBounds_toArray, List.set_cons_succ, List.set_cons_zero, Nat.zero_add, Nat.reduceAdd, g2] at hK ⊢
                      refine wp_of_quiet rfl ?_
                      go_big_quiet_step (fail)
                      exact wpQuiet_nil (hK _ _ (rfl) (Below.refl _ _))
                    · intro f wq hC hd KK hK
                      clear hd
                      simp only [List.take_succ_cons, List.take_zero, setAll, List.setIfInBounds_toArray, List.set_cons_succ, List.set_cons_zero, Nat.zero_add, Nat.reduceAdd] at hK ⊢
                      refine wp_unguard ?_
                      refine wp_of_quiet rfl ?_
                      go_big_quiet_step (fail)
                      exact wpQuiet_nil (hK _ _ (rfl) (Below.refl _ _))
                    · intro f wq hC hd KK hK
                      have g4 : f 4 = .pointer (some ⟨g, 0, none⟩) := hd 4 (by kernel_rfl)
                      clear hd
                      have c0 : wq.cell? ⟨g, 0, none⟩ = some (.int .i32 x.ch) := EY.out ▸ hC.1.cell 0
                      clear hC
                      simp only [List.take_succ_cons, List.take_zero, setAll, List.setIfInBounds_toArray, List.set_cons_succ, List.set_cons_zero, Nat.zero_add, Nat.reduceAdd, g4] at hK ⊢
                      refine wp_unguard ?_
                      refine wp_of_quiet rfl ?_
                      go_big_quiet_step (fail)
                      exact wpQuiet_nil (hK _ _ (rfl) (Below.refl _ _))
                    · intro f wq hC hd KK hK
                      clear hd
                      simp only [List.take_succ_cons, List.take_zero, setAll, List.setIfInBounds_toArray, List.set_cons_succ, List.set_cons_zero, Nat.zero_add, Nat.reduceAdd] at hK ⊢
                      refine wp_unguard ?_
                      refine wp_of_quiet rfl ?_
                      go_big_quiet_step (fail)
                      exact wpQuiet_nil (hK _ _ (rfl) (Below.refl _ _))
                    · intro f wq hC hd KK hK
                      clear hd
                      simp only [List.take_succ_cons, List.take_zero, setAll, List.setIfInBounds_toArray, List.set_cons_succ, List.set_cons_zero, Nat.zero_add, Nat.reduceAdd] at hK ⊢
                      refine wp_unguard ?_
                      refine wp_of_quiet rfl ?_
                      go_big_quiet_step (fail)
                      exact wpQuiet_nil (hK _ _ (rfl) (Below.refl _ _))
                    · intro f wq hC hd KK hK
                      have g6 : f 6 = .slice (some ⟨b6, o6, none⟩) m c6 := hd 6 (by kernel_rfl)
                      have g7 : f 7 = .int .i64 (k : Int) := hd 7 (by kernel_rfl)
                      clear hd
                      simp only [List.take_succ_cons, List.take_zero, setAll, List.setIfInBounds_toArray, List.set_cons_succ, List.set_cons_zero, Nat.zero_add, Nat.reduceAdd, g6, g7] at hK ⊢
                      refine wp_unguard ?_
                      refine wp_of_quiet rfl ?_
                      go_big_quiet_step (fail)
                      exact wpQuiet_nil (hK _ _ (rfl) (Below.refl _ _))
                    · intro f wq hC hd KK hK
                      have g8 : f 8 = .pointer (some ⟨b6, o6 + k * 15, none⟩) := hd 8 (by kernel_rfl)
                      clear hd
                      simp only [List.take_succ_cons, List.take_zero, setAll, List.setIfInBounds_toArray, List.set_cons_succ, List.set_cons_zero, Nat.zero_add, Nat.reduceAdd, g8] at hK ⊢
                      refine wp_unguard ?_
                      refine wp_of_quiet rfl ?_
                      go_big_quiet_step (fail)
                      exact wpQuiet_nil (hK _ _ (rfl) (Below.refl _ _))
                    · intro f wq hC hd KK hK
                      have g9 : f 9 = .pointer (some ⟨b6, o6 + k * 15, none⟩) := hd 9 (by kernel_rfl)
                      clear hd
                      have c0 : wq.cell? ⟨b6, o6 + k * 15, none⟩ = some (.int .i32 x.ch) := C6.out wq hC.2
                      clear hC
                      simp only [List.take_succ_cons, List.take_zero, setAll, List.setIfInBounds_toArray, List.set_cons_succ, List.set_cons_zero, Nat.zero_add, Nat.reduceAdd, g9] at hK ⊢
                      refine wp_unguard ?_
                      refine wp_of_quiet rfl ?_
                      go_big_quiet_step (fail)
                      exact wpQuiet_nil (hK _ _ (rfl) (Below.refl _ _))
                    · intro f wq hC hd KK hK
                      have g5 : f 5 = .int .i32 x.ch := hd 5 (by kernel_rfl)
                      have g10 : f 10 = .int .i32 x.ch := hd 10 (by kernel_rfl)
                      clear hd
                      simp only [List.take_succ_cons, List.take_zero, setAll, List.setIfInBounds_toArray, List.set_cons_succ, List.set_cons_zero, Nat.zero_add, Nat.reduceAdd, g5, g10] at hK ⊢
                      refine wp_unguard ?_
                      refine wp_of_quiet rfl ?_
                      go_big_quiet_step (fail)
                      exact wpQuiet_nil (hK _ _ (by first | rfl | simp) (Below.refl _ _))
                    · intro f wq hC hd KK hK
                      have g3 : f 3 = .bool false := hd 3 (by kernel_rfl)
                      have g11 : f 11 = .bool false := hd 11 (by kernel_rfl)
                      clear hd
                      simp only [List.take_succ_cons, List.take_zero, setAll, List.setIfInBounds_toArray, List.set_cons_succ, List.set_cons_zero, Nat.zero_add, Nat.reduceAdd, g3, g11] at hK ⊢
                      refine wp_of_quiet rfl ?_
                      go_big_quiet_step (fail)
                      exact wpQuiet_nil (hK _ _ (rfl) (Below.refl _ _))
                  · intro f wz hC hv
                    have p0 : f 0 = .agg (cA y) := hv 0 (by decide)
                    have p1 : f 1 = .bool true := hv 1 (by decide)
                    have p2 : f 2 = .bool false := hv 2 (by decide)
                    have p3 : f 3 = .bool false := hv 3 (by decide)
                    have p4 : f 4 = .pointer (some ⟨g, 0, none⟩) := hv 4 (by decide)
                    have p5 : f 5 = .int .i32 x.ch := hv 5 (by decide)
                    have p6 : f 6 = .slice (some ⟨b6, o6, none⟩) m c6 := hv 6 (by decide)
                    have p7 : f 7 = .int .i64 (k : Int) := hv 7 (by decide)
                    have p8 : f 8 = .pointer (some ⟨b6, o6 + k * 15, none⟩) := hv 8 (by decide)
                    have p9 : f 9 = .pointer (some ⟨b6, o6 + k * 15, none⟩) := hv 9 (by decide)
                    have p10 : f 10 = .int .i32 x.ch := hv 10 (by decide)
                    have p11 : f 11 = .bool false := hv 11 (by decide)
                    have p12 : f 12 = .bool false := hv 12 (by decide)
                    simp only [List.take_succ_cons, List.take_zero, List.drop_succ_cons, List.drop_zero, setAll, List.setIfInBounds_toArray, List.set_cons_succ, List.set_cons_zero, Nat.zero_add, Nat.reduceAdd, p0, p1, p2, p3, p4, p5, p6, p7, p8, p9, p10, p11, p12]
                    clear hv p0 p1 p2 p3 p4 p5 p6 p7 p8 p9 p10 p11 p12
                    have B9 := Box'.mk (W6.out _ hC.2)
                    clear hC RY BY MY C6 W6 WW
                    go_wp2_with fail
                    exact ⟨⟨k + 1, by omega, by go_num, B9⟩, by simp [intOf]; omega⟩
end Go.Proofs.Ytnlladjkajmpoaa
