/- The walks of One and of Write. -/
import Derived.Test.YthmcmdojnnbefaaOb
namespace Go.Proofs.Ythmcmdojnnbefaa
open Go.RowKit Go.BigFrame
set_option linter.unusedVariables false

/-- Whether two parts are the same. -/
def oneN (p q : Prt) : Bool := decide (p.id = q.id ∧ p.n = q.n ∧ p.last = q.last ∧ p.d = q.d)
theorem oneN_iff {p q : Prt} : oneN p q = true ↔ p = q := by
  unfold oneN
  rw [decide_eq_true_eq]
  constructor
  · rintro ⟨h1, h2, h3, h4⟩
    cases p; cases q
    simp_all
  · rintro rfl
    exact ⟨rfl, rfl, rfl, rfl⟩
set_option maxRecDepth 100000 in
set_option maxHeartbeats 4000000 in
theorem one_any (w : World) (p q : Prt) (vp vq : Value) (S T : Nat → Prop) (hp : Bts S w vp p.d) (hq : Bts T w vq q.d) (hS : ∀ b, S b → b < w.heap.size) (hT : ∀ b, T b → b < w.heap.size) :
    Calls Try.prog 15 #[pv p vp, pv q vq] w fun e w' => e = .returned (.bool (oneN p q)) ∧ Below w.heap.size w w' := by
  obtain ⟨pi, pn, pl, pd⟩ := p
  obtain ⟨qi, qn, ql, qd⟩ := q
  unfold pv
  have HR := Box'.mk (oneN.eq_1 ⟨pi, pn, pl, pd⟩ ⟨qi, qn, ql, qd⟩)
  generalize oneN ⟨pi, pn, pl, pd⟩ ⟨qi, qn, ql, qd⟩ = R at *
  simp only at HR hp hq ⊢
  have HB := Box'.mk (fun o o' => ((Below.refl w.heap.size w).alloc (Nat.le_refl _) o).alloc (by simp) o')
  have SM := Box'.mk (fun w1 (hb : Below w.heap.size w w1) => refSame_any S T vp vq pd qd w1 (hp.below hb hS) (hq.below hb hT))
  obtain ⟨a1, c1, rfl, _⟩ := hp
  obtain ⟨a2, c2, rfl, _⟩ := hq
  clear hS hT
  generalize pd.length = k1 at *
  generalize qd.length = k2 at *
  by_cases h1 : pi = qi
  · by_cases h2 : pn = qn
    · by_cases h3 : pl = ql
      · have e : R = decide (pd = qd) := by rw [HR.out, decide_eq_decide]; exact ⟨fun h => h.2.2.2, fun h => ⟨h1, h2, h3, h⟩⟩
        subst h1 h2 h3
        rw [← e] at SM
        clear HR e
        go_enter Try.func15, Try.ntmps15
        go_wp2_with fail
        refine (SM.out _ (HB.out _ _)).mono ?_
        rintro e7 w7 ⟨rfl, hww⟩
        rw [hww]
        clear SM hww w7
        go_wp2_with fail
        go_ret
        exact ⟨rfl, HB.out _ _⟩
      · have e : R = false := by rw [HR.out, decide_eq_false_iff_not]; exact fun h => h3 h.2.2.1
        subst e h1 h2
        have hpq : (pl == ql) = false := beq_false_of_ne h3
        clear HR SM
        cases pl <;> cases ql <;> first | exact absurd rfl h3 | skip
        · clear h3 hpq
          go_enter Try.func15, Try.ntmps15
          go_wp2_with fail
          go_ret
          exact ⟨rfl, HB.out _ _⟩
        · clear h3 hpq
          go_enter Try.func15, Try.ntmps15
          go_wp2_with fail
          go_ret
          exact ⟨rfl, HB.out _ _⟩
    · have e : R = false := by rw [HR.out, decide_eq_false_iff_not]; exact fun h => h2 h.2.1
      subst e h1
      clear HR SM
      go_enter Try.func15, Try.ntmps15
      go_wp2_with fail
      go_ret
      exact ⟨rfl, HB.out _ _⟩
  · have e : R = false := by rw [HR.out, decide_eq_false_iff_not]; exact fun h => h1 h.1
    subst e
    have h1' : ¬ ((pi : Int) = (qi : Int)) := by omega
    clear HR SM
    go_enter Try.func15, Try.ntmps15
    go_wp2_with fail
    go_ret
    exact ⟨rfl, HB.out _ _⟩
/-- A part's second number. -/
def numP (p : Prt) : Nat := 2 * p.n.toNat + (if p.last then 1 else 0)
/-- Its form. -/
def frm (p : Prt) : List UInt8 := (uf p.id ++ uf (numP p)) ++ p.d
def wrF (p : Prt) : List UInt8 × Int := if p.may then (frm p, 0) else ([], 2)
theorem or_one (n : Nat) (hn : n < 256) : bits .or .u64 ((2 * n : Nat) : Int) 1 = ((2 * n + 1 : Nat) : Int) := by
  rw [show (1 : Int) = ((1 : Nat) : Int) from rfl, u64_or_nat _ _ (by omega) (by decide)]
  congr 1
  have := Nat.two_pow_add_eq_or_of_lt (i := 1) (b := 1) (by omega) n
  rw [show 2 * n = 2 ^ 1 * n by omega, ← this]
set_option maxRecDepth 100000 in
set_option maxHeartbeats 4000000 in
theorem write_any (N : Nat) (w : World) (p : Prt) (hp : p.id < 18446744073709551616) (vd : Value) (hN : N ≤ w.heap.size) (hi : InB N w vd p.d) :
    Calls Try.prog 8 #[pv p vd] w fun e w' => ∃ u, e = .returned (.tuple #[u, .int .i64 (wrF p).2]) ∧ OwnB w.heap.size w' u (wrF p).1 ∧ Below w.heap.size w w' := by
  obtain ⟨pi, pn, pl, pd⟩ := p
  unfold pv
  simp only at hp hi ⊢
  obtain ⟨a1, c1, rfl, _⟩ := hi.slice
  have HR : Box' (wrF ⟨pi, pn, pl, pd⟩ = if mayN pn pl pd.length then (frm ⟨pi, pn, pl, pd⟩, 0) else ([], 2)) := ⟨rfl⟩
  generalize wrF ⟨pi, pn, pl, pd⟩ = R at *
  obtain ⟨w0, hw0⟩ : ∃ w0, w0 = w.alloc (.cells #[.int .u64 (pi : Int), .int .i64 pn, .bool pl, .slice a1 pd.length c1] 25) := ⟨_, rfl⟩
  have b0 : Below w.heap.size w w0 := by rw [hw0]; exact (Below.refl _ _).alloc (Nat.le_refl _) _
  have r0 : Row w0 w.heap.size 25 #[.int .u64 (pi : Int), .int .i64 pn, .bool pl, .slice a1 pd.length c1] := by rw [hw0]; exact Row.new _ _ _
  have HM := Box'.mk (fun w1 => may_any pi pn pl a1 pd.length c1 w1)
  have HI := Box'.mk hi
  have HB0 := Box'.mk b0
  have HR0 := Box'.mk r0
  have HN := Box'.mk hN
  clear hi b0 r0 hN
  generalize hln : pd.length = ln at *
  have HLN := Box'.mk hln
  clear hln
  go_enter Try.func8, Try.ntmps8
  go_wp2_with (refine wpList_load_row rfl 25 (.tmp 1) rfl _ rfl 25 _ (hw0 ▸ HR0.out) _ Try.underlying25 rfl 4 Try.info25 rfl ?_)
  rw [← hw0]
  clear hw0
  refine (HM.out _).mono ?_
  rintro e2 w2 ⟨rfl, b2⟩
  clear HM
  have HB2 := Box'.mk (HB0.out.trans (b2.mono HB0.out.size))
  have HR2 := Box'.mk (HR0.out.below b2 HR0.out.lt)
  clear HB0 HR0 b2
  cases hmy : mayN pn pl ln with
  | false =>
    have e := HR.out
    rw [hmy, if_neg (by simp)] at e
    subst e
    clear HR
    go_wp2_with fail
    go_ret2
    exact ⟨_, rfl, OwnB.nil _ _, HB2.out⟩
  | true =>
    have e := HR.out
    rw [hmy, if_pos rfl] at e
    have hmn : 0 ≤ pn ∧ pn < 256 ∧ ln ≤ 1024 := by unfold mayN at hmy; rw [decide_eq_true_eq] at hmy; exact ⟨hmy.1, hmy.2.1, hmy.2.2.1⟩
    obtain ⟨n, rfl⟩ : ∃ n : Nat, pn = (n : Int) := ⟨pn.toNat, by omega⟩
    have hn : n < 256 := by omega
    have hl : ln ≤ 1024 := hmn.2.2
    have HE := Box'.mk e
    clear HR hmy hmn e
    have cp0 : w2.cell? ⟨w.heap.size, 0, none⟩ = some (.int .u64 (pi : Int)) := by rw [HR2.out.cell]; rfl
    have cp1 : w2.cell? ⟨w.heap.size, 1, none⟩ = some (.int .i64 (n : Int)) := by rw [HR2.out.cell]; rfl
    have cp2 : w2.cell? ⟨w.heap.size, 2, none⟩ = some (.bool pl) := by rw [HR2.out.cell]; rfl
    have OR1 := Box'.mk (or_one n hn)
    obtain ⟨m, hm⟩ : ∃ m, m = numP ⟨pi, (n : Int), pl, pd⟩ := ⟨_, rfl⟩
    have hm2 : m = 2 * n + (if pl then 1 else 0) := by rw [hm]; rfl
    have hfr : frm ⟨pi, (n : Int), pl, pd⟩ = (uf pi ++ uf m) ++ pd := by rw [hm]; rfl
    have hm64 : m < 18446744073709551616 := by rw [hm2]; split <;> omega
    have HFR := Box'.mk hfr
    have HM2 := Box'.mk hm2
    have U1 := Box'.mk (fun w1 => uint_any pi hp w1)
    have U2 : Box' (∀ X : Int, X = (m : Int) → ∀ w1, Calls Try.prog 25 #[.int .u64 X] w1 fun e w' => ∃ v', e = .returned v' ∧ OwnB w1.heap.size w' v' (uf m) ∧ Below w1.heap.size w1 w') := ⟨fun X hX w1 => by rw [hX]; exact uint_any m hm64 w1⟩
    clear hfr hm hm2
    have H3 : Box' (∀ w3, Below w2.heap.size w2 w3 → w3.cell? ⟨w.heap.size, 0, none⟩ = some (.int .u64 (pi : Int)) ∧ w3.cell? ⟨w.heap.size, 3, none⟩ = some (.slice a1 ln c1) ∧ InB N w3 (.slice a1 ln c1) pd ∧ Below w.heap.size w w3) := ⟨fun w3 b3 => by
      have r3 := HR2.out.below b3 HR2.out.lt
      exact ⟨by rw [r3.cell]; rfl, by rw [r3.cell]; rfl, (HI.out.below HB2.out HN.out).below (b3.mono HB2.out.size) HN.out, HB2.out.trans (b3.mono HB2.out.size)⟩⟩
    cases pl with
    | true =>
      have e1 : m = 2 * n + 1 := by rw [HM2.out]; rfl
      subst e1
      clear HM2
      go_wp2_with fail
      refine (U1.out _).mono ?_
      rintro e3 w3 ⟨u3, rfl, o3, b3⟩
      obtain ⟨a3, c3, rfl⟩ := o3.slice
      have O3 := Box'.mk o3
      have B3 := Box'.mk b3
      have hl3 : (uf pi).length ≤ 10 := uf_len64 hp
      generalize hq3 : (uf pi).length = l3 at *
      clear o3 b3 cp0 cp1 cp2 hq3
      go_wp2_with fail
      refine (U2.out _ (by rw [show (n : Int) * 2 = ((2 * n : Nat) : Int) by omega]; exact OR1.out) _).mono ?_
      rintro e4 w4 ⟨u4, rfl, o4, b4⟩
      obtain ⟨a4, c4, hu4⟩ := o4.slice
      subst hu4
      have I4 := Box'.mk o4.inB
      have O34 := Box'.mk (O3.out.below (b4.mono (Nat.le_refl _)))
      have hz4 : w2.heap.size ≤ w4.heap.size := Nat.le_trans B3.out.size b4.size
      have B4 := Box'.mk (B3.out.trans (b4.mono B3.out.size))
      have hl4 : (uf (2 * n + 1)).length ≤ 10 := uf_len64 hm64
      have HD : Box' ((uf pi ++ uf (2 * n + 1)).length ≤ 20) := ⟨by rw [List.length_append]; have := uf_len64 hp; omega⟩
      have hmx : (uf pi).length + (uf (2 * n + 1)).length ≤ 140737488355328 := by have := uf_len64 hp; omega
      clear U1 U2 o4 b4 O3 B3
      generalize hq4 : (uf (2 * n + 1)).length = l4 at *
      clear hq4
      go_wp2_with (first
        | (refine wpList_app rfl (.tmp 20) (.tmp 22) rfl w2.heap.size _ hz4 _ (uf pi) rfl O34.out _ (uf (2 * n + 1)) rfl I4.out (by have := HD.out; rw [List.length_append] at this; omega) ?_; intro v5 w5 o5 f5; have F5 := f5.below hz4; have O5 := Box'.mk o5; have B5 := Box'.mk (B4.out.trans F5); have h5 := H3.out w5 B5.out; have cp3 := h5.2.1; have I5 := Box'.mk h5.2.2.1; have hz5 := B5.out.size; clear o5 f5 F5 I4 O34 B4 h5 H3; obtain ⟨a5, c5, hu5⟩ := O5.out.slice; subst hu5; generalize hq5 : (uf pi ++ uf (2 * n + 1)).length = l5 at *; have HQ5 := Box'.mk hq5; clear hq5)
        | (refine wpList_app rfl (.tmp 24) (.tmp 26) rfl w2.heap.size N hz5 _ (uf pi ++ uf (2 * n + 1)) rfl O5.out _ pd rfl I5.out (by have := HD.out; have := HQ5.out; rw [HLN.out]; omega) ?_; intro v6 w6 o6 f6; have F6 := f6.below hz5; have O6 := Box'.mk o6; have B6 := Box'.mk (B5.out.trans F6); clear o6 f6 F6 I5 O5 B5))
      have O7 := O6.out.less HB2.out.size
      have W7 := HB2.out.trans (B6.out.mono HB2.out.size)
      rw [← HFR.out] at O7
      have e := HE.out
      subst e
      go_ret2
      exact ⟨_, rfl, O7, W7⟩
    | false =>
      have e1 : m = 2 * n := by rw [HM2.out]; rfl
      subst e1
      clear HM2
      go_wp2_with fail
      refine (U1.out _).mono ?_
      rintro e3 w3 ⟨u3, rfl, o3, b3⟩
      obtain ⟨a3, c3, rfl⟩ := o3.slice
      have O3 := Box'.mk o3
      have B3 := Box'.mk b3
      have hl3 : (uf pi).length ≤ 10 := uf_len64 hp
      generalize hq3 : (uf pi).length = l3 at *
      clear o3 b3 cp0 cp1 cp2 hq3
      go_wp2_with fail
      refine (U2.out _ (by omega) _).mono ?_
      rintro e4 w4 ⟨u4, rfl, o4, b4⟩
      obtain ⟨a4, c4, hu4⟩ := o4.slice
      subst hu4
      have I4 := Box'.mk o4.inB
      have O34 := Box'.mk (O3.out.below (b4.mono (Nat.le_refl _)))
      have hz4 : w2.heap.size ≤ w4.heap.size := Nat.le_trans B3.out.size b4.size
      have B4 := Box'.mk (B3.out.trans (b4.mono B3.out.size))
      have hl4 : (uf (2 * n)).length ≤ 10 := uf_len64 hm64
      have HD : Box' ((uf pi ++ uf (2 * n)).length ≤ 20) := ⟨by rw [List.length_append]; have := uf_len64 hp; omega⟩
      have hmx : (uf pi).length + (uf (2 * n)).length ≤ 140737488355328 := by have := uf_len64 hp; omega
      clear U1 U2 o4 b4 O3 B3
      generalize hq4 : (uf (2 * n)).length = l4 at *
      clear hq4
      go_wp2_with (first
        | (refine wpList_app rfl (.tmp 20) (.tmp 22) rfl w2.heap.size _ hz4 _ (uf pi) rfl O34.out _ (uf (2 * n)) rfl I4.out (by have := HD.out; rw [List.length_append] at this; omega) ?_; intro v5 w5 o5 f5; have F5 := f5.below hz4; have O5 := Box'.mk o5; have B5 := Box'.mk (B4.out.trans F5); have h5 := H3.out w5 B5.out; have cp3 := h5.2.1; have I5 := Box'.mk h5.2.2.1; have hz5 := B5.out.size; clear o5 f5 F5 I4 O34 B4 h5 H3; obtain ⟨a5, c5, hu5⟩ := O5.out.slice; subst hu5; generalize hq5 : (uf pi ++ uf (2 * n)).length = l5 at *; have HQ5 := Box'.mk hq5; clear hq5)
        | (refine wpList_app rfl (.tmp 24) (.tmp 26) rfl w2.heap.size N hz5 _ (uf pi ++ uf (2 * n)) rfl O5.out _ pd rfl I5.out (by have := HD.out; have := HQ5.out; rw [HLN.out]; omega) ?_; intro v6 w6 o6 f6; have F6 := f6.below hz5; have O6 := Box'.mk o6; have B6 := Box'.mk (B5.out.trans F6); clear o6 f6 F6 I5 O5 B5))
      have O7 := O6.out.less HB2.out.size
      have W7 := HB2.out.trans (B6.out.mono HB2.out.size)
      rw [← HFR.out] at O7
      have e := HE.out
      subst e
      go_ret2
      exact ⟨_, rfl, O7, W7⟩
end Go.Proofs.Ythmcmdojnnbefaa
