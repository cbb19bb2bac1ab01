/- The walk of Read. -/
import Derived.Test.YthmcmdojnnbefaaSx
namespace Go.Proofs.Ythmcmdojnnbefaa
open Go.RowKit Go.BigFrame
set_option linter.unusedVariables false
set_option linter.unusedSimpArgs false

def zP : Prt := ⟨0, 0, false, []⟩
/-- The part that numbers and bytes say. -/
def rdP (i m : Nat) (r : List UInt8) : Prt := ⟨i, ((min (m / 2) 256 : Nat) : Int), decide (m % 2 = 1), r⟩
/-- What Read answers. -/
def rdF (b : List UInt8) : Prt × Int :=
  if (rdU b).2.2 = 0 then
    if (rdU (b.drop (rdU b).2.1)).2.2 = 0 then
      if (rdP (rdU b).1 (rdU (b.drop (rdU b).2.1)).1 ((b.drop (rdU b).2.1).drop (rdU (b.drop (rdU b).2.1)).2.1)).may then (rdP (rdU b).1 (rdU (b.drop (rdU b).2.1)).1 ((b.drop (rdU b).2.1).drop (rdU (b.drop (rdU b).2.1)).2.1), 0)
      else (zP, 8)
    else (zP, (rdU (b.drop (rdU b).2.1)).2.2)
  else (zP, (rdU b).2.2)
/-- How Read ends. -/
def PEnd (w : World) (R : Prt × Int) (e : Ending) (w' : World) : Prop := ∃ u, e = .returned (.tuple #[pv R.1 u, .int .i64 R.2]) ∧ OwnB w.heap.size w' u R.1.d ∧ Below w.heap.size w w'
theorem InB.some {N : Nat} {w : World} {a : Option Addr} {n c : Nat} {l : List UInt8} (h : InB N w (.slice a n c) l) (hn : 0 < n) : ∃ g o, a = .some ⟨g, o, none⟩ ∧ n ≤ c := by
  rcases h with ⟨e, _⟩ | ⟨g1, o1, c', e, h2, _⟩
  · injection e with e1 e2 e3; omega
  · injection e with e1 e2 e3; exact ⟨g1, o1, e1, by omega⟩
theorem heap_setRow_other {w : World} (g : Nat) (c : Array Value) (k : Nat) (h : k ≠ g) : (w.setRow g c).heap[k]? = w.heap[k]? := setRow_other _ _ _ _ h
theorem zp_one : (#[.int .u64 0, .int .i64 0, .bool false, .slice none 0 0] : Array Value).all (·.oneCell') = true := by simp [Value.oneCell']
theorem pt_one (i n : Int) (l : Bool) (a : Option Addr) (k c : Nat) : (#[.int .u64 i, .int .i64 n, .bool l, .slice a k c] : Array Value).all (·.oneCell') = true := by simp [Value.oneCell']

set_option maxRecDepth 100000 in
set_option maxHeartbeats 4000000 in
theorem read_any (N : Nat) (w : World) (v : Value) (b : List UInt8) (hN : N ≤ w.heap.size) (h : InB N w v b) (hb : b.length ≤ 140737488351232) : Calls Try.prog 10 #[v] w (PEnd w (rdF b)) := by
  obtain ⟨w0, hw0⟩ : ∃ w0, w0 = w.alloc (.cells #[.int .u64 0, .int .i64 0, .bool false, .slice none 0 0] 25) := ⟨_, rfl⟩
  have b0 : Below w.heap.size w w0 := by rw [hw0]; exact (Below.refl _ _).alloc (Nat.le_refl _) _
  have r0 : Row w0 w.heap.size 25 #[.int .u64 0, .int .i64 0, .bool false, .slice none 0 0] := by rw [hw0]; exact Row.new _ _ _
  have h1 := readUint_any N w0 v b (h.below b0 hN) (by omega)
  have HR := Box'.mk (rdF.eq_1 b)
  generalize rdF b = R at *
  have HB0 := Box'.mk b0
  have HR0 := Box'.mk r0
  have HI := Box'.mk h
  have hle := rdU_le b
  have HER := Box'.mk (@rdU_err b)
  obtain ⟨va, vc, rfl, hvc⟩ := h.slice
  obtain ⟨bl, hbl⟩ : ∃ bl, b.length = bl := ⟨_, rfl⟩
  rw [hbl] at hb hvc hle h1 HI ⊢
  have HBL := Box'.mk hbl
  clear h b0 r0 hbl
  generalize hR1 : rdU b = R1 at *
  obtain ⟨i, a, e1⟩ := R1
  have HR1 := Box'.mk hR1
  simp only at HR h1 hle HER
  clear hR1
  go_enter Try.func10, Try.ntmps10
  go_wp2_with fail
  rw [← hw0]
  clear hw0
  refine h1.mono ?_
  rintro e2 w2 ⟨rfl, hww⟩
  rw [hww]
  clear h1 hww w2
  by_cases he : e1 = 0
  · subst he
    have e := HR.out
    rw [if_pos rfl] at e
    have HR2 := Box'.mk e
    have hf := rdU_form HR1.out
    have ha : 0 < a := hf.2.2.2
    have hab : a ≤ bl := hle.1
    obtain ⟨a2, c2, hsl, hi2⟩ := (HBL.out ▸ HI.out : InB N w (.slice va b.length vc) b).behind (k := a) (by rw [HBL.out]; exact hab) (by rw [HBL.out]; omega)
    rw [HBL.out] at hsl hi2
    have HI2 := Box'.mk hi2
    have HSL := Box'.mk hsl
    have h2 := readUint_any N w0 _ _ (HI2.out.below HB0.out hN) (by rw [List.length_drop, HBL.out]; omega)
    clear hsl hi2
    have hle2 := rdU_le (b.drop a)
    rw [List.length_drop, HBL.out] at hle2
    have HER2 := Box'.mk (@rdU_err (b.drop a))
    generalize hR2 : rdU (b.drop a) = R2 at *
    obtain ⟨m, c, e2⟩ := R2
    have HRU2 := Box'.mk hR2
    simp only at HR2 h2 hle2 HER2
    have H2 := Box'.mk h2
    have HLE2 := Box'.mk hle2
    have hi64 := hle.2
    clear hR2 hf e HR h2 hle2 hle
    obtain ⟨bl2, hbl2⟩ : ∃ bl2, bl2 = bl - a := ⟨_, rfl⟩
    rw [← hbl2] at H2 HSL HI2
    have HBL2 := Box'.mk hbl2
    clear HER HER2 hbl2
    go_wp2_with (refine wpList_slice rfl 23 (.tmp 20) (some (.tmp 21)) none none rfl (.slice a2 bl2 c2) ?_ ?_; (exact HSL.out _))
    refine H2.out.mono ?_
    rintro e3 w3 ⟨rfl, hww⟩
    rw [hww]
    clear H2 hww w3
    by_cases he2 : e2 = 0
    · subst he2
      have e := HR2.out
      rw [if_pos rfl] at e
      have HR3 := Box'.mk e
      have hf2 := rdU_form HRU2.out
      have hc0 : 0 < c := hf2.2.2.2
      have hcb : c ≤ bl - a := HLE2.out.1
      have hm64 := HLE2.out.2
      have hdl : (b.drop a).length = bl2 := by rw [List.length_drop, HBL.out, HBL2.out]
      obtain ⟨a3, c3, hsl, hi3⟩ := (hdl.symm ▸ HI2.out : InB N w (.slice a2 (b.drop a).length c2) (b.drop a)).behind (k := c) (by rw [hdl, HBL2.out]; exact hcb) (by rw [hdl, HBL2.out]; omega)
      rw [hdl] at hsl hi3
      have HI3 := Box'.mk hi3
      have HSL3 := Box'.mk hsl
      clear hsl hi3 hdl
      obtain ⟨bl3, hbl3⟩ : ∃ bl3, bl3 = bl2 - c := ⟨_, rfl⟩
      rw [← hbl3] at HSL3 HI3
      have AND : (bits .and .u64 (m : Int) 1 != 0) = decide (m % 2 = 1) := by
        rw [show (1 : Int) = ((1 : Nat) : Int) from rfl, u64_and_nat _ _ hm64 (by decide), show (1 : Nat) = 2 ^ 1 - 1 from rfl, Nat.and_two_pow_sub_one_eq_mod]
        have : m % 2 ^ 1 = 0 ∨ m % 2 ^ 1 = 1 := by omega
        rcases this with h | h <;> rw [h] <;> simp <;> omega
      have HAND := Box'.mk AND
      have HN3 : Box' ((b.drop a).drop c = (b.drop a).drop c ∧ ((b.drop a).drop c).length = bl3) := ⟨rfl, by rw [List.length_drop, List.length_drop, HBL.out, hbl3, HBL2.out]⟩
      have HBL3 : Box' (bl3 ≤ 140737488351232) := ⟨by rw [hbl3, HBL2.out]; omega⟩
      generalize hD : (b.drop a).drop c = D at *
      have HR4 : Box' (R = if mayN ((min (m / 2) 256 : Nat) : Int) (decide (m % 2 = 1)) bl3 then (⟨i, ((min (m / 2) 256 : Nat) : Int), decide (m % 2 = 1), D⟩, 0) else (zP, 8)) := ⟨by rw [HR3.out, ← HN3.out.2]; rfl⟩
      have hrm : Room w0 w.heap.size 25 4 := ⟨_, HR0.out, rfl⟩
      have HRM := Box'.mk hrm
      clear e HR2 hf2 HSL HR3 AND hD hbl3 hrm HRU2 HR1 HBL2 HI HI2 HBL HLE2
      clear hcb ha hab hi64 hc0 hvc
      by_cases h512 : m < 512
      · have emin : min (m / 2) 256 = m / 2 := by omega
        rw [emin] at HR4
        clear emin
        have h256 : ¬ (256 < (m : Int) / 2) := by omega
        have hmi : (m : Int) / 2 = ((m / 2 : Nat) : Int) := by omega
        have HMI := Box'.mk hmi
        have MY := Box'.mk (fun w1 => may_any i ((m : Int) / 2) (decide (m % 2 = 1)) a3 bl3 c3 w1)
        rw [← hmi] at HR4
        obtain ⟨w4, hw4⟩ : ∃ w4, w4 = (w0.alloc (.cells #[.int .u64 0, .int .i64 0, .bool false, .slice none 0 0] 25)).setRow w0.heap.size #[.int .u64 (i : Int), .int .i64 ((m : Int) / 2), .bool (bits .and .u64 (m : Int) 1 != 0), .slice a3 bl3 c3] := ⟨_, rfl⟩
        clear hmi
        go_upto_region 10 with (first
          | (refine wpList_slice rfl 23 (.tmp 42) (some (.tmp 43)) none none rfl (.slice a3 bl3 c3) ?_ ?_; (exact HSL3.out _))
          | (refine wpList_store_row rfl 25 _ _ rfl _ rfl _ rfl 25 4 (Room.new _ _ _ _ rfl) Try.info25 rfl (pt_one _ _ _ _ _ _) ?_))
        simp only [HAND.out] at hw4 ⊢
        rw [← hw4]
        have b4 : Below w0.heap.size w0 w4 := by rw [hw4]; exact below_setRow ((Below.refl _ _).alloc (Nat.le_refl _) _) (Nat.le_refl _) _
        have r4 : Row w4 w0.heap.size 25 #[.int .u64 (i : Int), .int .i64 ((m : Int) / 2), .bool (decide (m % 2 = 1)), .slice a3 bl3 c3] := by rw [hw4]; exact (Row.new w0 25 #[.int .u64 0, .int .i64 0, .bool false, .slice none 0 0]).setRow _
        clear hw4
        have HR4' := Box'.mk r4
        have HB4 : Box' (Below w.heap.size w w4) := ⟨HB0.out.trans (b4.mono HB0.out.size)⟩
        have HRS := Box'.mk (HR0.out.below b4 HR0.out.lt)
        have hne : w.heap.size ≠ w0.heap.size := Nat.ne_of_lt HR0.out.lt
        have HNE := Box'.mk hne
        clear b4 r4 hne
        generalize decide (m % 2 = 1) = la at *
        go_wp2_with (refine wpList_load_row rfl 25 (.tmp 9) rfl _ rfl 25 _ HR4'.out _ Try.underlying25 rfl 4 Try.info25 rfl ?_)
        refine (MY.out _).mono ?_
        rintro e5 w5 ⟨rfl, b5⟩
        clear MY
        have HR5 := Box'.mk (HR4'.out.below b5 HR4'.out.lt)
        have HB5 : Box' (Below w.heap.size w w5) := ⟨HB4.out.trans (b5.mono HB4.out.size)⟩
        have HRS5 := Box'.mk (HRS.out.below b5 HRS.out.lt)
        clear b5 HR4' HB4 HRS
        cases hmy : mayN ((m : Int) / 2) la bl3 with
        | false =>
          have e := HR4.out
          rw [hmy, if_neg (by simp)] at e
          subst e
          clear HR4 hmy
          have hrm5 : Room w5 w.heap.size 25 4 := ⟨_, HRS5.out, rfl⟩
          go_wp2_with (refine wpList_store_row rfl 25 _ _ rfl _ rfl _ rfl 25 4 hrm5 Try.info25 rfl zp_one ?_)
          have rw1 : Row (w5.setRow w.heap.size #[.int .u64 0, .int .i64 0, .bool false, .slice none 0 0]) w.heap.size 25 #[.int .u64 0, .int .i64 0, .bool false, .slice none 0 0] := HRS5.out.setRow _
          exact bodyPost_ret (v := .tuple #[.agg #[.int .u64 0, .int .i64 0, .bool false, .slice none 0 0], .int .i64 8]) (results_row_slot rfl _ w.heap.size rfl (.int .i64 8) rfl _ _ rw1 _ Try.underlying25 rfl 4 Try.info25 rfl) rfl ⟨_, rfl, OwnB.nil _ _, below_setRow HB5.out (Nat.le_refl _) _⟩
        | true =>
          have e := HR4.out
          rw [hmy, if_pos rfl] at e
          subst e
          clear HR4 hmy
          have CL := clone_any (· < N) _ _ w5 (HI3.out.below HB5.out hN).bts (fun b hb => Nat.lt_of_lt_of_le hb (Nat.le_trans hN HB5.out.size)) (by rw [HN3.out.2]; exact HBL3.out)
          have c53 : w5.cell? ⟨w0.heap.size, 3, none⟩ = some (.slice a3 bl3 c3) := by rw [HR5.out.cell]; rfl
          go_wp2_with fail
          refine CL.mono ?_
          rintro e6 w6 ⟨v6, rfl, o6, b6⟩
          clear CL
          have r6 := HR5.out.below b6 HR5.out.lt
          have rs6 := HRS5.out.below b6 HRS5.out.lt
          have B6 : Below w.heap.size w w6 := HB5.out.trans (b6.mono HB5.out.size)
          have c63 : w6.cell? ⟨w0.heap.size, 3, none⟩ = some (.slice a3 bl3 c3) := by rw [r6.cell]; rfl
          have f6 := r6.frozen
          obtain ⟨a6, c6, hv6⟩ := o6.slice
          subst hv6
          rw [HN3.out.2] at o6 ⊢
          obtain ⟨w7, hw7⟩ : ∃ w7, w7 = w6.setCell ⟨w0.heap.size, 3, none⟩ (.slice a6 bl3 c6) := ⟨_, rfl⟩
          have r7 : Row w7 w0.heap.size 25 #[.int .u64 (i : Int), .int .i64 ((m : Int) / 2), .bool la, .slice a6 bl3 c6] := by rw [hw7]; exact r6.setCell (k := 3) _
          have rs7 : Row w7 w.heap.size 25 #[.int .u64 0, .int .i64 0, .bool false, .slice none 0 0] := by rw [hw7]; exact rs6.setOther _ _ HNE.out
          have o7 : OwnB w5.heap.size w7 (.slice a6 bl3 c6) D := by rw [hw7]; exact o6.same fun k hk => Below.heap_setCell _ _ _ _ (own_ne o6 r6 (by decide) k hk)
          have B7 : Below w.heap.size w w7 := by rw [hw7]; exact B6.setCell (p := ⟨w0.heap.size, 3, none⟩) HB0.out.size _
          have R7 := Box'.mk r7
          have O7 := Box'.mk o7
          have HB7 := Box'.mk B7
          have RM7 : Box' (Room w7 w.heap.size 25 4) := ⟨⟨_, rs7, rfl⟩⟩
          have RS7 := Box'.mk rs7
          have HZ5 := Box'.mk HB5.out.size
          clear r6 rs6 B6 o6 b6 HR5 HRS5 HB5 c53 r7 rs7 o7 B7
          go_wp2_with (first
            | (refine wpList_load_row rfl 25 (.tmp 9) rfl _ rfl 25 _ (hw7 ▸ R7.out) _ Try.underlying25 rfl 4 Try.info25 rfl ?_)
            | (refine wpList_store_row rfl 25 (.tmp 2) (.tmp 54) rfl w.heap.size rfl _ rfl 25 4 (hw7 ▸ RM7.out) Try.info25 rfl (pt_one _ _ _ _ _ _) ?_))
          rw [← hw7]
          have rw1 : Row (w7.setRow w.heap.size #[.int .u64 (i : Int), .int .i64 ((m : Int) / 2), .bool la, .slice a6 bl3 c6]) w.heap.size 25 #[.int .u64 (i : Int), .int .i64 ((m : Int) / 2), .bool la, .slice a6 bl3 c6] := RS7.out.setRow _
          have ow : OwnB w.heap.size (w7.setRow w.heap.size #[.int .u64 (i : Int), .int .i64 ((m : Int) / 2), .bool la, .slice a6 bl3 c6]) (.slice a6 bl3 c6) D := (O7.out.less HZ5.out).same fun k hk => heap_setRow_other _ _ _ (own_ne O7.out RS7.out (by decide) k hk)
          exact bodyPost_ret (v := .tuple #[.agg #[.int .u64 (i : Int), .int .i64 ((m : Int) / 2), .bool la, .slice a6 bl3 c6], .int .i64 0]) (results_row_slot rfl _ w.heap.size rfl (.int .i64 0) rfl _ _ rw1 _ Try.underlying25 rfl 4 Try.info25 rfl) rfl ⟨_, rfl, ow, below_setRow HB7.out (Nat.le_refl _) _⟩
      · have emin : min (m / 2) 256 = 256 := by omega
        rw [emin] at HR4
        clear emin
        have h256 : (if (256 : Int) < (m : Int) / 2 then (256 : Int) else (m : Int) / 2) = 256 := by split <;> omega
        have MY := Box'.mk (fun w1 => may_any i 256 (decide (m % 2 = 1)) a3 bl3 c3 w1)
        have hmy : mayN 256 (decide (m % 2 = 1)) bl3 = false := by unfold mayN; rw [decide_eq_false_iff_not]; omega
        have HMY := Box'.mk hmy
        obtain ⟨w4, hw4⟩ : ∃ w4, w4 = (w0.alloc (.cells #[.int .u64 0, .int .i64 0, .bool false, .slice none 0 0] 25)).setRow w0.heap.size #[.int .u64 (i : Int), .int .i64 256, .bool (bits .and .u64 (m : Int) 1 != 0), .slice a3 bl3 c3] := ⟨_, rfl⟩
        clear hmy
        go_upto_region 10 with (first
          | (refine wpList_slice rfl 23 (.tmp 42) (some (.tmp 43)) none none rfl (.slice a3 bl3 c3) ?_ ?_; (exact HSL3.out _))
          | (refine wpList_store_row rfl 25 _ _ rfl _ rfl _ rfl 25 4 (Room.new _ _ _ _ rfl) Try.info25 rfl (pt_one _ _ _ _ _ _) ?_))
        simp only [HAND.out] at hw4 ⊢
        rw [← hw4]
        have b4 : Below w0.heap.size w0 w4 := by rw [hw4]; exact below_setRow ((Below.refl _ _).alloc (Nat.le_refl _) _) (Nat.le_refl _) _
        have r4 : Row w4 w0.heap.size 25 #[.int .u64 (i : Int), .int .i64 (256), .bool (decide (m % 2 = 1)), .slice a3 bl3 c3] := by rw [hw4]; exact (Row.new w0 25 #[.int .u64 0, .int .i64 0, .bool false, .slice none 0 0]).setRow _
        clear hw4
        have HR4' := Box'.mk r4
        have HB4 : Box' (Below w.heap.size w w4) := ⟨HB0.out.trans (b4.mono HB0.out.size)⟩
        have HRS := Box'.mk (HR0.out.below b4 HR0.out.lt)
        have hne : w.heap.size ≠ w0.heap.size := Nat.ne_of_lt HR0.out.lt
        have HNE := Box'.mk hne
        clear b4 r4 hne
        generalize decide (m % 2 = 1) = la at *
        go_wp2_with (refine wpList_load_row rfl 25 (.tmp 9) rfl _ rfl 25 _ HR4'.out _ Try.underlying25 rfl 4 Try.info25 rfl ?_)
        refine (MY.out _).mono ?_
        rintro e5 w5 ⟨rfl, b5⟩
        clear MY
        have HR5 := Box'.mk (HR4'.out.below b5 HR4'.out.lt)
        have HB5 : Box' (Below w.heap.size w w5) := ⟨HB4.out.trans (b5.mono HB4.out.size)⟩
        have HRS5 := Box'.mk (HRS.out.below b5 HRS.out.lt)
        clear b5 HR4' HB4 HRS
        have hmy := HMY.out
        rw [hmy]
        have e := HR4.out
        rw [show ((256 : Nat) : Int) = 256 from rfl, hmy, if_neg (by simp)] at e
        subst e
        clear HR4 HMY hmy
        have hrm5 : Room w5 w.heap.size 25 4 := ⟨_, HRS5.out, rfl⟩
        go_wp2_with (refine wpList_store_row rfl 25 _ _ rfl _ rfl _ rfl 25 4 hrm5 Try.info25 rfl zp_one ?_)
        have rw1 : Row (w5.setRow w.heap.size #[.int .u64 0, .int .i64 0, .bool false, .slice none 0 0]) w.heap.size 25 #[.int .u64 0, .int .i64 0, .bool false, .slice none 0 0] := HRS5.out.setRow _
        exact bodyPost_ret (v := .tuple #[.agg #[.int .u64 0, .int .i64 0, .bool false, .slice none 0 0], .int .i64 8]) (results_row_slot rfl _ w.heap.size rfl (.int .i64 8) rfl _ _ rw1 _ Try.underlying25 rfl 4 Try.info25 rfl) rfl ⟨_, rfl, OwnB.nil _ _, below_setRow HB5.out (Nat.le_refl _) _⟩
    · have e := HR2.out
      rw [if_neg he2] at e
      subst e
      have e2n : (e2 : Int) ≠ 0 := he2
      clear HR2
      have hrm : Room w0 w.heap.size 25 4 := ⟨_, HR0.out, rfl⟩
      go_wp2_with (refine wpList_store_row rfl 25 _ _ rfl _ rfl _ rfl 25 4 hrm Try.info25 rfl zp_one ?_)
      have rw1 : Row (w0.setRow w.heap.size #[.int .u64 0, .int .i64 0, .bool false, .slice none 0 0]) w.heap.size 25 #[.int .u64 0, .int .i64 0, .bool false, .slice none 0 0] := HR0.out.setRow _
      exact bodyPost_ret (v := .tuple #[.agg #[.int .u64 0, .int .i64 0, .bool false, .slice none 0 0], .int .i64 e2]) (results_row_slot rfl _ w.heap.size rfl (.int .i64 e2) rfl _ _ rw1 _ Try.underlying25 rfl 4 Try.info25 rfl) rfl ⟨_, rfl, OwnB.nil _ _, below_setRow HB0.out (Nat.le_refl _) _⟩
  · have e := HR.out
    rw [if_neg he] at e
    subst e
    clear HR
    have hrm : Room w0 w.heap.size 25 4 := ⟨_, HR0.out, rfl⟩
    go_wp2_with (refine wpList_store_row rfl 25 _ _ rfl _ rfl _ rfl 25 4 hrm Try.info25 rfl zp_one ?_)
    have rw1 : Row (w0.setRow w.heap.size #[.int .u64 0, .int .i64 0, .bool false, .slice none 0 0]) w.heap.size 25 #[.int .u64 0, .int .i64 0, .bool false, .slice none 0 0] := HR0.out.setRow _
    exact bodyPost_ret (v := .tuple #[.agg #[.int .u64 0, .int .i64 0, .bool false, .slice none 0 0], .int .i64 e1]) (results_row_slot rfl _ w.heap.size rfl (.int .i64 e1) rfl _ _ rw1 _ Try.underlying25 rfl 4 Try.info25 rfl) rfl ⟨_, rfl, OwnB.nil _ _, below_setRow HB0.out (Nat.le_refl _) _⟩
end Go.Proofs.Ythmcmdojnnbefaa
