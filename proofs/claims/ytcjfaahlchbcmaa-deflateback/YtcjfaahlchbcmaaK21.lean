/- What nextWord answers, in one. -/
import Derived.Test.YtcjfaahlchbcmaaK20
namespace Go.Proofs.Ytcjfaahlchbcmaa
open Go.RowKit Go.BigFrame
set_option linter.unusedVariables false
set_option linter.unusedSimpArgs false
def sameF (l : List Int) (a : Nat) : Nat := endF l (l.getD a 0) (l.length - a) a - a
def nwF (l : List Int) (a : Nat) : (Int × Nat × Nat) × Nat :=
  if l.getD a 0 = 0 ∧ 11 ≤ sameF l a then ((18, min (sameF l a) 138 - 11, 7), min (sameF l a) 138)
  else if l.getD a 0 = 0 ∧ 3 ≤ sameF l a then ((17, sameF l a - 3, 3), sameF l a)
  else if 0 < a ∧ l.getD a 0 = l.getD (a - 1) 0 ∧ 3 ≤ sameF l a then ((16, min (sameF l a) 6 - 3, 2), min (sameF l a) 6)
  else ((l.getD a 0, 0, 0), 1)
theorem same_bd (l : List Int) (a : Nat) (ha : a < l.length) : 1 ≤ sameF l a ∧ a + sameF l a ≤ l.length := by
  have h := end_ge l (l.getD a 0) (l.length - a) a
  unfold sameF
  obtain ⟨k, hk⟩ : ∃ k, l.length - a = k + 1 := ⟨l.length - a - 1, by omega⟩
  have h2 := end_ge l (l.getD a 0) k (a + 1)
  have e : endF l (l.getD a 0) (l.length - a) a = endF l (l.getD a 0) k (a + 1) := by rw [hk, endF, if_pos rfl]
  rw [e]
  omega
theorem nextWord_is (w : World) (v : Value) (l : List Int) (a : Nat) (hl : l.length ≤ 1024) (ha : a < l.length) (h : Ints w.heap.size w v l) :
    Calls Try.prog 63 #[v, .int .i64 (a : Int)] w fun e w' => e = .returned (.tuple #[.agg #[.int .i64 (nwF l a).1.1, .int .u64 ((nwF l a).1.2.1 : Int), .int .i64 ((nwF l a).1.2.2 : Int)], .int .i64 ((nwF l a).2 : Int)]) ∧ Below w.heap.size w w' := by
  have hrun : ∀ w1, Below w.heap.size w w1 → Calls Try.prog 77 #[v, .int .i64 (a : Int)] w1 fun e w' => e = .returned (.int .i64 ((sameF l a : Nat) : Int)) ∧ Below w1.heap.size w1 w' := fun w1 hb => by
    refine (run_any w1 v l a hl ha ((h.below hb (Nat.le_refl _)).up hb.size)).mono ?_
    rintro e w' ⟨rfl, b⟩
    have := end_ge l (l.getD a 0) (l.length - a) a
    refine ⟨?_, b⟩
    unfold sameF
    rw [Int.ofNat_sub (by omega)]
  have hs := same_bd l a ha
  obtain ⟨ad, c, rfl, hc, h3⟩ := h
  obtain ⟨b, o, rfl, hbN, hb⟩ : ∃ b o, ad = some ⟨b, o, none⟩ ∧ b < w.heap.size ∧ ∀ k, k < l.length → w.cell? ⟨b, o + k, none⟩ = some (.int .i64 (l.getD k 0)) := by
    rcases h3 with rfl | h3
    · simp at ha
    · exact h3
  have h0 := hb a ha
  unfold nwF
  generalize hS : sameF l a = s at *
  by_cases h18 : l.getD a 0 = 0 ∧ 11 ≤ s
  · rw [if_pos h18]
    rw [h18.1] at h0
    exact nextWord_18 w b o l.length c a s ha (by omega) hbN hrun h0 h18.2
  · rw [if_neg h18]
    by_cases h17 : l.getD a 0 = 0 ∧ 3 ≤ s
    · rw [if_pos h17]
      rw [h17.1] at h0
      exact nextWord_17 w b o l.length c a s ha hbN hrun h0 h17.2 (by rcases Nat.lt_or_ge s 11 with q | q; exact q; exact absurd ⟨h17.1, q⟩ h18)
    · rw [if_neg h17]
      have hx : (l.getD a 0 = 0 ∧ s < 3) ∨ l.getD a 0 ≠ 0 := by
        by_cases e : l.getD a 0 = 0
        · exact .inl ⟨e, by rcases Nat.lt_or_ge s 3 with q | q; exact q; exact absurd ⟨e, q⟩ h17⟩
        · exact .inr e
      cases a with
      | zero =>
        rw [if_neg (fun q => absurd q.1 (Nat.lt_irrefl _))]
        exact nextWord_d0 w b o l.length c 0 s _ 0 hl hbN hrun ha h0 hx
      | succ a =>
        have h1 := hb a (by omega)
        have ea : ((a + 1 : Nat) : Int) = (a : Int) + 1 := by omega
        rw [ea] at hrun ⊢
        by_cases h16 : 0 < a + 1 ∧ l.getD (a + 1) 0 = l.getD (a + 1 - 1) 0 ∧ 3 ≤ s
        · rw [if_pos h16]
          have hne : l.getD (a + 1) 0 ≠ 0 := hx.resolve_left (fun q => by omega)
          exact nextWord_16 w b o l.length c a s _ _ hl hbN hrun ha h0 h1 (by omega) hne h16.2.1 h16.2.2 _ rfl
        · rw [if_neg h16]
          by_cases hxy : l.getD (a + 1) 0 = l.getD a 0
          · exact nextWord_dB w b o l.length c a s _ _ hl hbN hrun ha h0 h1 hx hxy (by rcases Nat.lt_or_ge s 3 with q | q; exact q; exact absurd ⟨by omega, hxy, q⟩ h16)
          · exact nextWord_dA w b o l.length c a s _ _ hl hbN hrun ha h0 h1 hx hxy
theorem nw_bd (l : List Int) (a : Nat) (ha : a < l.length) (h : ∀ k, 0 ≤ l.getD k 0 ∧ l.getD k 0 ≤ 15) : 1 ≤ (nwF l a).2 ∧ a + (nwF l a).2 ≤ l.length ∧ 0 ≤ (nwF l a).1.1 ∧ (nwF l a).1.1 ≤ 18 ∧ (nwF l a).1.2.2 ≤ 7 ∧ (nwF l a).1.2.1 < 2 ^ (nwF l a).1.2.2 := by
  have hs := same_bd l a ha
  have hx := h a
  unfold nwF
  split
  · refine ⟨?_, ?_, ?_, ?_, ?_, ?_⟩ <;> simp <;> omega
  · split
    · rename_i h1 h2
      have : sameF l a < 11 := by rcases Nat.lt_or_ge (sameF l a) 11 with q | q; exact q; exact absurd ⟨h2.1, q⟩ h1
      refine ⟨?_, ?_, ?_, ?_, ?_, ?_⟩ <;> simp <;> omega
    · split
      · refine ⟨?_, ?_, ?_, ?_, ?_, ?_⟩ <;> simp <;> omega
      · exact ⟨Nat.le_refl 1, by show a + 1 ≤ _; omega, hx.1, by show l.getD a 0 ≤ 18; omega, Nat.zero_le _, by show 0 < 1; decide⟩
abbrev Wd := Int × Nat × Nat
def wc (t : Wd) : List Value := [.int .i64 t.1, .int .u64 (t.2.1 : Int), .int .i64 (t.2.2 : Int)]
def wcs (l : List Wd) : List Value := (l.map wc).flatten
theorem wcs_snoc (l : List Wd) (t : Wd) : wcs (l ++ [t]) = wcs l ++ wc t := by simp [wcs]
theorem wcs_get (l : List Wd) (k j : Nat) (hk : k < l.length) (hj : j < 3) : (wcs l)[k * 3 + j]? = (wc (l.getD k (0, 0, 0)))[j]? := by
  induction l generalizing k with
  | nil => simp at hk
  | cons x r ih =>
    have e : wcs (x :: r) = wc x ++ wcs r := by simp [wcs]
    have hx : (wc x).length = 3 := rfl
    rw [e]
    cases k with
    | zero => rw [List.getElem?_append_left (by omega), Nat.zero_mul, Nat.zero_add]; rfl
    | succ k =>
      rw [List.getElem?_append_right (by omega), hx, show (k + 1) * 3 + j - 3 = k * 3 + j by omega, ih k (by simpa using hk)]
      rfl
def OwnW (N : Nat) (w : World) (v : Value) (d : List Wd) : Prop := w.ownsRow N 110 3 v d.length (wcs d)
theorem OwnW.nil (N : Nat) (w : World) : OwnW N w (.slice none 0 0) [] := ⟨rfl, .inl ⟨rfl, rfl⟩⟩
theorem OwnW.keep {N : Nat} {w w' : World} {v : Value} {d : List Wd} (h : OwnW N w v d) (hk : ∀ (q : Nat) (c : Array Value), v.ownBlock = some q → Row w q 110 c → Row w' q 110 c) : OwnW N w' v d := by
  refine ⟨h.1, ?_⟩
  rcases h.2 with h2 | ⟨g, cap, cur, e1, e2, e3, e4⟩
  · exact .inl h2
  · exact .inr ⟨g, cap, cur, e1, e2, hk g cur (by rw [e1]; rfl) e3, e4⟩
theorem OwnW.slice {N : Nat} {w : World} {v : Value} {d : List Wd} (h : OwnW N w v d) : ∃ a c, v = .slice a d.length c := by
  rcases h.2 with ⟨e, e0⟩ | ⟨g, cap, cur, e1, _⟩
  · exact ⟨none, 0, by rw [e, e0]⟩
  · exact ⟨_, _, e1⟩
theorem OwnW.row {N : Nat} {w : World} {v : Value} {d : List Wd} (h : OwnW N w v d) {q : Nat} (e : v.ownBlock = some q) : N ≤ q ∧ ∃ c, Row w q 110 c := by
  rcases h.2 with ⟨e1, _⟩ | ⟨g, cap, cur, e1, e2, e3, _⟩
  · rw [e1] at e; cases e
  · rw [e1] at e
    simp [Value.ownBlock] at e
    subst e
    exact ⟨e2, cur, e3⟩
theorem OwnW.below {N : Nat} {w w' : World} {v : Value} {d : List Wd} (h : OwnW N w v d) (hb : Below w.heap.size w w') : OwnW N w' v d := h.keep fun q c _ hr => hr.below hb hr.lt
set_option maxRecDepth 100000 in
theorem Try.info110a : ∃ i, Try.prog.info? 110 = some i ∧ i.zero = some (.agg #[.int .i64 0, .int .u64 0, .int .i64 0]) ∧ i.size = 3 ∧ i.bytes = 24 := ⟨_, rfl, rfl, rfl, rfl⟩
theorem wpList_appW {ops : Array Oper} {rest : List Oper} {o : Oper} {a : Act} {w : World} {Q : Exit → Act → World → Prop} (hgd : o.guard = none) (s x : Operand)
    (ho : o.op = .call { callee := .builtin .append, args := #[s, x], argTypes := #[79, 79] }) (N : Nat) (hN : N ≤ w.heap.size)
    (v : Value) (d : List Wd) (hs : a.eval s = v) (hown : OwnW N w v d) (q c : Nat) (t : Wd) (hx : a.eval x = .slice (some ⟨q, 0, none⟩) 1 c) (hr : Row w q 110 #[.int .i64 t.1, .int .u64 (t.2.1 : Int), .int .i64 (t.2.2 : Int)]) (hmax : d.length < 70000)
    (h : ∀ v' w', OwnW N w' v' (d ++ [t]) → w.grownBy w' v.ownBlock → (v'.ownBlock = v.ownBlock ∨ v'.ownBlock = some w.heap.size) → wpList Try.prog ops Q rest (a.put o.dst v') w') : wpList Try.prog ops Q (o :: rest) a w := by
  obtain ⟨i, h1, h2, h3, h4⟩ := Try.info110a
  obtain ⟨v', w', hrun, g2, g3, _, g5⟩ := run_append_own_at (P := Try.prog) (w := w) N 79 o.type 110 i _ 3 24 Try.underlying79 h1 h2 h3 h4 rfl (by decide) v d.length _ hown ⟨q, 0, none⟩ 1 c (wc t) rfl (fun j u hu => by
    rw [Addr.add_mid, Nat.zero_add, hr.cell]
    simpa [wc] using hu) (by intro u hu; simp [wc] at hu; rcases hu with rfl | rfl | rfl <;> rfl) (by unfold maxLen; omega) (by omega) hN
  have g2' : OwnW N w' v' (d ++ [t]) := by unfold OwnW; rw [List.length_append, wcs_snoc]; exact g2
  refine wpList_plain hgd fun K hK => ?_
  unfold Oper.wp execOp
  simp only [ho, resolve, invoke, builtin, Sem.run_bind, Sem.run_pure, Result.andThen_ok, List.map_toArray, List.map_cons, List.map_nil, hs, hx, hrun]
  exact hK _ _ (h v' w' g2' g3 g5)
theorem below_grownW {N : Nat} {w0 w w' : World} {tk : Value} {T : List Wd} (h : Below N w0 w) (hN : N ≤ w0.heap.size) (ho : OwnW N w tk T) (gr : w.grownBy w' tk.ownBlock) : Below N w0 w' :=
  ⟨gr.os.trans h.os, gr.tape.trans h.tape, gr.output.trans h.output, Nat.le_trans h.size gr.size, fun k hk => (gr.block k (Nat.lt_of_lt_of_le (Nat.lt_of_lt_of_le hk hN) h.size) (fun e => by have := (ho.row e.symm).1; omega)).trans (h.block k hk)⟩
def wdG (l : List Int) : Nat → Nat → List Wd
  | 0, _ => []
  | f + 1, a => if a < l.length then (nwF l a).1 :: wdG l f (a + (nwF l a).2) else []
def wdF (l : List Int) : List Wd := wdG l l.length 0
theorem wdG_end (l : List Int) (f a : Nat) (h : l.length ≤ a) : wdG l f a = [] := by
  cases f with
  | zero => rfl
  | succ f => rw [wdG, if_neg (by omega)]
theorem wdG_fuel (l : List Int) (hl : ∀ k, 0 ≤ l.getD k 0 ∧ l.getD k 0 ≤ 15) : ∀ (f k a : Nat), l.length - a ≤ f → l.length - a ≤ k → wdG l f a = wdG l k a := by
  intro f
  induction f with
  | zero => intro k a h _; rw [wdG_end l k a (by omega), wdG_end l 0 a (by omega)]
  | succ f ih =>
    intro k a h h2
    by_cases ha : a < l.length
    · obtain ⟨k, rfl⟩ : ∃ k', k = k' + 1 := ⟨k - 1, by omega⟩
      have := (nw_bd l a ha hl).1
      rw [wdG, wdG, if_pos ha, if_pos ha, ih k (a + (nwF l a).2) (by omega) (by omega)]
    · rw [wdG_end l _ a (by omega), wdG_end l _ a (by omega)]
theorem wd_step {l : List Int} {a : Nat} (hl : ∀ k, 0 ≤ l.getD k 0 ∧ l.getD k 0 ≤ 15) (ha : a < l.length) : wdG l (l.length - a) a = (nwF l a).1 :: wdG l (l.length - (a + (nwF l a).2)) (a + (nwF l a).2) := by
  obtain ⟨k, hk⟩ : ∃ k, l.length - a = k + 1 := ⟨l.length - a - 1, by omega⟩
  have := (nw_bd l a ha hl).1
  rw [hk, wdG, if_pos ha, wdG_fuel l hl k (l.length - (a + (nwF l a).2)) _ (by omega) (Nat.le_refl _)]
theorem Try.size110 : (Try.prog.info? 110).map (·.size) = some 3 := by kernel_rfl
set_option maxRecDepth 100000 in
set_option maxHeartbeats 4000000 in
theorem words_is (w : World) (v : Value) (l : List Int) (hn : l.length ≤ 1024) (hl : ∀ k, 0 ≤ l.getD k 0 ∧ l.getD k 0 ≤ 15) (h : Ints w.heap.size w v l) :
    Calls Try.prog 39 #[v] w fun e w' => ∃ u, e = .returned u ∧ OwnW w.heap.size w' u (wdF l) ∧ Below w.heap.size w w' := by
  have HNW : Box' (∀ (wq : World) (a : Nat), a < l.length → Below w.heap.size w wq → Calls Try.prog 63 #[v, .int .i64 (a : Int)] wq fun e w' => e = .returned (.tuple #[.agg #[.int .i64 (nwF l a).1.1, .int .u64 ((nwF l a).1.2.1 : Int), .int .i64 ((nwF l a).1.2.2 : Int)], .int .i64 ((nwF l a).2 : Int)]) ∧ Below wq.heap.size wq w') := ⟨fun wq a ha hb => nextWord_is wq v l a hn ha ((h.below hb (Nat.le_refl _)).up hb.size)⟩
  have HST := Box'.mk (fun a (ha : a < l.length) => wd_step hl ha)
  have HBD := Box'.mk (fun a (ha : a < l.length) => nw_bd l a ha hl)
  have HEN := Box'.mk (fun a (ha : l.length ≤ a) => wdG_end l (l.length - a) a ha)
  have HWF : Box' (wdF l = wdG l l.length 0) := ⟨rfl⟩
  obtain ⟨va, vc, rfl, hvc, _⟩ := h
  obtain ⟨n, hnn⟩ : ∃ n, l.length = n := ⟨_, rfl⟩
  rw [hnn] at HNW HST HBD HEN HWF hn hvc ⊢
  clear hnn hl
  go_enter Try.func39, Try.ntmps39
  go_wp2_with fail
  go_loopw [3, 4] (fun tk i wr => ∃ (a : Nat) (T : List Wd), a ≤ n ∧ i = .int .i64 (a : Int) ∧ T.length ≤ a ∧ Box' (OwnW w.heap.size wr tk T) ∧ Box' (T ++ wdG l (n - a) a = wdF l) ∧ Box' (Below w.heap.size w wr)) (fun _ i _ => n - (intOf i).toNat)
  case atStart => exact ⟨0, [], Nat.zero_le _, rfl, Nat.le_refl _, ⟨OwnW.nil _ _⟩, ⟨by rw [HWF.out]; rfl⟩, ⟨Below.refl _ _⟩⟩
  case round =>
    obtain ⟨a, T, han, rfl, hTa, HO, HM, HB⟩ := hrel
    obtain ⟨ta, tcap, rfl⟩ := HO.out.slice
    by_cases hlt : a < n
    · have L1 := Box'.mk (HNW.out wr a hlt HB.out)
      obtain ⟨b1, b2, b3, b4, b5, b6⟩ := HBD.out a hlt
      have hst := HST.out a hlt
      have hm := HM.out
      rw [hst] at hm
      have HM2 : Box' (T ++ [(nwF l a).1] ++ wdG l (n - (a + (nwF l a).2)) (a + (nwF l a).2) = wdF l) := ⟨by rw [← hm]; simp⟩
      clear hm hst HM
      generalize nwF l a = X at *
      obtain ⟨⟨x0, x1, x2⟩, x3⟩ := X
      simp only at L1 b1 b2 b3 b4 b5 b6 HM2
      clear b6 b3 b4 b5
      go_wp2_with fail
      refine L1.out.mono ?_
      rintro e w5 ⟨rfl, b5'⟩
      obtain ⟨w6, hw6⟩ : ∃ w6, w5.alloc (.cells #[.int .i64 x0, .int .u64 (x1 : Int), .int .i64 (x2 : Int)] 110) = w6 := ⟨_, rfl⟩
      have bb6 : Below w5.heap.size w5 w6 := by rw [← hw6]; exact (Below.refl _ _).alloc (Nat.le_refl _) _
      have R8 : Box' (Row w6 w5.heap.size 110 #[.int .i64 x0, .int .u64 (x1 : Int), .int .i64 (x2 : Int)]) := ⟨by rw [← hw6]; exact Row.new _ _ _⟩
      have hB5 := HB.out.trans (b5'.mono HB.out.size)
      have B6 := Box'.mk (hB5.trans (bb6.mono hB5.size))
      have O6 := Box'.mk ((HO.out.below b5').below bb6)
      have HW6 := Box'.mk hw6
      clear L1 hw6 bb6 hB5 HO HB b5'
      go_upto_region 5 with (fail)
      rw [HW6.out]
      clear HW6
      have N7 : Box' (Below w6.heap.size w6 (w6.alloc (.cells #[.int .i64 x0, .int .u64 (x1 : Int), .int .i64 (x2 : Int)] 110))) := ⟨(Below.refl _ _).alloc (Nat.le_refl _) _⟩
      have Rn : Box' (Row (w6.alloc (.cells #[.int .i64 x0, .int .u64 (x1 : Int), .int .i64 (x2 : Int)] 110)) w6.heap.size 110 #[.int .i64 x0, .int .u64 (x1 : Int), .int .i64 (x2 : Int)]) := ⟨Row.new _ _ _⟩
      have O7 := Box'.mk (O6.out.below N7.out)
      have B7 := Box'.mk (B6.out.trans (N7.out.mono B6.out.size))
      have HN7 := Box'.mk B7.out.size
      go_upto_region 6 with (first | (refine wpList_load_row rfl 110 (.tmp 5) rfl _ rfl _ _ R8.out _ Try.underlying110 rfl 3 Try.size110 rfl ?_) | (refine wpList_appW rfl (.tmp 17) (.tmp 19) rfl w.heap.size HN7.out _ _ rfl O7.out _ _ (x0, x1, x2) rfl Rn.out (by omega) ?_; intro tk8 w8 o8 gr8 ow8) | fail)
      have B8 := Box'.mk (below_grownW B7.out (Nat.le_refl _) O7.out gr8)
      have O8 := Box'.mk o8
      clear o8 gr8 ow8 O7 B7 HN7 N7 Rn O6 R8 B6
      go_wp2_with fail
      go_roundw
      case rel => exact ⟨a + x3, T ++ [(x0, x1, x2)], by omega, by go_num, by rw [List.length_append]; show T.length + 1 ≤ _; omega, O8, HM2, B8⟩
      case measure => simp [intOf]; omega
    · obtain rfl : a = n := by omega
      have e : T = wdF l := by have := HM.out; rw [HEN.out a (Nat.le_refl _), List.append_nil] at this; exact this
      have HOe : Box' (OwnW w.heap.size wr (.slice ta T.length tcap) (wdF l)) := ⟨by rw [← e]; exact HO.out⟩
      clear e
      go_wp2_with fail
      go_ret
      exact ⟨_, rfl, HOe.out, HB.out⟩
end Go.Proofs.Ytcjfaahlchbcmaa
