/- The program's Tick, where it may be asked. -/
import Derived.Test.YtikkekdmahdgaaaTl
namespace Go.Proofs.Ytikkekdmahdgaaa
open Go.RowKit Go.BigFrame
set_option linter.unusedSimpArgs false
set_option linter.unusedVariables false
set_option maxRecDepth 100000
set_option maxHeartbeats 4000000

def TickQ (w w' : World) (p g n c f0 tm now seen : Nat) (any : Bool) (x : List UInt8) (rs : List (List UInt8)) (so : Bool) (e : Ending) : Prop :=
  if so = false then e = .returned (.tuple #[.agg z41, .bool false, .int .i64 0]) ∧ Row w' p 78 #[sT x, .slice (some ⟨g, 0, none⟩) n c, .int .u64 (f0 : Int), .bool any, .int .u64 (tm : Int), .int .u64 (now : Int)] ∧ Tch (fun k => k = p) w w'
  else if (sfF rs).2 = false then e = .returned (.tuple #[.agg z41, .bool false, .int .i64 99]) ∧ Below w.heap.size w w'
  else ∃ vb g' c', e = .returned (.tuple #[.agg (a5 f0 rs.length vb), .bool true, .int .i64 0]) ∧ Row w' p 78 #[sT x, .slice (some ⟨g', 0, none⟩) rs.length c', .int .u64 (f0 : Int), .bool true, .int .u64 (now : Int), .int .u64 (now : Int)] ∧ rs.length ≤ c' ∧ (g' = g ∨ w.heap.size ≤ g') ∧ g' ≠ p ∧ TxR w' g' rs ∧ OwnB w.heap.size w' vb (sfF rs).1 ∧ (∀ k, vb.ownBlock = some k → k ≠ g') ∧ Tch (fun k => k = p) w w'
theorem tickGood (p g n c f0 tm now seen : Nat) (any : Bool) (ts : List (List UInt8)) (x : List UInt8) (pace timeout : Int) (w : World) (hr : Row w p 78 #[sT x, .slice (some ⟨g, 0, none⟩) n c, .int .u64 (f0 : Int), .bool any, .int .u64 (tm : Int), .int .u64 (seen : Int)]) (hgp : p ≠ g)
    (ht : TxR w g ts) (hn : ts.length = n) (h0 : 0 < n) (h32 : n ≤ 32) (hc : n ≤ c) (ho : any = true → tm ≤ now) (hnow : now < 18446744073709551616) (p0 : 0 ≤ pace) (p1 : pace < 9223372036854775808) (t0 : 0 ≤ timeout) (t1 : timeout < 9223372036854775808) (hsn : seen ≤ now)
    (hl : ∀ k, k < n → (ts.getD k []).length ≤ 140737488351232) (hx : x.length ≤ 140737488351232) (hf : f0 + n + 1 ≤ 18446744073709551616)
    (fr al : Bool) (hfr : (!decide (ts.getD (n - 1) [] = x) && decide (n < 32) && aft any tm now pace) = fr) (hal : ((decide (1 < n) && aft any tm now timeout) || aft any tm now 3000) = al) :
    Calls Try.prog 13 #[.pointer (some ⟨p, 0, none⟩), .int .u64 (now : Int), .int .i64 pace, .int .i64 timeout] w fun e w' => TickQ w w' p g n c f0 tm now seen any x (rsF ts x fr) (fr || al) e := by
  obtain ⟨w1, hw1⟩ : ∃ w1, w1 = alc5 w p now pace timeout := ⟨_, rfl⟩
  have X := alc5_bx w p now pace timeout
  rw [← hw1] at X
  obtain ⟨i, hi, hci⟩ := ErrR_int (rsF ts x fr) (fr || al)
  have hr1 := hr.below X.b hr.lt
  have ht1 := ht.below X.b
  have th := there_any p n c _ w1 (hr1.cell 1) h0
  obtain ⟨w5, hw5⟩ : ∃ w5, w5 = (w1.alloc (.cells #[.slice none 0 0] 76)).drew := ⟨_, rfl⟩
  have z5 : w1.heap.size = w.heap.size + 5 := X.z
  have b15 : Below w1.heap.size w1 w5 := by rw [hw5]; exact ((Below.refl _ _).alloc (Nat.le_refl _) _).drew
  have b5 : Below w.heap.size w w5 := X.b.trans (b15.mono (by have := X.z; omega))
  have zz : w5.heap.size = w.heap.size + 6 := by
    rw [hw5]
    show (w1.alloc (.cells #[.slice none 0 0] 76)).heap.size = _
    simp [z5]
  have r11 : Row w5 (w.heap.size + 5) 76 #[.slice none 0 0] := by rw [hw5]; exact Row.drew (Row.made _ _ _ _ _ rfl z5.symm)
  have q4 := X.r4.below b15 X.r4.lt
  have q5 := X.r5.below b15 X.r5.lt
  have q8 := X.r8.below b15 X.r8.lt
  have hr5 := hr1.below b15 hr1.lt
  have hg := ht.1
  have hpl := hr.lt
  have AK := tickAsk w.heap.size (w.heap.size + 1) (w.heap.size + 2) (w.heap.size + 3) (w.heap.size + 5) p g n c f0 tm now seen any ts x pace timeout w5 q4 q5 (X.r6.below b15 X.r6.lt) (X.r7.below b15 X.r7.lt) r11 hr5 (by omega) (ht1.below b15) hn h0 h32 hc ho hnow p0 p1 t0 t1 hl hx hf fr al hfr hal i hi
  have hrs : 0 < (rsF ts x fr).length ∧ (rsF ts x fr).length ≤ n + 1 := by unfold rsF; split <;> (try simp only [List.length_append, List.length_cons, List.length_nil]) <;> omega
  have C4 : Box' (∀ wa : World, wa = w1.drew → wa.cell? ⟨w.heap.size, 0, none⟩ = some (.pointer (some ⟨p, 0, none⟩))) := ⟨fun wa e => by subst e; exact X.r4.cell 0⟩
  have C5 : Box' (∀ wa : World, wa = w1.drew → wa.cell? ⟨w.heap.size + 1, 0, none⟩ = some (.int .u64 (now : Int))) := ⟨fun wa e => by subst e; exact X.r5.cell 0⟩
  have C6 : Box' (∀ wa : World, wa = w1.drew → wa.cell? ⟨w.heap.size + 2, 0, none⟩ = some (.int .i64 pace)) := ⟨fun wa e => by subst e; exact X.r6.cell 0⟩
  have C7 : Box' (∀ wa : World, wa = w1.drew → wa.cell? ⟨w.heap.size + 3, 0, none⟩ = some (.int .i64 timeout)) := ⟨fun wa e => by subst e; exact X.r7.cell 0⟩
  have CP : Box' (∀ wa : World, wa = w1.drew → wa.cell? ⟨p, 5, none⟩ = some (.int .u64 (seen : Int))) := ⟨fun wa e => by subst e; exact hr1.cell 5⟩
  have c4 := X.r4.cell 0
  have hmf : ∀ (fn : Fn) (first cap : Array Value) (w : World), (Instr.makeFunc fn first cap).run Try.prog w = .ok (.func fn first cap) w := fun _ _ _ _ => rfl
  have Q4 := Box'.mk q4
  have Q5 := Box'.mk q5
  have Q8 := Box'.mk q8
  have HR5 := Box'.mk hr5
  have B5 := Box'.mk b5
  have ZZ := Box'.mk zz
  have Z5 := Box'.mk z5
  have RS := Box'.mk hrs
  unfold alc5 at hw1
  unfold z41 at hw1
  generalize rsF ts x fr = rs at *
  generalize hso : (fr || al) = so at *
  clear X hr hr1 ht ht1 hn hl hx hf hfr hal q4 q5 q8 r11 hr5 b15 b5 zz z5 hi hrs hso ho
  go_enter Try.func13, Try.ntmps13
  go_upto_region 1 with (fail)
  rw [← hw1]
  clear hw1
  go_wp2_with fail
  refine th.mono ?_
  rintro e w2 ⟨rfl, ew⟩
  obtain rfl : w1 = w2 := ew.symm
  clear th ew c4
  go_upto_region 3 with (fail)
  refine wp_region_lex (fun wa => wa = w1.drew) (by kernel_rfl) (by kernel_rfl) rfl ?_
  go_big_quiet_want
  refine qC_load3 (.tmp 6) rfl (w.heap.size + 2) 0 _ rfl C6.out ?_
  simp only [Act.put, List.setIfInBounds_toArray, List.set_cons_succ, List.set_cons_zero]
  go_big_quiet_on
  go_big_quiet_want
  refine qC_of (.bool false) (fun wq hC => by unfold execOp; simp [go_sem] <;> omega) ?_
  simp only [Act.put, List.setIfInBounds_toArray, List.set_cons_succ, List.set_cons_zero]
  go_big_quiet_on
  go_big_quiet_want
  go_big_quiet_op
  first | go_big_quiet_on | (refine ⟨_, fun _ _ => rfl, ?_⟩; go_big_quiet_on) | (refine ⟨_, fun _ _ _ => rfl, ?_⟩; go_big_quiet_on)
  go_big_quiet_want
  refine qC_load3 (.tmp 7) rfl (w.heap.size + 3) 0 _ rfl C7.out ?_
  simp only [Act.put, List.setIfInBounds_toArray, List.set_cons_succ, List.set_cons_zero]
  go_big_quiet_on
  go_big_quiet_want
  refine qC_of (.bool false) (fun wq hC => by unfold execOp; simp [go_sem] <;> omega) ?_
  simp only [Act.put, List.setIfInBounds_toArray, List.set_cons_succ, List.set_cons_zero]
  go_big_quiet_on
  go_big_quiet_want
  go_big_quiet_op
  first | go_big_quiet_on | (refine ⟨_, fun _ _ => rfl, ?_⟩; go_big_quiet_on) | (refine ⟨_, fun _ _ _ => rfl, ?_⟩; go_big_quiet_on)
  go_big_quiet_want
  go_big_quiet_op
  first | go_big_quiet_on | (refine ⟨_, fun _ _ => rfl, ?_⟩; go_big_quiet_on) | (refine ⟨_, fun _ _ _ => rfl, ?_⟩; go_big_quiet_on)
  go_big_quiet_want
  refine qC_load29 (.tmp 5) rfl (w.heap.size + 1) 0 _ rfl C5.out ?_
  simp only [Act.put, List.setIfInBounds_toArray, List.set_cons_succ, List.set_cons_zero]
  go_big_quiet_on
  go_big_quiet_want
  refine qC_load23 (.tmp 4) rfl w.heap.size 0 _ rfl C4.out ?_
  simp only [Act.put, List.setIfInBounds_toArray, List.set_cons_succ, List.set_cons_zero]
  go_big_quiet_on
  go_big_quiet_want
  go_big_quiet_op
  first | go_big_quiet_on | (refine ⟨_, fun _ _ => rfl, ?_⟩; go_big_quiet_on) | (refine ⟨_, fun _ _ _ => rfl, ?_⟩; go_big_quiet_on)
  go_big_quiet_want
  go_big_quiet_op
  first | go_big_quiet_on | (refine ⟨_, fun _ _ => rfl, ?_⟩; go_big_quiet_on) | (refine ⟨_, fun _ _ _ => rfl, ?_⟩; go_big_quiet_on)
  go_big_quiet_want
  refine qC_load29 (.tmp 26) rfl p 5 _ rfl CP.out ?_
  simp only [Act.put, List.setIfInBounds_toArray, List.set_cons_succ, List.set_cons_zero]
  go_big_quiet_on
  go_big_quiet_want
  refine qC_of (.bool false) (fun wq hC => by unfold execOp; simp [go_sem] <;> omega) ?_
  simp only [Act.put, List.setIfInBounds_toArray, List.set_cons_succ, List.set_cons_zero]
  go_big_quiet_on
  go_big_quiet_want
  go_big_quiet_op
  first | go_big_quiet_on | (refine ⟨_, fun _ _ => rfl, ?_⟩; go_big_quiet_on) | (refine ⟨_, fun _ _ _ => rfl, ?_⟩; go_big_quiet_on)
  refine wpQuiet_nil ?_
  rintro wz rfl
  clear C4 C5 C6 C7 CP
  go_upto_region 6 with (fail)
  rw [← hw5, Z5.out]
  clear hw5
  simp only [Nat.add_assoc, Nat.reduceAdd]
  go_wp2_with fail
  refine AK.mono ?_
  rintro e w6 ⟨v, A, M, rfl, r11, hd, hk, hM, hvM, ht6⟩
  have zz := ZZ.out
  obtain ⟨hA5, hA1⟩ := hk.cells
  obtain ⟨w7, hw7⟩ : ∃ w7, w7 = w6.setRow (w.heap.size + 4) A := ⟨_, rfl⟩
  have k4 := Q4.out.same (ht6.block _ Q4.out.lt (by show ¬ w.heap.size = w.heap.size + 5; omega))
  have k5 := Q5.out.same (ht6.block _ Q5.out.lt (by show ¬ w.heap.size + 1 = w.heap.size + 5; omega))
  have rm : Room w6 (w.heap.size + 4) 41 5 := (Q8.out.same (ht6.block _ Q8.out.lt (by show ¬ w.heap.size + 4 = w.heap.size + 5; omega))).room rfl
  have kp := HR5.out.same (ht6.block _ HR5.out.lt (by show ¬ p = w.heap.size + 5; omega))
  have R4 : Box' (Row w7 w.heap.size 23 #[.pointer (some ⟨p, 0, none⟩)]) := ⟨by rw [hw7]; exact k4.setRowOther _ _ (by omega)⟩
  have R5 : Box' (Row w7 (w.heap.size + 1) 29 #[.int .u64 (now : Int)]) := ⟨by rw [hw7]; exact k5.setRowOther _ _ (by omega)⟩
  have R8 : Box' (Row w7 (w.heap.size + 4) 41 A) := ⟨by rw [hw7]; exact rm.setRow _⟩
  have R11 : Box' (Row w7 (w.heap.size + 5) 76 #[v]) := ⟨by rw [hw7]; exact r11.setRowOther _ _ (by omega)⟩
  have RP : Box' (Row w7 p 78 #[sT x, .slice (some ⟨g, 0, none⟩) n c, .int .u64 (f0 : Int), .bool any, .int .u64 (tm : Int), .int .u64 (seen : Int)]) := ⟨by rw [hw7]; exact kp.setRowOther _ _ (by omega)⟩
  have D7 : Box' (DueR (w.heap.size + 6) w7 g rs so v) := ⟨by
    rw [hw7, ← zz]
    exact hd.same fun k hk _ => setRow_other _ _ _ _ (by omega)⟩
  have K7 : Box' (TolR M w7 f0 rs so A) := ⟨by
    rw [hw7]
    exact hk.below fun k hk _ => setRow_other _ _ _ _ (by omega)⟩
  have B7 : Box' (Below w.heap.size w w7) := ⟨by
    rw [hw7]
    exact below_setRow (B5.out.trans (ht6.below (by omega) (by intro k hk; omega))) _ _ (Nat.le_add_right _ _)⟩
  have HM : Box' (w.heap.size + 6 ≤ M) := ⟨by omega⟩
  have HV := Box'.mk hvM
  have HA5 := Box'.mk hA5
  have HA1 := Box'.mk hA1
  clear Q4 Q5 Q8 HR5 B5 ZZ Z5 AK r11 hd hk hM hvM ht6 k4 k5 kp hA5 hmf zz
  go_upto_region 7 with (refine wpList_store_row rfl 41 (.tmp 8) (.tmp 34) rfl (w.heap.size + 4) rfl A rfl 41 5 rm (by kernel_rfl) HA5.out hA1 ?_; rw [← hw7]; clear hw7 rm hA1)
  rcases hci with ⟨es, eo, rfl⟩ | hci
  · obtain ⟨w8, hw8⟩ : ∃ w8, w8 = w7.setRow (w.heap.size + 4) z41 := ⟨_, rfl⟩
    have rm : Room w7 (w.heap.size + 4) 41 5 := R8.out.room HA5.out
    have R9 : Box' (Row w8 (w.heap.size + 4) 41 z41) := ⟨by rw [hw8]; exact rm.setRow _⟩
    have B9 : Box' (Below w.heap.size w w8) := ⟨by rw [hw8]; exact below_setRow B7.out _ _ (Nat.le_add_right _ _)⟩
    have ES := Box'.mk es
    have EO := Box'.mk eo
    clear R4 R5 R8 R11 RP D7 K7 B7 HM HV HA5 HA1 es eo
    unfold z41 at hw8 R9
    go_wp2_with (refine wpList_store_row rfl 41 (.tmp 8) (.tmp 38) rfl (w.heap.size + 4) rfl _ rfl 41 5 rm (by kernel_rfl) rfl (by simp [Value.oneCell']) ?_; rw [← hw8]; clear rm hw8)
    refine bodyPost_ret (results_row2 rfl _ (w.heap.size + 4) rfl (.bool false) (.int .i64 99) rfl rfl 41 _ R9.out _ Try.underlying41 rfl 5 (by kernel_rfl) rfl) rfl ?_
    unfold TickQ
    rw [ES.out, EO.out, if_neg (by simp), if_pos rfl]
    exact ⟨rfl, B9.out⟩
  have hi0 : i = 0 := by rcases hci with h | h; exact h.2; exact h.2.2
  have hcj : so = false ∨ (so = true ∧ (sfF rs).2 = true) := by rcases hci with h | h; exact .inl h.1; exact .inr ⟨h.1, h.2.1⟩
  clear hci
  subst hi0
  obtain ⟨w8, hw8⟩ : ∃ w8, w8 = w7.setCell ⟨p, 5, none⟩ (.int .u64 (now : Int)) := ⟨_, rfl⟩
  have c4 := R4.out.cell 0
  have c5 := R5.out.cell 0
  have cp := RP.out.cell 5
  have fp := RP.out.frozen 5
  have S4 : Box' (Row w8 w.heap.size 23 #[.pointer (some ⟨p, 0, none⟩)]) := ⟨by rw [hw8]; exact R4.out.setOther _ _ (by show w.heap.size ≠ p; omega)⟩
  have S5 : Box' (Row w8 (w.heap.size + 1) 29 #[.int .u64 (now : Int)]) := ⟨by rw [hw8]; exact R5.out.setOther _ _ (by show w.heap.size + 1 ≠ p; omega)⟩
  have S8 : Box' (Row w8 (w.heap.size + 4) 41 A) := ⟨by rw [hw8]; exact R8.out.setOther _ _ (by show w.heap.size + 4 ≠ p; omega)⟩
  have S11 : Box' (Row w8 (w.heap.size + 5) 76 #[v]) := ⟨by rw [hw8]; exact R11.out.setOther _ _ (by show w.heap.size + 5 ≠ p; omega)⟩
  have SP : Box' (Row w8 p 78 #[sT x, .slice (some ⟨g, 0, none⟩) n c, .int .u64 (f0 : Int), .bool any, .int .u64 (tm : Int), .int .u64 (now : Int)]) := ⟨by rw [hw8]; exact RP.out.setCell 5 _⟩
  have D8 : Box' (DueR (w.heap.size + 6) w8 g rs so v) := ⟨by
    rw [hw8]
    exact D7.out.same fun k hk _ => Below.heap_setCell _ _ _ _ (by show k ≠ p; omega)⟩
  have K8 : Box' (TolR M w8 f0 rs so A) := ⟨by
    have := HM.out
    rw [hw8]
    exact K7.out.below fun k hk _ => Below.heap_setCell _ _ _ _ (by show k ≠ p; omega)⟩
  have T8 : Box' (Tch (fun k => k = p) w w8) := ⟨by
    rw [hw8]
    exact (Tch.of B7.out).set ⟨p, 5, none⟩ _ (.inl rfl)⟩
  clear R4 R5 R8 R11 RP D7 K7 B7
  go_upto_region 10 with (fail)
  rw [← hw8]
  clear hw8 c4 c5 cp fp
  have c11 := S11.out.cell 0
  rcases hcj with rfl | ⟨rfl, eo⟩
  · obtain rfl : v = .slice none 0 0 := by have := D8.out; unfold DueR at this; rwa [if_neg Bool.false_ne_true] at this
    obtain ⟨w9, hw9⟩ : ∃ w9, w9 = w8.setRow (w.heap.size + 4) z41 := ⟨_, rfl⟩
    have rm : Room w8 (w.heap.size + 4) 41 5 := S8.out.room HA5.out
    have R9 : Box' (Row w9 (w.heap.size + 4) 41 z41) := ⟨by rw [hw9]; exact rm.setRow _⟩
    have P9 : Box' (Row w9 p 78 #[sT x, .slice (some ⟨g, 0, none⟩) n c, .int .u64 (f0 : Int), .bool any, .int .u64 (tm : Int), .int .u64 (now : Int)]) := ⟨by rw [hw9]; exact SP.out.setRowOther _ _ (by omega)⟩
    have T9 : Box' (Tch (fun k => k = p) w w9) := ⟨by rw [hw9]; exact T8.out.setRow _ _ (Nat.le_add_right _ _)⟩
    clear S4 S5 S8 S11 SP D8 K8 T8 HM HV HA5 HA1
    unfold z41 at hw9 R9
    go_wp2_with (refine wpList_store_row rfl 41 (.tmp 8) (.tmp 47) rfl (w.heap.size + 4) rfl _ rfl 41 5 rm (by kernel_rfl) rfl (by simp [Value.oneCell']) ?_; rw [← hw9]; clear rm hw9)
    refine bodyPost_ret (results_row2 rfl _ (w.heap.size + 4) rfl (.bool false) (.int .i64 0) rfl rfl 41 _ R9.out _ Try.underlying41 rfl 5 (by kernel_rfl) rfl) rfl ?_
    unfold TickQ
    rw [if_pos rfl]
    exact ⟨rfl, P9.out, T9.out⟩
  obtain ⟨g', c', ev, hc', hg', ht'⟩ : ∃ g' c', v = .slice (some ⟨g', 0, none⟩) rs.length c' ∧ rs.length ≤ c' ∧ (g' = g ∨ w.heap.size + 6 ≤ g') ∧ TxR w8 g' rs := by have := D8.out; unfold DueR at this; rwa [if_pos rfl] at this
  obtain ⟨vb, eA, ob⟩ : ∃ vb, A = a5 f0 rs.length vb ∧ OwnB M w8 vb (sfF rs).1 := by have := K8.out; unfold TolR at this; rwa [if_pos rfl] at this
  subst ev
  have HT' := Box'.mk ht'
  have OB := Box'.mk ob
  have EA := Box'.mk eA
  have EO := Box'.mk eo
  have hr0 := RS.out.1
  clear D8 K8 ht' ob eA eo
  go_upto_region 12 with (fail)
  clear c11
  have C4 : Box' (∀ wa, Tch (fun k => k = p) w8 wa → wa.cell? ⟨w.heap.size, 0, none⟩ = some (.pointer (some ⟨p, 0, none⟩))) := ⟨fun wa h => (S4.out.same (h.block _ S4.out.lt (by show ¬ w.heap.size = p; omega))).cell 0⟩
  have C5 : Box' (∀ wa, Tch (fun k => k = p) w8 wa → wa.cell? ⟨w.heap.size + 1, 0, none⟩ = some (.int .u64 (now : Int))) := ⟨fun wa h => (S5.out.same (h.block _ S5.out.lt (by show ¬ w.heap.size + 1 = p; omega))).cell 0⟩
  have C11 : Box' (∀ wa, Tch (fun k => k = p) w8 wa → wa.cell? ⟨w.heap.size + 5, 0, none⟩ = some (.slice (some ⟨g', 0, none⟩) rs.length c')) := ⟨fun wa h => (S11.out.same (h.block _ S11.out.lt (by show ¬ w.heap.size + 5 = p; omega))).cell 0⟩
  refine wp_region_walk 14 (by kernel_rfl) (by kernel_rfl) (fun D f wa => PSt w8 wa p x (.slice (some ⟨g, 0, none⟩) n c) (.slice (some ⟨g', 0, none⟩) rs.length c') f0 any tm now (D 7) (D 10) (D 13) ∧ ∀ i, D i = true → (fun kc => kc == 7 || kc == 10 || kc == 13) i = false → f i = (fun kc => match kc with
      | 0 => .pointer (some ⟨p, 0, none⟩)
      | 1 => .pointer (some ⟨p, 0, none⟩)
      | 2 => .pointer (some ⟨p, 0, none⟩)
      | 3 => .slice (some ⟨g', 0, none⟩) rs.length c'
      | 4 => .int .u64 (now : Int)
      | 5 => .pointer (some ⟨p, 0, none⟩)
      | 6 => .pointer (some ⟨p, 1, none⟩)
      | 8 => .pointer (some ⟨p, 0, none⟩)
      | 9 => .pointer (some ⟨p, 4, none⟩)
      | 11 => .pointer (some ⟨p, 0, none⟩)
      | 12 => .pointer (some ⟨p, 3, none⟩)
      | _ => undef) i) ?_ ?_ ?_
  · exact fun f => ⟨⟨SP.out.drew, Tch.of (Below.refl _ _).drew⟩, fun i h => by cases h⟩
  · refine ⟨?_, ?_, ?_, ?_, ?_, ?_, ?_, ?_, ?_, ?_, ?_, ?_, ?_, ?_, trivial⟩
    · intro D f wq hJ hD hd KK hK
      have cx := C4.out wq hJ.1.2
      simp only [List.take_succ_cons, List.take_zero, setAll, List.setIfInBounds_toArray, List.set_cons_succ, List.set_cons_zero, Nat.zero_add, Nat.reduceAdd] at hK ⊢
      refine wp_of_quiet rfl ?_
      go_big_quiet_step (fail)
      exact wpQuiet_nil (hK _ _ ⟨hJ.1, vals_upd hJ.2 (.inr rfl)⟩)
    · intro D f wq hJ hD hd KK hK
      have cx := C4.out wq hJ.1.2
      simp only [List.take_succ_cons, List.take_zero, setAll, List.setIfInBounds_toArray, List.set_cons_succ, List.set_cons_zero, Nat.zero_add, Nat.reduceAdd] at hK ⊢
      refine wp_of_quiet rfl ?_
      go_big_quiet_step (fail)
      exact wpQuiet_nil (hK _ _ ⟨hJ.1, vals_upd hJ.2 (.inr rfl)⟩)
    · intro D f wq hJ hD hd KK hK
      have cx := C4.out wq hJ.1.2
      simp only [List.take_succ_cons, List.take_zero, setAll, List.setIfInBounds_toArray, List.set_cons_succ, List.set_cons_zero, Nat.zero_add, Nat.reduceAdd] at hK ⊢
      refine wp_of_quiet rfl ?_
      go_big_quiet_step (fail)
      exact wpQuiet_nil (hK _ _ ⟨hJ.1, vals_upd hJ.2 (.inr rfl)⟩)
    · intro D f wq hJ hD hd KK hK
      have cx := C11.out wq hJ.1.2
      simp only [List.take_succ_cons, List.take_zero, setAll, List.setIfInBounds_toArray, List.set_cons_succ, List.set_cons_zero, Nat.zero_add, Nat.reduceAdd] at hK ⊢
      refine wp_of_quiet rfl ?_
      go_big_quiet_step (fail)
      exact wpQuiet_nil (hK _ _ ⟨hJ.1, vals_upd hJ.2 (.inr rfl)⟩)
    · intro D f wq hJ hD hd KK hK
      have cx := C5.out wq hJ.1.2
      simp only [List.take_succ_cons, List.take_zero, setAll, List.setIfInBounds_toArray, List.set_cons_succ, List.set_cons_zero, Nat.zero_add, Nat.reduceAdd] at hK ⊢
      refine wp_of_quiet rfl ?_
      go_big_quiet_step (fail)
      exact wpQuiet_nil (hK _ _ ⟨hJ.1, vals_upd hJ.2 (.inr rfl)⟩)
    · intro D f wq hJ hD hd KK hK
      have g0 : f 0 = .pointer (some ⟨p, 0, none⟩) := hJ.2 0 (hd 0 (by kernel_rfl)) rfl
      simp only [List.take_succ_cons, List.take_zero, setAll, List.setIfInBounds_toArray, List.set_cons_succ, List.set_cons_zero, Nat.zero_add, Nat.reduceAdd, g0] at hK ⊢
      refine wp_of_quiet rfl ?_
      go_big_quiet_step (fail)
      exact wpQuiet_nil (hK _ _ ⟨hJ.1, vals_upd hJ.2 (.inr rfl)⟩)
    · intro D f wq hJ hD hd KK hK
      have g5 : f 5 = .pointer (some ⟨p, 0, none⟩) := hJ.2 5 (hd 5 (by kernel_rfl)) rfl
      simp only [List.take_succ_cons, List.take_zero, setAll, List.setIfInBounds_toArray, List.set_cons_succ, List.set_cons_zero, Nat.zero_add, Nat.reduceAdd, g5] at hK ⊢
      refine wp_of_quiet rfl ?_
      go_big_quiet_step (fail)
      exact wpQuiet_nil (hK _ _ ⟨hJ.1, vals_upd hJ.2 (.inr rfl)⟩)
    · intro D f wq hJ hD hd KK hK
      have g6 : f 6 = .pointer (some ⟨p, 1, none⟩) := hJ.2 6 (hd 6 (by kernel_rfl)) rfl
      have g3 : f 3 = .slice (some ⟨g', 0, none⟩) rs.length c' := hJ.2 3 (hd 3 (by kernel_rfl)) rfl
      simp only [List.take_succ_cons, List.take_zero, setAll, List.setIfInBounds_toArray, List.set_cons_succ, List.set_cons_zero, Nat.zero_add, Nat.reduceAdd, g6, g3] at hK ⊢
      exact wp_store76 (.tmp 54) (.tmp 51) rfl p 1 (some ⟨g', 0, none⟩) rs.length c' _ rfl rfl (hJ.1.1.cell 1) (hJ.1.1.frozen 1) (hK _ _ ⟨hJ.1.s1, vals_upd hJ.2 (.inl rfl)⟩)
    · intro D f wq hJ hD hd KK hK
      have g1 : f 1 = .pointer (some ⟨p, 0, none⟩) := hJ.2 1 (hd 1 (by kernel_rfl)) rfl
      simp only [List.take_succ_cons, List.take_zero, setAll, List.setIfInBounds_toArray, List.set_cons_succ, List.set_cons_zero, Nat.zero_add, Nat.reduceAdd, g1] at hK ⊢
      refine wp_of_quiet rfl ?_
      go_big_quiet_step (fail)
      exact wpQuiet_nil (hK _ _ ⟨hJ.1, vals_upd hJ.2 (.inr rfl)⟩)
    · intro D f wq hJ hD hd KK hK
      have g8 : f 8 = .pointer (some ⟨p, 0, none⟩) := hJ.2 8 (hd 8 (by kernel_rfl)) rfl
      simp only [List.take_succ_cons, List.take_zero, setAll, List.setIfInBounds_toArray, List.set_cons_succ, List.set_cons_zero, Nat.zero_add, Nat.reduceAdd, g8] at hK ⊢
      refine wp_of_quiet rfl ?_
      go_big_quiet_step (fail)
      exact wpQuiet_nil (hK _ _ ⟨hJ.1, vals_upd hJ.2 (.inr rfl)⟩)
    · intro D f wq hJ hD hd KK hK
      have g9 : f 9 = .pointer (some ⟨p, 4, none⟩) := hJ.2 9 (hd 9 (by kernel_rfl)) rfl
      have g4 : f 4 = .int .u64 (now : Int) := hJ.2 4 (hd 4 (by kernel_rfl)) rfl
      simp only [List.take_succ_cons, List.take_zero, setAll, List.setIfInBounds_toArray, List.set_cons_succ, List.set_cons_zero, Nat.zero_add, Nat.reduceAdd, g9, g4] at hK ⊢
      exact wp_store29 (.tmp 56) (.tmp 52) rfl p 4 (now : Int) _ rfl rfl (hJ.1.1.cell 4) (hJ.1.1.frozen 4) (hK _ _ ⟨hJ.1.s2, vals_upd hJ.2 (.inl rfl)⟩)
    · intro D f wq hJ hD hd KK hK
      have g2 : f 2 = .pointer (some ⟨p, 0, none⟩) := hJ.2 2 (hd 2 (by kernel_rfl)) rfl
      simp only [List.take_succ_cons, List.take_zero, setAll, List.setIfInBounds_toArray, List.set_cons_succ, List.set_cons_zero, Nat.zero_add, Nat.reduceAdd, g2] at hK ⊢
      refine wp_of_quiet rfl ?_
      go_big_quiet_step (fail)
      exact wpQuiet_nil (hK _ _ ⟨hJ.1, vals_upd hJ.2 (.inr rfl)⟩)
    · intro D f wq hJ hD hd KK hK
      have g11 : f 11 = .pointer (some ⟨p, 0, none⟩) := hJ.2 11 (hd 11 (by kernel_rfl)) rfl
      simp only [List.take_succ_cons, List.take_zero, setAll, List.setIfInBounds_toArray, List.set_cons_succ, List.set_cons_zero, Nat.zero_add, Nat.reduceAdd, g11] at hK ⊢
      refine wp_of_quiet rfl ?_
      go_big_quiet_step (fail)
      exact wpQuiet_nil (hK _ _ ⟨hJ.1, vals_upd hJ.2 (.inr rfl)⟩)
    · intro D f wq hJ hD hd KK hK
      have g12 : f 12 = .pointer (some ⟨p, 3, none⟩) := hJ.2 12 (hd 12 (by kernel_rfl)) rfl
      simp only [List.take_succ_cons, List.take_zero, setAll, List.setIfInBounds_toArray, List.set_cons_succ, List.set_cons_zero, Nat.zero_add, Nat.reduceAdd, g12] at hK ⊢
      exact wp_store4 (.tmp 58) (.const (.bool true)) rfl p 3 true _ rfl rfl (hJ.1.1.cell 3) (hJ.1.1.frozen 3) (hK _ _ ⟨hJ.1.s3, vals_upd hJ.2 (.inl rfl)⟩)
  · intro D f wz hD hJ
    have hW := hJ.1
    rw [hD 7 (by decide)] at hW
    rw [hD 10 (by decide)] at hW
    rw [hD 13 (by decide)] at hW
    have p0 : f 0 = .pointer (some ⟨p, 0, none⟩) := hJ.2 0 (hD 0 (by decide)) rfl
    have p1 : f 1 = .pointer (some ⟨p, 0, none⟩) := hJ.2 1 (hD 1 (by decide)) rfl
    have p2 : f 2 = .pointer (some ⟨p, 0, none⟩) := hJ.2 2 (hD 2 (by decide)) rfl
    have p3 : f 3 = .slice (some ⟨g', 0, none⟩) rs.length c' := hJ.2 3 (hD 3 (by decide)) rfl
    have p4 : f 4 = .int .u64 (now : Int) := hJ.2 4 (hD 4 (by decide)) rfl
    have p5 : f 5 = .pointer (some ⟨p, 0, none⟩) := hJ.2 5 (hD 5 (by decide)) rfl
    have p6 : f 6 = .pointer (some ⟨p, 1, none⟩) := hJ.2 6 (hD 6 (by decide)) rfl
    have p8 : f 8 = .pointer (some ⟨p, 0, none⟩) := hJ.2 8 (hD 8 (by decide)) rfl
    have p9 : f 9 = .pointer (some ⟨p, 4, none⟩) := hJ.2 9 (hD 9 (by decide)) rfl
    have p11 : f 11 = .pointer (some ⟨p, 0, none⟩) := hJ.2 11 (hD 11 (by decide)) rfl
    have p12 : f 12 = .pointer (some ⟨p, 3, none⟩) := hJ.2 12 (hD 12 (by decide)) rfl
    clear hJ hD
    simp only [List.take_succ_cons, List.take_zero, List.drop_succ_cons, List.drop_zero, setAll, List.setIfInBounds_toArray, List.set_cons_succ, List.set_cons_zero, Nat.zero_add, Nat.reduceAdd, p0, p1, p2, p3, p4, p5, p6, p8, p9, p11, p12]
    clear p0 p1 p2 p3 p4 p5 p6 p8 p9 p11 p12
    generalize f 7 = y7 at *
    generalize f 10 = y10 at *
    generalize f 13 = y13 at *
    obtain ⟨rp, tp⟩ := hW
    have zg := HT'.out.1
    have zM := HM.out
    have hgp' : g' ≠ p := by omega
    have r8 := S8.out.same (tp.block _ S8.out.lt (by show ¬ w.heap.size + 4 = p; omega))
    obtain ⟨w9, hw9⟩ : ∃ w9, w9 = wz.setRow (w.heap.size + 4) A := ⟨_, rfl⟩
    have R8 := Box'.mk r8
    have rm : Room wz (w.heap.size + 4) 41 5 := r8.room HA5.out
    have R9 : Box' (Row w9 (w.heap.size + 4) 41 A) := ⟨by rw [hw9]; exact rm.setRow _⟩
    have P9 : Box' (Row w9 p 78 #[sT x, .slice (some ⟨g', 0, none⟩) rs.length c', .int .u64 (f0 : Int), .bool true, .int .u64 (now : Int), .int .u64 (now : Int)]) := ⟨by rw [hw9]; exact rp.setRowOther _ _ (by omega)⟩
    have X9 : Box' (TxR w9 g' rs) := ⟨by
      rw [hw9]
      exact HT'.out.same ((setRow_other _ _ _ _ (by omega)).trans (tp.block _ zg hgp'))⟩
    have O9 : Box' (OwnB M w9 vb (sfF rs).1) := ⟨by
      rw [hw9]
      refine OB.out.sameB fun k hk => ?_
      have := World.ownsRow.lt OB.out k hk
      exact (setRow_other _ _ _ _ (by omega)).trans (tp.block _ this.2 (by show ¬ k = p; omega))⟩
    have T9 : Box' (Tch (fun k => k = p) w w9) := ⟨by rw [hw9]; exact (T8.out.trans tp (fun _ h => .inl h)).setRow _ _ (Nat.le_add_right _ _)⟩
    have HG : Box' (∀ k, vb.ownBlock = some k → k ≠ g') := ⟨fun k hk => by
      have h1 := (World.ownsRow.lt OB.out k hk).1
      have h2 := HV.out g' (by simp [Value.ownBlock])
      omega⟩
    clear C4 C5 C11 S4 S5 S8 S11 SP T8 HT' OB HV rp tp r8
    go_wp2_with (first
      | (refine wpList_load_row rfl 41 (.tmp 8) rfl (w.heap.size + 4) rfl 41 _ R8.out _ Try.underlying41 rfl 5 (by kernel_rfl) HA5.out ?_)
      | (refine wpList_store_row rfl 41 (.tmp 8) (.tmp 59) rfl (w.heap.size + 4) rfl A rfl 41 5 rm (by kernel_rfl) HA5.out HA1.out ?_; rw [← hw9]; clear hw9 rm))
    refine bodyPost_ret (results_row2 rfl _ (w.heap.size + 4) rfl (.bool true) (.int .i64 0) rfl rfl 41 _ R9.out _ Try.underlying41 rfl 5 (by kernel_rfl) HA5.out) rfl ?_
    unfold TickQ
    rw [if_neg (by simp), EO.out, if_neg (by simp)]
    exact ⟨vb, g', c', by rw [EA.out], P9.out, hc', by omega, hgp', X9.out, O9.out.less (by omega), HG.out, T9.out⟩
end Go.Proofs.Ytikkekdmahdgaaa
