/- Which row is told now: the program's due. -/
import Derived.Test.YtikkekdmahdgaaaTg
namespace Go.Proofs.Ytikkekdmahdgaaa
open Go.RowKit Go.BigFrame
set_option linter.unusedSimpArgs false
set_option linter.unusedVariables false
set_option maxRecDepth 100000
set_option maxHeartbeats 4000000

theorem cut_to76 (g n c k : Nat) (hk : k ≤ c) (w : World) : (Instr.sliceAt 76 (.slice (some ⟨g, 0, none⟩) n c) none (some (.int .i64 (k : Int))) (some (.int .i64 (k : Int)))).run Try.prog w = .ok (.slice (some ⟨g, 0, none⟩) k k) w := by
  rw [run_sliceAt_slice w 76 _ _ _ _ (by kernel_rfl), run_slice_hm w 76 _ n c (by kernel_rfl) _ _ _ _ (by omega) (by omega) (by omega), elem26, size26]
  simp only [Result.andThen_ok, Int.toNat_natCast, sliced, Option.map_some, Addr.add_mid, Nat.zero_mul, Nat.zero_add, Nat.sub_zero, ite_self]
theorem wp_build76 {op : Oper} {a : Act} {w : World} {K : Act → World → Prop} {Q : Exit → Act → World → Prop} (t : Tmp) (ho : op.op = .buildSlice 76 1 #[(0, .tmp t)]) (x : Value) (hx : a.eval (.tmp t) = .agg #[x]) (h : K (a.put op.dst (.slice (some ⟨w.heap.size, 0, none⟩) 1 1)) (w.alloc (.cells #[x] 26))) : op.wp Try.prog a w K Q := by
  unfold Oper.wp execOp
  have hx' : a.tmps[t]?.getD undef = .agg #[x] := by simpa [Act.eval] using hx
  simp [ho, go_sem, hx']
  exact h
/-- Whether so many milliseconds have gone since, or nothing was sent. -/
def aft (any : Bool) (tm now : Nat) (ms : Int) : Bool := !any || decide (ms ≤ ((now - tm : Nat) : Int))
def dueV (N : Nat) (w : World) (g n c : Nat) (ts : List (List UInt8)) (x : List UInt8) (fr al : Bool) (v : Value) : Prop :=
  if fr = true then ∃ g' c', v = .slice (some ⟨g', 0, none⟩) (n + 1) c' ∧ n + 1 ≤ c' ∧ N ≤ g' ∧ TxR w g' (ts ++ [x]) else if al = true then v = .slice (some ⟨g, 0, none⟩) n c else v = .slice none 0 0
theorem due_any (p g n c f0 tm now seen : Nat) (any : Bool) (ts : List (List UInt8)) (x : List UInt8) (pace timeout : Int) (w : World) (hr : Row w p 78 #[sT x, .slice (some ⟨g, 0, none⟩) n c, .int .u64 (f0 : Int), .bool any, .int .u64 (tm : Int), .int .u64 (seen : Int)])
    (ht : TxR w g ts) (hn : ts.length = n) (h0 : 0 < n) (h32 : n ≤ 32) (hc : n ≤ c) (ho : any = true → tm ≤ now) (hnow : now < 18446744073709551616) (p0 : 0 ≤ pace) (p1 : pace < 9223372036854775808) (t0 : 0 ≤ timeout) (t1 : timeout < 9223372036854775808) :
    Calls Try.prog 29 #[.pointer (some ⟨p, 0, none⟩), .int .u64 (now : Int), .int .i64 pace, .int .i64 timeout] w fun e w' => ∃ v, e = .returned v ∧ dueV w.heap.size w' g n c ts x (!decide (ts.getD (n - 1) [] = x) && decide (n < 32) && aft any tm now pace) ((decide (1 < n) && aft any tm now timeout) || aft any tm now 3000) v ∧ Below w.heap.size w w' := by
  obtain ⟨w1, hw1⟩ : ∃ w1, w1 = (w.alloc (.cells #[.pointer (some ⟨p, 0, none⟩)] 23)).alloc (.cells #[.int .u64 (now : Int)] 29) := ⟨_, rfl⟩
  have b1 : Below w.heap.size w w1 := by rw [hw1]; exact ((Below.refl _ _).alloc (Nat.le_refl _) _).alloc (by simp) _
  have r4 : Row w1 w.heap.size 23 #[.pointer (some ⟨p, 0, none⟩)] := by rw [hw1]; exact (Row.new _ _ _).alloc _
  have r5 : Row w1 (w.heap.size + 1) 29 #[.int .u64 (now : Int)] := by rw [hw1]; exact Row.made _ _ _ _ _ rfl (by simp)
  have r1 := hr.below b1 hr.lt
  have ht1 := ht.below b1
  have hm : ∀ v w, (method 232 26 v "Same").run Try.prog w = .ok (72, v) w := fun _ _ => by kernel_rfl
  have hmf : ∀ (fn : Fn) (first cap : Array Value) (w : World), (Instr.makeFunc fn first cap).run Try.prog w = .ok (.func fn first cap) w := fun _ _ _ _ => rfl
  have CN := Box'.mk fun (wa : World) (hb : Below w1.heap.size w1 wa) => (r4.below hb r4.lt).cell 0
  have CP0 := Box'.mk fun (wa : World) (hb : Below w1.heap.size w1 wa) => (r1.below hb r1.lt).cell 0
  have CP1 := Box'.mk fun (wa : World) (hb : Below w1.heap.size w1 wa) => (r1.below hb r1.lt).cell 1
  have CL := Box'.mk fun (wa : World) (hb : Below w1.heap.size w1 wa) => (ht1.below hb).at (n - 1) (by omega)
  have AF := Box'.mk fun (ms : Int) (m0 : 0 ≤ ms) (m1 : ms < 9223372036854775808) (wa : World) (hb : Below w1.heap.size w1 wa) => after_any w.heap.size (w.heap.size + 1) p any tm now ms wa ((r4.below hb r4.lt).cell 0) ((r5.below hb r5.lt).cell 0) ((r1.below hb r1.lt).cell 3) ((r1.below hb r1.lt).cell 4) hnow m0 m1 ho
  have AP := Box'.mk fun wa hb => AF.out pace p0 p1 wa hb
  have AT := Box'.mk fun wa hb => AF.out timeout t0 t1 wa hb
  have AH := Box'.mk fun wa hb => AF.out 3000 (by omega) (by omega) wa hb
  have SM := Box'.mk fun (wa : World) => same_any x (ts.getD (n - 1) []) wa
  have hlt1 := r4.lt
  have TX := Box'.mk fun (wa : World) (hb : Below w1.heap.size w1 wa) (j : Nat) (u : Value) (hu : (ts.map sT)[j]? = some u) => (ht1.below hb).2 j u hu
  have HN := Box'.mk hn
  have B1 := Box'.mk b1
  have c4 := r4.cell 0
  have cp1 := r1.cell 1
  clear AF hr ht hn ho hnow p0 p1 t0 t1 r4 r5 r1 ht1 b1
  have EP : Box' (aft any tm now pace = (!any || decide (pace ≤ ((now - tm : Nat) : Int)))) := ⟨rfl⟩
  have ET : Box' (aft any tm now timeout = (!any || decide (timeout ≤ ((now - tm : Nat) : Int)))) := ⟨rfl⟩
  have EH : Box' (aft any tm now 3000 = (!any || decide (3000 ≤ ((now - tm : Nat) : Int)))) := ⟨rfl⟩
  simp only [← EP.out] at AP
  simp only [← ET.out] at AT
  simp only [← EH.out] at AH
  clear EP ET EH
  generalize aft any tm now pace = A1 at *
  generalize aft any tm now timeout = A2 at *
  generalize aft any tm now 3000 = A3 at *
  generalize hls : ts.getD (n - 1) [] = ls at *
  clear hls
  unfold sT at *
  go_enter Try.func29, Try.ntmps29
  go_upto_region 2 with (fail)
  rw [← hw1]
  clear hw1
  go_upto_region 3 with (fail)
  clear c4 cp1
  by_cases h1 : n < 32
  · cases A1 with
    | false =>
      refine wp_region_lex (fun wa => Below w1.heap.size w1 wa) (by kernel_rfl) (by kernel_rfl) (Below.refl _ _).drew ?_
      go_big_quiet_want
      go_big_quiet_op
      first | go_big_quiet_on | (refine ⟨_, fun _ _ => rfl, ?_⟩; go_big_quiet_on) | (refine ⟨_, fun _ _ _ => rfl, ?_⟩; go_big_quiet_on)
      go_big_quiet_want
      refine qC_of (.bool true) (fun wq hC => by unfold execOp; simp [go_sem] <;> omega) ?_
      simp only [Act.put, List.setIfInBounds_toArray, List.set_cons_succ, List.set_cons_zero]
      go_big_quiet_on
      go_big_quiet_want
      go_big_quiet_op
      first | go_big_quiet_on | (refine ⟨_, fun _ _ => rfl, ?_⟩; go_big_quiet_on) | (refine ⟨_, fun _ _ _ => rfl, ?_⟩; go_big_quiet_on)
      go_big_quiet_want
      go_big_quiet_op
      first | go_big_quiet_on | (refine ⟨_, fun _ _ => rfl, ?_⟩; go_big_quiet_on) | (refine ⟨_, fun _ _ _ => rfl, ?_⟩; go_big_quiet_on)
      go_big_quiet_want
      go_big_quiet_op
      first | go_big_quiet_on | (refine ⟨_, fun _ _ => rfl, ?_⟩; go_big_quiet_on) | (refine ⟨_, fun _ _ _ => rfl, ?_⟩; go_big_quiet_on)
      go_big_quiet_want
      refine qC_call 45 #[.int .i64 pace, .pointer (some ⟨w.heap.size, 0, none⟩), .pointer (some ⟨w.heap.size + 1, 0, none⟩)] (.bool false) (fun w => by simp [go_sem]) (fun wa hC => (AP.out wa hC).mono fun e w' h => ⟨h.1, hC.trans (h.2.mono hC.size)⟩) ?_
      simp only [Act.put, List.setIfInBounds_toArray, List.set_cons_succ, List.set_cons_zero]
      go_big_quiet_on
      go_big_quiet_want
      go_big_quiet_op
      first | go_big_quiet_on | (refine ⟨_, fun _ _ => rfl, ?_⟩; go_big_quiet_on) | (refine ⟨_, fun _ _ _ => rfl, ?_⟩; go_big_quiet_on)
      go_big_quiet_want
      go_big_quiet_op
      first | go_big_quiet_on | (refine ⟨_, fun _ _ => rfl, ?_⟩; go_big_quiet_on) | (refine ⟨_, fun _ _ _ => rfl, ?_⟩; go_big_quiet_on)
      go_big_quiet_skip
      go_big_quiet_skip
      go_big_quiet_skip
      go_big_quiet_skip
      go_big_quiet_skip
      go_big_quiet_skip
      go_big_quiet_skip
      go_big_quiet_skip
      go_big_quiet_skip
      go_big_quiet_skip
      go_big_quiet_skip
      go_big_quiet_skip
      go_big_quiet_skip
      go_big_quiet_skip
      go_big_quiet_skip
      go_big_quiet_want
      go_big_quiet_op
      first | go_big_quiet_on | (refine ⟨_, fun _ _ => rfl, ?_⟩; go_big_quiet_on) | (refine ⟨_, fun _ _ _ => rfl, ?_⟩; go_big_quiet_on)
      go_big_quiet_want
      go_big_quiet_op
      first | go_big_quiet_on | (refine ⟨_, fun _ _ => rfl, ?_⟩; go_big_quiet_on) | (refine ⟨_, fun _ _ _ => rfl, ?_⟩; go_big_quiet_on)
      refine wpQuiet_nil ?_
      rintro wz bz
      have HF : Box' ((!decide (ls = x) && decide (n < 32) && false) = false) := ⟨by simp⟩
      by_cases h2 : 1 < n
      · go_wp2_with fail
        refine (AT.out wz bz).mono ?_
        rintro e w2 ⟨rfl, hw2⟩
        have b2 := bz.trans (hw2.mono bz.size)
        clear hw2 bz
        cases A2 with
        | true =>
          have cn2 := CN.out w2 b2
          have cp2 := CP1.out w2 b2
          have B2 := Box'.mk (B1.out.trans (b2.mono B1.out.size))
          clear b2 AH AT AP CN CP0 CP1 CL SM TX
          go_wp2_with fail
          go_ret
          exact ⟨_, rfl, by unfold dueV; rw [HF.out, if_neg Bool.false_ne_true, if_pos (by simp [h2])]; rfl, B2.out⟩
        | false =>
          go_wp2_with fail
          refine (AH.out w2 b2).mono ?_
          rintro e w3 ⟨rfl, hw3⟩
          have b3 := b2.trans (hw3.mono b2.size)
          have cn3 := CN.out w3 b3
          have cp3 := CP1.out w3 b3
          have B3 := Box'.mk (B1.out.trans (b3.mono B1.out.size))
          clear hw3 b3 AH AT AP CN CP0 CP1 CL SM TX
          cases A3 with
          | false =>
            clear cn3 cp3
            go_wp2_with fail
            go_ret
            exact ⟨_, rfl, by unfold dueV; rw [HF.out, if_neg Bool.false_ne_true, if_neg (by simp)]; rfl, B3.out⟩
          | true =>
            go_wp2_with fail
            go_ret
            exact ⟨_, rfl, by unfold dueV; rw [HF.out, if_neg Bool.false_ne_true, if_pos (by simp)]; rfl, B3.out⟩
      · go_wp2_with fail
        refine (AH.out wz bz).mono ?_
        rintro e w3 ⟨rfl, hw3⟩
        have b3 := bz.trans (hw3.mono bz.size)
        have cn3 := CN.out w3 b3
        have cp3 := CP1.out w3 b3
        have B3 := Box'.mk (B1.out.trans (b3.mono B1.out.size))
        clear hw3 b3 AH AT AP CN CP0 CP1 CL SM TX
        cases A3 with
        | false =>
          clear cn3 cp3
          go_wp2_with fail
          go_ret
          exact ⟨_, rfl, by unfold dueV; rw [HF.out, if_neg Bool.false_ne_true, if_neg (by simp [h2])]; rfl, B3.out⟩
        | true =>
          go_wp2_with fail
          go_ret
          exact ⟨_, rfl, by unfold dueV; rw [HF.out, if_neg Bool.false_ne_true, if_pos (by simp)]; rfl, B3.out⟩
    | true =>
      by_cases hs : ls = x
      · have hS : (x == ls) = true := by rw [beq_iff_eq]; exact hs.symm
        refine wp_region_lex (fun wa => Below w1.heap.size w1 wa) (by kernel_rfl) (by kernel_rfl) (Below.refl _ _).drew ?_
        go_big_quiet_want
        go_big_quiet_op
        first | go_big_quiet_on | (refine ⟨_, fun _ _ => rfl, ?_⟩; go_big_quiet_on) | (refine ⟨_, fun _ _ _ => rfl, ?_⟩; go_big_quiet_on)
        go_big_quiet_want
        refine qC_of (.bool true) (fun wq hC => by unfold execOp; simp [go_sem] <;> omega) ?_
        simp only [Act.put, List.setIfInBounds_toArray, List.set_cons_succ, List.set_cons_zero]
        go_big_quiet_on
        go_big_quiet_want
        go_big_quiet_op
        first | go_big_quiet_on | (refine ⟨_, fun _ _ => rfl, ?_⟩; go_big_quiet_on) | (refine ⟨_, fun _ _ _ => rfl, ?_⟩; go_big_quiet_on)
        go_big_quiet_want
        go_big_quiet_op
        first | go_big_quiet_on | (refine ⟨_, fun _ _ => rfl, ?_⟩; go_big_quiet_on) | (refine ⟨_, fun _ _ _ => rfl, ?_⟩; go_big_quiet_on)
        go_big_quiet_want
        go_big_quiet_op
        first | go_big_quiet_on | (refine ⟨_, fun _ _ => rfl, ?_⟩; go_big_quiet_on) | (refine ⟨_, fun _ _ _ => rfl, ?_⟩; go_big_quiet_on)
        go_big_quiet_want
        refine qC_call 45 #[.int .i64 pace, .pointer (some ⟨w.heap.size, 0, none⟩), .pointer (some ⟨w.heap.size + 1, 0, none⟩)] (.bool true) (fun w => by simp [go_sem]) (fun wa hC => (AP.out wa hC).mono fun e w' h => ⟨h.1, hC.trans (h.2.mono hC.size)⟩) ?_
        simp only [Act.put, List.setIfInBounds_toArray, List.set_cons_succ, List.set_cons_zero]
        go_big_quiet_on
        go_big_quiet_want
        go_big_quiet_op
        first | go_big_quiet_on | (refine ⟨_, fun _ _ => rfl, ?_⟩; go_big_quiet_on) | (refine ⟨_, fun _ _ _ => rfl, ?_⟩; go_big_quiet_on)
        go_big_quiet_want
        go_big_quiet_op
        first | go_big_quiet_on | (refine ⟨_, fun _ _ => rfl, ?_⟩; go_big_quiet_on) | (refine ⟨_, fun _ _ _ => rfl, ?_⟩; go_big_quiet_on)
        go_big_quiet_want
        refine qC_load23 (.tmp 4) rfl w.heap.size 0 _ rfl CN.out ?_
        simp only [Act.put, List.setIfInBounds_toArray, List.set_cons_succ, List.set_cons_zero]
        go_big_quiet_on
        go_big_quiet_want
        go_big_quiet_op
        first | go_big_quiet_on | (refine ⟨_, fun _ _ => rfl, ?_⟩; go_big_quiet_on) | (refine ⟨_, fun _ _ _ => rfl, ?_⟩; go_big_quiet_on)
        go_big_quiet_want
        go_big_quiet_op
        first | go_big_quiet_on | (refine ⟨_, fun _ _ => rfl, ?_⟩; go_big_quiet_on) | (refine ⟨_, fun _ _ _ => rfl, ?_⟩; go_big_quiet_on)
        go_big_quiet_want
        refine qC_load26 (.tmp 28) rfl p 0 _ rfl CP0.out ?_
        simp only [Act.put, List.setIfInBounds_toArray, List.set_cons_succ, List.set_cons_zero]
        go_big_quiet_on
        go_big_quiet_want
        go_big_quiet_op
        first | go_big_quiet_on | (refine ⟨_, fun _ _ => rfl, ?_⟩; go_big_quiet_on) | (refine ⟨_, fun _ _ _ => rfl, ?_⟩; go_big_quiet_on)
        go_big_quiet_want
        refine qC_load23 (.tmp 4) rfl w.heap.size 0 _ rfl CN.out ?_
        simp only [Act.put, List.setIfInBounds_toArray, List.set_cons_succ, List.set_cons_zero]
        go_big_quiet_on
        go_big_quiet_want
        go_big_quiet_op
        first | go_big_quiet_on | (refine ⟨_, fun _ _ => rfl, ?_⟩; go_big_quiet_on) | (refine ⟨_, fun _ _ _ => rfl, ?_⟩; go_big_quiet_on)
        go_big_quiet_want
        go_big_quiet_op
        first | go_big_quiet_on | (refine ⟨_, fun _ _ => rfl, ?_⟩; go_big_quiet_on) | (refine ⟨_, fun _ _ _ => rfl, ?_⟩; go_big_quiet_on)
        go_big_quiet_want
        refine qC_load76 (.tmp 33) rfl p 1 _ rfl CP1.out ?_
        simp only [Act.put, List.setIfInBounds_toArray, List.set_cons_succ, List.set_cons_zero]
        go_big_quiet_on
        go_big_quiet_want
        go_big_quiet_op
        first | go_big_quiet_on | (refine ⟨_, fun _ _ => rfl, ?_⟩; go_big_quiet_on) | (refine ⟨_, fun _ _ _ => rfl, ?_⟩; go_big_quiet_on)
        go_big_quiet_want
        go_big_quiet_op
        first | go_big_quiet_on | (refine ⟨_, fun _ _ => rfl, ?_⟩; go_big_quiet_on) | (refine ⟨_, fun _ _ _ => rfl, ?_⟩; go_big_quiet_on)
        go_big_quiet_want
        go_big_quiet_op
        first | go_big_quiet_on | (refine ⟨_, fun _ _ => rfl, ?_⟩; go_big_quiet_on) | (refine ⟨_, fun _ _ _ => rfl, ?_⟩; go_big_quiet_on)
        go_big_quiet_want
        refine qC_load26 (.tmp 37) rfl g (n - 1) _ rfl CL.out ?_
        simp only [Act.put, List.setIfInBounds_toArray, List.set_cons_succ, List.set_cons_zero]
        go_big_quiet_on
        go_big_quiet_want
        refine qC_call 72 #[.agg #[.string ⟨x.toArray⟩], .agg #[.string ⟨ls.toArray⟩]] (.bool true) (fun w => by simp [go_sem, hm]) (fun wa hC => (SM.out wa).mono fun e w' h => ⟨by rw [h.1, hS], hC.trans (h.2.mono hC.size)⟩) ?_
        simp only [Act.put, List.setIfInBounds_toArray, List.set_cons_succ, List.set_cons_zero]
        go_big_quiet_on
        go_big_quiet_want
        go_big_quiet_op
        first | go_big_quiet_on | (refine ⟨_, fun _ _ => rfl, ?_⟩; go_big_quiet_on) | (refine ⟨_, fun _ _ _ => rfl, ?_⟩; go_big_quiet_on)
        go_big_quiet_want
        go_big_quiet_op
        first | go_big_quiet_on | (refine ⟨_, fun _ _ => rfl, ?_⟩; go_big_quiet_on) | (refine ⟨_, fun _ _ _ => rfl, ?_⟩; go_big_quiet_on)
        go_big_quiet_want
        go_big_quiet_op
        first | go_big_quiet_on | (refine ⟨_, fun _ _ => rfl, ?_⟩; go_big_quiet_on) | (refine ⟨_, fun _ _ _ => rfl, ?_⟩; go_big_quiet_on)
        refine wpQuiet_nil ?_
        rintro wz bz
        have HF : Box' ((!decide (ls = x) && decide (n < 32) && true) = false) := ⟨by simp [hs]⟩
        by_cases h2 : 1 < n
        · go_wp2_with fail
          refine (AT.out wz bz).mono ?_
          rintro e w2 ⟨rfl, hw2⟩
          have b2 := bz.trans (hw2.mono bz.size)
          clear hw2 bz
          cases A2 with
          | true =>
            have cn2 := CN.out w2 b2
            have cp2 := CP1.out w2 b2
            have B2 := Box'.mk (B1.out.trans (b2.mono B1.out.size))
            clear b2 AH AT AP CN CP0 CP1 CL SM TX
            go_wp2_with fail
            go_ret
            exact ⟨_, rfl, by unfold dueV; rw [HF.out, if_neg Bool.false_ne_true, if_pos (by simp [h2])]; rfl, B2.out⟩
          | false =>
            go_wp2_with fail
            refine (AH.out w2 b2).mono ?_
            rintro e w3 ⟨rfl, hw3⟩
            have b3 := b2.trans (hw3.mono b2.size)
            have cn3 := CN.out w3 b3
            have cp3 := CP1.out w3 b3
            have B3 := Box'.mk (B1.out.trans (b3.mono B1.out.size))
            clear hw3 b3 AH AT AP CN CP0 CP1 CL SM TX
            cases A3 with
            | false =>
              clear cn3 cp3
              go_wp2_with fail
              go_ret
              exact ⟨_, rfl, by unfold dueV; rw [HF.out, if_neg Bool.false_ne_true, if_neg (by simp)]; rfl, B3.out⟩
            | true =>
              go_wp2_with fail
              go_ret
              exact ⟨_, rfl, by unfold dueV; rw [HF.out, if_neg Bool.false_ne_true, if_pos (by simp)]; rfl, B3.out⟩
        · go_wp2_with fail
          refine (AH.out wz bz).mono ?_
          rintro e w3 ⟨rfl, hw3⟩
          have b3 := bz.trans (hw3.mono bz.size)
          have cn3 := CN.out w3 b3
          have cp3 := CP1.out w3 b3
          have B3 := Box'.mk (B1.out.trans (b3.mono B1.out.size))
          clear hw3 b3 AH AT AP CN CP0 CP1 CL SM TX
          cases A3 with
          | false =>
            clear cn3 cp3
            go_wp2_with fail
            go_ret
            exact ⟨_, rfl, by unfold dueV; rw [HF.out, if_neg Bool.false_ne_true, if_neg (by simp [h2])]; rfl, B3.out⟩
          | true =>
            go_wp2_with fail
            go_ret
            exact ⟨_, rfl, by unfold dueV; rw [HF.out, if_neg Bool.false_ne_true, if_pos (by simp)]; rfl, B3.out⟩
      · have hS : (x == ls) = false := by rw [beq_eq_false_iff_ne]; exact fun e => hs e.symm
        refine wp_region_lex (fun wa => Below w1.heap.size w1 wa) (by kernel_rfl) (by kernel_rfl) (Below.refl _ _).drew ?_
        go_big_quiet_want
        go_big_quiet_op
        first | go_big_quiet_on | (refine ⟨_, fun _ _ => rfl, ?_⟩; go_big_quiet_on) | (refine ⟨_, fun _ _ _ => rfl, ?_⟩; go_big_quiet_on)
        go_big_quiet_want
        refine qC_of (.bool true) (fun wq hC => by unfold execOp; simp [go_sem] <;> omega) ?_
        simp only [Act.put, List.setIfInBounds_toArray, List.set_cons_succ, List.set_cons_zero]
        go_big_quiet_on
        go_big_quiet_want
        go_big_quiet_op
        first | go_big_quiet_on | (refine ⟨_, fun _ _ => rfl, ?_⟩; go_big_quiet_on) | (refine ⟨_, fun _ _ _ => rfl, ?_⟩; go_big_quiet_on)
        go_big_quiet_want
        go_big_quiet_op
        first | go_big_quiet_on | (refine ⟨_, fun _ _ => rfl, ?_⟩; go_big_quiet_on) | (refine ⟨_, fun _ _ _ => rfl, ?_⟩; go_big_quiet_on)
        go_big_quiet_want
        go_big_quiet_op
        first | go_big_quiet_on | (refine ⟨_, fun _ _ => rfl, ?_⟩; go_big_quiet_on) | (refine ⟨_, fun _ _ _ => rfl, ?_⟩; go_big_quiet_on)
        go_big_quiet_want
        refine qC_call 45 #[.int .i64 pace, .pointer (some ⟨w.heap.size, 0, none⟩), .pointer (some ⟨w.heap.size + 1, 0, none⟩)] (.bool true) (fun w => by simp [go_sem]) (fun wa hC => (AP.out wa hC).mono fun e w' h => ⟨h.1, hC.trans (h.2.mono hC.size)⟩) ?_
        simp only [Act.put, List.setIfInBounds_toArray, List.set_cons_succ, List.set_cons_zero]
        go_big_quiet_on
        go_big_quiet_want
        go_big_quiet_op
        first | go_big_quiet_on | (refine ⟨_, fun _ _ => rfl, ?_⟩; go_big_quiet_on) | (refine ⟨_, fun _ _ _ => rfl, ?_⟩; go_big_quiet_on)
        go_big_quiet_want
        go_big_quiet_op
        first | go_big_quiet_on | (refine ⟨_, fun _ _ => rfl, ?_⟩; go_big_quiet_on) | (refine ⟨_, fun _ _ _ => rfl, ?_⟩; go_big_quiet_on)
        go_big_quiet_want
        refine qC_load23 (.tmp 4) rfl w.heap.size 0 _ rfl CN.out ?_
        simp only [Act.put, List.setIfInBounds_toArray, List.set_cons_succ, List.set_cons_zero]
        go_big_quiet_on
        go_big_quiet_want
        go_big_quiet_op
        first | go_big_quiet_on | (refine ⟨_, fun _ _ => rfl, ?_⟩; go_big_quiet_on) | (refine ⟨_, fun _ _ _ => rfl, ?_⟩; go_big_quiet_on)
        go_big_quiet_want
        go_big_quiet_op
        first | go_big_quiet_on | (refine ⟨_, fun _ _ => rfl, ?_⟩; go_big_quiet_on) | (refine ⟨_, fun _ _ _ => rfl, ?_⟩; go_big_quiet_on)
        go_big_quiet_want
        refine qC_load26 (.tmp 28) rfl p 0 _ rfl CP0.out ?_
        simp only [Act.put, List.setIfInBounds_toArray, List.set_cons_succ, List.set_cons_zero]
        go_big_quiet_on
        go_big_quiet_want
        go_big_quiet_op
        first | go_big_quiet_on | (refine ⟨_, fun _ _ => rfl, ?_⟩; go_big_quiet_on) | (refine ⟨_, fun _ _ _ => rfl, ?_⟩; go_big_quiet_on)
        go_big_quiet_want
        refine qC_load23 (.tmp 4) rfl w.heap.size 0 _ rfl CN.out ?_
        simp only [Act.put, List.setIfInBounds_toArray, List.set_cons_succ, List.set_cons_zero]
        go_big_quiet_on
        go_big_quiet_want
        go_big_quiet_op
        first | go_big_quiet_on | (refine ⟨_, fun _ _ => rfl, ?_⟩; go_big_quiet_on) | (refine ⟨_, fun _ _ _ => rfl, ?_⟩; go_big_quiet_on)
        go_big_quiet_want
        go_big_quiet_op
        first | go_big_quiet_on | (refine ⟨_, fun _ _ => rfl, ?_⟩; go_big_quiet_on) | (refine ⟨_, fun _ _ _ => rfl, ?_⟩; go_big_quiet_on)
        go_big_quiet_want
        refine qC_load76 (.tmp 33) rfl p 1 _ rfl CP1.out ?_
        simp only [Act.put, List.setIfInBounds_toArray, List.set_cons_succ, List.set_cons_zero]
        go_big_quiet_on
        go_big_quiet_want
        go_big_quiet_op
        first | go_big_quiet_on | (refine ⟨_, fun _ _ => rfl, ?_⟩; go_big_quiet_on) | (refine ⟨_, fun _ _ _ => rfl, ?_⟩; go_big_quiet_on)
        go_big_quiet_want
        go_big_quiet_op
        first | go_big_quiet_on | (refine ⟨_, fun _ _ => rfl, ?_⟩; go_big_quiet_on) | (refine ⟨_, fun _ _ _ => rfl, ?_⟩; go_big_quiet_on)
        go_big_quiet_want
        go_big_quiet_op
        first | go_big_quiet_on | (refine ⟨_, fun _ _ => rfl, ?_⟩; go_big_quiet_on) | (refine ⟨_, fun _ _ _ => rfl, ?_⟩; go_big_quiet_on)
        go_big_quiet_want
        refine qC_load26 (.tmp 37) rfl g (n - 1) _ rfl CL.out ?_
        simp only [Act.put, List.setIfInBounds_toArray, List.set_cons_succ, List.set_cons_zero]
        go_big_quiet_on
        go_big_quiet_want
        refine qC_call 72 #[.agg #[.string ⟨x.toArray⟩], .agg #[.string ⟨ls.toArray⟩]] (.bool false) (fun w => by simp [go_sem, hm]) (fun wa hC => (SM.out wa).mono fun e w' h => ⟨by rw [h.1, hS], hC.trans (h.2.mono hC.size)⟩) ?_
        simp only [Act.put, List.setIfInBounds_toArray, List.set_cons_succ, List.set_cons_zero]
        go_big_quiet_on
        go_big_quiet_want
        go_big_quiet_op
        first | go_big_quiet_on | (refine ⟨_, fun _ _ => rfl, ?_⟩; go_big_quiet_on) | (refine ⟨_, fun _ _ _ => rfl, ?_⟩; go_big_quiet_on)
        go_big_quiet_want
        go_big_quiet_op
        first | go_big_quiet_on | (refine ⟨_, fun _ _ => rfl, ?_⟩; go_big_quiet_on) | (refine ⟨_, fun _ _ _ => rfl, ?_⟩; go_big_quiet_on)
        go_big_quiet_want
        go_big_quiet_op
        first | go_big_quiet_on | (refine ⟨_, fun _ _ => rfl, ?_⟩; go_big_quiet_on) | (refine ⟨_, fun _ _ _ => rfl, ?_⟩; go_big_quiet_on)
        refine wpQuiet_nil ?_
        rintro wz bz
        have HF : Box' ((!decide (ls = x) && decide (n < 32) && true) = true) := ⟨by simp [hs, h1]⟩
        go_upto_region 4 with (fail)
        refine wp_region_grow 12 (by kernel_rfl) (by kernel_rfl) (fun wa wb => Below wa.heap.size wa wb) (fun wa => Below wz.heap.size wz wa) (fun kc wa v => match kc with
          | 0 => v = .pointer (some ⟨p, 0, none⟩)
          | 1 => v = .pointer (some ⟨p, 0, none⟩)
          | 2 => v = .pointer (some ⟨p, 1, none⟩)
          | 3 => v = .slice (some ⟨g, 0, none⟩) n c
          | 4 => v = .int .i64 (n : Int)
          | 5 => v = .int .i64 (n : Int)
          | 6 => v = .slice (some ⟨g, 0, none⟩) n n
          | 7 => v = .pointer (some ⟨p, 0, none⟩)
          | 8 => v = .pointer (some ⟨p, 0, none⟩)
          | 9 => v = .pointer (some ⟨p, 0, none⟩)
          | 10 => v = .agg #[.string ⟨x.toArray⟩]
          | 11 => ∃ bb, v = .slice (some ⟨bb, 0, none⟩) 1 1 ∧ bb < wa.heap.size ∧ wa.cell? ⟨bb, 0, none⟩ = some (.string ⟨x.toArray⟩)
          | _ => True) ?_ ?_ ?_ ?_ ?_
        · intro wa wb hb q; exact q.trans (hb.mono q.size)
        · intro kc v wa wb hC1 hb h
          match kc, h with
          | 0, h => exact h
          | 1, h => exact h
          | 2, h => exact h
          | 3, h => exact h
          | 4, h => exact h
          | 5, h => exact h
          | 6, h => exact h
          | 7, h => exact h
          | 8, h => exact h
          | 9, h => exact h
          | 10, h => exact h
          | 11, h => exact let ⟨bb, e1, e2, e3⟩ := h; ⟨bb, e1, Nat.lt_of_lt_of_le e2 hb.size, (hb.cell (p := ⟨bb, 0, none⟩) e2).trans e3⟩
          | kc + 12, h => trivial
        · exact (Below.refl _ _).drew
        · refine ⟨?_, ?_, ?_, ?_, ?_, ?_, ?_, ?_, ?_, ?_, ?_, ?_, trivial⟩
          · intro f wq hC hd KK hK
            have cx := CN.out wq (bz.trans (hC.mono bz.size))
            simp only [List.take_succ_cons, List.take_zero, setAll, List.setIfInBounds_toArray, List.set_cons_succ, List.set_cons_zero, Nat.zero_add, Nat.reduceAdd] at hK ⊢
            refine wp_of_quiet rfl ?_
            go_big_quiet_step (fail)
            exact wpQuiet_nil (hK _ _ rfl (Below.refl _ _))
          · intro f wq hC hd KK hK
            have g0 : f 0 = .pointer (some ⟨p, 0, none⟩) := hd 0 (by kernel_rfl)
            simp only [List.take_succ_cons, List.take_zero, setAll, List.setIfInBounds_toArray, List.set_cons_succ, List.set_cons_zero, Nat.zero_add, Nat.reduceAdd, g0] at hK ⊢
            refine wp_of_quiet rfl ?_
            go_big_quiet_step (fail)
            exact wpQuiet_nil (hK _ _ rfl (Below.refl _ _))
          · intro f wq hC hd KK hK
            have g1 : f 1 = .pointer (some ⟨p, 0, none⟩) := hd 1 (by kernel_rfl)
            simp only [List.take_succ_cons, List.take_zero, setAll, List.setIfInBounds_toArray, List.set_cons_succ, List.set_cons_zero, Nat.zero_add, Nat.reduceAdd, g1] at hK ⊢
            refine wp_of_quiet rfl ?_
            go_big_quiet_step (fail)
            exact wpQuiet_nil (hK _ _ rfl (Below.refl _ _))
          · intro f wq hC hd KK hK
            have g2 : f 2 = .pointer (some ⟨p, 1, none⟩) := hd 2 (by kernel_rfl)
            have cx := CP1.out wq (bz.trans (hC.mono bz.size))
            simp only [List.take_succ_cons, List.take_zero, setAll, List.setIfInBounds_toArray, List.set_cons_succ, List.set_cons_zero, Nat.zero_add, Nat.reduceAdd, g2] at hK ⊢
            refine wp_of_quiet rfl ?_
            go_big_quiet_step (fail)
            exact wpQuiet_nil (hK _ _ rfl (Below.refl _ _))
          · intro f wq hC hd KK hK
            simp only [List.take_succ_cons, List.take_zero, setAll, List.setIfInBounds_toArray, List.set_cons_succ, List.set_cons_zero, Nat.zero_add, Nat.reduceAdd] at hK ⊢
            refine wp_of_quiet rfl ?_
            go_big_quiet_step (fail)
            exact wpQuiet_nil (hK _ _ rfl (Below.refl _ _))
          · intro f wq hC hd KK hK
            simp only [List.take_succ_cons, List.take_zero, setAll, List.setIfInBounds_toArray, List.set_cons_succ, List.set_cons_zero, Nat.zero_add, Nat.reduceAdd] at hK ⊢
            refine wp_of_quiet rfl ?_
            go_big_quiet_step (fail)
            exact wpQuiet_nil (hK _ _ rfl (Below.refl _ _))
          · intro f wq hC hd KK hK
            have g3 : f 3 = .slice (some ⟨g, 0, none⟩) n c := hd 3 (by kernel_rfl)
            have g4 : f 4 = .int .i64 (n : Int) := hd 4 (by kernel_rfl)
            have g5 : f 5 = .int .i64 (n : Int) := hd 5 (by kernel_rfl)
            simp only [List.take_succ_cons, List.take_zero, setAll, List.setIfInBounds_toArray, List.set_cons_succ, List.set_cons_zero, Nat.zero_add, Nat.reduceAdd, g3, g4, g5] at hK ⊢
            refine wp_valE (.slice (some ⟨g, 0, none⟩) n n) (by unfold execOp; simp [go_sem, cut_to76 g n c n hc]) (hK _ _ rfl (Below.refl _ _))
          · intro f wq hC hd KK hK
            have cx := CN.out wq (bz.trans (hC.mono bz.size))
            simp only [List.take_succ_cons, List.take_zero, setAll, List.setIfInBounds_toArray, List.set_cons_succ, List.set_cons_zero, Nat.zero_add, Nat.reduceAdd] at hK ⊢
            refine wp_of_quiet rfl ?_
            go_big_quiet_step (fail)
            exact wpQuiet_nil (hK _ _ rfl (Below.refl _ _))
          · intro f wq hC hd KK hK
            have g7 : f 7 = .pointer (some ⟨p, 0, none⟩) := hd 7 (by kernel_rfl)
            simp only [List.take_succ_cons, List.take_zero, setAll, List.setIfInBounds_toArray, List.set_cons_succ, List.set_cons_zero, Nat.zero_add, Nat.reduceAdd, g7] at hK ⊢
            refine wp_of_quiet rfl ?_
            go_big_quiet_step (fail)
            exact wpQuiet_nil (hK _ _ rfl (Below.refl _ _))
          · intro f wq hC hd KK hK
            have g8 : f 8 = .pointer (some ⟨p, 0, none⟩) := hd 8 (by kernel_rfl)
            simp only [List.take_succ_cons, List.take_zero, setAll, List.setIfInBounds_toArray, List.set_cons_succ, List.set_cons_zero, Nat.zero_add, Nat.reduceAdd, g8] at hK ⊢
            refine wp_of_quiet rfl ?_
            go_big_quiet_step (fail)
            exact wpQuiet_nil (hK _ _ rfl (Below.refl _ _))
          · intro f wq hC hd KK hK
            have g9 : f 9 = .pointer (some ⟨p, 0, none⟩) := hd 9 (by kernel_rfl)
            have cx := CP0.out wq (bz.trans (hC.mono bz.size))
            simp only [List.take_succ_cons, List.take_zero, setAll, List.setIfInBounds_toArray, List.set_cons_succ, List.set_cons_zero, Nat.zero_add, Nat.reduceAdd, g9] at hK ⊢
            refine wp_of_quiet rfl ?_
            go_big_quiet_step (fail)
            exact wpQuiet_nil (hK _ _ rfl (Below.refl _ _))
          · intro f wq hC hd KK hK
            have g10 : f 10 = .agg #[.string ⟨x.toArray⟩] := hd 10 (by kernel_rfl)
            simp only [List.take_succ_cons, List.take_zero, setAll, List.setIfInBounds_toArray, List.set_cons_succ, List.set_cons_zero, Nat.zero_add, Nat.reduceAdd, g10] at hK ⊢
            refine wp_build76 52 rfl (.string ⟨x.toArray⟩) rfl ?_
            exact hK _ _ ⟨_, rfl, by simp, (Row.new _ _ _).cell 0⟩ ((Below.refl _ _).alloc (Nat.le_refl _) _)
        intro f wq hC hv
        have g0 : f 0 = .pointer (some ⟨p, 0, none⟩) := hv 0 (by decide)
        have g1 : f 1 = .pointer (some ⟨p, 0, none⟩) := hv 1 (by decide)
        have g2 : f 2 = .pointer (some ⟨p, 1, none⟩) := hv 2 (by decide)
        have g3 : f 3 = .slice (some ⟨g, 0, none⟩) n c := hv 3 (by decide)
        have g4 : f 4 = .int .i64 (n : Int) := hv 4 (by decide)
        have g5 : f 5 = .int .i64 (n : Int) := hv 5 (by decide)
        have g6 : f 6 = .slice (some ⟨g, 0, none⟩) n n := hv 6 (by decide)
        have g7 : f 7 = .pointer (some ⟨p, 0, none⟩) := hv 7 (by decide)
        have g8 : f 8 = .pointer (some ⟨p, 0, none⟩) := hv 8 (by decide)
        have g9 : f 9 = .pointer (some ⟨p, 0, none⟩) := hv 9 (by decide)
        have g10 : f 10 = .agg #[.string ⟨x.toArray⟩] := hv 10 (by decide)
        have e11 := hv 11 (by decide)
        simp only at e11
        simp only [List.take_succ_cons, List.take_zero, List.drop_succ_cons, List.drop_zero, setAll, List.setIfInBounds_toArray, List.set_cons_succ, List.set_cons_zero, Nat.zero_add, Nat.reduceAdd, g0, g1, g2, g3, g4, g5, g6, g7, g8, g9, g10]
        obtain ⟨bb, e11, k1, k2⟩ := e11
        simp only [e11]
        clear g0 g1 g2 g3 g4 g5 g6 g7 g8 g9 g10 hv e11
        obtain ⟨i, z, i1, i2, i3, i4⟩ := info26
        have I1 := Box'.mk i1
        have I2 := Box'.mk i2
        have bq := bz.trans (hC.mono bz.size)
        have HL : Box' ((ts.map fun l => Value.string ⟨l.toArray⟩).length = n * i.size) := ⟨by rw [i3, List.length_map, HN.out, Nat.mul_one]⟩
        have HO : Box' (∀ j v, (ts.map fun l => Value.string ⟨l.toArray⟩)[j]? = some v → wq.cell? ((⟨g, 0, none⟩ : Addr).add j) = some v) := ⟨fun j v hj => by rw [Addr.add_mid, Nat.zero_add]; exact TX.out wq bq j v hj⟩
        have HW : Box' (∀ j v, ([.string ⟨x.toArray⟩] : List Value)[j]? = some v → wq.cell? ((⟨bb, 0, none⟩ : Addr).add j) = some v) := ⟨fun j v hj => by
          rw [Addr.add_mid, Nat.zero_add]
          cases j with
          | zero => simp at hj; rw [← hj]; exact k2
          | succ j => simp at hj⟩
        have H1 : Box' (([.string ⟨x.toArray⟩] : List Value).length = 1 * i.size) := ⟨by rw [i3]; rfl⟩
        have HB : Box' ((n + 1) * i.bytes ≤ 140737488355328) := ⟨by rw [i4]; omega⟩
        have BQ := Box'.mk (B1.out.trans (bq.mono B1.out.size))
        clear i1 i2 i3 i4 bq k1 k2 hC bz TX AP AT AH SM CN CP0 CP1 CL
        go_wp2_with (refine wpList_anew rfl (.tmp 48) (.tmp 53) rfl Try.under76 I1.out I2.out ⟨g, 0, none⟩ n rfl _ HL.out HO.out ⟨bb, 0, none⟩ 1 1 rfl [.string ⟨x.toArray⟩] H1.out HW.out (by omega) HB.out (by omega) ?_
                     intro cc w' k1 k2 k3 k4
                     have K0 := Box'.mk (And.intro k1 (And.intro k2 k3))
                     have K4 := Box'.mk k4
                     clear k1 k2 k3 k4 HL HO HW H1 HB)
        go_ret
        refine ⟨_, rfl, ?_, BQ.out.trans (K0.out.2.1.mono BQ.out.size)⟩
        unfold dueV
        rw [HF.out, if_pos rfl]
        refine ⟨wq.heap.size, cc, rfl, K0.out.1, BQ.out.size, K0.out.2.2, fun j u hu => K4.out j u ?_⟩
        rw [List.map_append] at hu
        exact hu
  · refine wp_region_lex (fun wa => Below w1.heap.size w1 wa) (by kernel_rfl) (by kernel_rfl) (Below.refl _ _).drew ?_
    go_big_quiet_want
    go_big_quiet_op
    first | go_big_quiet_on | (refine ⟨_, fun _ _ => rfl, ?_⟩; go_big_quiet_on) | (refine ⟨_, fun _ _ _ => rfl, ?_⟩; go_big_quiet_on)
    go_big_quiet_want
    refine qC_of (.bool false) (fun wq hC => by unfold execOp; simp [go_sem] <;> omega) ?_
    simp only [Act.put, List.setIfInBounds_toArray, List.set_cons_succ, List.set_cons_zero]
    go_big_quiet_on
    go_big_quiet_want
    go_big_quiet_op
    first | go_big_quiet_on | (refine ⟨_, fun _ _ => rfl, ?_⟩; go_big_quiet_on) | (refine ⟨_, fun _ _ _ => rfl, ?_⟩; go_big_quiet_on)
    go_big_quiet_skip
    go_big_quiet_skip
    go_big_quiet_skip
    go_big_quiet_want
    go_big_quiet_op
    first | go_big_quiet_on | (refine ⟨_, fun _ _ => rfl, ?_⟩; go_big_quiet_on) | (refine ⟨_, fun _ _ _ => rfl, ?_⟩; go_big_quiet_on)
    go_big_quiet_want
    go_big_quiet_op
    first | go_big_quiet_on | (refine ⟨_, fun _ _ => rfl, ?_⟩; go_big_quiet_on) | (refine ⟨_, fun _ _ _ => rfl, ?_⟩; go_big_quiet_on)
    go_big_quiet_skip
    go_big_quiet_skip
    go_big_quiet_skip
    go_big_quiet_skip
    go_big_quiet_skip
    go_big_quiet_skip
    go_big_quiet_skip
    go_big_quiet_skip
    go_big_quiet_skip
    go_big_quiet_skip
    go_big_quiet_skip
    go_big_quiet_skip
    go_big_quiet_skip
    go_big_quiet_skip
    go_big_quiet_skip
    go_big_quiet_want
    go_big_quiet_op
    first | go_big_quiet_on | (refine ⟨_, fun _ _ => rfl, ?_⟩; go_big_quiet_on) | (refine ⟨_, fun _ _ _ => rfl, ?_⟩; go_big_quiet_on)
    go_big_quiet_want
    go_big_quiet_op
    first | go_big_quiet_on | (refine ⟨_, fun _ _ => rfl, ?_⟩; go_big_quiet_on) | (refine ⟨_, fun _ _ _ => rfl, ?_⟩; go_big_quiet_on)
    refine wpQuiet_nil ?_
    rintro wz bz
    have HF : Box' ((!decide (ls = x) && decide (n < 32) && A1) = false) := ⟨by simp [h1]⟩
    by_cases h2 : 1 < n
    · go_wp2_with fail
      refine (AT.out wz bz).mono ?_
      rintro e w2 ⟨rfl, hw2⟩
      have b2 := bz.trans (hw2.mono bz.size)
      clear hw2 bz
      cases A2 with
      | true =>
        have cn2 := CN.out w2 b2
        have cp2 := CP1.out w2 b2
        have B2 := Box'.mk (B1.out.trans (b2.mono B1.out.size))
        clear b2 AH AT AP CN CP0 CP1 CL SM TX
        go_wp2_with fail
        go_ret
        exact ⟨_, rfl, by unfold dueV; rw [HF.out, if_neg Bool.false_ne_true, if_pos (by simp [h2])]; rfl, B2.out⟩
      | false =>
        go_wp2_with fail
        refine (AH.out w2 b2).mono ?_
        rintro e w3 ⟨rfl, hw3⟩
        have b3 := b2.trans (hw3.mono b2.size)
        have cn3 := CN.out w3 b3
        have cp3 := CP1.out w3 b3
        have B3 := Box'.mk (B1.out.trans (b3.mono B1.out.size))
        clear hw3 b3 AH AT AP CN CP0 CP1 CL SM TX
        cases A3 with
        | false =>
          clear cn3 cp3
          go_wp2_with fail
          go_ret
          exact ⟨_, rfl, by unfold dueV; rw [HF.out, if_neg Bool.false_ne_true, if_neg (by simp)]; rfl, B3.out⟩
        | true =>
          go_wp2_with fail
          go_ret
          exact ⟨_, rfl, by unfold dueV; rw [HF.out, if_neg Bool.false_ne_true, if_pos (by simp)]; rfl, B3.out⟩
    · exact absurd h2 (by omega)
end Go.Proofs.Ytikkekdmahdgaaa
