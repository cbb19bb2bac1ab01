/- The program's May of logs. The program's part, EqualFunc, Begins and Diff. The program's Begins and Diff. -/
import Derived.Test.YtpgljhgfoihnjaaPc
import Derived.Deep.Cut
namespace Go.Proofs.Ytpgljhgfoihnjaa
open Go.RowKit Go.BigFrame
set_option maxRecDepth 100000
set_option linter.unusedSimpArgs false
set_option linter.unusedVariables false

set_option maxRecDepth 100000 in
set_option maxHeartbeats 1000000 in
theorem notMay2_any (N : Nat) (w : World) (vb : Value) (x : Ev) (hN : N ≤ w.heap.size) (hi : InE N w vb x.byt) :
    Calls Try.prog 30 #[x.val vb] w fun e w' => e = .returned (.bool (!x.may)) ∧ Below w.heap.size w w' := by
  obtain ⟨k, l, c, r, a⟩ := x
  unfold Ev.val Ev.may
  simp only at hi ⊢
  have hb : Below w.heap.size w (w.alloc (.cells #[.int .u8 (k.toNat : Int), vb, .int .i64 c, .int .i64 r, .int .u8 (a.toNat : Int)] 48)) := (Below.refl _ _).alloc (Nat.le_refl _) _
  have hm := may_any (· < N) k.toNat c r a.toNat vb l (w.alloc (.cells #[.int .u8 (k.toNat : Int), vb, .int .i64 c, .int .i64 r, .int .u8 (a.toNat : Int)] 48)) (fun b h => Nat.lt_of_lt_of_le h (Nat.le_trans hN hb.size)) (hi.below hb hN).bts
  have HB : Box' (∀ w', Below (w.alloc (.cells #[.int .u8 (k.toNat : Int), vb, .int .i64 c, .int .i64 r, .int .u8 (a.toNat : Int)] 48)).heap.size (w.alloc (.cells #[.int .u8 (k.toNat : Int), vb, .int .i64 c, .int .i64 r, .int .u8 (a.toNat : Int)] 48)) w' → Below w.heap.size w w') := ⟨fun w' h => hb.trans (h.mono hb.size)⟩
  obtain ⟨a1, c1, rfl, _⟩ := hi.slice
  clear hi hb
  generalize mayN k.toNat l.length c r a.toNat = M at *
  generalize l.length = n at *
  go_enter Try.func30, Try.ntmps30
  go_wp2_with fail
  refine hm.mono ?_
  rintro e w1 ⟨rfl, b1⟩
  have B1 := Box'.mk (HB.out w1 b1)
  clear hm b1 HB
  go_wp2_with fail
  go_ret
  exact ⟨rfl, B1.out⟩

set_option maxRecDepth 100000 in
set_option maxHeartbeats 2000000 in
theorem index2_any (w : World) (v : Value) (l : List Ev) (hl : l.length ≤ 140737488355328) (h : Evs w.heap.size w v l) :
    Calls Try.prog 46 #[v, .func (.func 30) #[] #[]] w fun e w' => ∃ z : Int, e = .returned (.int .i64 z) ∧ decide (0 ≤ z) = badE l ∧ Below w.heap.size w w' := by
  have HE := Box'.mk h
  obtain ⟨a, c, rfl, hc, h3⟩ := h
  have H3 := Box'.mk h3
  have BA := Box'.mk (fun k => badE_at (l := l) (k := k))
  have BN := Box'.mk (badE_none (l := l))
  clear h3
  generalize badE l = R at *
  generalize hn : l.length = n at *
  go_enter Try.func46, Try.ntmps46
  go_wp2_with fail
  go_loopw [8] (fun i wr => ∃ k : Nat, i = .int .i64 (k : Int) ∧ k ≤ n ∧ Box' (∀ j, j < k → (l.getD j Ev.none).may = true) ∧ Below w.heap.size w wr) (fun i _ => n - (intOf i).toNat)
  case atStart => exact ⟨0, rfl, by omega, ⟨fun j hj => by omega⟩, Below.refl _ _⟩
  case round =>
    obtain ⟨k, rfl, hk, HJ, hb⟩ := hrel
    by_cases hlt : k < n
    · obtain ⟨b, o, rfl, hbN, vb, q1, q2, q3, q4, q5, q6⟩ := H3.out k hlt
      have nm := notMay2_any w.heap.size wr vb (l.getD k Ev.none) hb.size (q6.below hb (Nat.le_refl _))
      have ce : ∀ q, wr.cell? ⟨b, q, Option.none⟩ = w.cell? ⟨b, q, Option.none⟩ := fun q => hb.cell (p := ⟨b, q, Option.none⟩) hbN
      rw [← ce] at q1 q2 q3 q4 q5
      have ba := Box'.mk (BA.out k hlt)
      have HJ2 : Box' ((l.getD k Ev.none).may = true → ∀ j, j < k + 1 → (l.getD j Ev.none).may = true) := ⟨fun h j hj => by
        rcases Nat.lt_succ_iff_lt_or_eq.1 hj with h1 | rfl
        · exact HJ.out j h1
        · exact h⟩
      have HB := Box'.mk hb
      unfold Ev.val at nm
      generalize l.getD k Ev.none = x at *
      obtain ⟨a1, c1, rfl, _⟩ := q6.slice
      clear ce q6 BA BN H3 HE HJ hb
      generalize x.may = m at *
      obtain ⟨xk, xl, xc, xr, xa⟩ := x
      simp only at nm q1 q2 q3 q4 q5
      generalize xl.length = xn at *
      go_wp2_with fail
      refine nm.mono ?_
      rintro e w1 ⟨rfl, b1⟩
      have B1 := Box'.mk (HB.out.trans (b1.mono HB.out.size))
      clear nm b1 HB q1 q2 q3 q4 q5
      cases m with
      | true =>
        have hj := HJ2.out rfl
        clear HJ2 ba
        go_wp2_with fail
        exact ⟨⟨k + 1, by go_num, by omega, ⟨hj⟩, B1.out⟩, by simp [intOf]; omega⟩
      | false =>
        have hj := ba.out rfl
        clear HJ2 ba
        go_wp2_with fail
        go_ret
        exact ⟨_, rfl, by rw [hj]; exact decide_eq_true (by omega), B1.out⟩
    · obtain rfl : k = n := by omega
      have hj := BN.out HJ.out
      clear BA BN H3 HE HJ
      go_wp2_with fail
      go_ret
      exact ⟨_, rfl, by rw [hj]; rfl, hb⟩

set_option maxRecDepth 100000 in
set_option maxHeartbeats 1000000 in
theorem contains2_any (w : World) (v : Value) (l : List Ev) (hl : l.length ≤ 140737488355328) (h : Evs w.heap.size w v l) :
    Calls Try.prog 29 #[v, .func (.func 30) #[] #[]] w fun e w' => e = .returned (.bool (badE l)) ∧ Below w.heap.size w w' := by
  have hi := index2_any w v l hl h
  obtain ⟨a, c, rfl, _⟩ := h
  generalize badE l = R at *
  generalize l.length = n at *
  go_enter Try.func29, Try.ntmps29
  go_wp2_with fail
  refine hi.mono ?_
  rintro e w1 ⟨z, rfl, hz, b1⟩
  have HZ := Box'.mk hz
  clear hi hz
  go_wp2_with fail
  go_ret
  exact ⟨by rw [← HZ.out]; rfl, b1⟩

set_option maxHeartbeats 4000000 in
theorem may_C : MayC 14 := by
  intro w v l hl h
  have hco := contains2_any w v l hl h
  have HM := Box'.mk (mayL.eq_1 l)
  generalize mayL l = R at *
  obtain ⟨a, c, rfl, hc⟩ : ∃ a c, v = .slice a l.length c ∧ l.length ≤ c := by obtain ⟨a, c, h1, h2, _⟩ := h; exact ⟨a, c, h1, h2⟩
  clear h
  generalize badE l = B at *
  generalize l.length = n at *
  by_cases h4 : n ≤ 4096
  · have RE : Box' (R = !B) := ⟨by rw [HM.out, decide_eq_true h4, Bool.and_true]⟩
    have hq : (n : Int) ≤ 4096 := by omega
    clear HM
    go_enter Try.func14, Try.ntmps14
    go_wp2_with fail
    refine hco.mono ?_
    rintro e w1 ⟨rfl, b1⟩
    have B1 := Box'.mk b1
    clear hco b1
    go_wp2_with fail
    go_ret
    exact ⟨by rw [RE.out]; rfl, B1.out⟩
  · have RE : Box' (R = false) := ⟨by rw [HM.out, decide_eq_false h4, Bool.and_false]⟩
    have hq : ¬ (n : Int) ≤ 4096 := by omega
    clear HM hco
    go_enter Try.func14, Try.ntmps14
    go_wp2_with fail
    go_ret
    exact ⟨by rw [RE.out]; rfl, Below.refl _ _⟩
end Go.Proofs.Ytpgljhgfoihnjaa
namespace Go.Proofs.Ytpgljhgfoihnjaa
open Go.RowKit Go.BigFrame
set_option maxRecDepth 100000
set_option linter.unusedSimpArgs false
set_option linter.unusedVariables false

theorem run_midE (a : Option Addr) (n c k m : Nat) (h0 : k ≤ m) (h1 : m ≤ c) (w : World) : (Instr.sliceAt 22 (.slice a n c) (some (.int .i64 (k : Int))) (some (.int .i64 (m : Int))) (some (.int .i64 (m : Int)))).run Try.prog w = .ok (.slice (backE a m k) (m - k) (m - k)) w := by
  have e : Try.prog.elem 22 = 48 := by kernel_rfl
  rw [run_sliceAt_slice w 22 _ _ _ _ (by kernel_rfl), run_slice_lhm w 22 a n c (by kernel_rfl) _ _ _ _ _ _ (by omega) (by omega) (by omega) (by omega), e, size25]
  simp only [Result.andThen_ok, Int.toNat_natCast, sliced, backE]
theorem Evs.mid {N : Nat} {w : World} {a : Option Addr} {n c k m : Nat} {l : List Ev} (h : Evs N w (.slice a n c) l) (hk : k ≤ m) (hm : m ≤ l.length) : Evs N w (.slice (backE a m k) (m - k) (m - k)) ((l.take m).drop k) :=
  (h.front hm).back (by rw [List.length_take]; omega)
set_option maxHeartbeats 1000000 in
theorem part_any (a : Option Addr) (n c k m : Nat) (h0 : k ≤ m) (h1 : m ≤ c) (w : World) : Calls Try.prog 23 #[.slice a n c, .int .i64 (k : Int), .int .i64 (m : Int)] w fun e w' => e = .returned (.slice (backE a m k) (m - k) (m - k)) ∧ w' = w := by
  have SL := Box'.mk (run_midE a n c k m h0 h1)
  generalize backE a m k = B at *
  generalize m - k = j at *
  go_enter Try.func23, Try.ntmps23
  go_wp2_with (first | (go_big_want; refine wp_val _ (slice_op 22 (.tmp 7) (some (.tmp 8)) (some (.tmp 9)) (some (.tmp 10)) rfl _ _ (SL.out _)) ?_) | (refine wpList_slice rfl 22 (.tmp 7) (some (.tmp 8)) (some (.tmp 9)) (some (.tmp 10)) rfl _ (SL.out _) ?_) | fail)
  go_ret
  exact ⟨rfl, rfl⟩
set_option maxHeartbeats 1000000 in
theorem equalE_any (w : World) (v1 v2 : Value) (l1 l2 : List Ev) (hl : l1.length ≤ 140737488355328) (hll : l2.length = l1.length) (h1 : Evs w.heap.size w v1 l1) (h2 : Evs w.heap.size w v2 l2) :
    Calls Try.prog 33 #[v1, v2, .func (.func 34) #[] #[]] w fun e w' => ∃ b : Bool, e = .returned (.bool b) ∧ (b = true ↔ l1 = l2) ∧ Below w.heap.size w w' := by
  obtain ⟨a1, c1, rfl, hc1, q1⟩ := h1
  obtain ⟨a2, c2, rfl, hc2, q2⟩ := h2
  have Q1 := Box'.mk q1
  have Q2 := Box'.mk q2
  have EX := Box'.mk (fun h => evs_ext (l1 := l1) (l2 := l2) h)
  clear q1 q2
  rw [hll] at hc2 Q2 EX ⊢
  clear hll
  generalize hn : l1.length = n at *
  clear hn
  go_enter Try.func33, Try.ntmps33
  go_wp2_with fail
  go_loopw [17] (fun i wr => ∃ k : Nat, i = .int .i64 (k : Int) ∧ k ≤ n ∧ Box' (∀ j, j < k → l1.getD j Ev.none = l2.getD j Ev.none) ∧ Box' (Below w.heap.size w wr)) (fun i _ => n - (intOf i).toNat)
  case atStart => exact ⟨0, rfl, by omega, ⟨fun j hj => by omega⟩, ⟨Below.refl _ _⟩⟩
  case round =>
    obtain ⟨k, rfl, hk, HJ, BB⟩ := hrel
    by_cases hlt : k < n
    · obtain ⟨b1, o1, rfl, hb1, e1⟩ := Q1.out k hlt
      obtain ⟨b2, o2, rfl, hb2, e2⟩ := Q2.out k hlt
      obtain ⟨x1, k1, k2, k3, k4, k5, i1⟩ := e1
      obtain ⟨x2, m1, m2, m3, m4, m5, i2⟩ := e2
      obtain ⟨ax1, cx1, rfl, _⟩ := i1.slice
      obtain ⟨ax2, cx2, rfl, _⟩ := i2.slice
      have SM : Box' (∀ w1, Below w.heap.size w w1 → Calls Try.prog 34 #[(l1.getD k Ev.none).val (.slice ax1 (l1.getD k Ev.none).byt.length cx1), (l2.getD k Ev.none).val (.slice ax2 (l2.getD k Ev.none).byt.length cx2)] w1 fun e w' => ∃ b : Bool, e = .returned (.bool b) ∧ (b = true ↔ l1.getD k Ev.none = l2.getD k Ev.none) ∧ Below w1.heap.size w1 w') := ⟨fun w1 bb => (same_any (· < w.heap.size) (· < w.heap.size) _ _ _ _ _ _ _ _ _ _ _ _ w1 (fun b hb => Nat.lt_of_lt_of_le hb bb.size) (fun b hb => Nat.lt_of_lt_of_le hb bb.size) (i1.below bb (Nat.le_refl _)).bts (i2.below bb (Nat.le_refl _)).bts).mono fun e w' hh => ⟨_, hh.1, ev_same _ _, hh.2⟩⟩
      have NX : Box' (¬ l1.getD k Ev.none = l2.getD k Ev.none → ¬ l1 = l2) := ⟨fun h e => h (by rw [e])⟩
      have HJ2 : Box' (l1.getD k Ev.none = l2.getD k Ev.none → ∀ j, j < k + 1 → l1.getD j Ev.none = l2.getD j Ev.none) := ⟨fun h j hj => by
        rcases Nat.lt_succ_iff_lt_or_eq.1 hj with h1 | rfl
        · exact HJ.out j h1
        · exact h⟩
      clear i1 i2 HJ EX Q1 Q2
      unfold Ev.val at SM
      generalize l1.getD k Ev.none = x at *
      generalize l2.getD k Ev.none = y at *
      generalize hxy : (x = y) = XY at *
      clear hxy
      obtain ⟨xk, xl, xc, xr, xa⟩ := x
      obtain ⟨yk, yl, yc, yr, ya⟩ := y
      simp only at k1 k2 k3 k4 k5 m1 m2 m3 m4 m5 SM
      generalize xl.length = xn at *
      generalize yl.length = yn at *
      have CW1 : ∀ q, wr.cell? ⟨b1, q, Option.none⟩ = w.cell? ⟨b1, q, Option.none⟩ := fun q => BB.out.cell (p := ⟨b1, q, Option.none⟩) hb1
      obtain ⟨wa, hwa⟩ : ∃ wa, wa = wr.alloc (.cells #[.int .u8 (xk.toNat : Int), .slice ax1 xn cx1, .int .i64 xc, .int .i64 xr, .int .u8 (xa.toNat : Int)] 48) := ⟨_, rfl⟩
      have ba : Below wr.heap.size wr wa := by rw [hwa]; exact (Below.refl _ _).alloc (Nat.le_refl _) _
      have ra : Row wa wr.heap.size 48 #[.int .u8 (xk.toNat : Int), .slice ax1 xn cx1, .int .i64 xc, .int .i64 xr, .int .u8 (xa.toNat : Int)] := by rw [hwa]; exact Row.new _ _ _
      obtain ⟨wb, hwb⟩ : ∃ wb, wb = wa.alloc (.cells #[.int .u8 (yk.toNat : Int), .slice ax2 yn cx2, .int .i64 yc, .int .i64 yr, .int .u8 (ya.toNat : Int)] 48) := ⟨_, rfl⟩
      have bb : Below wa.heap.size wa wb := by rw [hwb]; exact (Below.refl _ _).alloc (Nat.le_refl _) _
      have rb : Row wb wa.heap.size 48 #[.int .u8 (yk.toNat : Int), .slice ax2 yn cx2, .int .i64 yc, .int .i64 yr, .int .u8 (ya.toNat : Int)] := by rw [hwb]; exact Row.new _ _ _
      have BA := Box'.mk (BB.out.trans (ba.mono BB.out.size))
      have CW2 : ∀ q, wa.cell? ⟨b2, q, Option.none⟩ = w.cell? ⟨b2, q, Option.none⟩ := fun q => BA.out.cell (p := ⟨b2, q, Option.none⟩) hb2
      have BW := Box'.mk (BA.out.trans (bb.mono BA.out.size))
      have RA := Box'.mk (ra.below bb ra.lt)
      have RB := Box'.mk rb
      have sm := SM.out wb BW.out
      rw [← CW1] at k1 k2 k3 k4 k5
      rw [← CW2] at m1 m2 m3 m4 m5
      clear CW1 CW2 SM ba bb ra rb BA BB
      go_upto_region 6 with fail
      rw [← hwa]
      clear hwa k1 k2 k3 k4 k5
      go_upto_region 7 with fail
      rw [← hwb]
      clear hwb m1 m2 m3 m4 m5
      go_wp2_with (first
        | (refine wpList_load_row rfl 48 (.tmp 8) rfl wr.heap.size rfl 48 _ RA.out _ Try.underlying48 rfl 5 (by kernel_rfl) rfl ?_)
        | (refine wpList_load_row rfl 48 (.tmp 9) rfl wa.heap.size rfl 48 _ RB.out _ Try.underlying48 rfl 5 (by kernel_rfl) rfl ?_)
        | fail)
      refine sm.mono ?_
      rintro e w2 ⟨b, rfl, hb, b2'⟩
      have B2 := Box'.mk (BW.out.trans (b2'.mono BW.out.size))
      clear sm b2' BW RA RB
      cases b with
      | true =>
        have hj := Box'.mk (HJ2.out (hb.1 rfl))
        clear HJ2 NX hb
        go_wp2_with fail
        exact ⟨⟨k + 1, by go_num, by omega, hj, B2⟩, by simp [intOf]; omega⟩
      | false =>
        have nx := Box'.mk (NX.out (fun h => by have := hb.2 h; cases this))
        clear HJ2 NX hb
        go_wp2_with fail
        go_ret
        exact ⟨false, rfl, ⟨(fun h => nomatch h), fun h => absurd h nx.out⟩, B2.out⟩
    · obtain rfl : k = n := by omega
      have E := Box'.mk (EX.out (by first | rfl | trivial) HJ.out)
      clear Q1 Q2 EX HJ
      go_wp2_with fail
      go_ret
      exact ⟨true, rfl, ⟨fun _ => E.out, fun _ => rfl⟩, BB.out⟩
end Go.Proofs.Ytpgljhgfoihnjaa
namespace Go.Proofs.Ytpgljhgfoihnjaa
open Go.RowKit Go.BigFrame
set_option maxRecDepth 100000
set_option linter.unusedSimpArgs false
set_option linter.unusedVariables false

set_option maxHeartbeats 1000000 in
theorem begins_C : BegC 16 := by
  intro w v1 v2 l1 l2 hl1 hl2 h1 h2
  obtain ⟨a1, c1, rfl, hc1⟩ := h1.cap
  obtain ⟨a2, c2, rfl, hc2⟩ := h2.cap
  have HB := Box'.mk (begB.eq_1 l1 l2)
  by_cases hle : l1.length ≤ l2.length
  · have pt : Calls Try.prog 23 #[.slice a2 l2.length c2, .int .i64 0, .int .i64 (l1.length : Int)] w fun e w' => e = .returned (.slice (backE a2 l1.length 0) l1.length l1.length) ∧ w' = w := part_any a2 l2.length c2 0 l1.length (Nat.zero_le _) (by omega) w
    have tl : (l2.take l1.length).length = l1.length := by rw [List.length_take]; omega
    have E2 : Evs w.heap.size w (.slice (backE a2 l1.length 0) l1.length l1.length) (l2.take l1.length) := h2.mid (Nat.zero_le _) hle
    have ls : Calls Try.prog 33 #[.slice a1 l1.length c1, .slice (backE a2 l1.length 0) l1.length l1.length, .func (.func 34) #[] #[]] w fun e w' => e = .returned (.bool (lstB l1 (l2.take l1.length))) ∧ Below w.heap.size w w' :=
      (equalE_any w _ _ l1 (l2.take l1.length) hl1 tl h1 E2).mono fun e w' ⟨b, q1, q2, q3⟩ => ⟨by rw [q1, show b = lstB l1 (l2.take l1.length) by rw [Bool.eq_iff_iff, q2, lstB_iff]], q3⟩
    have HR : Box' (begB l1 l2 = lstB l1 (l2.take l1.length)) := ⟨by rw [HB.out, decide_eq_true hle]; rfl⟩
    clear h1 h2 HB E2 tl
    generalize backE a2 l1.length 0 = A at *
    generalize begB l1 l2 = R at *
    generalize lstB l1 (l2.take l1.length) = S at *
    generalize l1.length = n at *
    generalize l2.length = m at *
    have hq : (n : Int) ≤ (m : Int) := by omega
    go_enter Try.func16, Try.ntmps16
    go_wp2_with fail
    refine pt.mono ?_
    rintro e w1 ⟨rfl, rfl⟩
    clear pt
    go_wp2_with fail
    refine ls.mono ?_
    rintro e w2 ⟨rfl, b1⟩
    have B1 := Box'.mk b1
    clear ls b1
    go_wp2_with fail
    go_ret
    exact ⟨by rw [HR.out]; rfl, B1.out⟩
  · have HR : Box' (begB l1 l2 = false) := ⟨by rw [HB.out, decide_eq_false hle]; rfl⟩
    clear h1 h2 HB
    generalize begB l1 l2 = R at *
    generalize l1.length = n at *
    generalize l2.length = m at *
    have hq : ¬ (n : Int) ≤ (m : Int) := by omega
    go_enter Try.func16, Try.ntmps16
    go_wp2_with fail
    go_ret
    exact ⟨by rw [HR.out]; rfl, Below.refl _ _⟩
set_option maxHeartbeats 4000000 in
theorem diff_C : DifC 6 := by
  intro w v1 v2 l1 l2 hl1 hl2 h1 h2
  have m1 := may_C w v1 l1 hl1 h1
  have M2 : Box' (∀ w1, Below w.heap.size w w1 → Calls Try.prog 14 #[v2] w1 fun e w' => e = .returned (.bool (mayL l2)) ∧ Below w1.heap.size w1 w') := ⟨fun w1 b => may_C w1 v2 l2 hl2 ((h2.below b (Nat.le_refl _)).up b.size)⟩
  have BG : Box' (∀ w1, Below w.heap.size w w1 → Calls Try.prog 16 #[v1, v2] w1 fun e w' => e = .returned (.bool (begB l1 l2)) ∧ Below w1.heap.size w1 w') := ⟨fun w1 b => begins_C w1 v1 v2 l1 l2 hl1 hl2 ((h1.below b (Nat.le_refl _)).up b.size) ((h2.below b (Nat.le_refl _)).up b.size)⟩
  have HD := Box'.mk (difF.eq_1 l1 l2)
  have LB : Box' (begB l1 l2 = true → l1.length ≤ l2.length) := ⟨fun h => by
    unfold begB at h
    simp only [Bool.and_eq_true, decide_eq_true_eq] at h
    exact h.1⟩
  have LM := Box'.mk (mayL_len (l := l2))
  obtain ⟨a1, c1, rfl, hc1⟩ := h1.cap
  obtain ⟨a2, c2, rfl, hc2⟩ := h2.cap
  have WE : Box' (l1.length ≤ l2.length → l2.length ≤ 4096 → ∀ w1, Below w.heap.size w w1 → Calls Try.prog 22 #[.slice (backE a2 l2.length l1.length) (l2.length - l1.length) (l2.length - l1.length)] w1 fun e w' => ∃ u, e = .returned (.tuple #[u, .int .i64 (wevF (l2.drop l1.length)).2]) ∧ OwnB w1.heap.size w' u (wevF (l2.drop l1.length)).1 ∧ Below w1.heap.size w1 w') := ⟨fun hh h3 w1 b => writeEvents_any w1 _ _ (by rw [List.length_drop]; omega) (((by have := h2.mid hh (Nat.le_refl _); rwa [List.take_length] at this : Evs w.heap.size w (.slice (backE a2 l2.length l1.length) (l2.length - l1.length) (l2.length - l1.length)) (l2.drop l1.length)).below b (Nat.le_refl _)).up b.size)⟩
  have PT : Box' (l1.length ≤ l2.length → ∀ w1, Calls Try.prog 23 #[.slice a2 l2.length c2, .int .i64 (l1.length : Int), .int .i64 (l2.length : Int)] w1 fun e w' => e = .returned (.slice (backE a2 l2.length l1.length) (l2.length - l1.length) (l2.length - l1.length)) ∧ w' = w1) := ⟨fun h w1 => part_any a2 l2.length c2 l1.length l2.length h hc2 w1⟩
  clear h1 h2 hl1 hl2
  generalize difF l1 l2 = R at *
  generalize mayL l1 = p at *
  generalize mayL l2 = q at *
  generalize begB l1 l2 = r at *
  generalize wevF (l2.drop l1.length) = F at *
  generalize l1.length = n at *
  generalize l2.length = m at *
  go_enter Try.func6, Try.ntmps6
  go_wp2_with fail
  refine m1.mono ?_
  rintro e w1 ⟨rfl, b1⟩
  have B1 := Box'.mk b1
  clear m1 b1
  cases p with
  | false =>
    have RE : Box' (R = ([], 2)) := ⟨by rw [HD.out, if_neg (by rintro ⟨h, _⟩; cases h)]⟩
    clear M2 BG HD LB LM WE PT
    go_wp2_with fail
    go_ret2
    exact ⟨_, by rw [RE.out]; rfl, by rw [RE.out]; exact .inl ⟨rfl, rfl⟩, B1.out⟩
  | true =>
    have m2 := M2.out w1 B1.out
    clear M2
    go_wp2_with fail
    refine m2.mono ?_
    rintro e w2 ⟨rfl, b2⟩
    have B2 := Box'.mk (B1.out.trans (b2.mono B1.out.size))
    clear m2 b2 B1
    cases q with
    | false =>
      have RE : Box' (R = ([], 2)) := ⟨by rw [HD.out, if_neg (by rintro ⟨_, h⟩; cases h)]⟩
      clear BG HD LB LM WE PT
      go_wp2_with fail
      go_ret2
      exact ⟨_, by rw [RE.out]; rfl, by rw [RE.out]; exact .inl ⟨rfl, rfl⟩, B2.out⟩
    | true =>
      have RE : Box' (R = if r = true then F else ([], 210)) := ⟨by rw [HD.out, if_pos (by simp)]⟩
      have bg := BG.out w2 B2.out
      have lm := (LM.out rfl).1
      clear BG HD LM
      go_wp2_with fail
      refine bg.mono ?_
      rintro e w3 ⟨rfl, b3⟩
      have B3 := Box'.mk (B2.out.trans (b3.mono B2.out.size))
      clear bg b3 B2
      cases r with
      | false =>
        have RF : Box' (R = ([], 210)) := ⟨by rw [RE.out]; rfl⟩
        clear RE LB WE PT
        go_wp2_with fail
        go_ret2
        exact ⟨_, by rw [RF.out]; rfl, by rw [RF.out]; exact .inl ⟨rfl, rfl⟩, B3.out⟩
      | true =>
        have RF : Box' (R = F) := ⟨by rw [RE.out]; rfl⟩
        have hle := LB.out rfl
        have we := WE.out hle lm w3 B3.out
        have pt := PT.out hle w3
        clear RE LB WE PT
        generalize backE a2 m n = A at *
        generalize m - n = j at *
        go_wp2_with fail
        refine pt.mono ?_
        rintro e w4 ⟨rfl, rfl⟩
        clear pt
        go_wp2_with fail
        refine we.mono ?_
        rintro e w4 ⟨u, rfl, o4, b4⟩
        have I4 := Box'.mk o4.inB
        have B4 := Box'.mk (B3.out.trans (b4.mono B3.out.size))
        clear we o4 b4 B3
        go_wp2_with fail
        go_ret2
        exact ⟨_, by rw [RF.out]; rfl, by rw [RF.out]; exact I4.out, B4.out⟩
end Go.Proofs.Ytpgljhgfoihnjaa
