/- The reference's May of logs. The reference's Lists, of any two lists; its Begins. The reference's Begins and Diff. -/
import Derived.Test.YtpgljhgfoihnjaaOz
import Derived.Test.YtpgljhgfoihnjaaKj
import Derived.Test.YtpgljhgfoihnjaaFm
namespace Go.Proofs.Ytpgljhgfoihnjaa
open Go.RowKit Go.BigFrame
set_option maxRecDepth 100000
set_option linter.unusedSimpArgs false
set_option linter.unusedVariables false

/-- May a log be? -/
def mayL (l : List Ev) : Bool := !badE l && decide (l.length ≤ 4096)
/-- What is asked of a function that says whether a log may be. -/
def MayC (f : Nat) : Prop := ∀ (w : World) (v : Value) (l : List Ev), l.length ≤ 140737488355328 → Evs w.heap.size w v l → Calls Try.prog f #[v] w fun e w' => e = .returned (.bool (mayL l)) ∧ Below w.heap.size w w'
set_option maxHeartbeats 4000000 in
theorem refMayL_C : MayC 15 := by
  intro w v l hl h
  obtain ⟨a, c, rfl, hc, h3⟩ := h
  have H3 := Box'.mk h3
  have BA := Box'.mk (fun k => badE_at (l := l) (k := k))
  have BN := Box'.mk (badE_none (l := l))
  have HM := Box'.mk (mayL.eq_1 l)
  generalize mayL l = R at *
  clear h3
  generalize hn : l.length = n at *
  clear hn
  go_enter Try.func15, Try.ntmps15
  go_wp2_with fail
  go_loopw [3] (fun i wr => ∃ k : Nat, i = .int .i64 (k : Int) ∧ k ≤ n ∧ Box' (∀ j, j < k → (l.getD j Ev.none).may = true) ∧ Box' (Below w.heap.size w wr)) (fun i _ => n - (intOf i).toNat)
  case atStart => exact ⟨0, rfl, Nat.zero_le _, ⟨fun j hj => by omega⟩, ⟨Below.refl _ _⟩⟩
  case round =>
    obtain ⟨k, rfl, hk, HJ, BB⟩ := hrel
    by_cases hlt : k < n
    · obtain ⟨b, o, rfl, hbN, vb, q1, q2, q3, q4, q5, q6⟩ := H3.out k hlt
      have CE : ∀ q, wr.cell? ⟨b, q, Option.none⟩ = w.cell? ⟨b, q, Option.none⟩ := fun q => BB.out.cell (p := ⟨b, q, Option.none⟩) hbN
      rw [← CE] at q1 q2 q3 q4 q5
      obtain ⟨a1, c1, rfl, _⟩ := q6.slice
      have my : Calls Try.prog 32 #[(l.getD k Ev.none).val (.slice a1 (l.getD k Ev.none).byt.length c1)] wr fun e w' => e = .returned (.bool (l.getD k Ev.none).may) ∧ Below wr.heap.size wr w' := refMay_nat _ _ _ _ _ _ _ wr
      have ba := Box'.mk (BA.out k hlt)
      have HJ2 : Box' ((l.getD k Ev.none).may = true → ∀ j, j < k + 1 → (l.getD j Ev.none).may = true) := ⟨fun h j hj => by
        rcases Nat.lt_succ_iff_lt_or_eq.1 hj with h1 | rfl
        · exact HJ.out j h1
        · exact h⟩
      clear BA BN H3 HJ q6 CE
      unfold Ev.val at my
      generalize l.getD k Ev.none = x at *
      generalize x.may = mm at *
      obtain ⟨xk, xl, xc, xr, xa⟩ := x
      simp only at my q1 q2 q3 q4 q5
      generalize xl.length = xn at *
      go_wp2_with fail
      refine my.mono ?_
      rintro e w2 ⟨rfl, b2⟩
      have B2 := Box'.mk (BB.out.trans (b2.mono BB.out.size))
      clear my b2 q1 q2 q3 q4 q5 BB
      cases mm with
      | false =>
        have RE : R = false := by rw [HM.out, ba.out rfl]; rfl
        subst RE
        clear ba HJ2 HM
        go_wp2_with fail
        go_ret
        exact ⟨rfl, B2.out⟩
      | true =>
        have hj := Box'.mk (HJ2.out rfl)
        clear ba HJ2 HM
        go_wp2_with fail
        exact ⟨⟨k + 1, by go_num, by omega, hj, B2⟩, by simp [intOf]; omega⟩
    · obtain rfl : k = n := by omega
      have RE : Box' (R = decide (k ≤ 4096)) := ⟨by rw [HM.out, BN.out HJ.out]; rfl⟩
      clear BA BN H3 HJ HM
      go_wp2_with fail
      go_ret
      refine ⟨?_, BB.out⟩
      rw [RE.out]
      refine congrArg (fun b => Ending.returned (.bool b)) ?_
      show decide ((k : Int) ≤ 4096) = _
      rw [decide_eq_decide]
      omega
end Go.Proofs.Ytpgljhgfoihnjaa
namespace Go.Proofs.Ytpgljhgfoihnjaa
open Go.RowKit Go.BigFrame
set_option maxRecDepth 100000
set_option linter.unusedSimpArgs false
set_option linter.unusedVariables false

theorem ev_same (x y : Ev) : sameN x.kind.toNat y.kind.toNat x.cols y.cols x.rows y.rows x.arr.toNat y.arr.toNat x.byt y.byt = true ↔ x = y := by
  obtain ⟨a, b, c, d, e⟩ := x
  obtain ⟨a', b', c', d', e'⟩ := y
  simp only [sameN, decide_eq_true_eq, Ev.mk.injEq]
  constructor
  · rintro ⟨h1, h2, h3, h4, h5⟩; exact ⟨UInt8.toNat_inj.1 h1, h5, h2, h3, UInt8.toNat_inj.1 h4⟩
  · rintro ⟨rfl, rfl, rfl, rfl, rfl⟩; exact ⟨rfl, rfl, rfl, rfl, rfl⟩
theorem evs_ext {l1 l2 : List Ev} (hn : l1.length = l2.length) (h : ∀ j, j < l1.length → l1.getD j Ev.none = l2.getD j Ev.none) : l1 = l2 := by
  refine List.ext_getElem hn fun j h1 h2 => ?_
  have := h j h1
  simpa [h1, h2] using this
/-- What is asked of a function that says whether two lists are the same. -/
def LstC (f : Nat) : Prop := ∀ (w : World) (v1 v2 : Value) (l1 l2 : List Ev), l1.length ≤ 140737488355328 → l2.length ≤ 140737488355328 → Evs w.heap.size w v1 l1 → Evs w.heap.size w v2 l2 → Calls Try.prog f #[v1, v2] w fun e w' => ∃ b : Bool, e = .returned (.bool b) ∧ (b = true ↔ l1 = l2) ∧ Below w.heap.size w w'
set_option maxHeartbeats 4000000 in
theorem refLists_C : LstC 13 := by
  intro w v1 v2 l1 l2 hl1 hl2 h1 h2
  obtain ⟨a1, c1, rfl, hc1, q1⟩ := h1
  obtain ⟨a2, c2, rfl, hc2, q2⟩ := h2
  have Q1 := Box'.mk q1
  have Q2 := Box'.mk q2
  have NE : Box' (l1.length ≠ l2.length → ¬ l1 = l2) := ⟨fun h e => h (by rw [e])⟩
  have EX := Box'.mk (fun h => evs_ext (l1 := l1) (l2 := l2) h)
  clear q1 q2
  generalize hn : l1.length = n at *
  generalize hm : l2.length = m at *
  clear hn hm
  by_cases hnm : n = m
  · subst hnm
    clear NE
    go_enter Try.func13, Try.ntmps13
    go_wp2_with fail
    go_loopw [5] (fun i wr => ∃ k : Nat, i = .int .i64 (k : Int) ∧ k ≤ n ∧ Box' (∀ j, j < k → l1.getD j Ev.none = l2.getD j Ev.none) ∧ Box' (Below w.heap.size w wr)) (fun i _ => n - (intOf i).toNat)
    case atStart => exact ⟨0, rfl, by omega, ⟨fun j hj => by omega⟩, ⟨Below.refl _ _⟩⟩
    case round =>
      obtain ⟨k, rfl, hk, HJ, BB⟩ := hrel
      by_cases hlt : k < n
      · obtain ⟨b1, o1, rfl, hb1, e1⟩ := Q1.out k hlt
        obtain ⟨b2, o2, rfl, hb2, e2⟩ := Q2.out k hlt
        obtain ⟨x1, k1, k2, k3, k4, k5, i1⟩ := e1
        obtain ⟨x2, m1, m2, m3, m4, m5, i2⟩ := e2
        obtain ⟨ax1, cx1, rfl, _⟩ := i1.slice
        obtain ⟨ax2, cx2, rfl, _⟩ := i2.slice
        have SM : Box' (∀ w1, Below w.heap.size w w1 → Calls Try.prog 28 #[(l1.getD k Ev.none).val (.slice ax1 (l1.getD k Ev.none).byt.length cx1), (l2.getD k Ev.none).val (.slice ax2 (l2.getD k Ev.none).byt.length cx2)] w1 fun e w' => ∃ b : Bool, e = .returned (.bool b) ∧ (b = true ↔ l1.getD k Ev.none = l2.getD k Ev.none) ∧ Below w1.heap.size w1 w') := ⟨fun w1 bb => (refSameE_any (· < w.heap.size) (· < w.heap.size) _ _ _ _ _ _ _ _ _ _ _ _ w1 (fun b hb => Nat.lt_of_lt_of_le hb bb.size) (fun b hb => Nat.lt_of_lt_of_le hb bb.size) (i1.below bb (Nat.le_refl _)).bts (i2.below bb (Nat.le_refl _)).bts).mono fun e w' hh => ⟨_, hh.1, ev_same _ _, hh.2⟩⟩
        have NX : Box' (¬ l1.getD k Ev.none = l2.getD k Ev.none → ¬ l1 = l2) := ⟨fun h e => h (by rw [e])⟩
        have HJ2 : Box' (l1.getD k Ev.none = l2.getD k Ev.none → ∀ j, j < k + 1 → l1.getD j Ev.none = l2.getD j Ev.none) := ⟨fun h j hj => by
          rcases Nat.lt_succ_iff_lt_or_eq.1 hj with h1 | rfl
          · exact HJ.out j h1
          · exact h⟩
        clear i1 i2 HJ EX
        unfold Ev.val at SM
        generalize l1.getD k Ev.none = x at *
        generalize l2.getD k Ev.none = y at *
        generalize hxy : (x = y) = XY at *
        clear hxy
        obtain ⟨xk, xl, xc, xr, xa⟩ := x
        obtain ⟨yk, yl, yc, yr, ya⟩ := y
        simp only at k1 k2 k3 k4 k5 m1 m2 m3 m4 m5 SM
        generalize xl.length = xn at *
        generalize yl.length = yn at *
        have CW : Box' (∀ w1, Below w.heap.size w w1 → (∀ q, w1.cell? ⟨b1, q, none⟩ = w.cell? ⟨b1, q, none⟩) ∧ ∀ q, w1.cell? ⟨b2, q, none⟩ = w.cell? ⟨b2, q, none⟩) := ⟨fun w1 bb => ⟨fun q => bb.cell (p := ⟨b1, q, none⟩) hb1, fun q => bb.cell (p := ⟨b2, q, none⟩) hb2⟩⟩
        go_wp2_with fail
        refine wp_region_grow 8 (by kernel_rfl) (by kernel_rfl) (fun wa wb => Below wa.heap.size wa wb) (fun wa => Below w.heap.size w wa) (fun kc wa v => match kc with
          | 0 => v = .slice (some ⟨b1, o1, none⟩) n c1
          | 1 => v = .int .i64 (k : Int)
          | 2 => v = .pointer (some ⟨b1, o1 + k * 5, none⟩)
          | 3 => v = .agg #[.int .u8 (xk.toNat : Int), .slice ax1 xn cx1, .int .i64 xc, .int .i64 xr, .int .u8 (xa.toNat : Int)]
          | 4 => v = .slice (some ⟨b2, o2, none⟩) n c2
          | 5 => v = .int .i64 (k : Int)
          | 6 => v = .pointer (some ⟨b2, o2 + k * 5, none⟩)
          | 7 => v = .agg #[.int .u8 (yk.toNat : Int), .slice ax2 yn cx2, .int .i64 yc, .int .i64 yr, .int .u8 (ya.toNat : Int)]
          | _ => True) ?_ ?_ ?_ ?_ ?_
        · rintro wa wb hb q2
          exact q2.trans (hb.mono q2.size)
        · intro kc v wa wb hC1 hb h
          match kc, h with
          | 0, h => exact h
          | 1, h => exact h
          | 2, h => exact h
          | 3, h => exact h
          | 4, h => exact h
          | 5, h => exact h
          | 6, h => exact h
          | 7, h => exact h
          | kc + 8, h => trivial
        · exact BB.out.drew
        · refine ⟨?_, ?_, ?_, ?_, ?_, ?_, ?_, ?_, trivial⟩
          · intro f wq hC hd KK hK
            simp only [List.take_succ_cons, List.take_zero, setAll, List.setIfInBounds_toArray, List.set_cons_succ, List.set_cons_zero, Nat.zero_add, Nat.reduceAdd] at hK ⊢
            refine wp_of_quiet rfl ?_
            go_big_quiet_step (fail)
            exact wpQuiet_nil (hK _ _ rfl (Below.refl _ _))
          · intro f wq hC hd KK hK
            simp only [List.take_succ_cons, List.take_zero, setAll, List.setIfInBounds_toArray, List.set_cons_succ, List.set_cons_zero, Nat.zero_add, Nat.reduceAdd] at hK ⊢
            refine wp_of_quiet rfl ?_
            go_big_quiet_step (fail)
            exact wpQuiet_nil (hK _ _ rfl (Below.refl _ _))
          · intro f wq hC hd KK hK
            have g0 : f 0 = .slice (some ⟨b1, o1, none⟩) n c1 := hd 0 (by kernel_rfl)
            have g1 : f 1 = .int .i64 (k : Int) := hd 1 (by kernel_rfl)
            simp only [List.take_succ_cons, List.take_zero, setAll, List.setIfInBounds_toArray, List.set_cons_succ, List.set_cons_zero, Nat.zero_add, Nat.reduceAdd, g0, g1] at hK ⊢
            refine wp_of_quiet rfl ?_
            go_big_quiet_step (fail)
            exact wpQuiet_nil (hK _ _ rfl (Below.refl _ _))
          · intro f wq hC hd KK hK
            have g2 : f 2 = .pointer (some ⟨b1, o1 + k * 5, none⟩) := hd 2 (by kernel_rfl)
            have cw := (CW.out wq hC).1
            rw [← cw] at k1 k2 k3 k4 k5
            simp only [List.take_succ_cons, List.take_zero, setAll, List.setIfInBounds_toArray, List.set_cons_succ, List.set_cons_zero, Nat.zero_add, Nat.reduceAdd, g2] at hK ⊢
            refine wp_of_quiet rfl ?_
            go_big_quiet_step (fail)
            exact wpQuiet_nil (hK _ _ rfl (Below.refl _ _))
          · intro f wq hC hd KK hK
            simp only [List.take_succ_cons, List.take_zero, setAll, List.setIfInBounds_toArray, List.set_cons_succ, List.set_cons_zero, Nat.zero_add, Nat.reduceAdd] at hK ⊢
            refine wp_of_quiet rfl ?_
            go_big_quiet_step (fail)
            exact wpQuiet_nil (hK _ _ rfl (Below.refl _ _))
          · intro f wq hC hd KK hK
            simp only [List.take_succ_cons, List.take_zero, setAll, List.setIfInBounds_toArray, List.set_cons_succ, List.set_cons_zero, Nat.zero_add, Nat.reduceAdd] at hK ⊢
            refine wp_of_quiet rfl ?_
            go_big_quiet_step (fail)
            exact wpQuiet_nil (hK _ _ rfl (Below.refl _ _))
          · intro f wq hC hd KK hK
            have g4 : f 4 = .slice (some ⟨b2, o2, none⟩) n c2 := hd 4 (by kernel_rfl)
            have g5 : f 5 = .int .i64 (k : Int) := hd 5 (by kernel_rfl)
            simp only [List.take_succ_cons, List.take_zero, setAll, List.setIfInBounds_toArray, List.set_cons_succ, List.set_cons_zero, Nat.zero_add, Nat.reduceAdd, g4, g5] at hK ⊢
            refine wp_of_quiet rfl ?_
            go_big_quiet_step (fail)
            exact wpQuiet_nil (hK _ _ rfl (Below.refl _ _))
          · intro f wq hC hd KK hK
            have g6 : f 6 = .pointer (some ⟨b2, o2 + k * 5, none⟩) := hd 6 (by kernel_rfl)
            have cw := (CW.out wq hC).2
            rw [← cw] at m1 m2 m3 m4 m5
            simp only [List.take_succ_cons, List.take_zero, setAll, List.setIfInBounds_toArray, List.set_cons_succ, List.set_cons_zero, Nat.zero_add, Nat.reduceAdd, g6] at hK ⊢
            refine wp_of_quiet rfl ?_
            go_big_quiet_step (fail)
            exact wpQuiet_nil (hK _ _ rfl (Below.refl _ _))
        · intro f w1 hC hv
          have p0 : f 0 = .slice (some ⟨b1, o1, none⟩) n c1 := hv 0 (by decide)
          have p1 : f 1 = .int .i64 (k : Int) := hv 1 (by decide)
          have p2 : f 2 = .pointer (some ⟨b1, o1 + k * 5, none⟩) := hv 2 (by decide)
          have p3 : f 3 = .agg #[.int .u8 (xk.toNat : Int), .slice ax1 xn cx1, .int .i64 xc, .int .i64 xr, .int .u8 (xa.toNat : Int)] := hv 3 (by decide)
          have p4 : f 4 = .slice (some ⟨b2, o2, none⟩) n c2 := hv 4 (by decide)
          have p5 : f 5 = .int .i64 (k : Int) := hv 5 (by decide)
          have p6 : f 6 = .pointer (some ⟨b2, o2 + k * 5, none⟩) := hv 6 (by decide)
          have p7 : f 7 = .agg #[.int .u8 (yk.toNat : Int), .slice ax2 yn cx2, .int .i64 yc, .int .i64 yr, .int .u8 (ya.toNat : Int)] := hv 7 (by decide)
          simp only [List.take_succ_cons, List.take_zero, List.drop_succ_cons, List.drop_zero, setAll, List.setIfInBounds_toArray, List.set_cons_succ, List.set_cons_zero, Nat.zero_add, Nat.reduceAdd, p0, p1, p2, p3, p4, p5, p6, p7]
          clear hv p0 p1 p2 p3 p4 p5 p6 p7 k1 k2 k3 k4 k5 m1 m2 m3 m4 m5 CW
          have sm := SM.out w1 hC
          have BC := Box'.mk hC
          clear hC SM
          go_wp2_with fail
          refine sm.mono ?_
          rintro e w2 ⟨b, rfl, hb, b2'⟩
          have B2 := Box'.mk (BC.out.trans (b2'.mono BC.out.size))
          clear sm b2' BC
          cases b with
          | true =>
            have hj := Box'.mk (HJ2.out (hb.1 rfl))
            clear HJ2 NX hb
            go_wp2_with fail
            exact ⟨⟨k + 1, by go_num, by omega, hj, B2⟩, by simp [intOf]; omega⟩
          | false =>
            have nx := Box'.mk (NX.out (fun h => by have := hb.2 h; cases this))
            clear HJ2 NX hb
            go_wp2_with fail
            go_ret
            exact ⟨false, rfl, ⟨(fun h => nomatch h), fun h => absurd h nx.out⟩, B2.out⟩
      · obtain rfl : k = n := by omega
        have E := Box'.mk (EX.out (by first | rfl | trivial) HJ.out)
        clear Q1 Q2 EX HJ
        go_wp2_with fail
        go_ret
        exact ⟨true, rfl, ⟨fun _ => E.out, fun _ => rfl⟩, BB.out⟩
  · have nx := Box'.mk (NE.out hnm)
    have gb : ((n : Int) != (m : Int)) = true := by rw [bne_iff_ne]; omega
    clear NE EX Q1 Q2
    go_enter Try.func13, Try.ntmps13
    go_wp2_with fail
    go_ret
    exact ⟨false, rfl, ⟨(fun h => nomatch h), fun h => absurd h nx.out⟩, Below.refl _ _⟩
end Go.Proofs.Ytpgljhgfoihnjaa
namespace Go.Proofs.Ytpgljhgfoihnjaa
open Go.RowKit Go.BigFrame
set_option maxRecDepth 100000
set_option linter.unusedSimpArgs false
set_option linter.unusedVariables false

/-- Are two events the same; two lists of them; does the second list begin with the first one? -/
def evB (x y : Ev) : Bool := sameN x.kind.toNat y.kind.toNat x.cols y.cols x.rows y.rows x.arr.toNat y.arr.toNat x.byt y.byt
def lstB : List Ev → List Ev → Bool
  | [], [] => true
  | x :: a, y :: b => evB x y && lstB a b
  | _, _ => false
theorem lstB_iff (a b : List Ev) : lstB a b = true ↔ a = b := by
  induction a generalizing b with
  | nil => cases b <;> simp [lstB]
  | cons x a ih =>
    cases b with
    | nil => simp [lstB]
    | cons y b =>
      simp only [lstB, Bool.and_eq_true, List.cons.injEq, ih]
      exact and_congr (ev_same x y) Iff.rfl
def begB (a b : List Ev) : Bool := decide (a.length ≤ b.length) && lstB a (b.take a.length)
theorem lst_of {f : Nat} (h : LstC f) (w : World) (v1 v2 : Value) (l1 l2 : List Ev) (h1 : l1.length ≤ 140737488355328) (h2 : l2.length ≤ 140737488355328) (e1 : Evs w.heap.size w v1 l1) (e2 : Evs w.heap.size w v2 l2) : Calls Try.prog f #[v1, v2] w fun e w' => e = .returned (.bool (lstB l1 l2)) ∧ Below w.heap.size w w' :=
  (h w v1 v2 l1 l2 h1 h2 e1 e2).mono fun e w' ⟨b, q1, q2, q3⟩ => ⟨by rw [q1, show b = lstB l1 l2 by rw [Bool.eq_iff_iff, q2, lstB_iff]], q3⟩
theorem run_headE (a : Option Addr) (n c k : Nat) (h1 : k ≤ c) (w : World) : (Instr.sliceAt 22 (.slice a n c) none (some (.int .i64 (k : Int))) none).run Try.prog w = .ok (.slice a k c) w := by
  have e : Try.prog.elem 22 = 48 := by kernel_rfl
  rw [run_sliceAt_slice w 22 _ _ _ _ (by kernel_rfl), run_slice_h w 22 a n c (by kernel_rfl) _ _ (by omega) (by omega), e, size25]
  simp only [Result.andThen_ok, Int.toNat_natCast, sliced]
  cases a with
  | none => simp
  | some a => by_cases hk : c = 0 <;> simp [hk, Addr.add]
theorem Evs.head {N : Nat} {w : World} {a : Option Addr} {n c k : Nat} {l : List Ev} (h : Evs N w (.slice a n c) l) (hk : k ≤ l.length) : Evs N w (.slice a k c) (l.take k) := by
  have hlen : (l.take k).length = k := by rw [List.length_take]; omega
  obtain ⟨a', c', e, hc, h3⟩ := h
  injection e with e1 e2 e3
  subst e1 e3
  refine ⟨a, c, by rw [hlen], by omega, fun j hj => ?_⟩
  rw [hlen] at hj
  obtain ⟨b, o, q1, q2, q3⟩ := h3 j (by omega)
  refine ⟨b, o, q1, q2, ?_⟩
  rwa [show (l.take k).getD j Ev.none = l.getD j Ev.none by simp [List.getD_eq_getElem?_getD, List.getElem?_take, hj]]
/-- What is asked of a function that says whether a list goes on from another one. -/
def BegC (f : Nat) : Prop := ∀ (w : World) (v1 v2 : Value) (l1 l2 : List Ev), l1.length ≤ 140737488355328 → l2.length ≤ 140737488355328 → Evs w.heap.size w v1 l1 → Evs w.heap.size w v2 l2 → Calls Try.prog f #[v1, v2] w fun e w' => e = .returned (.bool (begB l1 l2)) ∧ Below w.heap.size w w'
set_option maxHeartbeats 4000000 in
theorem refBegins_C : BegC 17 := by
  intro w v1 v2 l1 l2 hl1 hl2 h1 h2
  obtain ⟨a1, c1, rfl, hc1⟩ := h1.cap
  obtain ⟨a2, c2, rfl, hc2⟩ := h2.cap
  have HB := Box'.mk (begB.eq_1 l1 l2)
  by_cases hle : l1.length ≤ l2.length
  · have ls := lst_of refLists_C w _ _ l1 (l2.take l1.length) hl1 (by rw [List.length_take]; omega) h1 (h2.head hle)
    have HR : Box' (begB l1 l2 = lstB l1 (l2.take l1.length)) := ⟨by rw [HB.out, decide_eq_true hle]; rfl⟩
    have SL := Box'.mk (run_headE a2 l2.length c2 l1.length (by omega))
    clear h1 h2 HB
    generalize begB l1 l2 = R at *
    generalize lstB l1 (l2.take l1.length) = S at *
    generalize l1.length = n at *
    generalize l2.length = m at *
    have hq : (n : Int) ≤ (m : Int) := by omega
    go_enter Try.func17, Try.ntmps17
    go_wp2_with (first | (go_big_want; refine wp_val _ (slice_op 22 (.tmp 12) none (some (.tmp 14)) none rfl _ _ (SL.out _)) ?_) | fail)
    refine ls.mono ?_
    rintro e w1 ⟨rfl, b1⟩
    have B1 := Box'.mk b1
    clear ls b1 SL
    go_wp2_with fail
    go_ret
    exact ⟨by rw [HR.out]; rfl, B1.out⟩
  · have HR : Box' (begB l1 l2 = false) := ⟨by rw [HB.out, decide_eq_false hle]; rfl⟩
    clear h1 h2 HB
    generalize begB l1 l2 = R at *
    generalize l1.length = n at *
    generalize l2.length = m at *
    have hq : ¬ (n : Int) ≤ (m : Int) := by omega
    go_enter Try.func17, Try.ntmps17
    go_wp2_with fail
    go_ret
    exact ⟨by rw [HR.out]; rfl, Below.refl _ _⟩
/-- What Diff answers. -/
def difF (a b : List Ev) : List UInt8 × Int := if mayL a = true ∧ mayL b = true then (if begB a b = true then wevF (b.drop a.length) else ([], 210)) else ([], 2)
def DifC (f : Nat) : Prop := ∀ (w : World) (v1 v2 : Value) (l1 l2 : List Ev), l1.length ≤ 140737488355328 → l2.length ≤ 140737488355328 → Evs w.heap.size w v1 l1 → Evs w.heap.size w v2 l2 → Calls Try.prog f #[v1, v2] w fun e w' => ∃ u, e = .returned (.tuple #[u, .int .i64 (difF l1 l2).2]) ∧ InB w'.heap.size w' u (difF l1 l2).1 ∧ Below w.heap.size w w'
theorem mayL_len {l : List Ev} (h : mayL l = true) : l.length ≤ 4096 ∧ badE l = false := by
  unfold mayL at h
  simp only [Bool.and_eq_true, Bool.not_eq_true', decide_eq_true_eq] at h
  exact ⟨h.2, h.1⟩
set_option maxHeartbeats 4000000 in
theorem refDiff_C : DifC 7 := by
  intro w v1 v2 l1 l2 hl1 hl2 h1 h2
  have m1 := refMayL_C w v1 l1 hl1 h1
  have M2 : Box' (∀ w1, Below w.heap.size w w1 → Calls Try.prog 15 #[v2] w1 fun e w' => e = .returned (.bool (mayL l2)) ∧ Below w1.heap.size w1 w') := ⟨fun w1 b => refMayL_C w1 v2 l2 hl2 ((h2.below b (Nat.le_refl _)).up b.size)⟩
  have BG : Box' (∀ w1, Below w.heap.size w w1 → Calls Try.prog 17 #[v1, v2] w1 fun e w' => e = .returned (.bool (begB l1 l2)) ∧ Below w1.heap.size w1 w') := ⟨fun w1 b => refBegins_C w1 v1 v2 l1 l2 hl1 hl2 ((h1.below b (Nat.le_refl _)).up b.size) ((h2.below b (Nat.le_refl _)).up b.size)⟩
  have HD := Box'.mk (difF.eq_1 l1 l2)
  have LB : Box' (begB l1 l2 = true → l1.length ≤ l2.length) := ⟨fun h => by
    unfold begB at h
    simp only [Bool.and_eq_true, decide_eq_true_eq] at h
    exact h.1⟩
  have LM := Box'.mk (mayL_len (l := l2))
  obtain ⟨a1, c1, rfl, hc1⟩ := h1.cap
  obtain ⟨a2, c2, rfl, hc2⟩ := h2.cap
  have WE : Box' (l1.length ≤ l2.length → l2.length ≤ 4096 → ∀ w1, Below w.heap.size w w1 → Calls Try.prog 24 #[.slice (backE a2 c2 l1.length) (l2.length - l1.length) (c2 - l1.length)] w1 fun e w' => ∃ u, e = .returned (.tuple #[u, .int .i64 (wevF (l2.drop l1.length)).2]) ∧ OwnB w1.heap.size w' u (wevF (l2.drop l1.length)).1 ∧ Below w1.heap.size w1 w') := ⟨fun h1 h3 w1 b => refWriteEvents_any w1 _ _ (by rw [List.length_drop]; omega) (((h2.back h1).below b (Nat.le_refl _)).up b.size)⟩
  have SL : Box' (l1.length ≤ l2.length → ∀ w, (Instr.sliceAt 22 (.slice a2 l2.length c2) (some (.int .i64 (l1.length : Int))) none none).run Try.prog w = .ok (.slice (backE a2 c2 l1.length) (l2.length - l1.length) (c2 - l1.length)) w) := ⟨fun h w => run_backE a2 l2.length c2 l1.length h hc2 w⟩
  clear h1 h2 hl1 hl2
  generalize difF l1 l2 = R at *
  generalize mayL l1 = p at *
  generalize mayL l2 = q at *
  generalize begB l1 l2 = r at *
  generalize wevF (l2.drop l1.length) = F at *
  generalize l1.length = n at *
  generalize l2.length = m at *
  go_enter Try.func7, Try.ntmps7
  go_wp2_with fail
  refine m1.mono ?_
  rintro e w1 ⟨rfl, b1⟩
  have B1 := Box'.mk b1
  clear m1 b1
  cases p with
  | false =>
    have RE : Box' (R = ([], 2)) := ⟨by rw [HD.out, if_neg (by rintro ⟨h, _⟩; cases h)]⟩
    clear M2 BG HD LB LM WE SL
    go_wp2_with fail
    go_ret2
    exact ⟨_, by rw [RE.out]; rfl, by rw [RE.out]; exact .inl ⟨rfl, rfl⟩, B1.out⟩
  | true =>
    have m2 := M2.out w1 B1.out
    clear M2
    go_wp2_with fail
    refine m2.mono ?_
    rintro e w2 ⟨rfl, b2⟩
    have B2 := Box'.mk (B1.out.trans (b2.mono B1.out.size))
    clear m2 b2 B1
    cases q with
    | false =>
      have RE : Box' (R = ([], 2)) := ⟨by rw [HD.out, if_neg (by rintro ⟨_, h⟩; cases h)]⟩
      clear BG HD LB LM WE SL
      go_wp2_with fail
      go_ret2
      exact ⟨_, by rw [RE.out]; rfl, by rw [RE.out]; exact .inl ⟨rfl, rfl⟩, B2.out⟩
    | true =>
      have RE : Box' (R = if r = true then F else ([], 210)) := ⟨by rw [HD.out, if_pos (by simp)]⟩
      have bg := BG.out w2 B2.out
      have lm := (LM.out rfl).1
      clear BG HD LM
      go_wp2_with fail
      refine bg.mono ?_
      rintro e w3 ⟨rfl, b3⟩
      have B3 := Box'.mk (B2.out.trans (b3.mono B2.out.size))
      clear bg b3 B2
      cases r with
      | false =>
        have RF : Box' (R = ([], 210)) := ⟨by rw [RE.out]; rfl⟩
        clear RE LB WE SL
        go_wp2_with fail
        go_ret2
        exact ⟨_, by rw [RF.out]; rfl, by rw [RF.out]; exact .inl ⟨rfl, rfl⟩, B3.out⟩
      | true =>
        have RF : Box' (R = F) := ⟨by rw [RE.out]; rfl⟩
        have hle := LB.out rfl
        have we := WE.out hle lm w3 B3.out
        have sl := Box'.mk (SL.out hle)
        clear RE LB WE SL
        go_wp2_with (first | (refine wpList_slice rfl 22 (.tmp 18) (some (.tmp 20)) none none rfl _ (sl.out _) ?_) | fail)
        refine we.mono ?_
        rintro e w4 ⟨u, rfl, o4, b4⟩
        have I4 := Box'.mk o4.inB
        have B4 := Box'.mk (B3.out.trans (b4.mono B3.out.size))
        clear we o4 b4 B3 sl
        go_wp2_with fail
        go_ret2
        exact ⟨_, by rw [RF.out]; rfl, by rw [RF.out]; exact I4.out, B4.out⟩
end Go.Proofs.Ytpgljhgfoihnjaa
