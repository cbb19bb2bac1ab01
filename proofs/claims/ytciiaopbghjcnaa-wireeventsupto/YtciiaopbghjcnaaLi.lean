/- The walk of the reference's Lists, at lists that are the same. -/
import Derived.Test.YtciiaopbghjcnaaFo
namespace Go.Proofs.Ytciiaopbghjcnaa
open Go.RowKit Go.BigFrame
set_option linter.unusedSimpArgs false

set_option maxRecDepth 100000 in
set_option maxHeartbeats 4000000 in
theorem lists_any (w : World) (v1 v2 : Value) (l : List Ev) (hl : l.length ≤ 140737488355328) (h1 : Evs w.heap.size w v1 l) (h2 : Evs w.heap.size w v2 l) :
    Calls Try.prog 28 #[v1, v2] w fun e w' => e = .returned (.bool true) ∧ Below w.heap.size w w' := by
  obtain ⟨a1, c1, rfl, hc1, q1⟩ := h1
  obtain ⟨a2, c2, rfl, hc2, q2⟩ := h2
  have Q1 := Box'.mk q1
  have Q2 := Box'.mk q2
  clear q1 q2
  generalize hn : l.length = n at *
  clear hn
  go_enter Try.func28, Try.ntmps28
  go_wp2_with fail
  go_loopw [5] (fun i wr => ∃ k : Nat, i = .int .i64 (k : Int) ∧ k ≤ n ∧ Box' (Below w.heap.size w wr)) (fun i _ => n - (intOf i).toNat)
  case atStart => exact ⟨0, rfl, by omega, ⟨Below.refl _ _⟩⟩
  case round =>
    obtain ⟨k, rfl, hk, BB⟩ := hrel
    by_cases hlt : k < n
    · obtain ⟨b1, o1, rfl, hb1, e1⟩ := Q1.out k hlt
      obtain ⟨b2, o2, rfl, hb2, e2⟩ := Q2.out k hlt
      have E1 := Box'.mk e1
      have E2 := Box'.mk e2
      obtain ⟨x1, k1, k2, k3, k4, k5, i1⟩ := e1
      obtain ⟨x2, m1, m2, m3, m4, m5, i2⟩ := e2
      obtain ⟨ax1, cx1, rfl, _⟩ := i1.slice
      obtain ⟨ax2, cx2, rfl, _⟩ := i2.slice
      have SM : Box' (∀ w1, Below w.heap.size w w1 → Calls Try.prog 27 #[(l.getD k Ev.none).val (.slice ax1 (l.getD k Ev.none).byt.length cx1), (l.getD k Ev.none).val (.slice ax2 (l.getD k Ev.none).byt.length cx2)] w1 fun e w' => e = .returned (.bool true) ∧ Below w1.heap.size w1 w') := ⟨fun w1 bb => (refSameE_any (· < w.heap.size) (· < w.heap.size) _ _ _ _ _ _ _ _ _ _ _ _ w1 (fun b hb => Nat.lt_of_lt_of_le hb bb.size) (fun b hb => Nat.lt_of_lt_of_le hb bb.size) (i1.below bb (Nat.le_refl _)).bts (i2.below bb (Nat.le_refl _)).bts).mono fun e w' hh => ⟨by rw [hh.1]; simp [sameN], hh.2⟩⟩
      clear i1 i2 E1 E2
      unfold Ev.val at SM
      generalize l.getD k Ev.none = x at *
      obtain ⟨xk, xl, xc, xr, xa⟩ := x
      simp only at k1 k2 k3 k4 k5 m1 m2 m3 m4 m5 SM
      generalize xl.length = xn at *
      have CW : Box' (∀ w1, Below w.heap.size w w1 → (∀ q, w1.cell? ⟨b1, q, none⟩ = w.cell? ⟨b1, q, none⟩) ∧ ∀ q, w1.cell? ⟨b2, q, none⟩ = w.cell? ⟨b2, q, none⟩) := ⟨fun w1 bb => ⟨fun q => bb.cell (p := ⟨b1, q, none⟩) hb1, fun q => bb.cell (p := ⟨b2, q, none⟩) hb2⟩⟩
      go_wp2_with fail
      refine wp_region_grow 8 (by kernel_rfl) (by kernel_rfl) (fun wa wb => Below wa.heap.size wa wb) (fun wa => Below w.heap.size w wa) (fun kc wa v => match kc with
        | 0 => v = .slice (some ⟨b1, o1, none⟩) n c1
        | 1 => v = .int .i64 (k : Int)
        | 2 => v = .pointer (some ⟨b1, o1 + k * 5, none⟩)
        | 3 => v = .agg #[.int .u8 (xk.toNat : Int), .slice ax1 xn cx1, .int .i64 xc, .int .i64 xr, .int .u8 (xa.toNat : Int)]
        | 4 => v = .slice (some ⟨b2, o2, none⟩) n c2
        | 5 => v = .int .i64 (k : Int)
        | 6 => v = .pointer (some ⟨b2, o2 + k * 5, none⟩)
        | 7 => v = .agg #[.int .u8 (xk.toNat : Int), .slice ax2 xn cx2, .int .i64 xc, .int .i64 xr, .int .u8 (xa.toNat : Int)]
        | _ => True) ?_ ?_ ?_ ?_ ?_
      · rintro wa wb hb q2
        exact q2.trans (hb.mono q2.size)
      · intro kc v wa wb hC1 hb h
        match kc, h with
        | 0, h => exact h
        | 1, h => exact h
        | 2, h => exact h
        | 3, h => exact h
        | 4, h => exact h
        | 5, h => exact h
        | 6, h => exact h
        | 7, h => exact h
        | kc + 8, h => trivial
      · exact BB.out.drew
      · refine ⟨?_, ?_, ?_, ?_, ?_, ?_, ?_, ?_, trivial⟩
        · intro f wq hC hd KK hK
          simp only [List.take_succ_cons, List.take_zero, setAll, List.setIfInBounds_toArray, List.set_cons_succ, List.set_cons_zero, Nat.zero_add, Nat.reduceAdd] at hK ⊢
          refine wp_of_quiet rfl ?_
          go_big_quiet_step (fail)
          exact wpQuiet_nil (hK _ _ rfl (Below.refl _ _))
        · intro f wq hC hd KK hK
          simp only [List.take_succ_cons, List.take_zero, setAll, List.setIfInBounds_toArray, List.set_cons_succ, List.set_cons_zero, Nat.zero_add, Nat.reduceAdd] at hK ⊢
          refine wp_of_quiet rfl ?_
          go_big_quiet_step (fail)
          exact wpQuiet_nil (hK _ _ rfl (Below.refl _ _))
        · intro f wq hC hd KK hK
          have g0 : f 0 = .slice (some ⟨b1, o1, none⟩) n c1 := hd 0 rfl
          have g1 : f 1 = .int .i64 (k : Int) := hd 1 rfl
          simp only [List.take_succ_cons, List.take_zero, setAll, List.setIfInBounds_toArray, List.set_cons_succ, List.set_cons_zero, Nat.zero_add, Nat.reduceAdd, g0, g1] at hK ⊢
          refine wp_of_quiet rfl ?_
          go_big_quiet_step (fail)
          exact wpQuiet_nil (hK _ _ rfl (Below.refl _ _))
        · intro f wq hC hd KK hK
          have g2 : f 2 = .pointer (some ⟨b1, o1 + k * 5, none⟩) := hd 2 rfl
          have cw := (CW.out wq hC).1
          have n0 := k1
          rw [← cw] at n0
          have n1 := k2
          rw [← cw] at n1
          have n2 := k3
          rw [← cw] at n2
          have n3 := k4
          rw [← cw] at n3
          have n4 := k5
          rw [← cw] at n4
          simp only [List.take_succ_cons, List.take_zero, setAll, List.setIfInBounds_toArray, List.set_cons_succ, List.set_cons_zero, Nat.zero_add, Nat.reduceAdd, g2] at hK ⊢
          refine wp_of_quiet rfl ?_
          go_big_quiet_step (fail)
          exact wpQuiet_nil (hK _ _ rfl (Below.refl _ _))
        · intro f wq hC hd KK hK
          simp only [List.take_succ_cons, List.take_zero, setAll, List.setIfInBounds_toArray, List.set_cons_succ, List.set_cons_zero, Nat.zero_add, Nat.reduceAdd] at hK ⊢
          refine wp_of_quiet rfl ?_
          go_big_quiet_step (fail)
          exact wpQuiet_nil (hK _ _ rfl (Below.refl _ _))
        · intro f wq hC hd KK hK
          simp only [List.take_succ_cons, List.take_zero, setAll, List.setIfInBounds_toArray, List.set_cons_succ, List.set_cons_zero, Nat.zero_add, Nat.reduceAdd] at hK ⊢
          refine wp_of_quiet rfl ?_
          go_big_quiet_step (fail)
          exact wpQuiet_nil (hK _ _ rfl (Below.refl _ _))
        · intro f wq hC hd KK hK
          have g4 : f 4 = .slice (some ⟨b2, o2, none⟩) n c2 := hd 4 rfl
          have g5 : f 5 = .int .i64 (k : Int) := hd 5 rfl
          simp only [List.take_succ_cons, List.take_zero, setAll, List.setIfInBounds_toArray, List.set_cons_succ, List.set_cons_zero, Nat.zero_add, Nat.reduceAdd, g4, g5] at hK ⊢
          refine wp_of_quiet rfl ?_
          go_big_quiet_step (fail)
          exact wpQuiet_nil (hK _ _ rfl (Below.refl _ _))
        · intro f wq hC hd KK hK
          have g6 : f 6 = .pointer (some ⟨b2, o2 + k * 5, none⟩) := hd 6 rfl
          have cw := (CW.out wq hC).2
          have n0 := m1
          rw [← cw] at n0
          have n1 := m2
          rw [← cw] at n1
          have n2 := m3
          rw [← cw] at n2
          have n3 := m4
          rw [← cw] at n3
          have n4 := m5
          rw [← cw] at n4
          simp only [List.take_succ_cons, List.take_zero, setAll, List.setIfInBounds_toArray, List.set_cons_succ, List.set_cons_zero, Nat.zero_add, Nat.reduceAdd, g6] at hK ⊢
          refine wp_of_quiet rfl ?_
          go_big_quiet_step (fail)
          exact wpQuiet_nil (hK _ _ rfl (Below.refl _ _))
      · intro f w1 hC hv
        have p0 : f 0 = .slice (some ⟨b1, o1, none⟩) n c1 := hv 0 (by decide)
        have p1 : f 1 = .int .i64 (k : Int) := hv 1 (by decide)
        have p2 : f 2 = .pointer (some ⟨b1, o1 + k * 5, none⟩) := hv 2 (by decide)
        have p3 : f 3 = .agg #[.int .u8 (xk.toNat : Int), .slice ax1 xn cx1, .int .i64 xc, .int .i64 xr, .int .u8 (xa.toNat : Int)] := hv 3 (by decide)
        have p4 : f 4 = .slice (some ⟨b2, o2, none⟩) n c2 := hv 4 (by decide)
        have p5 : f 5 = .int .i64 (k : Int) := hv 5 (by decide)
        have p6 : f 6 = .pointer (some ⟨b2, o2 + k * 5, none⟩) := hv 6 (by decide)
        have p7 : f 7 = .agg #[.int .u8 (xk.toNat : Int), .slice ax2 xn cx2, .int .i64 xc, .int .i64 xr, .int .u8 (xa.toNat : Int)] := hv 7 (by decide)
        simp only [List.take_succ_cons, List.take_zero, List.drop_succ_cons, List.drop_zero, setAll, List.setIfInBounds_toArray, List.set_cons_succ, List.set_cons_zero, Nat.zero_add, Nat.reduceAdd, p0, p1, p2, p3, p4, p5, p6, p7]
        clear hv p0 p1 p2 p3 p4 p5 p6 p7 k1 k2 k3 k4 k5 m1 m2 m3 m4 m5 CW
        have sm := SM.out w1 hC
        have BC := Box'.mk hC
        clear hC SM
        go_wp2_with fail
        refine sm.mono ?_
        rintro e w2 ⟨rfl, b2'⟩
        have B2 := Box'.mk (BC.out.trans (b2'.mono BC.out.size))
        clear sm b2'
        go_wp2_with fail
        exact ⟨⟨k + 1, by go_num, by omega, B2⟩, by simp [intOf]; omega⟩
    · obtain rfl : k = n := by omega
      clear Q1 Q2
      go_wp2_with fail
      go_ret
      exact ⟨rfl, BB.out⟩
end Go.Proofs.Ytciiaopbghjcnaa
