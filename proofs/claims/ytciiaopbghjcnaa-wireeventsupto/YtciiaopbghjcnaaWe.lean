/- The walk of WireEvents. -/
import Derived.Test.YtciiaopbghjcnaaFm
import Derived.Test.YtciiaopbghjcnaaRv
namespace Go.Proofs.Ytciiaopbghjcnaa
open Go.RowKit Go.BigFrame
set_option linter.unusedSimpArgs false

set_option maxRecDepth 100000 in
set_option maxHeartbeats 8000000 in
theorem wireEvents_any (w : World) (vl vb : Value) (l : List Ev) (bs : List UInt8) (hl : l.length ≤ 1048576) (hb : bs.length ≤ 140737488351232) (h1 : Evs w.heap.size w vl l) (h2 : InB w.heap.size w vb bs) :
    Calls Try.prog 5 #[vl, vb] w fun e w' => e = .returned (.bool true) ∧ Below w.heap.size w w' := by
  have e1 := writeEvents_any w vl l (by omega) h1
  have E2 : Box' (∀ w1, Below w.heap.size w w1 → Calls Try.prog 21 #[vl] w1 fun e w' => ∃ u, e = .returned (.tuple #[u, .int .i64 (wevF l).2]) ∧ OwnB w1.heap.size w' u (wevF l).1 ∧ Below w1.heap.size w1 w') := ⟨fun w1 q => refWriteEvents_any w1 vl l hl ((h1.below q (Nat.le_refl _)).up q.size)⟩
  have E3 : Box' (∀ w1, Below w.heap.size w w1 → Calls Try.prog 22 #[vb] w1 (EEnd w1 (rdE bs))) := ⟨fun w1 q => readEvents_any w1 vb bs (by omega) ((h2.below q (Nat.le_refl _)).up q.size)⟩
  have E4 : Box' (∀ w1, Below w.heap.size w w1 → Calls Try.prog 23 #[vb] w1 (EEnd w1 (rdE bs))) := ⟨fun w1 q => refReadEvents_any w1 vb bs hb ((h2.below q (Nat.le_refl _)).up q.size)⟩
  have RN := Box'.mk (rdE_len bs)
  obtain ⟨av, c, rfl, hc, h3⟩ := h1
  obtain ⟨a2, c2, rfl, _⟩ := h2.slice
  have H3 := Box'.mk h3
  clear h3 h2
  generalize wevF l = WR at *
  obtain ⟨WB, WE⟩ := WR
  generalize rdE bs = RE at *
  obtain ⟨XL, XE⟩ := RE
  simp only at e1 E2 RN
  generalize hn : l.length = n at *
  clear hn
  generalize bs.length = bn at *
  go_enter Try.func5, Try.ntmps5
  go_wp2_with fail
  refine e1.mono ?_
  rintro e w1 ⟨u1, rfl, o1, b1⟩
  have O1 := Box'.mk o1
  have B1 := Box'.mk b1
  have e2 := E2.out w1 b1
  clear e1 o1 b1 E2
  go_wp2_with fail
  refine e2.mono ?_
  rintro e w2 ⟨u2, rfl, o2, b2⟩
  have B2 := Box'.mk (B1.out.trans (b2.mono B1.out.size))
  have O12 := Box'.mk (O1.out.below b2)
  have O2 := Box'.mk o2
  have e3 := E3.out w2 B2.out
  clear e2 o2 b2 B1 O1 E3
  go_wp2_with fail
  refine e3.mono ?_
  rintro e w3 ⟨v3, ps3, rfl, hp3, o3, b3⟩
  simp only at hp3 ⊢
  have HP3 := Box'.mk hp3
  have B3 := Box'.mk (B2.out.trans (b3.mono B2.out.size))
  have O13 := Box'.mk (O12.out.below b3)
  have O23 := Box'.mk (O2.out.below b3)
  have O3 := Box'.mk o3
  have e4 := E4.out w3 B3.out
  clear e3 o3 b3 B2 O12 O2 E4 hp3
  go_wp2_with fail
  refine e4.mono ?_
  rintro e w4 ⟨v4, ps4, rfl, hp4, o4, b4⟩
  simp only at hp4 ⊢
  have HP4 := Box'.mk hp4
  have B4 := Box'.mk (B3.out.trans (b4.mono B3.out.size))
  have O14 := Box'.mk (O13.out.below b4)
  have O24 := Box'.mk (O23.out.below b4)
  have O34 := Box'.mk (O3.out.below b4)
  have O4 := Box'.mk o4
  clear e4 o4 b4 B3 O13 O23 O3 hp4
  have FIN : Box' (∀ wz, Below w4.heap.size w4 wz → OwnB w1.heap.size wz u2 WB ∧ OwnB w.heap.size wz u1 WB ∧ Evs wz.heap.size wz v3 XL ∧ Evs wz.heap.size wz v4 XL ∧ Below w.heap.size w wz) := ⟨fun wz q => ⟨O24.out.below q, O14.out.below q, by rw [← HP3.out]; exact (O34.out.below q).evs, by rw [← HP4.out]; exact (O4.out.below q).evs, B4.out.trans (q.mono B4.out.size)⟩⟩
  have BW : Box' (∀ wz, Below w4.heap.size w4 wz → Below w.heap.size w wz) := ⟨fun wz q => B4.out.trans (q.mono B4.out.size)⟩
  clear O14 O24 O34 O4 B4 HP3 HP4
  go_wp2_with fail
  go_loopw [13] (fun i wr => ∃ k : Nat, i = .int .i64 (k : Int) ∧ k ≤ n ∧ Box' (Below w4.heap.size w4 wr)) (fun i _ => n - (intOf i).toNat)
  case atStart => exact ⟨0, rfl, Nat.zero_le _, ⟨Below.refl _ _⟩⟩
  case round =>
    obtain ⟨k, rfl, hk, BB⟩ := hrel
    by_cases hlt : k < n
    · obtain ⟨b, o, rfl, hbN, x1, k1, k2, k3, k4, k5, i1⟩ := H3.out k hlt
      obtain ⟨b', o', he', _, x2, m1, m2, m3, m4, m5, i2⟩ := H3.out 0 (by omega)
      injection he' with he'
      injection he' with he1 he2
      subst he1 he2
      obtain ⟨ax, cx, rfl, _⟩ := i1.slice
      obtain ⟨ay, cy, rfl, _⟩ := i2.slice
      simp only [Nat.zero_mul, Nat.add_zero] at m1 m2 m3 m4 m5
      have MY : Box' (∀ wq, Below w.heap.size w wq → Calls Try.prog 24 #[(l.getD k Ev.none).val (.slice ax (l.getD k Ev.none).byt.length cx)] wq fun e w' => e = .returned (.bool (l.getD k Ev.none).may) ∧ Below wq.heap.size wq w') := ⟨fun wq q => may_any (· < w.heap.size) _ _ _ _ _ _ wq (fun bq hq => Nat.lt_of_lt_of_le hq q.size) (i1.below q (Nat.le_refl _)).bts⟩
      have MR : Box' (∀ wq, Below w.heap.size w wq → Calls Try.prog 25 #[(l.getD k Ev.none).val (.slice ax (l.getD k Ev.none).byt.length cx)] wq fun e w' => e = .returned (.bool (l.getD k Ev.none).may) ∧ Below wq.heap.size wq w') := ⟨fun wq _ => refMay_nat _ _ _ _ _ _ _ wq⟩
      obtain ⟨SS, hSS⟩ : ∃ SS, SS = sameN (l.getD k Ev.none).kind.toNat (l.getD 0 Ev.none).kind.toNat (l.getD k Ev.none).cols (l.getD 0 Ev.none).cols (l.getD k Ev.none).rows (l.getD 0 Ev.none).rows (l.getD k Ev.none).arr.toNat (l.getD 0 Ev.none).arr.toNat (l.getD k Ev.none).byt (l.getD 0 Ev.none).byt := ⟨_, rfl⟩
      have SP : Box' (∀ wq, Below w.heap.size w wq → Calls Try.prog 26 #[(l.getD k Ev.none).val (.slice ax (l.getD k Ev.none).byt.length cx), (l.getD 0 Ev.none).val (.slice ay (l.getD 0 Ev.none).byt.length cy)] wq fun e w' => e = .returned (.bool SS) ∧ Below wq.heap.size wq w') := ⟨fun wq q => by rw [hSS]; exact same_any (· < w.heap.size) (· < w.heap.size) _ _ _ _ _ _ _ _ _ _ _ _ wq (fun bq hq => Nat.lt_of_lt_of_le hq q.size) (fun bq hq => Nat.lt_of_lt_of_le hq q.size) (i1.below q (Nat.le_refl _)).bts (i2.below q (Nat.le_refl _)).bts⟩
      have SR : Box' (∀ wq, Below w.heap.size w wq → Calls Try.prog 27 #[(l.getD k Ev.none).val (.slice ax (l.getD k Ev.none).byt.length cx), (l.getD 0 Ev.none).val (.slice ay (l.getD 0 Ev.none).byt.length cy)] wq fun e w' => e = .returned (.bool SS) ∧ Below wq.heap.size wq w') := ⟨fun wq q => by rw [hSS]; exact refSameE_any (· < w.heap.size) (· < w.heap.size) _ _ _ _ _ _ _ _ _ _ _ _ wq (fun bq hq => Nat.lt_of_lt_of_le hq q.size) (fun bq hq => Nat.lt_of_lt_of_le hq q.size) (i1.below q (Nat.le_refl _)).bts (i2.below q (Nat.le_refl _)).bts⟩
      clear i1 i2 hSS
      unfold Ev.val at MY MR SP SR
      generalize (l.getD k Ev.none).may = MM at *
      generalize l.getD k Ev.none = x at *
      generalize l.getD 0 Ev.none = y at *
      obtain ⟨xk, xl, xc, xr, xa⟩ := x
      obtain ⟨yk, yl, yc, yr, ya⟩ := y
      simp only at k1 k2 k3 k4 k5 m1 m2 m3 m4 m5 MY MR SP SR
      generalize xl.length = xn at *
      generalize yl.length = yn at *
      have CW : Box' (∀ wq, Below w.heap.size w wq → ∀ q, wq.cell? ⟨b, q, none⟩ = w.cell? ⟨b, q, none⟩) := ⟨fun wq bb q => bb.cell (p := ⟨b, q, none⟩) hbN⟩
      have BR := Box'.mk (BW.out wr BB.out)
      go_wp2_with fail
      refine wp_region_growg 28 (by kernel_rfl) 91 rfl (by kernel_rfl) (fun wa wb => Below wa.heap.size wa wb) (fun wa => Below w.heap.size w wa ∧ Below w4.heap.size w4 wa) (fun kc wa v => match kc with
        | 0 => v = .slice (some ⟨b, o, none⟩) n c
        | 1 => v = .int .i64 (k : Int)
        | 2 => v = .pointer (some ⟨b, o + k * 5, none⟩)
        | 3 => v = .agg #[.int .u8 (xk.toNat : Int), .slice ax xn cx, .int .i64 xc, .int .i64 xr, .int .u8 (xa.toNat : Int)]
        | 4 => v = .bool MM
        | 5 => v = .slice (some ⟨b, o, none⟩) n c
        | 6 => v = .int .i64 (k : Int)
        | 7 => v = .pointer (some ⟨b, o + k * 5, none⟩)
        | 8 => v = .agg #[.int .u8 (xk.toNat : Int), .slice ax xn cx, .int .i64 xc, .int .i64 xr, .int .u8 (xa.toNat : Int)]
        | 9 => v = .bool MM
        | 10 => v = .bool false
        | 11 => v = .bool false
        | 12 => v = .slice (some ⟨b, o, none⟩) n c
        | 13 => v = .int .i64 (k : Int)
        | 14 => v = .pointer (some ⟨b, o + k * 5, none⟩)
        | 15 => v = .agg #[.int .u8 (xk.toNat : Int), .slice ax xn cx, .int .i64 xc, .int .i64 xr, .int .u8 (xa.toNat : Int)]
        | 16 => v = .slice (some ⟨b, o, none⟩) n c
        | 17 => v = .pointer (some ⟨b, o, none⟩)
        | 18 => v = .agg #[.int .u8 (yk.toNat : Int), .slice ay yn cy, .int .i64 yc, .int .i64 yr, .int .u8 (ya.toNat : Int)]
        | 19 => v = .bool SS
        | 20 => v = .slice (some ⟨b, o, none⟩) n c
        | 21 => v = .int .i64 (k : Int)
        | 22 => v = .pointer (some ⟨b, o + k * 5, none⟩)
        | 23 => v = .agg #[.int .u8 (xk.toNat : Int), .slice ax xn cx, .int .i64 xc, .int .i64 xr, .int .u8 (xa.toNat : Int)]
        | 24 => v = .slice (some ⟨b, o, none⟩) n c
        | 25 => v = .pointer (some ⟨b, o, none⟩)
        | 26 => v = .agg #[.int .u8 (yk.toNat : Int), .slice ay yn cy, .int .i64 yc, .int .i64 yr, .int .u8 (ya.toNat : Int)]
        | 27 => v = .bool SS
        | _ => True) ?_ ?_ ?_ ?_ ?_ ?_
      · intro i o' j b' hi hg wa v hC hV
        rcases (show i < 28 from by rcases Nat.lt_or_ge i 28 with q | q; exact q; rw [List.getElem?_eq_none (by simpa using q)] at hi; cases hi) with hlt
        revert hi hg hV
        rcases (show i = 0 ∨ i = 1 ∨ i = 2 ∨ i = 3 ∨ i = 4 ∨ i = 5 ∨ i = 6 ∨ i = 7 ∨ i = 8 ∨ i = 9 ∨ i = 10 ∨ i = 11 ∨ i = 12 ∨ i = 13 ∨ i = 14 ∨ i = 15 ∨ i = 16 ∨ i = 17 ∨ i = 18 ∨ i = 19 ∨ i = 20 ∨ i = 21 ∨ i = 22 ∨ i = 23 ∨ i = 24 ∨ i = 25 ∨ i = 26 ∨ i = 27 by omega) with rfl | rfl | rfl | rfl | rfl | rfl | rfl | rfl | rfl | rfl | rfl | rfl | rfl | rfl | rfl | rfl | rfl | rfl | rfl | rfl | rfl | rfl | rfl | rfl | rfl | rfl | rfl | rfl <;>
          (intro hi hg hV; simp only [List.take_succ_cons, List.getElem?_cons_zero, List.getElem?_cons_succ, Option.some.injEq] at hi; subst hi; first | (cases hg; exact hV) | (cases hg))
      · rintro wa wb hb q2
        exact ⟨q2.1.trans (hb.mono q2.1.size), q2.2.trans (hb.mono q2.2.size)⟩
      · intro kc v wa wb hC1 hb h
        match kc, h with
        | 0, h => exact h
        | 1, h => exact h
        | 2, h => exact h
        | 3, h => exact h
        | 4, h => exact h
        | 5, h => exact h
        | 6, h => exact h
        | 7, h => exact h
        | 8, h => exact h
        | 9, h => exact h
        | 10, h => exact h
        | 11, h => exact h
        | 12, h => exact h
        | 13, h => exact h
        | 14, h => exact h
        | 15, h => exact h
        | 16, h => exact h
        | 17, h => exact h
        | 18, h => exact h
        | 19, h => exact h
        | 20, h => exact h
        | 21, h => exact h
        | 22, h => exact h
        | 23, h => exact h
        | 24, h => exact h
        | 25, h => exact h
        | 26, h => exact h
        | 27, h => exact h
        | kc + 28, h => trivial
      · exact ⟨BR.out.drew, BB.out.drew⟩
      · refine ⟨?_, ?_, ?_, ?_, ?_, ?_, ?_, ?_, ?_, ?_, ?_, ?_, ?_, ?_, ?_, ?_, ?_, ?_, ?_, ?_, ?_, ?_, ?_, ?_, ?_, ?_, ?_, ?_, trivial⟩
        · intro f wq hC hd KK hK
          simp only [List.take_succ_cons, List.take_zero, setAll, List.setIfInBounds_toArray, List.set_cons_succ, List.set_cons_zero, Nat.zero_add, Nat.reduceAdd] at hK ⊢
          refine wp_of_quiet rfl ?_
          go_big_quiet_step (fail)
          exact wpQuiet_nil (hK _ _ (rfl) (Below.refl _ _))
        · intro f wq hC hd KK hK
          simp only [List.take_succ_cons, List.take_zero, setAll, List.setIfInBounds_toArray, List.set_cons_succ, List.set_cons_zero, Nat.zero_add, Nat.reduceAdd] at hK ⊢
          refine wp_of_quiet rfl ?_
          go_big_quiet_step (fail)
          exact wpQuiet_nil (hK _ _ (rfl) (Below.refl _ _))
        · intro f wq hC hd KK hK
          have g0 : f 0 = .slice (some ⟨b, o, none⟩) n c := hd 0 rfl
          have g1 : f 1 = .int .i64 (k : Int) := hd 1 rfl
          simp only [List.take_succ_cons, List.take_zero, setAll, List.setIfInBounds_toArray, List.set_cons_succ, List.set_cons_zero, Nat.zero_add, Nat.reduceAdd, g0, g1] at hK ⊢
          refine wp_of_quiet rfl ?_
          go_big_quiet_step (fail)
          exact wpQuiet_nil (hK _ _ (rfl) (Below.refl _ _))
        · intro f wq hC hd KK hK
          have g2 : f 2 = .pointer (some ⟨b, o + k * 5, none⟩) := hd 2 rfl
          have cw := CW.out wq hC.1
          have n0 := k1
          rw [← cw] at n0
          have n1 := k2
          rw [← cw] at n1
          have n2 := k3
          rw [← cw] at n2
          have n3 := k4
          rw [← cw] at n3
          have n4 := k5
          rw [← cw] at n4
          simp only [List.take_succ_cons, List.take_zero, setAll, List.setIfInBounds_toArray, List.set_cons_succ, List.set_cons_zero, Nat.zero_add, Nat.reduceAdd, g2] at hK ⊢
          refine wp_of_quiet rfl ?_
          go_big_quiet_step (fail)
          exact wpQuiet_nil (hK _ _ (rfl) (Below.refl _ _))
        · intro f wq hC hd KK hK
          have g3 : f 3 = .agg #[.int .u8 (xk.toNat : Int), .slice ax xn cx, .int .i64 xc, .int .i64 xr, .int .u8 (xa.toNat : Int)] := hd 3 rfl
          simp only [List.take_succ_cons, List.take_zero, setAll, List.setIfInBounds_toArray, List.set_cons_succ, List.set_cons_zero, Nat.zero_add, Nat.reduceAdd, g3] at hK ⊢
          exact wp_call 24 #[.agg #[.int .u8 (xk.toNat : Int), .slice ax xn cx, .int .i64 xc, .int .i64 xr, .int .u8 (xa.toNat : Int)]] (by simp [go_sem]) _ _ (MY.out wq hC.1) (fun w' hb => hK _ _ rfl hb)
        · intro f wq hC hd KK hK
          simp only [List.take_succ_cons, List.take_zero, setAll, List.setIfInBounds_toArray, List.set_cons_succ, List.set_cons_zero, Nat.zero_add, Nat.reduceAdd] at hK ⊢
          refine wp_of_quiet rfl ?_
          go_big_quiet_step (fail)
          exact wpQuiet_nil (hK _ _ (rfl) (Below.refl _ _))
        · intro f wq hC hd KK hK
          simp only [List.take_succ_cons, List.take_zero, setAll, List.setIfInBounds_toArray, List.set_cons_succ, List.set_cons_zero, Nat.zero_add, Nat.reduceAdd] at hK ⊢
          refine wp_of_quiet rfl ?_
          go_big_quiet_step (fail)
          exact wpQuiet_nil (hK _ _ (rfl) (Below.refl _ _))
        · intro f wq hC hd KK hK
          have g5 : f 5 = .slice (some ⟨b, o, none⟩) n c := hd 5 rfl
          have g6 : f 6 = .int .i64 (k : Int) := hd 6 rfl
          simp only [List.take_succ_cons, List.take_zero, setAll, List.setIfInBounds_toArray, List.set_cons_succ, List.set_cons_zero, Nat.zero_add, Nat.reduceAdd, g5, g6] at hK ⊢
          refine wp_of_quiet rfl ?_
          go_big_quiet_step (fail)
          exact wpQuiet_nil (hK _ _ (rfl) (Below.refl _ _))
        · intro f wq hC hd KK hK
          have g7 : f 7 = .pointer (some ⟨b, o + k * 5, none⟩) := hd 7 rfl
          have cw := CW.out wq hC.1
          have n0 := k1
          rw [← cw] at n0
          have n1 := k2
          rw [← cw] at n1
          have n2 := k3
          rw [← cw] at n2
          have n3 := k4
          rw [← cw] at n3
          have n4 := k5
          rw [← cw] at n4
          simp only [List.take_succ_cons, List.take_zero, setAll, List.setIfInBounds_toArray, List.set_cons_succ, List.set_cons_zero, Nat.zero_add, Nat.reduceAdd, g7] at hK ⊢
          refine wp_of_quiet rfl ?_
          go_big_quiet_step (fail)
          exact wpQuiet_nil (hK _ _ (rfl) (Below.refl _ _))
        · intro f wq hC hd KK hK
          have g8 : f 8 = .agg #[.int .u8 (xk.toNat : Int), .slice ax xn cx, .int .i64 xc, .int .i64 xr, .int .u8 (xa.toNat : Int)] := hd 8 rfl
          simp only [List.take_succ_cons, List.take_zero, setAll, List.setIfInBounds_toArray, List.set_cons_succ, List.set_cons_zero, Nat.zero_add, Nat.reduceAdd, g8] at hK ⊢
          exact wp_call 25 #[.agg #[.int .u8 (xk.toNat : Int), .slice ax xn cx, .int .i64 xc, .int .i64 xr, .int .u8 (xa.toNat : Int)]] (by simp [go_sem]) _ _ (MR.out wq hC.1) (fun w' hb => hK _ _ rfl hb)
        · intro f wq hC hd KK hK
          have g4 : f 4 = .bool MM := hd 4 rfl
          have g9 : f 9 = .bool MM := hd 9 rfl
          simp only [List.take_succ_cons, List.take_zero, setAll, List.setIfInBounds_toArray, List.set_cons_succ, List.set_cons_zero, Nat.zero_add, Nat.reduceAdd, g4, g9] at hK ⊢
          refine wp_of_quiet rfl ?_
          go_big_quiet_step (fail)
          exact wpQuiet_nil (hK _ _ (by first | rfl | simp | (cases MM <;> rfl)) (Below.refl _ _))
        · intro f wq hC hd KK hK
          have g10 : f 10 = .bool false := hd 10 rfl
          simp only [List.take_succ_cons, List.take_zero, setAll, List.setIfInBounds_toArray, List.set_cons_succ, List.set_cons_zero, Nat.zero_add, Nat.reduceAdd, g10] at hK ⊢
          refine wp_of_quiet rfl ?_
          go_big_quiet_step (fail)
          exact wpQuiet_nil (hK _ _ (rfl) (Below.refl _ _))
        · intro f wq hC hd KK hK
          simp only [List.take_succ_cons, List.take_zero, setAll, List.setIfInBounds_toArray, List.set_cons_succ, List.set_cons_zero, Nat.zero_add, Nat.reduceAdd] at hK ⊢
          refine wp_unguard ?_
          refine wp_of_quiet rfl ?_
          go_big_quiet_step (fail)
          exact wpQuiet_nil (hK _ _ (rfl) (Below.refl _ _))
        · intro f wq hC hd KK hK
          simp only [List.take_succ_cons, List.take_zero, setAll, List.setIfInBounds_toArray, List.set_cons_succ, List.set_cons_zero, Nat.zero_add, Nat.reduceAdd] at hK ⊢
          refine wp_unguard ?_
          refine wp_of_quiet rfl ?_
          go_big_quiet_step (fail)
          exact wpQuiet_nil (hK _ _ (rfl) (Below.refl _ _))
        · intro f wq hC hd KK hK
          have g12 : f 12 = .slice (some ⟨b, o, none⟩) n c := hd 12 rfl
          have g13 : f 13 = .int .i64 (k : Int) := hd 13 rfl
          simp only [List.take_succ_cons, List.take_zero, setAll, List.setIfInBounds_toArray, List.set_cons_succ, List.set_cons_zero, Nat.zero_add, Nat.reduceAdd, g12, g13] at hK ⊢
          refine wp_unguard ?_
          refine wp_of_quiet rfl ?_
          go_big_quiet_step (fail)
          exact wpQuiet_nil (hK _ _ (rfl) (Below.refl _ _))
        · intro f wq hC hd KK hK
          have g14 : f 14 = .pointer (some ⟨b, o + k * 5, none⟩) := hd 14 rfl
          have cw := CW.out wq hC.1
          have n0 := k1
          rw [← cw] at n0
          have n1 := k2
          rw [← cw] at n1
          have n2 := k3
          rw [← cw] at n2
          have n3 := k4
          rw [← cw] at n3
          have n4 := k5
          rw [← cw] at n4
          simp only [List.take_succ_cons, List.take_zero, setAll, List.setIfInBounds_toArray, List.set_cons_succ, List.set_cons_zero, Nat.zero_add, Nat.reduceAdd, g14] at hK ⊢
          refine wp_unguard ?_
          refine wp_of_quiet rfl ?_
          go_big_quiet_step (fail)
          exact wpQuiet_nil (hK _ _ (rfl) (Below.refl _ _))
        · intro f wq hC hd KK hK
          simp only [List.take_succ_cons, List.take_zero, setAll, List.setIfInBounds_toArray, List.set_cons_succ, List.set_cons_zero, Nat.zero_add, Nat.reduceAdd] at hK ⊢
          refine wp_unguard ?_
          refine wp_of_quiet rfl ?_
          go_big_quiet_step (fail)
          exact wpQuiet_nil (hK _ _ (rfl) (Below.refl _ _))
        · intro f wq hC hd KK hK
          have g16 : f 16 = .slice (some ⟨b, o, none⟩) n c := hd 16 rfl
          simp only [List.take_succ_cons, List.take_zero, setAll, List.setIfInBounds_toArray, List.set_cons_succ, List.set_cons_zero, Nat.zero_add, Nat.reduceAdd, g16] at hK ⊢
          refine wp_unguard ?_
          refine wp_of_quiet rfl ?_
          go_big_quiet_step (fail)
          exact wpQuiet_nil (hK _ _ (rfl) (Below.refl _ _))
        · intro f wq hC hd KK hK
          have g17 : f 17 = .pointer (some ⟨b, o, none⟩) := hd 17 rfl
          have cw := CW.out wq hC.1
          have n0 := m1
          rw [← cw] at n0
          have n1 := m2
          rw [← cw] at n1
          have n2 := m3
          rw [← cw] at n2
          have n3 := m4
          rw [← cw] at n3
          have n4 := m5
          rw [← cw] at n4
          simp only [List.take_succ_cons, List.take_zero, setAll, List.setIfInBounds_toArray, List.set_cons_succ, List.set_cons_zero, Nat.zero_add, Nat.reduceAdd, g17] at hK ⊢
          refine wp_unguard ?_
          refine wp_of_quiet rfl ?_
          go_big_quiet_step (fail)
          exact wpQuiet_nil (hK _ _ (rfl) (Below.refl _ _))
        · intro f wq hC hd KK hK
          have g15 : f 15 = .agg #[.int .u8 (xk.toNat : Int), .slice ax xn cx, .int .i64 xc, .int .i64 xr, .int .u8 (xa.toNat : Int)] := hd 15 rfl
          have g18 : f 18 = .agg #[.int .u8 (yk.toNat : Int), .slice ay yn cy, .int .i64 yc, .int .i64 yr, .int .u8 (ya.toNat : Int)] := hd 18 rfl
          simp only [List.take_succ_cons, List.take_zero, setAll, List.setIfInBounds_toArray, List.set_cons_succ, List.set_cons_zero, Nat.zero_add, Nat.reduceAdd, g15, g18] at hK ⊢
          refine wp_unguard ?_
          exact wp_call 26 #[.agg #[.int .u8 (xk.toNat : Int), .slice ax xn cx, .int .i64 xc, .int .i64 xr, .int .u8 (xa.toNat : Int)], .agg #[.int .u8 (yk.toNat : Int), .slice ay yn cy, .int .i64 yc, .int .i64 yr, .int .u8 (ya.toNat : Int)]] (by simp [go_sem]) _ _ (SP.out wq hC.1) (fun w' hb => hK _ _ rfl hb)
        · intro f wq hC hd KK hK
          simp only [List.take_succ_cons, List.take_zero, setAll, List.setIfInBounds_toArray, List.set_cons_succ, List.set_cons_zero, Nat.zero_add, Nat.reduceAdd] at hK ⊢
          refine wp_unguard ?_
          refine wp_of_quiet rfl ?_
          go_big_quiet_step (fail)
          exact wpQuiet_nil (hK _ _ (rfl) (Below.refl _ _))
        · intro f wq hC hd KK hK
          simp only [List.take_succ_cons, List.take_zero, setAll, List.setIfInBounds_toArray, List.set_cons_succ, List.set_cons_zero, Nat.zero_add, Nat.reduceAdd] at hK ⊢
          refine wp_unguard ?_
          refine wp_of_quiet rfl ?_
          go_big_quiet_step (fail)
          exact wpQuiet_nil (hK _ _ (rfl) (Below.refl _ _))
        · intro f wq hC hd KK hK
          have g20 : f 20 = .slice (some ⟨b, o, none⟩) n c := hd 20 rfl
          have g21 : f 21 = .int .i64 (k : Int) := hd 21 rfl
          simp only [List.take_succ_cons, List.take_zero, setAll, List.setIfInBounds_toArray, List.set_cons_succ, List.set_cons_zero, Nat.zero_add, Nat.reduceAdd, g20, g21] at hK ⊢
          refine wp_unguard ?_
          refine wp_of_quiet rfl ?_
          go_big_quiet_step (fail)
          exact wpQuiet_nil (hK _ _ (rfl) (Below.refl _ _))
        · intro f wq hC hd KK hK
          have g22 : f 22 = .pointer (some ⟨b, o + k * 5, none⟩) := hd 22 rfl
          have cw := CW.out wq hC.1
          have n0 := k1
          rw [← cw] at n0
          have n1 := k2
          rw [← cw] at n1
          have n2 := k3
          rw [← cw] at n2
          have n3 := k4
          rw [← cw] at n3
          have n4 := k5
          rw [← cw] at n4
          simp only [List.take_succ_cons, List.take_zero, setAll, List.setIfInBounds_toArray, List.set_cons_succ, List.set_cons_zero, Nat.zero_add, Nat.reduceAdd, g22] at hK ⊢
          refine wp_unguard ?_
          refine wp_of_quiet rfl ?_
          go_big_quiet_step (fail)
          exact wpQuiet_nil (hK _ _ (rfl) (Below.refl _ _))
        · intro f wq hC hd KK hK
          simp only [List.take_succ_cons, List.take_zero, setAll, List.setIfInBounds_toArray, List.set_cons_succ, List.set_cons_zero, Nat.zero_add, Nat.reduceAdd] at hK ⊢
          refine wp_unguard ?_
          refine wp_of_quiet rfl ?_
          go_big_quiet_step (fail)
          exact wpQuiet_nil (hK _ _ (rfl) (Below.refl _ _))
        · intro f wq hC hd KK hK
          have g24 : f 24 = .slice (some ⟨b, o, none⟩) n c := hd 24 rfl
          simp only [List.take_succ_cons, List.take_zero, setAll, List.setIfInBounds_toArray, List.set_cons_succ, List.set_cons_zero, Nat.zero_add, Nat.reduceAdd, g24] at hK ⊢
          refine wp_unguard ?_
          refine wp_of_quiet rfl ?_
          go_big_quiet_step (fail)
          exact wpQuiet_nil (hK _ _ (rfl) (Below.refl _ _))
        · intro f wq hC hd KK hK
          have g25 : f 25 = .pointer (some ⟨b, o, none⟩) := hd 25 rfl
          have cw := CW.out wq hC.1
          have n0 := m1
          rw [← cw] at n0
          have n1 := m2
          rw [← cw] at n1
          have n2 := m3
          rw [← cw] at n2
          have n3 := m4
          rw [← cw] at n3
          have n4 := m5
          rw [← cw] at n4
          simp only [List.take_succ_cons, List.take_zero, setAll, List.setIfInBounds_toArray, List.set_cons_succ, List.set_cons_zero, Nat.zero_add, Nat.reduceAdd, g25] at hK ⊢
          refine wp_unguard ?_
          refine wp_of_quiet rfl ?_
          go_big_quiet_step (fail)
          exact wpQuiet_nil (hK _ _ (rfl) (Below.refl _ _))
        · intro f wq hC hd KK hK
          have g23 : f 23 = .agg #[.int .u8 (xk.toNat : Int), .slice ax xn cx, .int .i64 xc, .int .i64 xr, .int .u8 (xa.toNat : Int)] := hd 23 rfl
          have g26 : f 26 = .agg #[.int .u8 (yk.toNat : Int), .slice ay yn cy, .int .i64 yc, .int .i64 yr, .int .u8 (ya.toNat : Int)] := hd 26 rfl
          simp only [List.take_succ_cons, List.take_zero, setAll, List.setIfInBounds_toArray, List.set_cons_succ, List.set_cons_zero, Nat.zero_add, Nat.reduceAdd, g23, g26] at hK ⊢
          refine wp_unguard ?_
          exact wp_call 27 #[.agg #[.int .u8 (xk.toNat : Int), .slice ax xn cx, .int .i64 xc, .int .i64 xr, .int .u8 (xa.toNat : Int)], .agg #[.int .u8 (yk.toNat : Int), .slice ay yn cy, .int .i64 yc, .int .i64 yr, .int .u8 (ya.toNat : Int)]] (by simp [go_sem]) _ _ (SR.out wq hC.1) (fun w' hb => hK _ _ rfl hb)
      · intro f w5 hC hv
        have p0 : f 0 = .slice (some ⟨b, o, none⟩) n c := hv 0 (by decide)
        have p1 : f 1 = .int .i64 (k : Int) := hv 1 (by decide)
        have p2 : f 2 = .pointer (some ⟨b, o + k * 5, none⟩) := hv 2 (by decide)
        have p3 : f 3 = .agg #[.int .u8 (xk.toNat : Int), .slice ax xn cx, .int .i64 xc, .int .i64 xr, .int .u8 (xa.toNat : Int)] := hv 3 (by decide)
        have p4 : f 4 = .bool MM := hv 4 (by decide)
        have p5 : f 5 = .slice (some ⟨b, o, none⟩) n c := hv 5 (by decide)
        have p6 : f 6 = .int .i64 (k : Int) := hv 6 (by decide)
        have p7 : f 7 = .pointer (some ⟨b, o + k * 5, none⟩) := hv 7 (by decide)
        have p8 : f 8 = .agg #[.int .u8 (xk.toNat : Int), .slice ax xn cx, .int .i64 xc, .int .i64 xr, .int .u8 (xa.toNat : Int)] := hv 8 (by decide)
        have p9 : f 9 = .bool MM := hv 9 (by decide)
        have p10 : f 10 = .bool false := hv 10 (by decide)
        have p11 : f 11 = .bool false := hv 11 (by decide)
        have p12 : f 12 = .slice (some ⟨b, o, none⟩) n c := hv 12 (by decide)
        have p13 : f 13 = .int .i64 (k : Int) := hv 13 (by decide)
        have p14 : f 14 = .pointer (some ⟨b, o + k * 5, none⟩) := hv 14 (by decide)
        have p15 : f 15 = .agg #[.int .u8 (xk.toNat : Int), .slice ax xn cx, .int .i64 xc, .int .i64 xr, .int .u8 (xa.toNat : Int)] := hv 15 (by decide)
        have p16 : f 16 = .slice (some ⟨b, o, none⟩) n c := hv 16 (by decide)
        have p17 : f 17 = .pointer (some ⟨b, o, none⟩) := hv 17 (by decide)
        have p18 : f 18 = .agg #[.int .u8 (yk.toNat : Int), .slice ay yn cy, .int .i64 yc, .int .i64 yr, .int .u8 (ya.toNat : Int)] := hv 18 (by decide)
        have p19 : f 19 = .bool SS := hv 19 (by decide)
        have p20 : f 20 = .slice (some ⟨b, o, none⟩) n c := hv 20 (by decide)
        have p21 : f 21 = .int .i64 (k : Int) := hv 21 (by decide)
        have p22 : f 22 = .pointer (some ⟨b, o + k * 5, none⟩) := hv 22 (by decide)
        have p23 : f 23 = .agg #[.int .u8 (xk.toNat : Int), .slice ax xn cx, .int .i64 xc, .int .i64 xr, .int .u8 (xa.toNat : Int)] := hv 23 (by decide)
        have p24 : f 24 = .slice (some ⟨b, o, none⟩) n c := hv 24 (by decide)
        have p25 : f 25 = .pointer (some ⟨b, o, none⟩) := hv 25 (by decide)
        have p26 : f 26 = .agg #[.int .u8 (yk.toNat : Int), .slice ay yn cy, .int .i64 yc, .int .i64 yr, .int .u8 (ya.toNat : Int)] := hv 26 (by decide)
        have p27 : f 27 = .bool SS := hv 27 (by decide)
        simp only [List.take_succ_cons, List.take_zero, List.drop_succ_cons, List.drop_zero, setAll, List.setIfInBounds_toArray, List.set_cons_succ, List.set_cons_zero, Nat.zero_add, Nat.reduceAdd, p0, p1, p2, p3, p4, p5, p6, p7, p8, p9, p10, p11, p12, p13, p14, p15, p16, p17, p18, p19, p20, p21, p22, p23, p24, p25, p26, p27]
        clear hv p0 p1 p2 p3 p4 p5 p6 p7 p8 p9 p10 p11 p12 p13 p14 p15 p16 p17 p18 p19 p20 p21 p22 p23 p24 p25 p26 p27 k1 k2 k3 k4 k5 m1 m2 m3 m4 m5 CW MY MR SP SR BR BB
        have B5 := Box'.mk hC.2
        clear hC
        cases SS with
        | true =>
          go_wp2_with fail
          exact ⟨⟨k + 1, by go_num, by omega, B5⟩, by simp [intOf]; omega⟩
        | false =>
          go_wp2_with fail
          exact ⟨⟨k + 1, by go_num, by omega, B5⟩, by simp [intOf]; omega⟩
    · have hnlt : decide ((k : Int) < (n : Int)) = false := decide_eq_false (by omega)
      obtain ⟨q1, q2, q3, q4, q5⟩ := FIN.out wr BB.out
      have sm := refSame_any _ _ _ _ _ _ wr q2.bts q1.bts
      rw [decide_eq_true rfl] at sm
      have ls := lists_any wr v3 v4 XL (by have := RN.out; omega) q3 q4
      have LS := Box'.mk ls
      have B5 := Box'.mk q5
      clear FIN BW H3 q1 q2 q3 q4 q5 ls BB
      go_wp2_with fail
      refine sm.mono ?_
      rintro e w6 ⟨rfl, rfl⟩
      have ls := LS.out
      clear sm LS
      go_wp2_with fail
      refine ls.mono ?_
      rintro e w7 ⟨rfl, b7⟩
      have B7 := Box'.mk (B5.out.trans (b7.mono B5.out.size))
      have an := anchored_any w7
      clear ls b7 B5
      go_wp2_with fail
      refine an.mono ?_
      rintro e w8 ⟨rfl, b8⟩
      have B8 := Box'.mk (B7.out.trans (b8.mono B7.out.size))
      clear an b8 B7
      go_wp2_with fail
      go_ret
      exact ⟨rfl, B8.out⟩
end Go.Proofs.Ytciiaopbghjcnaa
