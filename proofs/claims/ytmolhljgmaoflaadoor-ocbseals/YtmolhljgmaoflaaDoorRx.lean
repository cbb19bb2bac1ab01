/- The walks of the reference's functions on blocks: exclusive or, round keys. -/
import Derived.Test.YtmolhljgmaoflaaDoorK
import Derived.Test.YtmolhljgmaoflaaDoorBw
import Derived.Test.YtmolhljgmaoflaaDoorRm
import Derived.Test.YtmolhljgmaoflaaDoorSl
import Derived.Test.YtmolhljgmaoflaaDoorI
import Derived.Test.YtmolhljgmaoflaaDoorQ
import Derived.Laws.CopyOwn
namespace Go.Proofs.YtmolhljgmaoflaaDoor
open Go.RowKit Go.BigFrame

set_option maxHeartbeats 400000 in
theorem refAgainst_any (a b : List UInt8) (ha : a.length = 16) (hb : b.length = 16) (w : World) :
    Calls Tryd.prog 51 #[.agg (ag a), .agg (ag b)] w fun e w' => e = .returned (.agg (ag (Gf.bxor a b))) ∧ Below w.heap.size w w' := by
  have hF : Gf.fill a (fun i => a.getD i 0 ^^^ b.getD i 0) 16 = Gf.bxor a b := Gf.fill_full _ _ _ ha
  have HF := show Hid _ from hF
  clear hF
  go_enter Tryd.func51, Tryd.ntmps51
  go_wp2
  go_loopw [5] (fun i wr => ∃ k : Nat, k ≤ 16 ∧ i = .int .i64 k ∧ Row wr w.heap.size 23 (ag (Gf.fill a (fun i => a.getD i 0 ^^^ b.getD i 0) k)) ∧ Row wr (w.heap.size + 1) 23 (ag b) ∧ Room wr (w.heap.size + 1 + 1) 23 16 ∧ Below w.heap.size w wr) (fun i _ => 16 - (intOf i).toNat)
  case atStart =>
    refine ⟨0, by omega, rfl, ?_, ?_, ?_, ?_⟩
    · exact ((Row.new _ _ _).alloc _).alloc _
    · simpa using (Row.new (w.alloc (.cells (ag a) 23)) 23 (ag b)).alloc _
    · simpa using Room.new ((w.alloc (.cells (ag a) 23)).alloc (.cells (ag b) 23)) 23 _ 16 rfl
    · exact (((Below.refl _ _).alloc (Nat.le_refl _) _).alloc (by simp) _).alloc (by simp; omega) _
  case round =>
    obtain ⟨k, hk, rfl, h1, h2, h3, hbl⟩ := hrel
    by_cases hlt : k < 16
    · have c1 := h1.byte (k := k) (by rw [Gf.fill_len, ha]; exact hlt)
      have f1 := h1.frozen k
      have c2 := h2.byte (k := k) (by rw [hb]; exact hlt)
      rw [Gf.fill_get _ _ _ _ (Nat.le_refl _)] at c1
      go_wp2
      go_region
      go_wp2
      go_roundw
      case rel =>
        refine ⟨k + 1, by omega, by go_num, ?_, ?_, ?_, ?_⟩
        · have e : Gf.fill a (fun i => a.getD i 0 ^^^ b.getD i 0) (k + 1) = (Gf.fill a (fun i => a.getD i 0 ^^^ b.getD i 0) k).set k (a[k] ^^^ b[k]) := by simp [Gf.fill, ha, hb, hlt]
          rw [e, xor_u8]; exact (h1.setByte k _).drew
        · exact (h2.setOther _ _ (by simp)).drew
        · exact (h3.setOther _ _ (by simp; omega)).drew
        · exact (hbl.setCell (Nat.le_refl _) _).drew
      case measure => simp [intOf]; omega
    · have hk' : k = 16 := by omega
      subst hk'
      rw [HF.out] at h1
      have hl := Gf.bxor_len a b
      go_wp2_with (first
        | (refine wpList_load_row rfl 23 _ rfl _ rfl _ _ h1 _ Tryd.underlying23 rfl 16 Tryd.info23 (by rw [ag_size, hl]) ?_)
        | (refine wpList_store_row rfl 23 _ _ rfl _ rfl _ rfl _ _ h3 Tryd.info23 (by rw [ag_size, hl]) (ag_one _) ?_))
      exact bodyPost_ret (results_row rfl _ _ rfl _ _ (h3.setRow _) _ Tryd.underlying23 rfl 16 Tryd.info23 (by rw [ag_size, hl])) rfl ⟨rfl, below_setRow hbl (by omega) _⟩


theorem fill_four (z : List UInt8) (f : Nat → UInt8) (m a : Nat) (h : a + 4 ≤ m) (hz : a + 4 ≤ z.length) : List.take 4 (List.drop a (Gf.fill z f m)) = [f a, f (a + 1), f (a + 2), f (a + 3)] := by
  have hl := Gf.fill_len z f m
  have hg : ∀ j, j < 4 → (Gf.fill z f m).getD (a + j) 0 = f (a + j) := fun j hj => by
    rw [List.getD_eq_getElem?_getD, Gf.fill_at z f m (a + j) (by omega) (by omega)]; rfl
  rw [drop_cons_getD _ a (by omega), drop_cons_getD _ (a + 1) (by omega), drop_cons_getD _ (a + 2) (by omega), drop_cons_getD _ (a + 3) (by omega)]
  have g0 := hg 0 (by decide)
  rw [Nat.add_zero] at g0
  rw [g0, hg 1 (by decide), hg 2 (by decide), hg 3 (by decide)]
  rfl
theorem times_two : ∀ n, n < 256 → Gf.timesN n 2 = Gf.dblN n := by decide +kernel
theorem refTimes_two (q : UInt8) (w : World) : Calls Tryd.prog 52 #[.int .u8 (q.toNat : Int), .int .u8 2] w fun e w' => e = .returned (.int .u8 ((Gf.dbl q).toNat : Int)) ∧ w' = w := by
  have h := refTimes_any q 2 w
  have e : Gf.times q 2 = Gf.dbl q := by
    apply UInt8.toNat_inj.1
    rw [Gf.times_toNat, Gf.dbl_toNat]
    exact times_two q.toNat q.toNat_lt
  rw [e] at h; exact h
theorem Tryd.zero86 : (Tryd.prog.info? 86).map (fun i => (i.zero, i.size)) = some (some (.agg (ag (Gf.zeros 176))), 176) := by kernel_rfl
theorem Tryd.zero85 : (Tryd.prog.info? 85).map (fun i => (i.zero, i.size)) = some (some (.agg (ag (Gf.zeros 4))), 4) := by kernel_rfl
theorem Tryd.info85 : (Tryd.prog.info? 85).map (·.size) = some 4 := by kernel_rfl

set_option maxRecDepth 100000 in
set_option maxHeartbeats 1000000 in
theorem refExpand_any (key t : List UInt8) (hkey : key.length = 16) (ht : t.length = 256) (w : World) (tb : Nat) (tt : TypeId) (htb : Row w tb tt (ag t)) :
    Calls Tryd.prog 61 #[.pointer (some ⟨tb, 0, none⟩), .agg (ag key)] w fun e w' => e = .returned (.agg (ag (Gf.keys t key))) ∧ Below w.heap.size w w' := by
  have hlt0 := htb.lt
  have HW : Hid (Gf.keys t key = (List.range 176).map (Gf.keyByte (Gf.words t key))) := rfl
  have HF : Hid (∀ k n, k < 4 → n < 4 → Gf.keyByte (Gf.words t key) (4 * k + n) = key.getD (4 * k + n) 0) := Gf.key_lt4 t key
  have HG : Hid (∀ k n, 4 ≤ k → k < 44 → n < 4 → Gf.keyByte (Gf.words t key) (4 * k + n) = Gf.bx (Gf.keyByte (Gf.words t key) (4 * (k - 4) + n)) (Gf.xByte t (Gf.words t key) (Gf.wTo t key k).2 k n)) := Gf.key_ge4 t key
  generalize Gf.words t key = ws at *
  go_enter Tryd.func61, Tryd.ntmps61
  go_wp2_with (first
    | (refine wpList_alloc_row rfl 50 rfl _ _ Tryd.zero50 ?_)
    | (refine wpList_alloc_row rfl 86 rfl _ _ Tryd.zero86 ?_))
  go_loopw [6, 7] (fun p i wr => ∃ (k : Nat) (q : UInt8), k ≤ 44 ∧ Hid (q = (Gf.wTo t key k).2) ∧ i = .int .i64 k ∧ p = .int .u8 (q.toNat : Int) ∧ Row wr w.heap.size 23 (ag key) ∧ Room wr (w.heap.size + 1) 50 176 ∧ Row wr (w.heap.size + 1 + 1) 86 (ag (Gf.fill (Gf.zeros 176) (Gf.keyByte ws) (4 * k))) ∧ Below w.heap.size w wr) (fun _ i _ => 44 - (intOf i).toNat)
  case atStart =>
    refine ⟨0, 1, by omega, rfl, rfl, rfl, ?_, ?_, ?_, ?_⟩
    · exact ((Row.new _ _ _).alloc _).alloc _
    · exact (Room.made _ _ _ _ _ (by rw [ag_size]; exact List.length_replicate) (by simp)).alloc _
    · exact Row.made _ _ _ _ _ rfl (by simp)
    · exact (((Below.refl _ _).alloc (Nat.le_refl _) _).alloc (by simp) _).alloc (by simp; omega) _
  case round =>
    obtain ⟨k, q, hk, hQ, rfl, rfl, h0, h1, h2, hbl⟩ := hrel
    have hfl : (Gf.fill (Gf.zeros 176) (Gf.keyByte ws) (4 * k)).length = 176 := by rw [Gf.fill_len]; exact List.length_replicate
    by_cases hlt : k < 44
    · by_cases h4 : k < 4
      · obtain ⟨m, hm⟩ : ∃ m, m = 4 * k := ⟨_, rfl⟩
        have hm' : (4 : Int) * (k : Int) = (m : Int) := by omega
        have hm12 : m ≤ 12 := by omega
        have HMM := show Hid _ from hm
        clear hm
        go_wp2
        refine wp_region_tail 9 (by kernel_rfl) (by kernel_rfl) ?_
        simp only [List.take_succ_cons, List.take_zero, List.drop_succ_cons, List.drop_zero]
        repeat (go_big_quiet_step (fail))
        go_big_quiet_want
        refine quiet_run _ (fun w' => slice_op 23 _ _ _ _ rfl _ w' (by exact run_slice_arr w' 23 5 16 Tryd.underlying23 (by kernel_rfl) w.heap.size 0 m (m + 4) (by omega) (by omega) (by omega))) ?_
        go_big_quiet_on
        simp only [Act.put, List.setIfInBounds_toArray, List.set_cons_succ, List.set_cons_zero]
        refine wpQuiet_nil ?_
        refine wpList_copy_bytes rfl _ _ 24 24 rfl 5 Tryd.underlying24 (by kernel_rfl) (w.heap.size + 1 + 1) (k * 4) 4 4 w.heap.size (0 + m) (m + 4 - m) (16 - m) rfl rfl _ key 86 23 h2.drew h0.drew 4 (by rw [show m + 4 - m = 4 from by omega]; rfl) (by rw [hfl]; omega) (by rw [hkey]; omega) ?_
        have HE : Hid (splice (Gf.fill (Gf.zeros 176) (Gf.keyByte ws) (4 * k)) (k * 4) (List.take 4 (List.drop (0 + m) key)) = Gf.fill (Gf.zeros 176) (Gf.keyByte ws) (4 * (k + 1))) := by
          show _ = _
          have e1 : k * 4 = 4 * k := by omega
          have e2 : 4 * (k + 1) = 4 * k + 4 := by omega
          rw [e1, e2]
          refine fill_splice _ _ _ (by rw [show (Gf.zeros 176).length = 176 from List.length_replicate]; omega) _ ?_
          rw [HF.out k 1 h4 (by decide), HF.out k 2 h4 (by decide), HF.out k 3 h4 (by decide)]
          have h00 := HF.out k 0 h4 (by decide)
          rw [Nat.add_zero] at h00
          rw [h00, Nat.zero_add, HMM.out]
          rw [drop_cons_getD key (4 * k) (by omega), drop_cons_getD key (4 * k + 1) (by omega), drop_cons_getD key (4 * k + 2) (by omega), drop_cons_getD key (4 * k + 3) (by omega)]
          rfl
        have HQ' : Hid (q = (Gf.wTo t key (k + 1)).2) := by
          have := hQ.out
          show _ = _
          rw [Gf.rc_keep t key k (.inl h4)]; exact this
        generalize splice (Gf.fill (Gf.zeros 176) (Gf.keyByte ws) (4 * k)) (k * 4) (List.take 4 (List.drop (0 + m) key)) = s1 at *
        go_wp2
        go_roundw
        case rel =>
          refine ⟨k + 1, q, by omega, HQ', by go_num, rfl, (h0.drew).setRowOther _ _ (by omega), (h1.drew).setRowOther _ _ (by omega), ?_, below_setRow hbl.drew (by omega) _⟩
          rw [← HE.out]; exact h2.drew.setRow _
        case measure => simp [intOf]; omega
      · have hpart : (Gf.fill (Gf.zeros 176) (Gf.keyByte ws) (4 * k)).length = 176 := hfl
        obtain ⟨k1, hk1⟩ : ∃ k1, k1 = k - 1 := ⟨_, rfl⟩
        have hk1' : (k : Int) - 1 = (k1 : Int) := by omega
        have hb1 : k1 < 44 := by omega
        have HK1 := show Hid _ from hk1
        clear hk1
        by_cases hm4 : k % 4 = 0
        · have hmi : (k : Int) % 4 = 0 := by omega
          go_wp2_with (first
            | (refine wpList_load_part rfl 85 _ rfl _ _ rfl _ _ h2 _ Tryd.underlying85 rfl 4 Tryd.info85 (by rw [hfl]; omega) ?_)
            | (refine wpList_alloc_row rfl 85 rfl _ _ Tryd.zero85 ?_)
            | (refine wpList_store_row rfl 85 _ _ rfl _ rfl _ rfl _ _ (Room.new _ _ _ _ (by rw [ag_size]; rfl)) Tryd.info85 (by rw [ag_size, List.length_take, List.length_drop, hfl]; omega) (ag_one _) ?_; rw [World.setRow_alloc_new])
            | fail)
          have hxs : List.take 4 (List.drop (k1 * 4) (Gf.fill (Gf.zeros 176) (Gf.keyByte ws) (4 * k))) = [Gf.keyByte ws (4 * k1), Gf.keyByte ws (4 * k1 + 1), Gf.keyByte ws (4 * k1 + 2), Gf.keyByte ws (4 * k1 + 3)] := by
            have e1 : k1 * 4 = 4 * k1 := by omega
            have e2 : 4 * k1 + 4 ≤ 4 * k := by have := HK1.out; omega
            rw [e1]
            exact fill_four _ _ _ _ e2 (by rw [show (Gf.zeros 176).length = 176 from List.length_replicate]; omega)
          rw [hxs]
          clear hxs
          have g0 := h0.alloc (.cells (ag [Gf.keyByte ws (4 * k1), Gf.keyByte ws (4 * k1 + 1), Gf.keyByte ws (4 * k1 + 2), Gf.keyByte ws (4 * k1 + 3)]) 85)
          have g1 := h1.alloc (.cells (ag [Gf.keyByte ws (4 * k1), Gf.keyByte ws (4 * k1 + 1), Gf.keyByte ws (4 * k1 + 2), Gf.keyByte ws (4 * k1 + 3)]) 85)
          have g2 := h2.alloc (.cells (ag [Gf.keyByte ws (4 * k1), Gf.keyByte ws (4 * k1 + 1), Gf.keyByte ws (4 * k1 + 2), Gf.keyByte ws (4 * k1 + 3)]) 85)
          have gx := Row.new wr 85 (ag [Gf.keyByte ws (4 * k1), Gf.keyByte ws (4 * k1 + 1), Gf.keyByte ws (4 * k1 + 2), Gf.keyByte ws (4 * k1 + 3)])
          have gb := hbl.alloc hbl.size (.cells (ag [Gf.keyByte ws (4 * k1), Gf.keyByte ws (4 * k1 + 1), Gf.keyByte ws (4 * k1 + 2), Gf.keyByte ws (4 * k1 + 3)]) 85)
          have hxb : w.heap.size + 1 + 1 < wr.heap.size := h2.lt
          have gt := (htb.below hbl hlt0).alloc (.cells (ag [Gf.keyByte ws (4 * k1), Gf.keyByte ws (4 * k1 + 1), Gf.keyByte ws (4 * k1 + 2), Gf.keyByte ws (4 * k1 + 3)]) 85)
          clear h0 h1 h2 hbl
          generalize wr.alloc (.cells (ag [Gf.keyByte ws (4 * k1), Gf.keyByte ws (4 * k1 + 1), Gf.keyByte ws (4 * k1 + 2), Gf.keyByte ws (4 * k1 + 3)]) 85) = W1 at *
          generalize wr.heap.size = xb at *
          have c0 := gx.byte (k := 0) (by simp)
          have c1 := gx.byte (k := 1) (by simp)
          have c2 := gx.byte (k := 2) (by simp)
          have c3 := gx.byte (k := 3) (by simp)
          simp only [List.getD_cons_zero, List.getD_cons_succ] at c0 c1 c2 c3
          have t0 := gt.byte (k := (Gf.keyByte ws (4 * k1)).toNat) (by rw [ht]; exact UInt8.toNat_lt _)
          have t1 := gt.byte (k := (Gf.keyByte ws (4 * k1 + 1)).toNat) (by rw [ht]; exact UInt8.toNat_lt _)
          have t2 := gt.byte (k := (Gf.keyByte ws (4 * k1 + 2)).toNat) (by rw [ht]; exact UInt8.toNat_lt _)
          have t3 := gt.byte (k := (Gf.keyByte ws (4 * k1 + 3)).toNat) (by rw [ht]; exact UInt8.toNat_lt _)
          have b0 : (Gf.keyByte ws (4 * k1)).toNat < 256 := UInt8.toNat_lt _
          have b1 : (Gf.keyByte ws (4 * k1 + 1)).toNat < 256 := UInt8.toNat_lt _
          have b2 : (Gf.keyByte ws (4 * k1 + 2)).toNat < 256 := UInt8.toNat_lt _
          have b3 : (Gf.keyByte ws (4 * k1 + 3)).toNat < 256 := UInt8.toNat_lt _
          have HXB0 : Hid (∀ n, n < 4 → ([Gf.bx (t.getD (Gf.keyByte ws (4 * k1 + 1)).toNat 0) q, t.getD (Gf.keyByte ws (4 * k1 + 2)).toNat 0, t.getD (Gf.keyByte ws (4 * k1 + 3)).toNat 0, t.getD (Gf.keyByte ws (4 * k1)).toNat 0] : List UInt8).getD n 0 = Gf.xByte t ws (Gf.wTo t key k).2 k n) := by
            intro n hn
            have e1 := HK1.out
            have e2 := hQ.out
            unfold Gf.xByte
            rw [if_pos hm4, ← e1, ← e2]
            have hc : n = 0 ∨ n = 1 ∨ n = 2 ∨ n = 3 := by omega
            rcases hc with rfl | rfl | rfl | rfl <;> rfl
          have HQ' : Hid (Gf.dbl q = (Gf.wTo t key (k + 1)).2) := by
            have := hQ.out
            show _ = _
            rw [Gf.rc_dbl t key k (by omega) hm4, this]
          clear hQ
          generalize t.getD (Gf.keyByte ws (4 * k1)).toNat 0 = z0 at *
          generalize t.getD (Gf.keyByte ws (4 * k1 + 1)).toNat 0 = z1 at *
          generalize t.getD (Gf.keyByte ws (4 * k1 + 2)).toNat 0 = z2 at *
          generalize t.getD (Gf.keyByte ws (4 * k1 + 3)).toNat 0 = z3 at *
          have HXB := HXB0
          clear HXB0 hm4
          generalize Gf.keyByte ws (4 * k1) = y0 at *
          generalize Gf.keyByte ws (4 * k1 + 1) = y1 at *
          generalize Gf.keyByte ws (4 * k1 + 2) = y2 at *
          generalize Gf.keyByte ws (4 * k1 + 3) = y3 at *
          have hxx : ∀ x y : UInt8, bits .xor .u8 (x.toNat : Int) (y.toNat : Int) = ((Gf.bx x y).toNat : Int) := xor_bx
          refine wp_region_tail 27 (by kernel_rfl) (by kernel_rfl) ?_
          simp only [List.take_succ_cons, List.take_zero, List.drop_succ_cons, List.drop_zero]
          repeat (go_big_quiet_step (fail))
          refine wpQuiet_nil ?_
          refine wpList_store_row rfl 85 _ _ rfl _ rfl (ag [Gf.bx z1 q, z2, z3, z0]) rfl _ _ (gx.drew.room (by rw [ag_size]; rfl)) Tryd.info85 (by rw [ag_size]; rfl) (ag_one _) ?_
          have k0 := g0.drew.setRowOther xb (ag [Gf.bx z1 q, z2, z3, z0]) (by omega)
          have k1' := g1.drew.setRowOther xb (ag [Gf.bx z1 q, z2, z3, z0]) (by omega)
          have k2 := g2.drew.setRowOther xb (ag [Gf.bx z1 q, z2, z3, z0]) (by omega)
          have kx := gx.drew.setRow (ag [Gf.bx z1 q, z2, z3, z0])
          have kb := below_setRow gb.drew (Nat.le_of_lt (by omega : w.heap.size < xb)) (ag [Gf.bx z1 q, z2, z3, z0])
          clear g0 g1 g2 gx gb gt c0 c1 c2 c3 t0 t1 t2 t3 hxx
          generalize W1.drew.setRow xb (ag [Gf.bx z1 q, z2, z3, z0]) = W2 at *
          go_wp2_with (go_at_call 52; refine (refTimes_two q _).mono ?_; rintro e w' ⟨rfl, rfl⟩)
          go_loopw [9] (fun i wr => ∃ n : Nat, n ≤ 4 ∧ i = .int .i64 n ∧ Row wr w.heap.size 23 (ag key) ∧ Room wr (w.heap.size + 1) 50 176 ∧ Row wr (w.heap.size + 1 + 1) 86 (ag (Gf.fill (Gf.zeros 176) (Gf.keyByte ws) (4 * k + n))) ∧ Row wr xb 85 (ag [Gf.bx z1 q, z2, z3, z0]) ∧ Below w.heap.size w wr) (fun i _ => 4 - (intOf i).toNat)
          case atStart => exact ⟨0, by omega, rfl, k0, k1', k2, kx, kb⟩
          case round =>
            clear k0 k1' k2 kx kb
            obtain ⟨n, hn, rfl, f0, f1, f2, fx, fb⟩ := hrel
            by_cases hn4 : n < 4
            · obtain ⟨x, hx⟩ : ∃ x, ([Gf.bx z1 q, z2, z3, z0] : List UInt8).getD n 0 = x := ⟨_, rfl⟩
              obtain ⟨y, hy⟩ : ∃ y, Gf.keyByte ws (4 * (k - 4) + n) = y := ⟨_, rfl⟩
              have HE : Hid (Gf.fill (Gf.zeros 176) (Gf.keyByte ws) (4 * k + n + 1) = (Gf.fill (Gf.zeros 176) (Gf.keyByte ws) (4 * k + n)).set (4 * k + n) (Gf.bx y x)) := by
                show _ = _
                rw [Gf.fill, HG.out k n (by omega) hlt hn4, ← HXB.out n hn4, hx, hy]
              obtain ⟨k4, hk4⟩ : ∃ k4, k4 = k - 4 := ⟨_, rfl⟩
              have hk4' : (k : Int) - 4 = (k4 : Int) := by omega
              have hb4 : k4 < 44 := by omega
              have hln : ([Gf.bx z1 q, z2, z3, z0] : List UInt8).length = 4 := rfl
              have cx := cell_form (fx.byte (k := n) (by rw [hln]; exact hn4)) hx
              have cy : wr.cell? ⟨w.heap.size + 1 + 1, k4 * 4 + n, none⟩ = some (.int .u8 (y.toNat : Int)) := by
                have e : k4 * 4 + n = 4 * (k - 4) + n := by omega
                rw [e, f2.cell, ag_get (by rw [Gf.fill_len]; show _ < (List.replicate 176 (0 : UInt8)).length; rw [List.length_replicate]; omega)]
                rw [List.getD_eq_getElem?_getD, Gf.fill_at _ _ _ _ (by omega) (by show _ < (List.replicate 176 (0 : UInt8)).length; rw [List.length_replicate]; omega), Option.getD_some, hy]
              have cz : wr.cell? ⟨w.heap.size + 1 + 1, k * 4 + n, none⟩ = some (.int .u8 (((Gf.fill (Gf.zeros 176) (Gf.keyByte ws) (4 * k + n)).getD (k * 4 + n) 0).toNat : Int)) := f2.byte (by rw [Gf.fill_len]; show _ < (List.replicate 176 (0 : UInt8)).length; rw [List.length_replicate]; omega)
              have fz := f2.frozen (k * 4 + n)
              have HO : Hid (k * 4 + n = 4 * k + n) := by show _ = _; omega
              clear hx hy hk4
              generalize (Gf.fill (Gf.zeros 176) (Gf.keyByte ws) (4 * k + n)).getD (k * 4 + n) 0 = zz at *
              have hxx : ∀ x y : UInt8, bits .xor .u8 (x.toNat : Int) (y.toNat : Int) = ((Gf.bx x y).toNat : Int) := xor_bx
              go_wp2
              refine wp_region_tail 13 (by kernel_rfl) (by kernel_rfl) ?_
              simp only [List.take_succ_cons, List.take_zero, List.drop_succ_cons, List.drop_zero]
              repeat (go_big_quiet_step (fail))
              refine wpQuiet_nil ?_
              go_wp2
              refine ⟨⟨n + 1, by omega, by go_num, ?_, ?_, ?_, ?_, ?_⟩, by simp [intOf]; omega⟩
              · exact (f0.setOther _ _ (by simp; omega)).drew
              · exact (f1.setOther _ _ (by simp)).drew
              · rw [← Nat.add_assoc, HE.out, HO.out]; exact (f2.setByte (4 * k + n) _).drew
              · exact (fx.setOther _ _ (by simp; omega)).drew
              · exact (fb.setCell (by simp; omega) _).drew
            · have hn' : n = 4 := by omega
              subst hn'
              go_wp2
              go_roundw
              case rel => exact ⟨k + 1, Gf.dbl q, by omega, HQ', by go_num, rfl, f0, f1, f2, fb⟩
              case measure => simp [intOf]; omega
        · have hmi : ((k : Int) % 4 == 0) = false := by rw [beq_eq_false_iff_ne]; omega
          go_wp2_with (first
            | (refine wpList_load_part rfl 85 _ rfl _ _ rfl _ _ h2 _ Tryd.underlying85 rfl 4 Tryd.info85 (by rw [hfl]; omega) ?_)
            | (refine wpList_alloc_row rfl 85 rfl _ _ Tryd.zero85 ?_)
            | (refine wpList_store_row rfl 85 _ _ rfl _ rfl _ rfl _ _ (Room.new _ _ _ _ (by rw [ag_size]; rfl)) Tryd.info85 (by rw [ag_size, List.length_take, List.length_drop, hfl]; omega) (ag_one _) ?_; rw [World.setRow_alloc_new])
            | fail)
          have hxs : List.take 4 (List.drop (k1 * 4) (Gf.fill (Gf.zeros 176) (Gf.keyByte ws) (4 * k))) = [Gf.keyByte ws (4 * k1), Gf.keyByte ws (4 * k1 + 1), Gf.keyByte ws (4 * k1 + 2), Gf.keyByte ws (4 * k1 + 3)] := by
            have e1 : k1 * 4 = 4 * k1 := by omega
            have e2 : 4 * k1 + 4 ≤ 4 * k := by have := HK1.out; omega
            rw [e1]
            exact fill_four _ _ _ _ e2 (by rw [show (Gf.zeros 176).length = 176 from List.length_replicate]; omega)
          rw [hxs]
          clear hxs
          have g0 := h0.alloc (.cells (ag [Gf.keyByte ws (4 * k1), Gf.keyByte ws (4 * k1 + 1), Gf.keyByte ws (4 * k1 + 2), Gf.keyByte ws (4 * k1 + 3)]) 85)
          have g1 := h1.alloc (.cells (ag [Gf.keyByte ws (4 * k1), Gf.keyByte ws (4 * k1 + 1), Gf.keyByte ws (4 * k1 + 2), Gf.keyByte ws (4 * k1 + 3)]) 85)
          have g2 := h2.alloc (.cells (ag [Gf.keyByte ws (4 * k1), Gf.keyByte ws (4 * k1 + 1), Gf.keyByte ws (4 * k1 + 2), Gf.keyByte ws (4 * k1 + 3)]) 85)
          have gx := Row.new wr 85 (ag [Gf.keyByte ws (4 * k1), Gf.keyByte ws (4 * k1 + 1), Gf.keyByte ws (4 * k1 + 2), Gf.keyByte ws (4 * k1 + 3)])
          have gb := hbl.alloc hbl.size (.cells (ag [Gf.keyByte ws (4 * k1), Gf.keyByte ws (4 * k1 + 1), Gf.keyByte ws (4 * k1 + 2), Gf.keyByte ws (4 * k1 + 3)]) 85)
          have hxb : w.heap.size + 1 + 1 < wr.heap.size := h2.lt
          have gt := (htb.below hbl hlt0).alloc (.cells (ag [Gf.keyByte ws (4 * k1), Gf.keyByte ws (4 * k1 + 1), Gf.keyByte ws (4 * k1 + 2), Gf.keyByte ws (4 * k1 + 3)]) 85)
          clear h0 h1 h2 hbl
          generalize wr.alloc (.cells (ag [Gf.keyByte ws (4 * k1), Gf.keyByte ws (4 * k1 + 1), Gf.keyByte ws (4 * k1 + 2), Gf.keyByte ws (4 * k1 + 3)]) 85) = W1 at *
          generalize wr.heap.size = xb at *
          have HXB : Hid (∀ n, n < 4 → ([Gf.keyByte ws (4 * k1), Gf.keyByte ws (4 * k1 + 1), Gf.keyByte ws (4 * k1 + 2), Gf.keyByte ws (4 * k1 + 3)] : List UInt8).getD n 0 = Gf.xByte t ws (Gf.wTo t key k).2 k n) := by
            intro n hn
            have e1 := HK1.out
            unfold Gf.xByte
            rw [if_neg hm4, ← e1]
            have hc : n = 0 ∨ n = 1 ∨ n = 2 ∨ n = 3 := by omega
            rcases hc with rfl | rfl | rfl | rfl <;> rfl
          have HQ' : Hid (q = (Gf.wTo t key (k + 1)).2) := by
            have := hQ.out
            show _ = _
            rw [Gf.rc_keep t key k (.inr hm4)]; exact this
          clear hQ gt hm4
          generalize Gf.keyByte ws (4 * k1) = y0 at *
          generalize Gf.keyByte ws (4 * k1 + 1) = y1 at *
          generalize Gf.keyByte ws (4 * k1 + 2) = y2 at *
          generalize Gf.keyByte ws (4 * k1 + 3) = y3 at *
          go_loopw [9] (fun i wr => ∃ n : Nat, n ≤ 4 ∧ i = .int .i64 n ∧ Row wr w.heap.size 23 (ag key) ∧ Room wr (w.heap.size + 1) 50 176 ∧ Row wr (w.heap.size + 1 + 1) 86 (ag (Gf.fill (Gf.zeros 176) (Gf.keyByte ws) (4 * k + n))) ∧ Row wr xb 85 (ag [y0, y1, y2, y3]) ∧ Below w.heap.size w wr) (fun i _ => 4 - (intOf i).toNat)
          case atStart => exact ⟨0, by omega, rfl, g0, g1, g2, gx, gb⟩
          case round =>
            clear g0 g1 g2 gx gb
            obtain ⟨n, hn, rfl, f0, f1, f2, fx, fb⟩ := hrel
            by_cases hn4 : n < 4
            · obtain ⟨x, hx⟩ : ∃ x, ([y0, y1, y2, y3] : List UInt8).getD n 0 = x := ⟨_, rfl⟩
              obtain ⟨y, hy⟩ : ∃ y, Gf.keyByte ws (4 * (k - 4) + n) = y := ⟨_, rfl⟩
              have HE : Hid (Gf.fill (Gf.zeros 176) (Gf.keyByte ws) (4 * k + n + 1) = (Gf.fill (Gf.zeros 176) (Gf.keyByte ws) (4 * k + n)).set (4 * k + n) (Gf.bx y x)) := by
                show _ = _
                rw [Gf.fill, HG.out k n (by omega) hlt hn4, ← HXB.out n hn4, hx, hy]
              obtain ⟨k4, hk4⟩ : ∃ k4, k4 = k - 4 := ⟨_, rfl⟩
              have hk4' : (k : Int) - 4 = (k4 : Int) := by omega
              have hb4 : k4 < 44 := by omega
              have hln : ([y0, y1, y2, y3] : List UInt8).length = 4 := rfl
              have cx := cell_form (fx.byte (k := n) (by rw [hln]; exact hn4)) hx
              have cy : wr.cell? ⟨w.heap.size + 1 + 1, k4 * 4 + n, none⟩ = some (.int .u8 (y.toNat : Int)) := by
                have e : k4 * 4 + n = 4 * (k - 4) + n := by omega
                rw [e, f2.cell, ag_get (by rw [Gf.fill_len]; show _ < (List.replicate 176 (0 : UInt8)).length; rw [List.length_replicate]; omega)]
                rw [List.getD_eq_getElem?_getD, Gf.fill_at _ _ _ _ (by omega) (by show _ < (List.replicate 176 (0 : UInt8)).length; rw [List.length_replicate]; omega), Option.getD_some, hy]
              have cz : wr.cell? ⟨w.heap.size + 1 + 1, k * 4 + n, none⟩ = some (.int .u8 (((Gf.fill (Gf.zeros 176) (Gf.keyByte ws) (4 * k + n)).getD (k * 4 + n) 0).toNat : Int)) := f2.byte (by rw [Gf.fill_len]; show _ < (List.replicate 176 (0 : UInt8)).length; rw [List.length_replicate]; omega)
              have fz := f2.frozen (k * 4 + n)
              have HO : Hid (k * 4 + n = 4 * k + n) := by show _ = _; omega
              clear hx hy hk4
              generalize (Gf.fill (Gf.zeros 176) (Gf.keyByte ws) (4 * k + n)).getD (k * 4 + n) 0 = zz at *
              have hxx : ∀ x y : UInt8, bits .xor .u8 (x.toNat : Int) (y.toNat : Int) = ((Gf.bx x y).toNat : Int) := xor_bx
              go_wp2
              refine wp_region_tail 13 (by kernel_rfl) (by kernel_rfl) ?_
              simp only [List.take_succ_cons, List.take_zero, List.drop_succ_cons, List.drop_zero]
              repeat (go_big_quiet_step (fail))
              refine wpQuiet_nil ?_
              go_wp2
              refine ⟨⟨n + 1, by omega, by go_num, ?_, ?_, ?_, ?_, ?_⟩, by simp [intOf]; omega⟩
              · exact (f0.setOther _ _ (by simp; omega)).drew
              · exact (f1.setOther _ _ (by simp)).drew
              · rw [← Nat.add_assoc, HE.out, HO.out]; exact (f2.setByte (4 * k + n) _).drew
              · exact (fx.setOther _ _ (by simp; omega)).drew
              · exact (fb.setCell (by simp; omega) _).drew
            · have hn' : n = 4 := by omega
              subst hn'
              go_wp2
              go_roundw
              case rel => exact ⟨k + 1, q, by omega, HQ', by go_num, rfl, f0, f1, f2, fb⟩
              case measure => simp [intOf]; omega
    · have HK44 : Hid (k = 44) := by show _ = _; omega
      clear hQ
      have hob := h2.lt
      go_wp2_with (refine wpList_alloc_row rfl 50 rfl _ _ Tryd.zero50 ?_)
      have g1 := h1.alloc (.cells (ag (Gf.zeros 176)) 50)
      have g2 := h2.alloc (.cells (ag (Gf.zeros 176)) 50)
      have go := Row.new wr 50 (ag (Gf.zeros 176))
      have gb := hbl.alloc hbl.size (.cells (ag (Gf.zeros 176)) 50)
      clear h0 h1 h2 hbl
      generalize wr.alloc (.cells (ag (Gf.zeros 176)) 50) = W1 at *
      generalize wr.heap.size = ob at *
      go_loopw [11] (fun i wr => ∃ j : Nat, j ≤ 44 ∧ i = .int .i64 j ∧ Room wr (w.heap.size + 1) 50 176 ∧ Row wr (w.heap.size + 1 + 1) 86 (ag (Gf.fill (Gf.zeros 176) (Gf.keyByte ws) (4 * k))) ∧ Row wr ob 50 (ag (Gf.fill (Gf.zeros 176) (Gf.keyByte ws) (4 * j))) ∧ Below w.heap.size w wr) (fun i _ => 44 - (intOf i).toNat)
      case atStart => exact ⟨0, by omega, rfl, g1, g2, go, gb⟩
      case round =>
        clear g1 g2 go gb
        obtain ⟨j, hj, rfl, f1, f2, fo, fb⟩ := hrel
        by_cases hj4 : j < 44
        · obtain ⟨q4, hq4⟩ : ∃ q4, j / 4 = q4 := ⟨_, rfl⟩
          obtain ⟨m4, hm4⟩ : ∃ m4, j % 4 = m4 := ⟨_, rfl⟩
          have i1 : (j : Int) / 4 = (q4 : Int) := by omega
          have i2 : (j : Int) % 4 = (m4 : Int) := by omega
          have i3 : q4 < 11 := by omega
          have i4 : m4 < 4 := by omega
          obtain ⟨o4, ho4⟩ : ∃ o4, 4 * m4 = o4 := ⟨_, rfl⟩
          have i5 : (4 : Int) * (m4 : Int) = (o4 : Int) := by omega
          have i6 : o4 ≤ 12 := by omega
          have HO : Hid (q4 * 16 + o4 = 4 * j) := by show _ = _; omega
          have hflo : (Gf.fill (Gf.zeros 176) (Gf.keyByte ws) (4 * j)).length = 176 := by rw [Gf.fill_len]; exact List.length_replicate
          clear hq4 hm4 ho4
          go_wp2
          refine wp_region_tail 10 (by kernel_rfl) (by kernel_rfl) ?_
          simp only [List.take_succ_cons, List.take_zero, List.drop_succ_cons, List.drop_zero]
          repeat (go_big_quiet_step (fail))
          go_big_quiet_want
          refine quiet_run _ (fun w' => slice_op 23 _ _ _ _ rfl _ w' (by exact run_slice_from w' 23 5 16 Tryd.underlying23 (by kernel_rfl) ob (q4 * 16) o4 (by omega))) ?_
          go_big_quiet_on
          simp only [Act.put, List.setIfInBounds_toArray, List.set_cons_succ, List.set_cons_zero]
          repeat (go_big_quiet_step (fail))
          refine wpQuiet_nil ?_
          refine wpList_copy_bytes rfl _ _ 24 24 rfl 5 Tryd.underlying24 (by kernel_rfl) ob (q4 * 16 + o4) (16 - o4) (16 - o4) (w.heap.size + 1 + 1) (j * 4) 4 4 rfl rfl _ _ 50 86 fo.drew f2.drew 4 (by show 4 = min 4 (16 - o4); omega) (by rw [hflo]; have := HO.out; omega) (by rw [hfl]; omega) ?_
          have HE : Hid (splice (Gf.fill (Gf.zeros 176) (Gf.keyByte ws) (4 * j)) (q4 * 16 + o4) (List.take 4 (List.drop (j * 4) (Gf.fill (Gf.zeros 176) (Gf.keyByte ws) (4 * k)))) = Gf.fill (Gf.zeros 176) (Gf.keyByte ws) (4 * (j + 1))) := by
            show _ = _
            have e2 : 4 * (j + 1) = 4 * j + 4 := by omega
            have e3 : j * 4 = 4 * j := by omega
            have hz : (Gf.zeros 176).length = 176 := List.length_replicate
            rw [HO.out, e2, e3]
            exact fill_splice _ _ _ (by rw [hz]; omega) _ (fill_four _ _ _ _ (by have := HK44.out; omega) (by rw [hz]; omega))
          generalize splice (Gf.fill (Gf.zeros 176) (Gf.keyByte ws) (4 * j)) (q4 * 16 + o4) (List.take 4 (List.drop (j * 4) (Gf.fill (Gf.zeros 176) (Gf.keyByte ws) (4 * k)))) = s1 at *
          go_wp2
          go_roundw
          case rel =>
            refine ⟨j + 1, by omega, by go_num, f1.drew.setRowOther _ _ (by omega), f2.drew.setRowOther _ _ (by omega), ?_, below_setRow fb.drew (by omega) _⟩
            rw [← HE.out]; exact fo.drew.setRow _
          case measure => simp [intOf]; omega
        · have hs : Row wr ob 50 (ag (Gf.keys t key)) := by
            have e : 4 * j = 176 := by omega
            have hF := Gf.fill_full (Gf.zeros 176) (Gf.keyByte ws) 176 List.length_replicate
            rw [e, hF, ← HW.out] at fo; exact fo
          have hlen := Gf.keys_len t key
          have HLen := show Hid _ from hlen
          clear hlen fo
          go_wp2_with (first
            | (refine wpList_load_row rfl 50 _ rfl _ rfl _ _ hs _ Tryd.underlying50 rfl 176 Tryd.info50 (by rw [ag_size]; exact HLen.out) ?_)
            | (refine wpList_store_row rfl 50 _ _ rfl _ rfl _ rfl _ _ f1 Tryd.info50 (by rw [ag_size]; exact HLen.out) (ag_one _) ?_))
          exact bodyPost_ret (results_row rfl _ _ rfl _ _ (f1.setRow _) _ Tryd.underlying50 rfl 176 Tryd.info50 (by rw [ag_size]; exact HLen.out)) rfl ⟨rfl, below_setRow fb (by omega) _⟩
end Go.Proofs.YtmolhljgmaoflaaDoor
