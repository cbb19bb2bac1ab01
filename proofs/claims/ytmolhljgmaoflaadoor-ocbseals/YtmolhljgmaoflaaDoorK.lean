/- The walk of expand of package aes: the round keys. -/
import Derived.Test.YtmolhljgmaoflaaDoorS
namespace Go.Proofs.YtmolhljgmaoflaaDoor
open Go.RowKit Go.BigFrame

theorem Tryd.zero50 : (Tryd.prog.info? 50).map (fun i => (i.zero, i.size)) = some (some (.agg (ag (Gf.zeros 176))), 176) := by kernel_rfl
theorem Tryd.zero79 : (Tryd.prog.info? 79).map (fun i => (i.zero, i.size)) = some (some (.agg (ag32 (Gf.zeros32 44))), 44) := by kernel_rfl
theorem Tryd.info50 : (Tryd.prog.info? 50).map (·.size) = some 176 := by kernel_rfl
theorem Tryd.info79 : (Tryd.prog.info? 79).map (·.size) = some 44 := by kernel_rfl

theorem xor_bx32 (x y : UInt32) : bits .xor .u32 (x.toNat : Int) (y.toNat : Int) = ((Gf.bx32 x y).toNat : Int) := xor_u32 x y

set_option maxRecDepth 100000 in
set_option maxHeartbeats 2000000 in
theorem expand_any (key t : List UInt8) (hkey : key.length = 16) (ht : t.length = 256) (w : World) (tb : Nat) (tt : TypeId) (htb : Row w tb tt (ag t)) :
    Calls Tryd.prog 43 #[.agg (ag key), .pointer (some ⟨tb, 0, none⟩)] w fun e w' => e = .returned (.agg (ag (Gf.keys t key))) ∧ Below w.heap.size w w' := by
  have hlt0 := htb.lt
  go_enter Tryd.func43, Tryd.ntmps43
  go_wp2_with (first
    | (refine wpList_alloc_row rfl 50 rfl _ _ Tryd.zero50 ?_)
    | (refine wpList_alloc_row rfl 79 rfl _ _ Tryd.zero79 ?_))
  go_loopw [6, 13] (fun p i wr => ∃ (k : Nat) (l : List UInt32) (q : UInt8), k ≤ 44 ∧ Hid (l = (Gf.wTo t key k).1) ∧ Hid (q = (Gf.wTo t key k).2) ∧ l.length = 44 ∧ i = .int .i64 k ∧ p = .int .u8 (q.toNat : Int) ∧ Row wr w.heap.size 23 (ag key) ∧ Room wr (w.heap.size + 1) 50 176 ∧ Row wr (w.heap.size + 1 + 1) 79 (ag32 l) ∧ wr.heap.size = w.heap.size + 1 + 1 + 1 ∧ Below w.heap.size w wr) (fun _ i _ => 44 - (intOf i).toNat)
  case atStart =>
    refine ⟨0, Gf.zeros32 44, 1, by omega, rfl, rfl, List.length_replicate, rfl, rfl, ?_, ?_, ?_, by simp, ?_⟩
    · exact ((Row.new _ _ _).alloc _).alloc _
    · exact (Room.made _ _ _ _ _ (by rw [ag_size]; exact List.length_replicate) (by simp)).alloc _
    · exact Row.made _ _ _ _ _ rfl (by simp)
    · exact (((Below.refl _ _).alloc (Nat.le_refl _) _).alloc (by simp) _).alloc (by simp; omega) _
  case round =>
    obtain ⟨k, l, q, hk, hL, hQ, hl, rfl, rfl, h0, h1, h2, hsz, hbl⟩ := hrel
    by_cases hlt : k < 44
    · have c2 := h2.word (k := k) (by omega)
      have f2 := h2.frozen k
      by_cases h4 : k < 4
      · have d0 := h0.byte (k := 4 * k) (by omega)
        have d1 := h0.byte (k := 4 * k + 1) (by omega)
        have d2 := h0.byte (k := 4 * k + 2) (by omega)
        have d3 := h0.byte (k := 4 * k + 3) (by omega)
        have hE : Hid ((Gf.wTo t key (k + 1)).1 = l.set k (Gf.jn (key.getD (4 * k) 0) (key.getD (4 * k + 1) 0) (key.getD (4 * k + 2) 0) (key.getD (4 * k + 3) 0)) ∧ (Gf.wTo t key (k + 1)).2 = q) := by
          have e1 := hL.out
          have e2 := hQ.out
          show _ ∧ _
          rw [e1, e2]
          simp [Gf.wTo, h4, Gf.wordAt]
        generalize key.getD (4 * k) 0 = x0 at *
        generalize key.getD (4 * k + 1) 0 = x1 at *
        generalize key.getD (4 * k + 2) 0 = x2 at *
        generalize key.getD (4 * k + 3) 0 = x3 at *
        obtain ⟨m, hm⟩ : ∃ m, m = 4 * k := ⟨_, rfl⟩
        have hm' : (4 : Int) * (k : Int) = (m : Int) := by omega
        rw [← hm] at d0 d1 d2 d3
        have hm12 : m ≤ 12 := by omega
        clear hm
        go_wp2
        refine wp_region_tail 21 (by kernel_rfl) (by kernel_rfl) ?_
        simp only [List.take_succ_cons, List.take_zero, List.drop_succ_cons, List.drop_zero]
        repeat (first | go_big_quiet_step (fail) | (go_big_quiet_want; go_big_quiet_op; refine ⟨_, join_any _ _ _ _ _, ?_⟩; go_big_quiet_on))
        refine wpQuiet_nil ?_
        go_wp2
        go_roundw
        case rel =>
          refine ⟨k + 1, _, _, by omega, hE.out.1.symm, hE.out.2.symm, by simp [hl], by go_num, rfl, ?_, ?_, ?_, by simpa using hsz, ?_⟩
          · exact (h0.setOther _ _ (by simp; omega)).drew
          · exact (h1.setOther _ _ (by simp)).drew
          · exact (h2.setWord k _).drew
          · exact (hbl.setCell (by simp; omega) _).drew
        case measure => simp [intOf]; omega
      · have c3 := h2.word (k := k - 1) (by omega)
        have c4 := h2.word (k := k - 4) (by omega)
        have hrow := htb.below hbl hlt0
        by_cases hm4 : k % 4 = 0
        · have hE : Hid ((Gf.wTo t key (k + 1)).1 = l.set k (Gf.bx32 (l.getD (k - 4) 0) (Gf.turned t (l.getD (k - 1) 0) q)) ∧ (Gf.wTo t key (k + 1)).2 = Gf.dbl q) := by
            have e1 := hL.out
            have e2 := hQ.out
            show _ ∧ _
            rw [e1, e2]
            simp [Gf.wTo, h4, hm4]
          generalize l.getD (k - 1) 0 = x at *
          generalize l.getD (k - 4) 0 = y at *
          have hx : ∀ x y : UInt8, bits .xor .u8 (x.toNat : Int) (y.toNat : Int) = ((Gf.bx x y).toNat : Int) := xor_bx
          have hx32 : ∀ x y : UInt32, bits .xor .u32 (x.toNat : Int) (y.toNat : Int) = ((Gf.bx32 x y).toNat : Int) := xor_bx32
          have t16 := hrow.byte (k := (Gf.byt x 65536).toNat) (by rw [ht]; exact UInt8.toNat_lt _)
          have t8 := hrow.byte (k := (Gf.byt x 256).toNat) (by rw [ht]; exact UInt8.toNat_lt _)
          have t0 := hrow.byte (k := (Gf.byt x 1).toNat) (by rw [ht]; exact UInt8.toNat_lt _)
          have t24 := hrow.byte (k := (Gf.byt x 16777216).toNat) (by rw [ht]; exact UInt8.toNat_lt _)
          have b16 : (Gf.byt x 65536).toNat < 256 := UInt8.toNat_lt _
          have b8 : (Gf.byt x 256).toNat < 256 := UInt8.toNat_lt _
          have b0 : (Gf.byt x 1).toNat < 256 := UInt8.toNat_lt _
          have b24 : (Gf.byt x 16777216).toNat < 256 := UInt8.toNat_lt _
          have hxl : x.toNat < 4294967296 := x.toNat_lt
          have r16 : (x.toNat : Int) / 65536 % 256 = ((Gf.byt x 65536).toNat : Int) := by rw [Gf.byt_toNat]; omega
          have r8 : (x.toNat : Int) / 256 % 256 = ((Gf.byt x 256).toNat : Int) := by rw [Gf.byt_toNat]; omega
          have r0 : (x.toNat : Int) % 256 = ((Gf.byt x 1).toNat : Int) := by rw [Gf.byt_toNat]; omega
          have r24 : (x.toNat : Int) / 16777216 = ((Gf.byt x 16777216).toNat : Int) := by rw [Gf.byt_toNat]; omega
          change Hid ((Gf.wTo t key (k + 1)).1 = l.set k (Gf.bx32 y (Gf.jn (Gf.bx (t.getD (Gf.byt x 65536).toNat 0) q) (t.getD (Gf.byt x 256).toNat 0) (t.getD (Gf.byt x 1).toNat 0) (t.getD (Gf.byt x 16777216).toNat 0))) ∧ (Gf.wTo t key (k + 1)).2 = Gf.dbl q) at hE
          generalize t.getD (Gf.byt x 65536).toNat 0 = z0 at *
          generalize t.getD (Gf.byt x 256).toNat 0 = z1 at *
          generalize t.getD (Gf.byt x 1).toNat 0 = z2 at *
          generalize t.getD (Gf.byt x 16777216).toNat 0 = z3 at *
          generalize (Gf.byt x 65536).toNat = i0 at *
          generalize (Gf.byt x 256).toNat = i1 at *
          generalize (Gf.byt x 1).toNat = i2 at *
          generalize (Gf.byt x 16777216).toNat = i3 at *
          obtain ⟨k1, hk1⟩ : ∃ k1, k1 = k - 1 := ⟨_, rfl⟩
          obtain ⟨k4, hk4⟩ : ∃ k4, k4 = k - 4 := ⟨_, rfl⟩
          have hk1' : (k : Int) - 1 = (k1 : Int) := by omega
          have hk4' : (k : Int) - 4 = (k4 : Int) := by omega
          have hmi : (k : Int) % 4 = 0 := by omega
          have hb1 : k1 < 44 := by omega
          have hb4 : k4 < 44 := by omega
          rw [← hk1] at c3
          rw [← hk4] at c4
          clear hk1 hk4 hm4
          go_wp2
          go_quiet ((go_at_call 58; exact Calls.quiet_of_same (join_any _ _ _ _ _)))
          go_wp2_with (go_at_call 56; refine (double_any _ _).mono ?_; rintro e w' ⟨rfl, rfl⟩)
          go_roundw
          case rel =>
            refine ⟨k + 1, _, _, by omega, hE.out.1.symm, hE.out.2.symm, by simp [hl], by go_num, rfl, ?_, ?_, ?_, by simpa using hsz, ?_⟩
            · exact (h0.drewN nq).setOther _ _ (by simp; omega)
            · exact (h1.drewN nq).setOther _ _ (by simp)
            · exact (h2.drewN nq).setWord k _
            · exact (Below.drewN hbl nq).setCell (by simp; omega) _
          case measure => simp [intOf]; omega
        · have hE : Hid ((Gf.wTo t key (k + 1)).1 = l.set k (Gf.bx32 (l.getD (k - 4) 0) (l.getD (k - 1) 0)) ∧ (Gf.wTo t key (k + 1)).2 = q) := by
            have e1 := hL.out
            have e2 := hQ.out
            show _ ∧ _
            rw [e1, e2]
            simp [Gf.wTo, h4, hm4]
          generalize l.getD (k - 1) 0 = x at *
          generalize l.getD (k - 4) 0 = y at *
          have hx32 : ∀ x y : UInt32, bits .xor .u32 (x.toNat : Int) (y.toNat : Int) = ((Gf.bx32 x y).toNat : Int) := xor_bx32
          obtain ⟨k1, hk1⟩ : ∃ k1, k1 = k - 1 := ⟨_, rfl⟩
          obtain ⟨k4, hk4⟩ : ∃ k4, k4 = k - 4 := ⟨_, rfl⟩
          have hk1' : (k : Int) - 1 = (k1 : Int) := by omega
          have hk4' : (k : Int) - 4 = (k4 : Int) := by omega
          have hmi : ((k : Int) % 4 == 0) = false := by rw [beq_eq_false_iff_ne]; omega
          have hb1 : k1 < 44 := by omega
          have hb4 : k4 < 44 := by omega
          rw [← hk1] at c3
          rw [← hk4] at c4
          clear hk1 hk4 hm4
          go_wp2
          go_roundw
          case rel =>
            refine ⟨k + 1, _, _, by omega, hE.out.1.symm, hE.out.2.symm, by simp [hl], by go_num, rfl, ?_, ?_, ?_, by simpa using hsz, ?_⟩
            · exact h0.setOther _ _ (by simp; omega)
            · exact h1.setOther _ _ (by simp)
            · exact h2.setWord k _
            · exact hbl.setCell (by simp; omega) _
          case measure => simp [intOf]; omega
    · have HK : Hid (k = 44) := by show _ = _; omega
      clear hQ
      go_wp2_with (first
        | (refine wpList_alloc_row rfl 50 rfl _ _ Tryd.zero50 ?_)
        | (refine wpList_load_row rfl 79 _ rfl _ rfl _ _ (h2.alloc _) _ Tryd.underlying79 rfl 44 Tryd.info79 (by rw [ag32_size]; exact hl) ?_))
      go_loopw [89] (fun i wr => ∃ k : Nat, k ≤ 44 ∧ i = .int .i64 k ∧ Room wr (w.heap.size + 1) 50 176 ∧ Row wr (w.heap.size + 1 + 1 + 1) 50 (ag (Gf.fill (Gf.zeros 176) (Gf.keyByte l) (4 * k))) ∧ Below w.heap.size w wr) (fun i _ => 44 - (intOf i).toNat)
      case atStart =>
        refine ⟨0, by omega, rfl, ?_, ?_, ?_⟩
        · exact h1.alloc _
        · exact Row.made _ _ _ _ _ rfl hsz.symm
        · exact hbl.alloc (by omega) _
      case round =>
        clear h0 h1 h2 hsz hbl hlt
        obtain ⟨k, hk, rfl, h1, h2, hbl⟩ := hrel
        by_cases hlt : k < 44
        · obtain ⟨x, hxe⟩ : ∃ x, l.getD k 0 = x := ⟨_, rfl⟩
          have hix : (Instr.index 79 (.agg (ag32 l)) (.int .i64 (k : Int))).run Tryd.prog wr = .ok (.int .u32 (x.toNat : Int)) wr := run_index_arr wr 79 78 44 _ k _ .i64 .u32 Tryd.underlying79 Tryd.underlying78 (by kernel_rfl) hlt (by rw [ag32_get (by omega), hxe])
          have HX := show Hid _ from hxe
          clear hxe
          have hxl : x.toNat < 4294967296 := x.toNat_lt
          go_wp2
          go_loopw [93] (fun i wr => ∃ n : Nat, n ≤ 4 ∧ i = .int .i64 n ∧ Room wr (w.heap.size + 1) 50 176 ∧ Row wr (w.heap.size + 1 + 1 + 1) 50 (ag (Gf.fill (Gf.zeros 176) (Gf.keyByte l) (4 * k + n))) ∧ Below w.heap.size w wr) (fun i _ => 4 - (intOf i).toNat)
          case atStart => exact ⟨0, by omega, rfl, h1, h2, hbl⟩
          case round =>
            clear h1 h2 hbl
            obtain ⟨n, hn, rfl, h1, h2, hbl⟩ := hrel
            by_cases hn4 : n < 4
            · obtain ⟨q4, hq4⟩ : ∃ q4, k / 4 = q4 := ⟨_, rfl⟩
              obtain ⟨m4, hm4⟩ : ∃ m4, k % 4 = m4 := ⟨_, rfl⟩
              have i1 : (k : Int) / 4 = (q4 : Int) := by omega
              have i2 : (k : Int) % 4 = (m4 : Int) := by omega
              have i3 : q4 < 11 := by omega
              have i4 : m4 < 4 := by omega
              have ho : Hid (q4 * 16 + (m4 * 4 + n) = 4 * k + n) := by show _ = _; omega
              have c2 := h2.byte (k := q4 * 16 + (m4 * 4 + n)) (by rw [Gf.fill_len]; show _ < (Gf.zeros 176).length; rw [show (Gf.zeros 176).length = 176 from List.length_replicate]; omega)
              have f2 := h2.frozen (q4 * 16 + (m4 * 4 + n))
              clear hq4 hm4
              go_wp2
              refine wp_region_tail 14 (by kernel_rfl) (by kernel_rfl) ?_
              simp only [List.take_succ_cons, List.take_zero, List.drop_succ_cons, List.drop_zero]
              repeat (go_big_quiet_step (fail))
              refine wpQuiet_nil ?_
              go_wp2
              refine ⟨⟨n + 1, by omega, by go_num, ?_, ?_, ?_⟩, by simp [intOf]; omega⟩
              · exact (h1.setOther _ _ (by simp)).drew
              · have hv : ((x.toNat : Int) / 2 ^ (24 - 8 * n) % 256) = (((Gf.keyByte l (4 * k + n)).toNat : Nat) : Int) := by
                  have e1 : (4 * k + n) / 4 = k := by omega
                  have e2 : (4 * k + n) % 4 = n := by omega
                  unfold Gf.keyByte
                  rw [Gf.byt_toNat, e1, e2, HX.out]; simp
                rw [hv, ho.out]
                exact (h2.setByte (4 * k + n) _).drew
              · exact (hbl.setCell (by simp; omega) _).drew
            · have hn' : n = 4 := by omega
              subst hn'
              go_wp2
              go_roundw
              case rel => exact ⟨k + 1, by omega, by go_num, h1, h2, hbl⟩
              case measure => simp [intOf]; omega
        · have hk' : k = 44 := by omega
          subst hk'
          have hs : Row wr (w.heap.size + 1 + 1 + 1) 50 (ag (Gf.keys t key)) := by
            have hl' : l = Gf.words t key := by
              have := hL.out
              rw [HK.out] at this; exact this
            have hF := Gf.fill_full (Gf.zeros 176) (Gf.keyByte l) 176 List.length_replicate
            have hG : (List.range 176).map (Gf.keyByte l) = Gf.keys t key := by rw [hl']; rfl
            rw [hG] at hF
            rw [← hF]; exact h2
          clear h2
          go_wp2_with (first
            | (refine wpList_load_row rfl 50 _ rfl _ rfl _ _ hs _ Tryd.underlying50 rfl 176 Tryd.info50 (by rw [ag_size]; exact Gf.keys_len t key) ?_)
            | (refine wpList_store_row rfl 50 _ _ rfl _ rfl _ rfl _ _ h1 Tryd.info50 (by rw [ag_size]; exact Gf.keys_len t key) (ag_one _) ?_))
          exact bodyPost_ret (results_row rfl _ _ rfl _ _ (h1.setRow _) _ Tryd.underlying50 rfl 176 Tryd.info50 (by rw [ag_size]; exact Gf.keys_len t key)) rfl ⟨rfl, below_setRow hbl (by omega) _⟩
end Go.Proofs.YtmolhljgmaoflaaDoor
