/- The walk of Decrypt of package aes. -/
import Derived.Test.YtmolhljgmaoflaaDoorE
import Derived.Test.YtmolhljgmaoflaaDoorY
namespace Go.Proofs.YtmolhljgmaoflaaDoor
open Go.RowKit Go.BigFrame

theorem Env.store2 {N sb kb : Nat} {T KK : List UInt8} {w0 w : World} (h : Env N sb kb T KK w0 w) (h1 : N + 1 + 1 < sb) (h2 : N + 1 + 1 < kb) (s : List UInt8) (hs : s.length = 16) : Env N sb kb T KK w0 (w.setRow (N + 1) (ag s)) :=
  ⟨(h.blk.setRow _).room (by rw [ag_size]; exact hs), h.res.setRowOther _ _ (by omega), h.tab.setRowOther _ _ (by omega), h.kys.setRowOther _ _ (by omega), below_setRow h.bel (by omega) _⟩

set_option maxRecDepth 100000 in
set_option maxHeartbeats 2000000 in
theorem decrypt_any (key b : List UInt8) (hkey : key.length = 16) (hb : b.length = 16) (w : World) :
    Calls Tryd.prog 36 #[.agg (ag key), .agg (ag b)] w fun e w' => e = .returned (.agg (ag (Gf.decrypt key b))) ∧ Below w.heap.size w w' := by
  go_enter Tryd.func36, Tryd.ntmps36
  go_wp2_with fail
  refine (substitutes_any _).mono ?_
  rintro e w1 ⟨rfl, hb1⟩
  have r1 : Row w1 w.heap.size 23 (ag key) := Row.below (((Row.new _ _ _).alloc _).alloc _) hb1 (by simp; omega)
  have r2 : Row w1 (w.heap.size + 1) 23 (ag b) := Row.below ((Row.made _ _ _ _ _ rfl (by simp)).alloc _) hb1 (by simp)
  have r3 : Room w1 (w.heap.size + 1 + 1) 23 16 := Room.below (Room.made _ _ _ _ _ rfl (by simp)) hb1 (by simp)
  have hbl : Below w.heap.size w w1 := ((((Below.refl _ _).alloc (Nat.le_refl _) _).alloc (by simp) _).alloc (by simp; omega) _).trans (hb1.mono (by simp; omega))
  have hz1 : w.heap.size + 1 + 1 < w1.heap.size := r3.elim fun _ h => h.1.lt
  clear hb1
  have HS : Hid (Gf.sbox.length = 256) := Gf.sbox_len
  have HR : Hid (Gf.decrypt key b = Gf.bxor (Gf.decTo Gf.sbox (Gf.orig Gf.sbox) (Gf.keys Gf.sbox key) b 10) (Gf.rk (Gf.keys Gf.sbox key) 0)) := rfl
  generalize Gf.sbox = T at *
  go_wp2_with (first
    | (refine wpList_alloc_row rfl 66 rfl _ _ Tryd.zero66 ?_)
    | (refine wpList_store_row rfl 66 _ _ rfl _ rfl _ rfl _ _ (Room.new _ _ _ _ (by rw [ag_size]; exact List.length_replicate)) Tryd.info66 (by rw [ag_size]; exact HS.out) (ag_one _) ?_; rw [World.setRow_alloc_new])
    | (refine wpList_load_row rfl 23 _ rfl _ rfl _ _ (r1.alloc _) _ Tryd.underlying23 rfl 16 Tryd.info23 (by rw [ag_size]; exact hkey) ?_)
    | fail)
  refine (expand_any key T hkey HS.out _ _ _ (Row.new _ _ _)).mono ?_
  rintro e w2 ⟨rfl, hb2⟩
  have q2 : Row w2 (w.heap.size + 1) 23 (ag b) := (r2.alloc _).below hb2 (by simp; omega)
  have q3 : Room w2 (w.heap.size + 1 + 1) 23 16 := (r3.alloc _).below hb2 (by simp; omega)
  have q4 : Row w2 w1.heap.size 66 (ag T) := (Row.new _ _ _).below hb2 (by simp)
  have hbl2 : Below w.heap.size w w2 := (hbl.alloc (by omega) _).trans (hb2.mono (by simp; omega))
  clear r1 r2 r3 hbl hb2
  generalize w1.heap.size = sb at *
  have hz2 : sb < w2.heap.size := q4.lt
  have HK : Hid ((Gf.keys T key).length = 176) := Gf.keys_len T key
  generalize Gf.keys T key = KK at *
  go_wp2_with (first
    | (refine wpList_alloc_row rfl 50 rfl _ _ Tryd.zero50 ?_)
    | (refine wpList_store_row rfl 50 _ _ rfl _ rfl _ rfl _ _ (Room.new _ _ _ _ (by rw [ag_size]; exact List.length_replicate)) Tryd.info50 (by rw [ag_size]; exact HK.out) (ag_one _) ?_; rw [World.setRow_alloc_new])
    | fail)
  refine (origins_any T HS.out _ _ _ (q4.alloc _)).mono ?_
  rintro e w3 ⟨rfl, hb3⟩
  have p2 : Row w3 (w.heap.size + 1) 23 (ag b) := (q2.alloc _).below hb3 (by simp; omega)
  have p3 : Room w3 (w.heap.size + 1 + 1) 23 16 := (q3.alloc _).below hb3 (by simp; omega)
  have p5 : Row w3 w2.heap.size 50 (ag KK) := (Row.new _ _ _).below hb3 (by simp)
  have hbl3 : Below w.heap.size w w3 := (hbl2.alloc (by omega) _).trans (hb3.mono (by simp; omega))
  clear q2 q3 q4 hbl2 hb3
  generalize w2.heap.size = kb at *
  have hz3 : kb < w3.heap.size := p5.lt
  have HU : Hid ((Gf.orig T).length = 256) := Gf.origTo_len T 256
  generalize Gf.orig T = U at *
  go_wp2_with (first
    | (refine wpList_alloc_row rfl 66 rfl _ _ Tryd.zero66 ?_)
    | (refine wpList_store_row rfl 66 _ _ rfl _ rfl _ rfl _ _ (Room.new _ _ _ _ (by rw [ag_size]; exact List.length_replicate)) Tryd.info66 (by rw [ag_size]; exact HU.out) (ag_one _) ?_; rw [World.setRow_alloc_new])
    | fail)
  go_loopw [8] (fun i wr => ∃ (j : Nat) (s : List UInt8), j ≤ 10 ∧ Hid (s = Gf.decTo T U KK b j) ∧ s.length = 16 ∧ i = .int .i64 ((10 : Int) - j) ∧ Row wr (w.heap.size + 1) 23 (ag s) ∧ Env w.heap.size w3.heap.size kb U KK w wr) (fun i _ => (intOf i).toNat)
  case atStart =>
    exact ⟨0, b, by omega, rfl, hb, rfl, p2.alloc _, ⟨(p2.alloc _).room (by rw [ag_size]; exact hb), p3.alloc _, Row.new _ _ _, p5.alloc _, hbl3.alloc (by omega) _⟩⟩
  case round =>
    clear p2 p3 p5 hbl3
    have hz4 : w.heap.size + 1 + 1 < w3.heap.size := by omega
    have hz5 : w.heap.size + 1 + 1 < kb := by omega
    clear hz1 hz2 hz3
    generalize w3.heap.size = ub at *
    obtain ⟨j, s, hj, hs, hl, rfl, h2, hv⟩ := hrel
    by_cases hlt : j < 10
    · obtain ⟨r, hr⟩ : ∃ r, r = 10 - j := ⟨_, rfl⟩
      have hr' : (10 : Int) - (j : Int) = (r : Int) := by omega
      have hr1 : 1 ≤ r := by omega
      have hr10 : r ≤ 10 := by omega
      have HR2 := show Hid _ from hr
      clear hr
      go_wp2
      refine wp_region_tail 4 (by kernel_rfl) (by kernel_rfl) ?_
      simp only [List.take_succ_cons, List.take_zero, List.drop_succ_cons, List.drop_zero]
      go_big_quiet_want
      refine quiet_load_row 23 _ rfl _ rfl _ _ (fun w' hw' => by rw [hw']; exact h2) _ Tryd.underlying23 rfl 16 Tryd.info23 (by rw [ag_size]; exact hl) ?_
      go_big_quiet_on
      simp only [Act.put, List.setIfInBounds_toArray, List.set_cons_succ, List.set_cons_zero]
      repeat (go_big_quiet_step (fail))
      go_big_quiet_want
      refine quiet_load_part 23 _ rfl _ _ rfl _ _ (fun w' hw' => by rw [hw']; exact hv.kys) _ Tryd.underlying23 rfl 16 Tryd.info23 (by rw [HK.out]; omega) ?_
      go_big_quiet_on
      simp only [Act.put, List.setIfInBounds_toArray, List.set_cons_succ, List.set_cons_zero]
      refine wpQuiet_nil ?_
      go_wp2_with fail
      refine (against_any s (Gf.rk KK r) hl (Gf.rk_len _ _ HK.out hr10) _).mono ?_
      rintro e w4 ⟨rfl, hb4⟩
      have hv4 := hv.drew.below hb4
      have l5 := Gf.bxor_len s (Gf.rk KK r)
      have hv5 := hv4.store2 hz4 hz5 (Gf.bxor s (Gf.rk KK r)) l5
      have h5 := hv4.blk.setRow (ag (Gf.bxor s (Gf.rk KK r)))
      have hE0 : Hid (Gf.decTo T U KK b (j + 1) = Gf.subst U (Gf.turn (if r < 10 then Gf.unmixL (Gf.bxor s (Gf.rk KK r)) else Gf.bxor s (Gf.rk KK r)) 3)) := by
        have e1 := hs.out
        have e2 := HR2.out
        show _ = _
        rw [e1, e2]; rfl
      clear hb4 hv h2
      generalize Gf.bxor s (Gf.rk KK r) = s1 at *
      by_cases h9 : r < 10
      · have hE : Hid (Gf.decTo T U KK b (j + 1) = Gf.subst U (Gf.turn (Gf.unmixL s1) 3)) := by
          have := hE0.out
          rw [if_pos h9] at this; exact this
        clear hE0
        go_wp2_with (first
          | (refine wpList_store_row rfl 23 _ _ rfl _ rfl _ rfl _ _ hv4.blk Tryd.info23 (by rw [ag_size]; exact l5) (ag_one _) ?_)
          | (refine wpList_load_row rfl 23 _ rfl _ rfl _ _ h5 _ Tryd.underlying23 rfl 16 Tryd.info23 (by rw [ag_size]; exact l5) ?_)
          | fail)
        clear hv4
        refine (unmix_any s1 l5 _).mono ?_
        rintro e w6 ⟨rfl, hb6⟩
        have hv5' := hv5.below hb6
        have l6 : (Gf.unmixL s1).length = 16 := by rw [Gf.unmixL_len]; exact l5
        have hv6 := hv5'.store2 hz4 hz5 (Gf.unmixL s1) l6
        have h6 := hv5'.blk.setRow (ag (Gf.unmixL s1))
        clear hb6 hv5 h5
        generalize Gf.unmixL s1 = s2 at *
        go_wp2_with (first
          | (refine wpList_store_row rfl 23 _ _ rfl _ rfl _ rfl _ _ hv5'.blk Tryd.info23 (by rw [ag_size]; exact l6) (ag_one _) ?_)
          | (refine wpList_load_row rfl 23 _ rfl _ rfl _ _ h6 _ Tryd.underlying23 rfl 16 Tryd.info23 (by rw [ag_size]; exact l6) ?_)
          | fail)
        refine (turn3_any s2 l6 _).mono ?_
        rintro e w7 ⟨rfl, hb7⟩
        have hv7 := hv6.below hb7
        clear hb7 hv6 h6
        go_wp2_with fail
        refine (replace_any (Gf.turn s2 3) U (Gf.turn_len _ _) HU.out _ _ _ hv7.tab).mono ?_
        rintro e w8 ⟨rfl, hb8⟩
        have hv8 := hv7.below hb8
        have l8 := Gf.subst_len U (Gf.turn s2 3)
        have hv9 := hv8.store2 hz4 hz5 (Gf.subst U (Gf.turn s2 3)) l8
        have h9 := hv8.blk.setRow (ag (Gf.subst U (Gf.turn s2 3)))
        clear hb8 hv7
        generalize Gf.subst U (Gf.turn s2 3) = s3 at *
        go_wp2_with (refine wpList_store_row rfl 23 _ _ rfl _ rfl _ rfl _ _ hv8.blk Tryd.info23 (by rw [ag_size]; exact l8) (ag_one _) ?_)
        go_roundw
        case rel => exact ⟨j + 1, s3, by omega, hE.out.symm, l8, by go_num, h9, hv9⟩
        case measure => simp [intOf]; omega
      · have hE : Hid (Gf.decTo T U KK b (j + 1) = Gf.subst U (Gf.turn s1 3)) := by
          have := hE0.out
          rw [if_neg h9] at this; exact this
        clear hE0
        have h6 := h5
        have hv6 := hv5
        have l6 := l5
        clear h5 hv5
        generalize hs12 : s1 = s2 at *
        clear hs12
        go_wp2_with (first
          | (refine wpList_store_row rfl 23 _ _ rfl _ rfl _ rfl _ _ hv4.blk Tryd.info23 (by rw [ag_size]; exact l6) (ag_one _) ?_)
          | (refine wpList_load_row rfl 23 _ rfl _ rfl _ _ h6 _ Tryd.underlying23 rfl 16 Tryd.info23 (by rw [ag_size]; exact l6) ?_)
          | fail)
        refine (turn3_any s2 l6 _).mono ?_
        rintro e w7 ⟨rfl, hb7⟩
        have hv7 := hv6.below hb7
        clear hb7 hv6 h6
        go_wp2_with fail
        refine (replace_any (Gf.turn s2 3) U (Gf.turn_len _ _) HU.out _ _ _ hv7.tab).mono ?_
        rintro e w8 ⟨rfl, hb8⟩
        have hv8 := hv7.below hb8
        have l8 := Gf.subst_len U (Gf.turn s2 3)
        have hv9 := hv8.store2 hz4 hz5 (Gf.subst U (Gf.turn s2 3)) l8
        have h9 := hv8.blk.setRow (ag (Gf.subst U (Gf.turn s2 3)))
        clear hb8 hv7
        generalize Gf.subst U (Gf.turn s2 3) = s3 at *
        go_wp2_with (refine wpList_store_row rfl 23 _ _ rfl _ rfl _ rfl _ _ hv8.blk Tryd.info23 (by rw [ag_size]; exact l8) (ag_one _) ?_)
        go_roundw
        case rel => exact ⟨j + 1, s3, by omega, hE.out.symm, l8, by go_num, h9, hv9⟩
        case measure => simp [intOf]; omega
    · have hj10 : j = 10 := by omega
      have hR : Gf.bxor s (List.take 16 KK) = Gf.decrypt key b := by rw [HR.out, hs.out, hj10]; rfl
      have HB := show Hid _ from hR
      clear hs hj10 hR
      go_wp2_with (first
        | (refine wpList_load_row rfl 23 (.tmp 3) rfl _ rfl _ _ h2 _ Tryd.underlying23 rfl 16 Tryd.info23 (by rw [ag_size]; exact hl) ?_)
        | (refine wpList_load_part rfl 23 (.tmp 30) rfl _ _ rfl _ _ hv.kys _ Tryd.underlying23 rfl 16 Tryd.info23 (by rw [HK.out]; omega) ?_)
        | fail)
      refine (against_any s (List.take 16 KK) hl (by rw [List.length_take, HK.out]; rfl) _).mono ?_
      rintro e w4 ⟨rfl, hb4⟩
      have hv4 := hv.below hb4
      rw [HB.out]
      have hlm := Gf.decrypt_len key b
      clear hb4 hv h2
      go_wp2_with (refine wpList_store_row rfl 23 _ _ rfl _ rfl _ rfl _ _ hv4.res Tryd.info23 (by rw [ag_size]; exact hlm) (ag_one _) ?_)
      exact bodyPost_ret (results_row rfl _ _ rfl _ _ (hv4.res.setRow _) _ Tryd.underlying23 rfl 16 Tryd.info23 (by rw [ag_size]; exact hlm)) rfl ⟨rfl, below_setRow hv4.bel (by omega) _⟩
end Go.Proofs.YtmolhljgmaoflaaDoor
