/- The walk of Encrypt of package aes. -/
import Derived.Test.YtmolhljgmaoflaaDoorK
import Derived.Test.YtmolhljgmaoflaaDoorX
import Derived.Test.YtmolhljgmaoflaaDoorR
namespace Go.Proofs.YtmolhljgmaoflaaDoor
open Go.RowKit Go.BigFrame

/-- What stands while a block goes through its rounds: the block's own variable, the result's, the table, the round keys. -/
structure Env (N sb kb : Nat) (T KK : List UInt8) (w0 w : World) : Prop where
  blk : Room w (N + 1) 23 16
  res : Room w (N + 1 + 1) 23 16
  tab : Row w sb 66 (ag T)
  kys : Row w kb 50 (ag KK)
  bel : Below N w0 w
theorem Env.below {N sb kb : Nat} {T KK : List UInt8} {w0 w w' : World} (h : Env N sb kb T KK w0 w) (hb : Below w.heap.size w w') : Env N sb kb T KK w0 w' :=
  have hN : N + 1 < w.heap.size := h.blk.elim fun _ h => h.1.lt
  ⟨h.blk.below hb hN, h.res.below hb (h.res.elim fun _ h => h.1.lt), h.tab.below hb h.tab.lt, h.kys.below hb h.kys.lt, h.bel.trans (hb.mono (by omega))⟩
theorem Env.store {N sb kb : Nat} {T KK : List UInt8} {w0 w : World} (h : Env N sb kb T KK w0 w) (h1 : N + 1 + 1 < sb) (h2 : sb < kb) (s : List UInt8) (hs : s.length = 16) : Env N sb kb T KK w0 (w.setRow (N + 1) (ag s)) :=
  ⟨(h.blk.setRow _).room (by rw [ag_size]; exact hs), h.res.setRowOther _ _ (by omega), h.tab.setRowOther _ _ (by omega), h.kys.setRowOther _ _ (by omega), below_setRow h.bel (by omega) _⟩
theorem Env.drew {N sb kb : Nat} {T KK : List UInt8} {w0 w : World} (h : Env N sb kb T KK w0 w) : Env N sb kb T KK w0 w.drew := ⟨h.blk, h.res, h.tab, h.kys, h.bel.drew⟩

set_option maxRecDepth 100000 in
set_option maxHeartbeats 2000000 in
theorem encrypt_any (key b : List UInt8) (hkey : key.length = 16) (hb : b.length = 16) (w : World) :
    Calls Tryd.prog 22 #[.agg (ag key), .agg (ag b)] w fun e w' => e = .returned (.agg (ag (Gf.encrypt key b))) ∧ Below w.heap.size w w' := by
  go_enter Tryd.func22, Tryd.ntmps22
  go_wp2_with fail
  refine (substitutes_any _).mono ?_
  rintro e w1 ⟨rfl, hb1⟩
  have r1 : Row w1 w.heap.size 23 (ag key) := Row.below (((Row.new _ _ _).alloc _).alloc _) hb1 (by simp; omega)
  have r2 : Row w1 (w.heap.size + 1) 23 (ag b) := Row.below ((Row.made _ _ _ _ _ rfl (by simp)).alloc _) hb1 (by simp)
  have r3 : Room w1 (w.heap.size + 1 + 1) 23 16 := Room.below (Room.made _ _ _ _ _ rfl (by simp)) hb1 (by simp)
  have hbl : Below w.heap.size w w1 := ((((Below.refl _ _).alloc (Nat.le_refl _) _).alloc (by simp) _).alloc (by simp; omega) _).trans (hb1.mono (by simp; omega))
  have hz1 : w.heap.size + 1 + 1 < w1.heap.size := r3.elim fun _ h => h.1.lt
  clear hb1
  have HS : Hid (Gf.sbox.length = 256) := Gf.sbox_len
  have HR : Hid (Gf.encrypt key b = Gf.encTo Gf.sbox (Gf.keys Gf.sbox key) b 10) := rfl
  generalize Gf.sbox = T at *
  go_wp2_with (first
    | (refine wpList_alloc_row rfl 66 rfl _ _ Tryd.zero66 ?_)
    | (refine wpList_store_row rfl 66 _ _ rfl _ rfl _ rfl _ _ (Room.new _ _ _ _ (by rw [ag_size]; exact List.length_replicate)) Tryd.info66 (by rw [ag_size]; exact HS.out) (ag_one _) ?_; rw [World.setRow_alloc_new])
    | (refine wpList_load_row rfl 23 _ rfl _ rfl _ _ (r1.alloc _) _ Tryd.underlying23 rfl 16 Tryd.info23 (by rw [ag_size]; exact hkey) ?_)
    | fail)
  refine (expand_any key T hkey HS.out _ _ _ (Row.new _ _ _)).mono ?_
  rintro e w2 ⟨rfl, hb2⟩
  have q2 : Row w2 (w.heap.size + 1) 23 (ag b) := (r2.alloc _).below hb2 (by simp; omega)
  have q3 : Room w2 (w.heap.size + 1 + 1) 23 16 := (r3.alloc _).below hb2 (by simp; omega)
  have q4 : Row w2 w1.heap.size 66 (ag T) := (Row.new _ _ _).below hb2 (by simp)
  have hbl2 : Below w.heap.size w w2 := (hbl.alloc (by omega) _).trans (hb2.mono (by simp; omega))
  clear r1 r2 r3 hbl hb2
  generalize w1.heap.size = sb at *
  have hz2 : sb < w2.heap.size := q4.lt
  have HK : Hid ((Gf.keys T key).length = 176) := Gf.keys_len T key
  generalize Gf.keys T key = KK at *
  go_wp2_with (first
    | (refine wpList_alloc_row rfl 50 rfl _ _ Tryd.zero50 ?_)
    | (refine wpList_store_row rfl 50 _ _ rfl _ rfl _ rfl _ _ (Room.new _ _ _ _ (by rw [ag_size]; exact List.length_replicate)) Tryd.info50 (by rw [ag_size]; exact HK.out) (ag_one _) ?_; rw [World.setRow_alloc_new])
    | (refine wpList_load_row rfl 23 _ rfl _ rfl _ _ (q2.alloc _) _ Tryd.underlying23 rfl 16 Tryd.info23 (by rw [ag_size]; exact hb) ?_)
    | (refine wpList_load_part rfl 23 _ rfl _ _ rfl _ _ (Row.new _ _ _) _ Tryd.underlying23 rfl 16 Tryd.info23 (by rw [HK.out]; omega) ?_)
    | fail)
  refine (against_any b (List.take 16 KK) hb (by rw [List.length_take, HK.out]; rfl) _).mono ?_
  rintro e w3 ⟨rfl, hb3⟩
  have p2 : Room w3 (w.heap.size + 1) 23 16 := ((q2.alloc _).below hb3 (by simp; omega)).room (by rw [ag_size]; exact hb)
  have p3 : Room w3 (w.heap.size + 1 + 1) 23 16 := (q3.alloc _).below hb3 (by simp; omega)
  have p4 : Row w3 sb 66 (ag T) := (q4.alloc _).below hb3 (by simp; omega)
  have p5 : Row w3 w2.heap.size 50 (ag KK) := (Row.new _ _ _).below hb3 (by simp)
  have hbl3 : Below w.heap.size w w3 := (hbl2.alloc (by omega) _).trans (hb3.mono (by simp; omega))
  clear q2 q3 q4 hbl2 hb3
  generalize w2.heap.size = kb at *
  have H0 : Hid (Gf.bxor b (List.take 16 KK) = Gf.encTo T KK b 0) := rfl
  have HL : Hid ((Gf.bxor b (List.take 16 KK)).length = 16) := Gf.bxor_len _ _
  generalize Gf.bxor b (List.take 16 KK) = s0 at *
  go_wp2_with (refine wpList_store_row rfl 23 _ _ rfl _ rfl _ rfl _ _ p2 Tryd.info23 (by rw [ag_size]; exact HL.out) (ag_one _) ?_)
  go_loopw [7] (fun i wr => ∃ (j : Nat) (s : List UInt8), j ≤ 10 ∧ Hid (s = Gf.encTo T KK b j) ∧ s.length = 16 ∧ i = .int .i64 ((j : Int) + 1) ∧ Row wr (w.heap.size + 1) 23 (ag s) ∧ Env w.heap.size sb kb T KK w wr) (fun i _ => 11 - (intOf i).toNat)
  case atStart =>
    exact ⟨0, s0, by omega, H0, HL.out, rfl, p2.setRow _, Env.store ⟨p2, p3, p4, p5, hbl3⟩ hz1 hz2 _ HL.out⟩
  case round =>
    clear p2 p3 p4 p5 hbl3 H0 HL
    obtain ⟨j, s, hj, hs, hl, rfl, h2, hv⟩ := hrel
    by_cases hlt : j < 10
    · by_cases h9 : j < 9
      · have hE : Hid (Gf.encTo T KK b (j + 1) = Gf.bxor (Gf.mixL (Gf.turn (Gf.subst T s) 1)) (Gf.rk KK (j + 1))) := by
          have e := hs.out
          show _ = _
          have h9' : j + 1 < 10 := by omega
          rw [e]; simp only [Gf.encTo, h9', if_true]
        go_wp2_with (first
          | (refine wpList_load_row rfl 23 _ rfl _ rfl _ _ h2 _ Tryd.underlying23 rfl 16 Tryd.info23 (by rw [ag_size]; exact hl) ?_)
          | fail)
        refine (replace_any s T hl HS.out _ _ _ hv.tab).mono ?_
        rintro e w4 ⟨rfl, hb4⟩
        have hv4 := hv.below hb4
        clear hb4 hv h2
        go_wp2_with fail
        refine (turn1_any (Gf.subst T s) (Gf.subst_len _ _) _).mono ?_
        rintro e w5 ⟨rfl, hb5⟩
        have hv5 := hv4.below hb5
        clear hb5 hv4
        have hv6 := hv5.store hz1 hz2 (Gf.turn (Gf.subst T s) 1) (Gf.turn_len _ _)
        have h6 := hv5.blk.setRow (ag (Gf.turn (Gf.subst T s) 1))
        have l6 := Gf.turn_len (Gf.subst T s) 1
        generalize Gf.turn (Gf.subst T s) 1 = s1 at *
        go_wp2_with (first
          | (refine wpList_store_row rfl 23 _ _ rfl _ rfl _ rfl _ _ hv5.blk Tryd.info23 (by rw [ag_size]; exact l6) (ag_one _) ?_)
          | (refine wpList_load_row rfl 23 _ rfl _ rfl _ _ h6 _ Tryd.underlying23 rfl 16 Tryd.info23 (by rw [ag_size]; exact l6) ?_)
          | fail)
        clear h6 hv5
        refine (mix_any s1 l6 _).mono ?_
        rintro e w7 ⟨rfl, hb7⟩
        have hv7 := hv6.below hb7
        have l8 : (Gf.mixL s1).length = 16 := by rw [Gf.mixL_len]; exact l6
        have hv8 := hv7.store hz1 hz2 (Gf.mixL s1) l8
        have h8 := hv7.blk.setRow (ag (Gf.mixL s1))
        clear hb7 hv6
        generalize Gf.mixL s1 = s2 at *
        go_wp2_with (refine wpList_store_row rfl 23 _ _ rfl _ rfl _ rfl _ _ hv7.blk Tryd.info23 (by rw [ag_size]; exact l8) (ag_one _) ?_)
        refine wp_region_tail 4 (by kernel_rfl) (by kernel_rfl) ?_
        simp only [List.take_succ_cons, List.take_zero, List.drop_succ_cons, List.drop_zero, Act.put]
        go_big_quiet_want
        refine quiet_load_row 23 _ rfl _ rfl _ _ (fun w' hw' => by rw [hw']; exact h8) _ Tryd.underlying23 rfl 16 Tryd.info23 (by rw [ag_size]; exact l8) ?_
        go_big_quiet_on
        simp only [Act.put, List.setIfInBounds_toArray, List.set_cons_succ, List.set_cons_zero]
        repeat (go_big_quiet_step (fail))
        go_big_quiet_want
        refine quiet_load_part 23 _ rfl _ _ rfl _ _ (fun w' hw' => by rw [hw']; exact hv8.kys) _ Tryd.underlying23 rfl 16 Tryd.info23 (by rw [HK.out]; omega) ?_
        go_big_quiet_on
        simp only [Act.put, List.setIfInBounds_toArray, List.set_cons_succ, List.set_cons_zero]
        refine wpQuiet_nil ?_
        go_wp2_with fail
        refine (against_any s2 (Gf.rk KK (j + 1)) l8 (Gf.rk_len _ _ HK.out (by omega)) _).mono ?_
        rintro e w9 ⟨rfl, hb9⟩
        have hv9 := hv8.drew.below hb9
        have l9 := Gf.bxor_len s2 (Gf.rk KK (j + 1))
        have hv10 := hv9.store hz1 hz2 (Gf.bxor s2 (Gf.rk KK (j + 1))) l9
        have h10 := hv9.blk.setRow (ag (Gf.bxor s2 (Gf.rk KK (j + 1))))
        clear hb9 hv8
        generalize Gf.bxor s2 (Gf.rk KK (j + 1)) = s3 at *
        go_wp2_with (refine wpList_store_row rfl 23 _ _ rfl _ rfl _ rfl _ _ hv9.blk Tryd.info23 (by rw [ag_size]; exact l9) (ag_one _) ?_)
        go_roundw
        case rel => exact ⟨j + 1, s3, by omega, hE.out.symm, l9, by go_num, h10, hv10⟩
        case measure => simp [intOf]; omega
      · have hE : Hid (Gf.encTo T KK b (j + 1) = Gf.bxor (Gf.turn (Gf.subst T s) 1) (Gf.rk KK (j + 1))) := by
          have e := hs.out
          show _ = _
          have h9' : ¬ j + 1 < 10 := by omega
          rw [e]; simp only [Gf.encTo, h9', if_false]
        go_wp2_with (first
          | (refine wpList_load_row rfl 23 _ rfl _ rfl _ _ h2 _ Tryd.underlying23 rfl 16 Tryd.info23 (by rw [ag_size]; exact hl) ?_)
          | fail)
        refine (replace_any s T hl HS.out _ _ _ hv.tab).mono ?_
        rintro e w4 ⟨rfl, hb4⟩
        have hv4 := hv.below hb4
        clear hb4 hv h2
        go_wp2_with fail
        refine (turn1_any (Gf.subst T s) (Gf.subst_len _ _) _).mono ?_
        rintro e w5 ⟨rfl, hb5⟩
        have hv5 := hv4.below hb5
        clear hb5 hv4
        have hv8 := hv5.store hz1 hz2 (Gf.turn (Gf.subst T s) 1) (Gf.turn_len _ _)
        have h8 := hv5.blk.setRow (ag (Gf.turn (Gf.subst T s) 1))
        have l8 := Gf.turn_len (Gf.subst T s) 1
        generalize Gf.turn (Gf.subst T s) 1 = s2 at *
        go_wp2_with (first
          | (refine wpList_store_row rfl 23 _ _ rfl _ rfl _ rfl _ _ hv5.blk Tryd.info23 (by rw [ag_size]; exact l8) (ag_one _) ?_)
          | fail)
        refine wp_region_tail 4 (by kernel_rfl) (by kernel_rfl) ?_
        simp only [List.take_succ_cons, List.take_zero, List.drop_succ_cons, List.drop_zero]
        go_big_quiet_want
        refine quiet_load_row 23 _ rfl _ rfl _ _ (fun w' hw' => by rw [hw']; exact h8) _ Tryd.underlying23 rfl 16 Tryd.info23 (by rw [ag_size]; exact l8) ?_
        go_big_quiet_on
        simp only [Act.put, List.setIfInBounds_toArray, List.set_cons_succ, List.set_cons_zero]
        repeat (go_big_quiet_step (fail))
        go_big_quiet_want
        refine quiet_load_part 23 _ rfl _ _ rfl _ _ (fun w' hw' => by rw [hw']; exact hv8.kys) _ Tryd.underlying23 rfl 16 Tryd.info23 (by rw [HK.out]; omega) ?_
        go_big_quiet_on
        simp only [Act.put, List.setIfInBounds_toArray, List.set_cons_succ, List.set_cons_zero]
        refine wpQuiet_nil ?_
        go_wp2_with fail
        refine (against_any s2 (Gf.rk KK (j + 1)) l8 (Gf.rk_len _ _ HK.out (by omega)) _).mono ?_
        rintro e w9 ⟨rfl, hb9⟩
        have hv9 := hv8.drew.below hb9
        have l9 := Gf.bxor_len s2 (Gf.rk KK (j + 1))
        have hv10 := hv9.store hz1 hz2 (Gf.bxor s2 (Gf.rk KK (j + 1))) l9
        have h10 := hv9.blk.setRow (ag (Gf.bxor s2 (Gf.rk KK (j + 1))))
        clear hb9 hv8
        generalize Gf.bxor s2 (Gf.rk KK (j + 1)) = s3 at *
        go_wp2_with (refine wpList_store_row rfl 23 _ _ rfl _ rfl _ rfl _ _ hv9.blk Tryd.info23 (by rw [ag_size]; exact l9) (ag_one _) ?_)
        go_roundw
        case rel => exact ⟨j + 1, s3, by omega, hE.out.symm, l9, by go_num, h10, hv10⟩
        case measure => simp [intOf]; omega
    · have hj10 : j = 10 := by omega
      have hR : s = Gf.encrypt key b := by rw [HR.out, hs.out, hj10]
      clear hs hj10
      subst hR
      go_wp2_with (first
        | (refine wpList_load_row rfl 23 _ rfl _ rfl _ _ h2 _ Tryd.underlying23 rfl 16 Tryd.info23 (by rw [ag_size]; exact hl) ?_)
        | (refine wpList_store_row rfl 23 _ _ rfl _ rfl _ rfl _ _ hv.res Tryd.info23 (by rw [ag_size]; exact hl) (ag_one _) ?_))
      exact bodyPost_ret (results_row rfl _ _ rfl _ _ (hv.res.setRow _) _ Tryd.underlying23 rfl 16 Tryd.info23 (by rw [ag_size]; exact hl)) rfl ⟨rfl, below_setRow hv.bel (by omega) _⟩
end Go.Proofs.YtmolhljgmaoflaaDoor
