/- The walk of the reference's beginning. -/
import Derived.Test.YtfipijcnihpaiaaDoorRj
import Derived.Test.YtfipijcnihpaiaaDoorRh
import Derived.Test.YtfipijcnihpaiaaDoorRf
namespace Go.Proofs.YtfipijcnihpaiaaDoor
open Go.RowKit Go.BigFrame

theorem and192 : ∀ n : Nat, n < 256 → bits .and .u8 (n : Int) 192 = ((n / 64 * 64 : Nat) : Int) := by decide +kernel
theorem nonce_zero (l : List UInt8) (h1 : l.length ≤ 15) : (splice (Gf.zeros 16) (16 - l.length) l).getD (15 - l.length) 0 = 0 := by
  have hz : (Gf.zeros 16).length = 16 := rfl
  unfold splice
  rw [List.getD_eq_getElem?_getD, List.getElem?_append_left (by simp [hz]; omega), List.getElem?_take_of_lt (by omega), Gf.zeros, List.getElem?_replicate]
  split <;> rfl

theorem bit8 (y : UInt8) (m : Nat) : bits .and .u8 ((y.toNat : Int) / 2 ^ m) 1 = ((y.toNat / 2 ^ m % 2 : Nat) : Int) := by
  have hy : y.toNat < 256 := y.toNat_lt
  have e : ((y.toNat : Int) / 2 ^ m) = ((y.toNat / 2 ^ m : Nat) : Int) := by simp
  have h2 : y.toNat / 2 ^ m < 256 := Nat.lt_of_le_of_lt (Nat.div_le_self _ _) hy
  have := u8_and_nat (y.toNat / 2 ^ m) 1 h2 (by decide)
  rw [Nat.and_one_is_mod] at this
  rw [e]; exact this
theorem or8 (x y : UInt8) : bits .or .u8 (x.toNat : Int) (y.toNat : Int) = (((x ||| y).toNat : Nat) : Int) := by
  rw [u8_or_nat _ _ x.toNat_lt y.toNat_lt]; simp
theorem o_byte (z : UInt8) (d r : Nat) : bits .or .u8 (z.toNat : Int) ((d : Int) * 2 ^ r % 256) = (((z ||| UInt8.ofNat (d * 2 ^ r)).toNat : Nat) : Int) := by
  have e5 : (((UInt8.ofNat (d * 2 ^ r)).toNat : Nat) : Int) = (d : Int) * 2 ^ r % 256 := by rw [UInt8.toNat_ofNat']; simp
  rw [← or8, e5]

set_option maxRecDepth 100000 in
set_option maxHeartbeats 4000000 in
theorem refBegin_any (S : Nat → Prop) (key : List UInt8) (v : Value) (l : List UInt8) (h0 : 0 < l.length) (h15 : l.length ≤ 15) (w : World) (hl : Bts S w v l) (sb : Nat) (hT : Row w sb 66 (ag Gf.sbox)) :
    Calls Tryd.prog 27 #[.agg (elk key sb), v] w fun e w' => e = .returned (.agg (ag (Gf.begin key l))) ∧ Below w.heap.size w w' := by
  obtain ⟨a, c, rfl, hc, h3⟩ := hl
  rcases h3 with rfl | ⟨b, o, rfl, hS, hr⟩
  · simp at h0
  have hlt := range_lt hr h0
  have hst := hT.lt
  have lB := Gf.nblock_len l (by omega)
  have lC := Gf.nclean_len l (by omega)
  have HB0 := Box'.mk (Gf.nblock_eq l h15)
  have HZ0 := Box'.mk (nonce_zero l h15)
  have lS : (splice (Gf.zeros 16) (16 - l.length) l).length = 16 := splice_len _ _ _ (by show _ ≤ (List.replicate 16 (0 : UInt8)).length; rw [List.length_replicate]; omega)
  have HC : Box' ((Gf.nblock l).set 15 (UInt8.ofNat (((Gf.nblock l).getD 15 0).toNat / 64 * 64)) = Gf.nclean l) := ⟨rfl⟩
  have HP : Box' (Gf.place l = ((Gf.nblock l).getD 15 0).toNat % 64) := ⟨rfl⟩
  have lE := Gf.encrypt_len key (Gf.nclean l)
  have HG : Box' (Gf.oTo (Gf.more (Gf.encrypt key (Gf.nclean l)) 8) (Gf.place l) 128 = Gf.begin key l) := ⟨Gf.begin_eq _ lE _ (Nat.mod_lt _ (by decide))⟩
  have hE : ∀ w, Row w sb 66 (ag Gf.sbox) → Calls Tryd.prog 31 #[.agg (cip (.pointer (some ⟨sb, 0, none⟩)) (Gf.keys Gf.sbox key)), .agg (ag (Gf.nclean l))] w fun e w' => e = .returned (.agg (ag (Gf.encrypt key (Gf.nclean l)))) ∧ Below w.heap.size w w' :=
    fun w h => cipher_any Gf.sbox (Gf.keys Gf.sbox key) (Gf.nclean l) Gf.sbox_len (Gf.keys_len _ _) lC w sb h
  have HE := Box'.mk hE
  have hrng := (elk_range (Row.new w 54 (elk key sb))).1
  have lcip : (cip (.pointer (some ⟨sb, 0, none⟩)) (Gf.keys Gf.sbox key)).size = 177 := by rw [cip_size, Gf.keys_len]
  clear hE
  generalize cip (.pointer (some ⟨sb, 0, none⟩)) (Gf.keys Gf.sbox key) = cp at *
  generalize elk key sb = EL at *
  generalize Gf.begin key l = BG at *
  generalize Gf.encrypt key (Gf.nclean l) = E at *
  generalize Gf.nclean l = NC at *
  generalize Gf.place l = pl at *
  generalize Gf.nblock l = NB at *
  generalize Gf.sbox = T at *
  obtain ⟨x, hx⟩ : ∃ x, NB.getD 15 0 = x := ⟨_, rfl⟩
  rw [hx] at HC HP
  obtain ⟨n, hn⟩ : ∃ n, l.length = n := ⟨_, rfl⟩
  rw [hn] at h0 h15 hc HB0 HZ0 lS
  rw [hn]
  have hxl := x.toNat_lt
  have a1 : bits .and .u8 (x.toNat : Int) 63 = (pl : Int) := by rw [and63 x.toNat hxl, HP.out]
  have hpl : pl < 64 := by rw [HP.out]; exact Nat.mod_lt _ (by decide)
  have a2 := and192 x.toNat hxl
  have e1 : (16 : Int) - (n : Int) = ((16 - n : Nat) : Int) := by omega
  have e2 : (15 : Int) - (n : Int) = ((15 - n : Nat) : Int) := by omega
  have hw0 : Below w.heap.size w (((w.alloc (.cells EL 54)).alloc (.cells (ag (Gf.zeros 16)) 23)).alloc (.cells (ag (Gf.zeros 16)) 23)) := (((Below.refl _ _).alloc (Nat.le_refl _) _).alloc (by simp) _).alloc (by simp; omega) _
  have hr' := range_below hr hw0 hlt
  have T0 := hT.below hw0 hst
  have g0 : (((w.alloc (.cells EL 54)).alloc (.cells (ag (Gf.zeros 16)) 23)).alloc (.cells (ag (Gf.zeros 16)) 23)).rangeAt w.heap.size 0 cp.toList := range_below hrng (((Below.refl _ _).alloc (Nat.le_refl _) _).alloc (by simp) _) (by simp)
  have r0 : Room (((w.alloc (.cells EL 54)).alloc (.cells (ag (Gf.zeros 16)) 23)).alloc (.cells (ag (Gf.zeros 16)) 23)) (w.heap.size + 1) 23 16 := (Room.made _ _ _ _ _ rfl (by simp)).alloc _
  have r1 : Row (((w.alloc (.cells EL 54)).alloc (.cells (ag (Gf.zeros 16)) 23)).alloc (.cells (ag (Gf.zeros 16)) 23)) (w.heap.size + 1 + 1) 23 (ag (Gf.zeros 16)) := Row.made _ _ _ _ _ rfl (by simp)
  go_enter Tryd.func27, Tryd.ntmps27
  go_upto_region 2 with (first
    | (refine wpList_alloc_row rfl 23 rfl _ _ Tryd.zero23 ?_)
    | fail)
  generalize hW0 : World.alloc (World.alloc (World.alloc w _) _) _ = W0
  rw [hW0] at hw0 hr' T0 g0 r0 r1
  clear hW0 hr hrng
  have hcp : l.length = Nat.min n (16 - (16 - n)) := by rw [hn, Nat.sub_sub_self (by omega)]; exact (Nat.min_self n).symm
  have hlt16 : 16 - n < 16 := by omega
  have hsl := run_slice_from (P := Tryd.prog) W0 23 5 16 Tryd.underlying23 (by kernel_rfl) (w.heap.size + 1 + 1) 0 (16 - n) hlt16
  rw [Nat.zero_add] at hsl
  go_upto_region 3 with (first
    | (refine wpList_slice rfl 23 (.tmp 5) (some (.tmp 16)) none none rfl (.slice (some ⟨w.heap.size + 1 + 1, 16 - n, none⟩) (16 - (16 - n)) (16 - (16 - n))) ?_ ?_; exact hsl)
    | (refine wpList_copy_range rfl (.tmp 17) (.tmp 18) 24 24 rfl 5 Tryd.underlying24 (by kernel_rfl) (w.heap.size + 1 + 1) (16 - n) (16 - (16 - n)) (16 - (16 - n)) b o n c rfl rfl (Gf.zeros 16) l 23 r1 hr' hcp (by show 16 - n + l.length ≤ (List.replicate 16 (0 : UInt8)).length; rw [List.length_replicate]; omega) ?_)
    | fail)
  have w1B : Below w.heap.size w (W0.setRow (w.heap.size + 1 + 1) (ag (splice (Gf.zeros 16) (16 - n) l))) := below_setRow hw0 (by omega) _
  have r2 := r1.setRow (ag (splice (Gf.zeros 16) (16 - n) l))
  have q2 := r0.setRowOther (w.heap.size + 1 + 1) (ag (splice (Gf.zeros 16) (16 - n) l)) (by omega)
  have T1 := T0.setRowOther (w.heap.size + 1 + 1) (ag (splice (Gf.zeros 16) (16 - n) l)) (by omega)
  have g1 : (W0.setRow (w.heap.size + 1 + 1) (ag (splice (Gf.zeros 16) (16 - n) l))).rangeAt w.heap.size 0 cp.toList := range_below g0 (below_setRow (Below.refl (w.heap.size + 1) W0) (by omega) _) (by omega)
  clear hw0 hr' T0 g0 r0 r1 hsl hcp
  rw [hn]
  generalize splice (Gf.zeros 16) (16 - n) l = SP at *
  generalize W0.setRow (w.heap.size + 1 + 1) (ag SP) = W1 at *
  have c2 := cell_form (r2.byte (k := 15 - n) (by omega)) HZ0.out
  have f2 := r2.frozen (15 - n)
  have o1 : bits .or .u8 0 1 = 1 := by decide +kernel
  go_upto_region 4 with (fail)
  have r3 : Row (W1.setCell ⟨w.heap.size + 1 + 1, 15 - n, none⟩ (.int .u8 1)) (w.heap.size + 1 + 1) 23 (ag NB) := by
    have := r2.setByte (15 - n) 1
    rw [HB0.out] at this
    exact this
  have q3 := q2.setOther ⟨w.heap.size + 1 + 1, 15 - n, none⟩ (.int .u8 1) (by show w.heap.size + 1 ≠ w.heap.size + 1 + 1; omega)
  have T2 := T1.setOther ⟨w.heap.size + 1 + 1, 15 - n, none⟩ (.int .u8 1) (by show sb ≠ w.heap.size + 1 + 1; omega)
  have w2B := w1B.setCell (p := ⟨w.heap.size + 1 + 1, 15 - n, none⟩) (by show w.heap.size ≤ w.heap.size + 1 + 1; omega) (.int .u8 1)
  have g2 := range_below g1 ((Below.refl (w.heap.size + 1) W1).setCell (p := ⟨w.heap.size + 1 + 1, 15 - n, none⟩) (by show w.heap.size + 1 ≤ w.heap.size + 1 + 1; omega) (.int .u8 1)) (by omega)
  clear r2 q2 T1 w1B g1 c2 f2 o1
  generalize W1.setCell ⟨w.heap.size + 1 + 1, 15 - n, none⟩ (.int .u8 1) = W2 at *
  have c3 := cell_form (r3.byte (k := 15) (by omega)) hx
  have f3 := r3.frozen 15
  go_upto_region 6 with (fail)
  have r4 : Row (W2.setCell ⟨w.heap.size + 1 + 1, 15, none⟩ (.int .u8 ((x.toNat / 64 * 64 : Nat) : Int))) (w.heap.size + 1 + 1) 23 (ag NC) := by
    have := r3.setByte 15 (UInt8.ofNat (x.toNat / 64 * 64))
    rw [HC.out, UInt8.toNat_ofNat_of_lt' (by show x.toNat / 64 * 64 < 256; omega)] at this
    exact this
  have q4 := q3.setOther ⟨w.heap.size + 1 + 1, 15, none⟩ (.int .u8 ((x.toNat / 64 * 64 : Nat) : Int)) (by show w.heap.size + 1 ≠ w.heap.size + 1 + 1; omega)
  have T3 := T2.setOther ⟨w.heap.size + 1 + 1, 15, none⟩ (.int .u8 ((x.toNat / 64 * 64 : Nat) : Int)) (by show sb ≠ w.heap.size + 1 + 1; omega)
  have w3B := w2B.setCell (p := ⟨w.heap.size + 1 + 1, 15, none⟩) (by show w.heap.size ≤ w.heap.size + 1 + 1; omega) (.int .u8 ((x.toNat / 64 * 64 : Nat) : Int))
  have g3 := range_below g2 ((Below.refl (w.heap.size + 1) W2).setCell (p := ⟨w.heap.size + 1 + 1, 15, none⟩) (by show w.heap.size + 1 ≤ w.heap.size + 1 + 1; omega) (.int .u8 ((x.toNat / 64 * 64 : Nat) : Int))) (by omega)
  clear r3 q3 T2 w2B g2 c3 f3 a2
  have ei : ((x.toNat / 64 * 64 : Nat) : Int) = (x.toNat : Int) / 64 * 64 := by omega
  rw [ei] at r4 q4 T3 w3B g3
  generalize W2.setCell ⟨w.heap.size + 1 + 1, 15, none⟩ (.int .u8 ((x.toNat : Int) / 64 * 64)) = W3 at *
  clear ei
  have hz3 := r4.lt
  go_wp2_with (first
    | (refine wpList_load_mid rfl 52 (.tmp 35) rfl w.heap.size 0 rfl cp.toList _ g3 Tryd.underlying52 rfl (by rw [Tryd.info52, Array.length_toList, lcip]) ?_; rw [Array.toArray_toList])
    | (refine wpList_load_row rfl 23 (.tmp 5) rfl _ rfl _ _ r4 _ Tryd.underlying23 rfl 16 Tryd.info23 (by rw [ag_size]; exact lC) ?_)
    | fail)
  refine (HE.out _ T3).mono ?_
  rintro e w4 ⟨rfl, hb4⟩
  have q5 : Room w4 (w.heap.size + 1) 23 16 := q4.below hb4 (q4.elim fun _ h => h.1.lt)
  have w4B : Below w.heap.size w w4 := w3B.trans (hb4.mono w3B.size)
  have hz4 := hb4.size
  clear hb4 q4 w3B T3 g3 r4 HE
  have qz : Room (w4.alloc (.cells (ag (Gf.zeros 16)) 23)) w4.heap.size 23 16 := Room.new _ _ _ _ rfl
  have rE : Row ((w4.alloc (.cells (ag (Gf.zeros 16)) 23)).setRow w4.heap.size (ag E)) w4.heap.size 23 (ag E) := qz.setRow _
  have q6 : Room ((w4.alloc (.cells (ag (Gf.zeros 16)) 23)).setRow w4.heap.size (ag E)) (w.heap.size + 1) 23 16 := (q5.alloc _).setRowOther _ _ (by omega)
  have w5B : Below w.heap.size w ((w4.alloc (.cells (ag (Gf.zeros 16)) 23)).setRow w4.heap.size (ag E)) := below_setRow (w4B.alloc w4B.size _) w4B.size _
  have hz5 : ((w4.alloc (.cells (ag (Gf.zeros 16)) 23)).setRow w4.heap.size (ag E)).heap.size = w4.heap.size + 1 := by simp [World.setRow]
  clear q5 w4B
  go_upto_region 7 with (first
    | (refine wpList_alloc_row rfl 23 rfl _ _ Tryd.zero23 ?_)
    | (refine wpList_store_row rfl 23 (.tmp 7) (.tmp 38) rfl _ rfl _ rfl _ _ qz Tryd.info23 (by rw [ag_size]; exact lE) (ag_one _) ?_)
    | fail)
  clear qz
  generalize (w4.alloc (.cells (ag (Gf.zeros 16)) 23)).setRow w4.heap.size (ag E) = W5 at *
  generalize w4.heap.size = p at *
  have rE2 := rE.alloc (.cells #[] 5)
  have q7 := q6.alloc (.cells #[] 5)
  have w6B := w5B.alloc (o := .cells #[] 5) w5B.size
  have own0 := Own.new w.heap.size W5 w5B.size
  rw [hz5] at own0
  have hNs : w.heap.size ≤ (W5.alloc (.cells #[] 5)).heap.size := w6B.size
  have hEc : ∀ j u, (E.map B)[j]? = some u → (W5.alloc (.cells #[] 5)).cell? ((⟨p, 0, none⟩ : Addr).add j) = some u := fun j u hu => by
    rw [Addr.add_mid, Nat.zero_add, rE2.cell]; simpa [ag] using hu
  go_wp2_with (first
    | (refine wpList_append_bytes rfl (.tmp 39) (.tmp 40) rfl w.heap.size hNs _ [] rfl own0 ⟨p, 0, none⟩ 16 16 E rfl lE hEc (by rw [lE]; simp) (fun v7 w7 ho7 ha7 => ?_))
    | fail)
  have rE3 := ha7.rows _ _ _ (by decide) rE2
  have q8 := ha7.room (by decide) q7
  have w7B := ha7.bel _ w6B
  rw [List.nil_append] at ho7
  clear rE2 q7 w6B ha7 own0 hNs hEc rE q6 w5B hz5
  go_loopw [8, 9] (fun t i wr => ∃ kc : Nat, kc ≤ 8 ∧ i = .int .i64 (kc : Int) ∧ Own w.heap.size wr t (Gf.more E kc) ∧ Row wr p 23 (ag E) ∧ Room wr (w.heap.size + 1) 23 16 ∧ Below w.heap.size w wr) (fun _ i _ => 8 - (intOf i).toNat)
  case atStart => exact ⟨0, by omega, rfl, ho7, rE3, q8, w7B⟩
  case round =>
    obtain ⟨kc, hk, rfl, ow, rr, qq, bb⟩ := hrel
    by_cases hk8 : kc < 8
    · obtain ⟨x1, hx1⟩ : ∃ x1, E.getD kc 0 = x1 := ⟨_, rfl⟩
      obtain ⟨y1, hy1⟩ : ∃ y1, E.getD (kc + 1) 0 = y1 := ⟨_, rfl⟩
      have MK : Box' (Gf.more E kc ++ [Gf.bx x1 y1] = Gf.more E (kc + 1)) := ⟨by rw [← hx1, ← hy1]; rfl⟩
      have xx := xor_bx x1 y1
      have hx1l := x1.toNat_lt
      have hy1l := y1.toNat_lt
      go_upto_region 11 with (fail)
      refine wp_region_grow 10 (by kernel_rfl) (by kernel_rfl) (fun a b => Below a.heap.size a b) (fun w3 => Row w3 p 23 (ag E) ∧ Own w.heap.size w3 u8 (Gf.more E kc) ∧ Room w3 (w.heap.size + 1) 23 16 ∧ Below w.heap.size w w3) (fun k w1 v => match k with
        | 0 => v = u8
        | 1 => v = .int .i64 (kc : Int)
        | 2 => v = .pointer (some ⟨p, kc, none⟩)
        | 3 => v = .int .u8 (x1.toNat : Int)
        | 4 => v = .int .i64 (kc : Int)
        | 5 => v = .int .i64 ((kc : Int) + 1)
        | 6 => v = .pointer (some ⟨p, kc + 1, none⟩)
        | 7 => v = .int .u8 (y1.toNat : Int)
        | 8 => v = .int .u8 ((Gf.bx x1 y1).toNat : Int)
        | 9 => ∃ q, v = .slice (some ⟨q, 0, none⟩) 1 1 ∧ Row w1 q 5 (ag [Gf.bx x1 y1])
        | _ => True) ?_ ?_ ?_ ?_ ?_
      · rintro a b hb ⟨c1, c2, c3, c4⟩
        exact ⟨c1.below hb c1.lt, c2.below hb, c3.below hb (c3.elim fun _ h => h.1.lt), c4.trans (hb.mono c4.size)⟩
      · intro k v w1 w2 hC1 hb h
        match k, h with
        | 0, h => exact h
        | 1, h => exact h
        | 2, h => exact h
        | 3, h => exact h
        | 4, h => exact h
        | 5, h => exact h
        | 6, h => exact h
        | 7, h => exact h
        | 8, h => exact h
        | 9, ⟨q, e, r⟩ => exact ⟨q, e, r.below hb r.lt⟩
        | k + 10, h => trivial
      · exact ⟨rr.drew, ow.drew, qq.drew, bb.drew⟩
      · refine ⟨?_, ?_, ?_, ?_, ?_, ?_, ?_, ?_, ?_, ?_, trivial⟩
        · intro f w1 hC hd KK hK
          simp only [List.take_succ_cons, List.take_zero, setAll, List.setIfInBounds_toArray, List.set_cons_succ, List.set_cons_zero, Nat.zero_add, Nat.reduceAdd] at hK ⊢
          refine wp_of_quiet rfl ?_
          go_big_quiet_step (fail)
          exact wpQuiet_nil (hK _ _ rfl (Below.refl _ _))
        · intro f w1 hC hd KK hK
          simp only [List.take_succ_cons, List.take_zero, setAll, List.setIfInBounds_toArray, List.set_cons_succ, List.set_cons_zero, Nat.zero_add, Nat.reduceAdd] at hK ⊢
          refine wp_of_quiet rfl ?_
          go_big_quiet_step (fail)
          exact wpQuiet_nil (hK _ _ rfl (Below.refl _ _))
        · intro f w1 hC hd KK hK
          have g1 : f 1 = _ := hd 1 rfl
          simp only [List.take_succ_cons, List.take_zero, setAll, List.setIfInBounds_toArray, List.set_cons_succ, List.set_cons_zero, Nat.zero_add, Nat.reduceAdd, g1] at hK ⊢
          refine wp_of_quiet rfl ?_
          go_big_quiet_step (fail)
          exact wpQuiet_nil (hK _ _ rfl (Below.refl _ _))
        · intro f w1 hC hd KK hK
          have hcx : w1.cell? ⟨p, kc, none⟩ = some (.int .u8 (x1.toNat : Int)) := cell_form (hC.1.byte (k := kc) (by omega)) hx1
          have g2 : f 2 = _ := hd 2 rfl
          simp only [List.take_succ_cons, List.take_zero, setAll, List.setIfInBounds_toArray, List.set_cons_succ, List.set_cons_zero, Nat.zero_add, Nat.reduceAdd, g2] at hK ⊢
          refine wp_of_quiet rfl ?_
          go_big_quiet_step (fail)
          exact wpQuiet_nil (hK _ _ rfl (Below.refl _ _))
        · intro f w1 hC hd KK hK
          simp only [List.take_succ_cons, List.take_zero, setAll, List.setIfInBounds_toArray, List.set_cons_succ, List.set_cons_zero, Nat.zero_add, Nat.reduceAdd] at hK ⊢
          refine wp_of_quiet rfl ?_
          go_big_quiet_step (fail)
          exact wpQuiet_nil (hK _ _ rfl (Below.refl _ _))
        · intro f w1 hC hd KK hK
          have g4 : f 4 = _ := hd 4 rfl
          simp only [List.take_succ_cons, List.take_zero, setAll, List.setIfInBounds_toArray, List.set_cons_succ, List.set_cons_zero, Nat.zero_add, Nat.reduceAdd, g4] at hK ⊢
          refine wp_of_quiet rfl ?_
          go_big_quiet_step (fail)
          exact wpQuiet_nil (hK _ _ rfl (Below.refl _ _))
        · intro f w1 hC hd KK hK
          have g5 : f 5 = _ := hd 5 rfl
          simp only [List.take_succ_cons, List.take_zero, setAll, List.setIfInBounds_toArray, List.set_cons_succ, List.set_cons_zero, Nat.zero_add, Nat.reduceAdd, g5] at hK ⊢
          refine wp_of_quiet rfl ?_
          go_big_quiet_step (fail)
          exact wpQuiet_nil (hK _ _ rfl (Below.refl _ _))
        · intro f w1 hC hd KK hK
          have hcy : w1.cell? ⟨p, kc + 1, none⟩ = some (.int .u8 (y1.toNat : Int)) := cell_form (hC.1.byte (k := kc + 1) (by omega)) hy1
          have g6 : f 6 = _ := hd 6 rfl
          simp only [List.take_succ_cons, List.take_zero, setAll, List.setIfInBounds_toArray, List.set_cons_succ, List.set_cons_zero, Nat.zero_add, Nat.reduceAdd, g6] at hK ⊢
          refine wp_of_quiet rfl ?_
          go_big_quiet_step (fail)
          exact wpQuiet_nil (hK _ _ rfl (Below.refl _ _))
        · intro f w1 hC hd KK hK
          have g3 : f 3 = _ := hd 3 rfl
          have g7 : f 7 = _ := hd 7 rfl
          simp only [List.take_succ_cons, List.take_zero, setAll, List.setIfInBounds_toArray, List.set_cons_succ, List.set_cons_zero, Nat.zero_add, Nat.reduceAdd, g3, g7] at hK ⊢
          refine wp_of_quiet rfl ?_
          go_big_quiet_step (fail)
          exact wpQuiet_nil (hK _ _ rfl (Below.refl _ _))
        · intro f w1 hC hd KK hK
          have g8 : f 8 = _ := hd 8 rfl
          simp only [List.take_succ_cons, List.take_zero, setAll, List.setIfInBounds_toArray, List.set_cons_succ, List.set_cons_zero, Nat.zero_add, Nat.reduceAdd, g8] at hK ⊢
          exact wp_build1 _ rfl _ rfl (hK _ _ ⟨_, rfl, Row.new _ _ _⟩ ((Below.refl _ _).alloc (Nat.le_refl _) _))
      · intro f w1 hC hv
        have g0 : f 0 = _ := hv 0 (by decide)
        have g1 : f 1 = _ := hv 1 (by decide)
        have g2 : f 2 = _ := hv 2 (by decide)
        have g3 : f 3 = _ := hv 3 (by decide)
        have g4 : f 4 = _ := hv 4 (by decide)
        have g5 : f 5 = _ := hv 5 (by decide)
        have g6 : f 6 = _ := hv 6 (by decide)
        have g7 : f 7 = _ := hv 7 (by decide)
        have g8 : f 8 = _ := hv 8 (by decide)
        obtain ⟨q9, g9, r9⟩ := hv 9 (by decide)
        simp only [List.take_succ_cons, List.take_zero, List.drop_succ_cons, List.drop_zero, setAll, List.setIfInBounds_toArray, List.set_cons_succ, List.set_cons_zero, Nat.zero_add, Nat.reduceAdd, g0, g1, g2, g3, g4, g5, g6, g7, g8, g9]
        clear g0 g1 g2 g3 g4 g5 g6 g7 g8 g9 hv
        obtain ⟨c1, c2, c3, c4⟩ := hC
        have hnc : ∀ j u, ([Gf.bx x1 y1].map B)[j]? = some u → w1.cell? ((⟨q9, 0, none⟩ : Addr).add j) = some u := fun j u hu => by
          rw [Addr.add_mid, Nat.zero_add, r9.cell]; simpa [ag] using hu
        go_wp2_with (first
          | (refine wpList_append_bytes rfl (.tmp 46) (.tmp 55) rfl w.heap.size c4.size u8 (Gf.more E kc) rfl c2 ⟨q9, 0, none⟩ 1 1 [Gf.bx x1 y1] rfl rfl hnc (by rw [Gf.more_len, lE]; simp; omega) (fun v8 w8 ho8 ha8 => ?_))
          | fail)
        rw [MK.out] at ho8
        exact ⟨⟨kc + 1, by omega, by go_num, ho8, ha8.rows _ _ _ (by decide) c1, ha8.room (by decide) c3, ha8.bel _ c4⟩, by simp [intOf]; omega⟩
    · obtain rfl : kc = 8 := by omega
      have hne : Gf.more E 8 ≠ [] := fun h => by have := Gf.more_len E 8; rw [h] at this; simp at this
      obtain ⟨g, cap, rfl, hgN, hgc, hcl⟩ := ow.at hne
      have lM : (Gf.more E 8).length = 24 := by rw [Gf.more_len, lE]
      rw [lM] at hgc hcl
      have HCL := Box'.mk hcl
      clear hcl
      go_upto_region 14 with (first
        | (refine wpList_alloc_row rfl 23 rfl _ _ Tryd.zero23 ?_)
        | fail)
      have rO : Row (wr.alloc (.cells (ag (Gf.zeros 16)) 23)) wr.heap.size 23 (ag (Gf.oTo (Gf.more E 8) pl 0)) := Row.new _ _ _
      have qq2 := qq.alloc (.cells (ag (Gf.zeros 16)) 23)
      have bb2 := bb.alloc (o := .cells (ag (Gf.zeros 16)) 23) bb.size
      have ow2 := ow.alloc (.cells (ag (Gf.zeros 16)) 23)
      have hpN := bb.size
      have hp1 : wr.heap.size ≠ w.heap.size + 1 := by have := qq.elim fun _ h => h.1.lt; omega
      rw [lM] at ow2
      clear ow rr qq bb HCL
      generalize wr.alloc (.cells (ag (Gf.zeros 16)) 23) = W9 at *
      generalize wr.heap.size = pO at *
      generalize hM : Gf.more E 8 = M at *
      clear hM e1 e2 a1 hx HC HP HB0 HZ0 hn hc h15 h0 lS lB lC lcip hT hst hlt hS hk hk8 hz3 hz4
      go_loopw [11] (fun i wr => ∃ t : Nat, t ≤ 128 ∧ i = .int .i64 (t : Int) ∧ Row wr pO 23 (ag (Gf.oTo M pl t)) ∧ Own w.heap.size wr (.slice (some ⟨g, 0, none⟩) 24 cap) M ∧ Room wr (w.heap.size + 1) 23 16 ∧ Below w.heap.size w wr) (fun i _ => 128 - (intOf i).toNat)
      case atStart => exact ⟨0, by omega, rfl, rO, ow2, qq2, bb2⟩
      case round =>
        obtain ⟨t, ht, rfl, ro, os, qr, br⟩ := hrel
        have lO := Gf.oTo_len M pl t
        by_cases ht8 : t < 128
        · obtain ⟨g', cap', ev, _, _, hcl⟩ := os.at hne
          injection ev with ev ev2 ev3
          clear ev2 ev3
          injection ev with ev
          injection ev with ev
          subst ev
          have cs := hcl ((pl + t) / 8) (by omega)
          have co := ro.byte (k := t / 8) (by omega)
          have fo := ro.frozen (t / 8)
          have HS := Box'.mk (fun y => ro.setByte (t / 8) y)
          have E1 : Box' (Gf.oTo M pl (t + 1) = (Gf.oTo M pl t).set (t / 8) ((Gf.oTo M pl t).getD (t / 8) 0 ||| UInt8.ofNat (Gf.bitAt M (pl + t) * 2 ^ (7 - t % 8)))) := ⟨rfl⟩
          have E2 : Box' (Gf.bitAt M (pl + t) = (M.getD ((pl + t) / 8) 0).toNat / 2 ^ (7 - (pl + t) % 8) % 2) := ⟨rfl⟩
          have B8 := bit8 (M.getD ((pl + t) / 8) 0) (7 - (pl + t) % 8)
          rw [← E2.out] at B8
          have hd : Gf.bitAt M (pl + t) < 2 := Nat.mod_lt _ (by decide)
          have OB := Box'.mk (o_byte ((Gf.oTo M pl t).getD (t / 8) 0) (Gf.bitAt M (pl + t)) (7 - t % 8))
          generalize Gf.bitAt M (pl + t) = d at *
          generalize M.getD ((pl + t) / 8) 0 = y at *
          generalize (Gf.oTo M pl t).getD (t / 8) 0 = z at *
          have hyl := y.toNat_lt
          have hzl := z.toNat_lt
          clear hcl E2 lO
          go_wp2_with fail
          rw [OB.out]
          refine ⟨⟨t + 1, by omega, by go_num, ?_, os.setCell (ro.room rfl) (by decide) _ _, qr.setOther _ _ (Ne.symm hp1), br.setCell hpN _⟩, by simp [intOf]; omega⟩
          rw [E1.out]; exact HS.out _
        · obtain rfl : t = 128 := by omega
          rw [HG.out] at ro lO
          go_wp2_with (first
            | (refine wpList_load_row rfl 23 (.tmp 10) rfl _ rfl _ _ ro _ Tryd.underlying23 rfl 16 Tryd.info23 (by rw [ag_size]; exact lO) ?_)
            | (refine wpList_store_row rfl 23 (.tmp 4) (.tmp 87) rfl _ rfl _ rfl _ _ qr Tryd.info23 (by rw [ag_size]; exact lO) (ag_one _) ?_)
            | fail)
          exact bodyPost_ret (results_row rfl _ _ rfl _ _ (qr.setRow _) _ Tryd.underlying23 rfl 16 Tryd.info23 (by rw [ag_size]; exact lO)) rfl ⟨rfl, below_setRow br (by omega) _⟩
end Go.Proofs.YtfipijcnihpaiaaDoor
