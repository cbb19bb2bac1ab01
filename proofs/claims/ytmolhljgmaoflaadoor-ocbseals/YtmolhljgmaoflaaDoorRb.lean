/- The walks of the reference's Double, plus and bad. -/
import Derived.Test.YtmolhljgmaoflaaDoorRa
import Derived.Test.YtmolhljgmaoflaaDoorOa
import Derived.Test.YtmolhljgmaoflaaDoorOg
import Derived.Test.YtmolhljgmaoflaaDoorOi
namespace Go.Proofs.YtmolhljgmaoflaaDoor
open Go.RowKit Go.BigFrame

theorem shl1_u8 (x : UInt8) : (x.toNat : Int) * 2 % 256 = (((UInt8.ofNat (x.toNat * 2 % 256)).toNat : Nat) : Int) := by
  rw [UInt8.toNat_ofNat_of_lt' (show _ < 256 from Nat.mod_lt _ (by decide))]; omega
theorem or_shr7 (x y : UInt8) : bits .or .u8 (((UInt8.ofNat (x.toNat * 2 % 256)).toNat : Nat) : Int) ((y.toNat : Int) / 128) = (((UInt8.ofNat (x.toNat * 2 % 256 ||| y.toNat / 128)).toNat : Nat) : Int) := by
  have hy := y.toNat_lt
  have h1 : x.toNat * 2 % 256 < 256 := Nat.mod_lt _ (by decide)
  have e : (y.toNat : Int) / 128 = ((y.toNat / 128 : Nat) : Int) := by omega
  rw [e, UInt8.toNat_ofNat_of_lt' h1, u8_or_nat _ _ h1 (by omega), UInt8.toNat_ofNat_of_lt' (show _ < 256 from Nat.or_lt_two_pow (n := 8) h1 (by omega))]

set_option maxHeartbeats 1000000 in
theorem refDouble_any (b : List UInt8) (hb : b.length = 16) (w : World) :
    Calls Tryd.prog 12 #[.agg (ag b)] w fun e w' => e = .returned (.agg (ag (Gf.dblk b))) ∧ Below w.heap.size w w' := by
  have hF : Gf.fill (Gf.zeros 16) (Gf.rdB b) 16 = (List.range 16).map (Gf.rdB b) := Gf.fill_full _ _ _ rfl
  have HF := Box'.mk hF
  have hR0 := Gf.rdbl_eq b hb
  generalize Gf.dblk b = R0 at *
  have HR := Box'.mk hR0
  clear hF hR0
  have h16 : b.getD 16 0 = 0 := by rw [List.getD_eq_getElem?_getD, List.getElem?_eq_none (by omega)]; rfl
  have H16 := Box'.mk h16
  clear h16
  go_enter Tryd.func12, Tryd.ntmps12
  go_wp2
  go_loopw [4] (fun i wr => ∃ k : Nat, k ≤ 16 ∧ i = .int .i64 k ∧ Row wr w.heap.size 23 (ag b) ∧ Room wr (w.heap.size + 1) 23 16 ∧ Row wr (w.heap.size + 1 + 1) 23 (ag (Gf.fill (Gf.zeros 16) (Gf.rdB b) k)) ∧ Below w.heap.size w wr) (fun i _ => 16 - (intOf i).toNat)
  case atStart =>
    refine ⟨0, by omega, rfl, ?_, ?_, ?_, ?_⟩
    · exact ((Row.new _ _ _).alloc _).alloc _
    · exact (Room.made _ _ _ _ _ rfl (by simp)).alloc _
    · exact Row.made _ _ _ _ _ rfl (by simp)
    · exact (((Below.refl _ _).alloc (Nat.le_refl _) _).alloc (by simp) _).alloc (by simp; omega) _
  case round =>
    obtain ⟨k, hk, rfl, h1, h2, h3, hbl⟩ := hrel
    by_cases hlt : k < 16
    · have c1 := h1.byte (k := k) (by omega)
      have c3 := h3.byte (k := k) (by rw [Gf.fill_len]; exact hlt)
      have f3 := h3.frozen k
      rw [Gf.fill_get _ _ _ _ (Nat.le_refl _)] at c3
      have E : Box' (Gf.fill (Gf.zeros 16) (Gf.rdB b) (k + 1) = (Gf.fill (Gf.zeros 16) (Gf.rdB b) k).set k (Gf.rdB b k)) := ⟨rfl⟩
      have D : Box' (Gf.rdB b k = UInt8.ofNat ((b.getD k 0).toNat * 2 % 256 ||| (b.getD (k + 1) 0).toNat / 128)) := ⟨rfl⟩
      by_cases h15 : k < 15
      · have c2 := h1.byte (k := k + 1) (by omega)
        generalize b.getD k 0 = x at *
        generalize b.getD (k + 1) 0 = y at *
        have hx := x.toNat_lt
        have hy := y.toNat_lt
        have h4 := h3.setByte k (UInt8.ofNat (x.toNat * 2 % 256))
        have h5 := h4.setByte k (Gf.rdB b k)
        have o1 := or_shr7 x y
        rw [← D.out] at o1
        rw [← shl1_u8] at h5 o1
        have O1 := Box'.mk o1
        clear o1 h4
        go_wp2
        refine wp_region_tail 9 (by kernel_rfl) (by kernel_rfl) ?_
        simp only [List.take_succ_cons, List.take_zero, List.drop_succ_cons, List.drop_zero]
        repeat (go_big_quiet_step (fail))
        refine wpQuiet_nil ?_
        go_wp2
        rw [O1.out]
        refine ⟨⟨k + 1, by omega, by go_num, ?_, ?_, ?_, ?_⟩, by simp [intOf]; omega⟩
        · exact ((h1.setOther _ _ (by simp; omega)).setOther _ _ (by simp; omega)).drew
        · exact ((h2.setOther _ _ (by simp)).setOther _ _ (by simp)).drew
        · rw [E.out]
          rw [List.set_set] at h5
          exact h5.drew
        · exact ((hbl.setCell (by simp; omega) _).setCell (by simp; omega) _).drew
      · obtain rfl : k = 15 := by omega
        have D2 : Box' (Gf.rdB b 15 = UInt8.ofNat ((b.getD 15 0).toNat * 2 % 256)) := ⟨by rw [D.out, H16.out]; show UInt8.ofNat (_ ||| 0) = _; rw [Nat.or_zero]⟩
        clear D
        generalize b.getD 15 0 = x at *
        have h4 := h3.setByte 15 (Gf.rdB b 15)
        rw [← E.out, D2.out, ← shl1_u8] at h4
        go_wp2
        refine ⟨⟨16, by omega, rfl, ?_, ?_, ?_, ?_⟩, by simp [intOf]⟩
        · exact h1.setOther _ _ (by simp; omega)
        · exact h2.setOther _ _ (by simp)
        · exact h4
        · exact hbl.setCell (by simp; omega) _
    · obtain rfl : k = 16 := by omega
      rw [HF.out] at h3
      have c0 := h1.byte (k := 0) (by omega)
      have c15 := h3.byte (k := 15) (by simp)
      have f15 := h3.frozen 15
      have e15 : ((List.range 16).map (Gf.rdB b)).getD 15 0 = Gf.rdB b 15 := by simp
      rw [e15] at c15
      have hlen : ((List.range 16).map (Gf.rdB b)).length = 16 := by simp
      have HRD : Box' (Gf.rdbl b = if (b.getD 0 0).toNat / 128 = 1 then ((List.range 16).map (Gf.rdB b)).set 15 (Gf.rdB b 15 ^^^ 135) else (List.range 16).map (Gf.rdB b)) := ⟨rfl⟩
      clear e15
      generalize (List.range 16).map (Gf.rdB b) = D at *
      have h4 := h3.setByte 15 (Gf.rdB b 15 ^^^ 135)
      rw [← xor_u8] at h4
      generalize Gf.rdB b 15 = y at *
      have hy := y.toNat_lt
      have hx : (b.getD 0 0).toNat < 256 := (b.getD 0 0).toNat_lt
      generalize b.getD 0 0 = x at *
      by_cases ht : x.toNat / 128 = 1
      · have hD : Gf.rdbl b = D.set 15 (y ^^^ 135) := by rw [HRD.out, if_pos ht]
        rw [HR.out] at hD
        subst hD
        have i1 : ((x.toNat : Int) / 128 == 1) = true := by rw [beq_iff_eq]; omega
        have h5 := h2.setOther ⟨w.heap.size + 1 + 1, 15, none⟩ (.int .u8 (bits .xor .u8 (y.toNat : Int) 135)) (by simp)
        have hb5 := hbl.setCell (p := ⟨w.heap.size + 1 + 1, 15, none⟩) (by simp; omega) (.int .u8 (bits .xor .u8 (y.toNat : Int) 135))
        have h6 : Row (wr.setCell ⟨w.heap.size + 1 + 1, 15, none⟩ (.int .u8 (bits .xor .u8 (y.toNat : Int) 135))) (w.heap.size + 1 + 1) 23 (ag (D.set 15 (y ^^^ 135))) := h4
        have hl2 : (D.set 15 (y ^^^ 135)).length = 16 := by rw [List.length_set]; exact hlen
        clear h4 HRD HR
        go_wp2_with (first
          | (refine wpList_load_row rfl 23 _ rfl _ rfl _ _ h6 _ Tryd.underlying23 rfl 16 Tryd.info23 (by rw [ag_size]; exact hl2) ?_)
          | (refine wpList_store_row rfl 23 (.tmp 2) _ rfl _ rfl _ rfl _ _ h5 Tryd.info23 (by rw [ag_size]; exact hl2) (ag_one _) ?_))
        exact bodyPost_ret (results_row rfl _ _ rfl _ _ (h5.setRow _) _ Tryd.underlying23 rfl 16 Tryd.info23 (by rw [ag_size]; exact hl2)) rfl ⟨rfl, below_setRow hb5 (by omega) _⟩
      · have hD : Gf.rdbl b = D := by rw [HRD.out, if_neg ht]
        rw [HR.out] at hD
        subst hD
        have i1 : ((x.toNat : Int) / 128 == 1) = false := by rw [beq_eq_false_iff_ne]; omega
        clear h4 HRD HR
        go_wp2_with (first
          | (refine wpList_load_row rfl 23 (.tmp 3) rfl _ rfl _ _ h3 _ Tryd.underlying23 rfl 16 Tryd.info23 (by rw [ag_size]; exact hlen) ?_)
          | (refine wpList_store_row rfl 23 (.tmp 2) _ rfl _ rfl _ rfl _ _ h2 Tryd.info23 (by rw [ag_size]; exact hlen) (ag_one _) ?_))
        exact bodyPost_ret (results_row rfl _ _ rfl _ _ (h2.setRow _) _ Tryd.underlying23 rfl 16 Tryd.info23 (by rw [ag_size]; exact hlen)) rfl ⟨rfl, below_setRow hbl (by omega) _⟩
set_option maxHeartbeats 400000 in
theorem refPlus_any (a b : List UInt8) (ha : a.length = 16) (hb : b.length = 16) (w : World) :
    Calls Tryd.prog 29 #[.agg (ag a), .agg (ag b)] w fun e w' => e = .returned (.agg (ag (Gf.bxor a b))) ∧ Below w.heap.size w w' := by
  have hF : Gf.fill a (fun i => a.getD i 0 ^^^ b.getD i 0) 16 = Gf.bxor a b := Gf.fill_full _ _ _ ha
  have HF := show Hid _ from hF
  clear hF
  go_enter Tryd.func29, Tryd.ntmps29
  go_wp2
  go_loopw [5] (fun i wr => ∃ k : Nat, k ≤ 16 ∧ i = .int .i64 k ∧ Row wr w.heap.size 23 (ag (Gf.fill a (fun i => a.getD i 0 ^^^ b.getD i 0) k)) ∧ Row wr (w.heap.size + 1) 23 (ag b) ∧ Room wr (w.heap.size + 1 + 1) 23 16 ∧ Below w.heap.size w wr) (fun i _ => 16 - (intOf i).toNat)
  case atStart =>
    refine ⟨0, by omega, rfl, ?_, ?_, ?_, ?_⟩
    · exact ((Row.new _ _ _).alloc _).alloc _
    · simpa using (Row.new (w.alloc (.cells (ag a) 23)) 23 (ag b)).alloc _
    · simpa using Room.new ((w.alloc (.cells (ag a) 23)).alloc (.cells (ag b) 23)) 23 _ 16 rfl
    · exact (((Below.refl _ _).alloc (Nat.le_refl _) _).alloc (by simp) _).alloc (by simp; omega) _
  case round =>
    obtain ⟨k, hk, rfl, h1, h2, h3, hbl⟩ := hrel
    by_cases hlt : k < 16
    · have c1 := h1.byte (k := k) (by rw [Gf.fill_len, ha]; exact hlt)
      have f1 := h1.frozen k
      have c2 := h2.byte (k := k) (by rw [hb]; exact hlt)
      rw [Gf.fill_get _ _ _ _ (Nat.le_refl _)] at c1
      go_wp2
      go_region
      go_wp2
      go_roundw
      case rel =>
        refine ⟨k + 1, by omega, by go_num, ?_, ?_, ?_, ?_⟩
        · have e : Gf.fill a (fun i => a.getD i 0 ^^^ b.getD i 0) (k + 1) = (Gf.fill a (fun i => a.getD i 0 ^^^ b.getD i 0) k).set k (a[k] ^^^ b[k]) := by simp [Gf.fill, ha, hb, hlt]
          rw [e, xor_u8]; exact (h1.setByte k _).drew
        · exact (h2.setOther _ _ (by simp)).drew
        · exact (h3.setOther _ _ (by simp; omega)).drew
        · exact (hbl.setCell (Nat.le_refl _) _).drew
      case measure => simp [intOf]; omega
    · have hk' : k = 16 := by omega
      subst hk'
      rw [HF.out] at h1
      have hl := Gf.bxor_len a b
      go_wp2_with (first
        | (refine wpList_load_row rfl 23 _ rfl _ rfl _ _ h1 _ Tryd.underlying23 rfl 16 Tryd.info23 (by rw [ag_size, hl]) ?_)
        | (refine wpList_store_row rfl 23 _ _ rfl _ rfl _ rfl _ _ h3 Tryd.info23 (by rw [ag_size, hl]) (ag_one _) ?_))
      exact bodyPost_ret (results_row rfl _ _ rfl _ _ (h3.setRow _) _ Tryd.underlying23 rfl 16 Tryd.info23 (by rw [ag_size, hl])) rfl ⟨rfl, below_setRow hbl (by omega) _⟩

def Gf.badE (n b : Nat) (s : Int) : Int := if n < 1 ∨ 15 < n then 2 else if 65536 < s ∨ 65536 < b then 4 else 0
set_option maxHeartbeats 1000000 in
theorem bad_any (an : Option Addr) (n cn : Nat) (ab : Option Addr) (b cb : Nat) (s : Int) (hn : n ≤ maxLen) (hb : b ≤ maxLen) (w : World) :
    Calls Tryd.prog 25 #[.slice an n cn, .slice ab b cb, .int .i64 s] w fun e w' => e = .returned (.int .i64 (Gf.badE n b s)) ∧ w' = w := by
  unfold Gf.badE
  unfold maxLen at hn hb
  by_cases h1 : n < 1
  · rw [if_pos (.inl h1)]
    have i1 : (n : Int) < 1 := by omega
    go_enter Tryd.func25, Tryd.ntmps25
    go_wp2
    go_ret
    exact ⟨rfl, rfl⟩
  · have i1 : ¬ (n : Int) < 1 := by omega
    by_cases h2 : 15 < n
    · rw [if_pos (.inr h2)]
      have i2 : (15 : Int) < (n : Int) := by omega
      go_enter Tryd.func25, Tryd.ntmps25
      go_wp2
      go_ret
      exact ⟨rfl, rfl⟩
    · rw [if_neg (by omega)]
      have i2 : ¬ (15 : Int) < (n : Int) := by omega
      by_cases h4 : 65536 < b
      · rw [if_pos (.inr h4)]
        have i4 : (65536 : Int) < (b : Int) := by omega
        go_enter Tryd.func25, Tryd.ntmps25
        go_wp2
        go_ret
        exact ⟨rfl, rfl⟩
      · have i4 : ¬ (65536 : Int) < (b : Int) := by omega
        by_cases h3 : 65536 < s
        · rw [if_pos (.inl h3)]
          go_enter Tryd.func25, Tryd.ntmps25
          go_wp2
          go_ret
          exact ⟨rfl, rfl⟩
        · rw [if_neg (by omega)]
          go_enter Tryd.func25, Tryd.ntmps25
          go_wp2
          go_ret
          exact ⟨rfl, rfl⟩
end Go.Proofs.YtmolhljgmaoflaaDoor

/- The walks of the reference's padded and block. -/
namespace Go.Proofs.YtmolhljgmaoflaaDoor
open Go.RowKit Go.BigFrame

set_option maxRecDepth 100000 in
set_option maxHeartbeats 1000000 in
theorem refPadded_any (S : Nat → Prop) (v : Value) (l : List UInt8) (h0 : 0 < l.length) (h16 : l.length < 16) (w : World) (hl : Bts S w v l) :
    Calls Tryd.prog 32 #[v] w fun e w' => e = .returned (.agg (ag (Gf.fup l))) ∧ Below w.heap.size w w' := by
  obtain ⟨a, c, rfl, hc, h3⟩ := hl
  rcases h3 with rfl | ⟨b, o, rfl, hS, hr⟩
  · simp at h0
  have hlt := range_lt hr h0
  have lF := Gf.fup_len l h16
  have z16 : (Gf.zeros 16).length = 16 := rfl
  have lS : (splice (Gf.zeros 16) 0 l).length = 16 := splice_len _ _ _ (by omega)
  have hF : (splice (Gf.zeros 16) 0 l).set l.length 128 = Gf.fup l := rfl
  generalize Gf.fup l = F at *
  have HF := Box'.mk hF
  clear hF
  obtain ⟨n, hn⟩ : ∃ n, l.length = n := ⟨_, rfl⟩
  rw [hn] at HF h0 h16 hc
  rw [hn]
  go_enter Tryd.func32, Tryd.ntmps32
  have hw0 : Below w.heap.size w ((w.alloc (.cells (ag (Gf.zeros 16)) 23)).alloc (.cells (ag (Gf.zeros 16)) 23)) := ((Below.refl _ _).alloc (Nat.le_refl _) _).alloc (by simp) _
  have hr' := range_below hr hw0 hlt
  have r0 : Room ((w.alloc (.cells (ag (Gf.zeros 16)) 23)).alloc (.cells (ag (Gf.zeros 16)) 23)) w.heap.size 23 16 := (Room.new _ _ _ _ rfl).alloc _
  have r1 : Row ((w.alloc (.cells (ag (Gf.zeros 16)) 23)).alloc (.cells (ag (Gf.zeros 16)) 23)) (w.heap.size + 1) 23 (ag (Gf.zeros 16)) := Row.made _ _ _ _ _ rfl (by simp)
  have hcp : l.length = Nat.min n 16 := by rw [hn]; exact (Nat.min_eq_left (by omega)).symm
  go_wp2_with (first
    | (refine wpList_copy_range rfl (.tmp 4) (.tmp 5) 24 24 rfl 5 Tryd.underlying24 (by kernel_rfl) _ 0 16 16 b o n c rfl rfl (Gf.zeros 16) l 23 r1 hr' hcp (by omega) ?_
       rw [hn]
       have r2 := r1.setRow (ag (splice (Gf.zeros 16) 0 l))
       have r4 := r0.setRowOther (w.heap.size + 1) (ag (splice (Gf.zeros 16) 0 l)) (by omega)
       have hbl := below_setRow hw0 (show w.heap.size ≤ w.heap.size + 1 by omega) (ag (splice (Gf.zeros 16) 0 l))
       clear r0 r1 hr' hw0 hcp
       generalize hW : World.setRow _ _ _ = W2
       have r2' : Row W2 (w.heap.size + 1) 23 (ag (splice (Gf.zeros 16) 0 l)) := by rw [← hW]; exact r2
       have r4' : Room W2 w.heap.size 23 16 := by rw [← hW]; exact r4
       have hbl' : Below w.heap.size w W2 := by rw [← hW]; exact hbl
       have c2 := r2'.byte (k := n) (by omega)
       have f2 := r2'.frozen n
       have r3 : Row (W2.setCell ⟨w.heap.size + 1, n, none⟩ (.int .u8 128)) (w.heap.size + 1) 23 (ag F) := by have := r2'.setByte n 128; rw [HF.out] at this; exact this
       have r5 := r4'.setOther ⟨w.heap.size + 1, n, none⟩ (.int .u8 128) (by simp)
       have hbl2 := hbl'.setCell (p := ⟨w.heap.size + 1, n, none⟩) (by simp) (.int .u8 128)
       clear hW r2 r4 hbl r2' r4' hbl')
    | (refine wpList_load_row rfl 23 _ rfl _ rfl _ _ r3 _ Tryd.underlying23 rfl 16 Tryd.info23 (by rw [ag_size]; exact lF) ?_)
    | (refine wpList_store_row rfl 23 (.tmp 2) (.tmp 10) rfl _ rfl _ rfl _ _ r5 Tryd.info23 (by rw [ag_size]; exact lF) (ag_one _) ?_)
    | fail)
  exact bodyPost_ret (results_row rfl _ _ rfl _ _ (r5.setRow _) _ Tryd.underlying23 rfl 16 Tryd.info23 (by rw [ag_size]; exact lF)) rfl ⟨rfl, below_setRow hbl2 (Nat.le_refl _) _⟩
set_option maxRecDepth 100000 in
set_option maxHeartbeats 1000000 in
theorem refBlock_any (S : Nat → Prop) (v : Value) (l : List UInt8) (h16 : l.length = 16) (w : World) (hl : Bts S w v l) :
    Calls Tryd.prog 28 #[v] w fun e w' => e = .returned (.agg (ag l)) ∧ Below w.heap.size w w' := by
  obtain ⟨a, c, rfl, hc, h3⟩ := hl
  rcases h3 with rfl | ⟨b, o, rfl, hS, hr⟩
  · simp at h16
  have hlt := range_lt hr (by omega)
  have z16 : (Gf.zeros 16).length = 16 := rfl
  have hS0 : splice (Gf.zeros 16) 0 l = l := by
    unfold splice
    rw [List.take_zero, List.nil_append, List.drop_of_length_le (by rw [z16]; omega), List.append_nil]
  have HS := Box'.mk hS0
  clear hS0
  rw [h16]
  rw [h16] at hc
  go_enter Tryd.func28, Tryd.ntmps28
  have hw0 : Below w.heap.size w ((w.alloc (.cells (ag (Gf.zeros 16)) 23)).alloc (.cells (ag (Gf.zeros 16)) 23)) := ((Below.refl _ _).alloc (Nat.le_refl _) _).alloc (by simp) _
  have hr' := range_below hr hw0 hlt
  have r0 : Room ((w.alloc (.cells (ag (Gf.zeros 16)) 23)).alloc (.cells (ag (Gf.zeros 16)) 23)) w.heap.size 23 16 := (Room.new _ _ _ _ rfl).alloc _
  have r1 : Row ((w.alloc (.cells (ag (Gf.zeros 16)) 23)).alloc (.cells (ag (Gf.zeros 16)) 23)) (w.heap.size + 1) 23 (ag (Gf.zeros 16)) := Row.made _ _ _ _ _ rfl (by simp)
  have hcp : l.length = Nat.min 16 16 := by rw [h16]; rfl
  go_wp2_with (first
    | (refine wpList_copy_range rfl (.tmp 4) (.tmp 5) 24 24 rfl 5 Tryd.underlying24 (by kernel_rfl) _ 0 16 16 b o 16 c rfl rfl (Gf.zeros 16) l 23 r1 hr' hcp (by omega) ?_
       rw [h16, HS.out]
       have r2 := r1.setRow (ag l)
       have r4 := r0.setRowOther (w.heap.size + 1) (ag l) (by omega)
       have hbl := below_setRow hw0 (show w.heap.size ≤ w.heap.size + 1 by omega) (ag l)
       clear r0 r1 hr' hw0 hcp
       generalize hW : World.setRow _ _ _ = W2
       have r3 : Row W2 (w.heap.size + 1) 23 (ag l) := by rw [← hW]; exact r2
       have r5 : Room W2 w.heap.size 23 16 := by rw [← hW]; exact r4
       have hbl2 : Below w.heap.size w W2 := by rw [← hW]; exact hbl
       clear hW r2 r4 hbl)
    | (refine wpList_load_row rfl 23 _ rfl _ rfl _ _ r3 _ Tryd.underlying23 rfl 16 Tryd.info23 (by rw [ag_size]; exact h16) ?_)
    | (refine wpList_store_row rfl 23 (.tmp 2) (.tmp 7) rfl _ rfl _ rfl _ _ r5 Tryd.info23 (by rw [ag_size]; exact h16) (ag_one _) ?_)
    | fail)
  exact bodyPost_ret (results_row rfl _ _ rfl _ _ (r5.setRow _) _ Tryd.underlying23 rfl 16 Tryd.info23 (by rw [ag_size]; exact h16)) rfl ⟨rfl, below_setRow hbl2 (Nat.le_refl _) _⟩
end Go.Proofs.YtmolhljgmaoflaaDoor
