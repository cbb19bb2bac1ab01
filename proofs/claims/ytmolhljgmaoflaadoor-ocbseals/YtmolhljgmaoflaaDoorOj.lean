/- The walk of beginning. -/
import Derived.Test.YtmolhljgmaoflaaDoorOi
import Derived.Deep.Cut
namespace Go.Proofs.YtmolhljgmaoflaaDoor
open Go.RowKit Go.BigFrame

theorem wpList_val {P : Program} {ops : Array Oper} {rest : List Oper} {op : Oper} {a : Act} {w : World} {Q : Exit → Act → World → Prop} (hgd : op.guard = none) (v : Value) (hrun : (execOp a.eval op).run P w = .ok (.value v) w)
    (h : wpList P ops Q rest (a.put op.dst v) w) : wpList P ops Q (op :: rest) a w :=
  wpList_plain hgd fun _ hK => by unfold Oper.wp; rw [hrun]; exact hK _ _ h
def Gf.nblock (l : List UInt8) : List UInt8 := splice ((Gf.zeros 16).set (15 - l.length) 1) (16 - l.length) l
def Gf.place (l : List UInt8) : Nat := ((Gf.nblock l).getD 15 0).toNat % 64
def Gf.nclean (l : List UInt8) : List UInt8 := (Gf.nblock l).set 15 (UInt8.ofNat (((Gf.nblock l).getD 15 0).toNat / 64 * 64))
def Gf.behind (h l : Nat) : Nat := h ^^^ ((h * 256 % 18446744073709551616) ||| (l / 72057594037927936))
def Gf.shifted (h l p : Nat) : List UInt8 := Gf.joinL ((h * 2 ^ p % 18446744073709551616) ||| (l / 2 ^ (64 - p))) ((l * 2 ^ p % 18446744073709551616) ||| (Gf.behind h l / 2 ^ (64 - p)))
def Gf.begin (key l : List UInt8) : List UInt8 := Gf.shifted (Gf.half (Gf.encrypt key (Gf.nclean l)) 0) (Gf.half (Gf.encrypt key (Gf.nclean l)) 8) (Gf.place l)
theorem Gf.begin_len (key l : List UInt8) : (Gf.begin key l).length = 16 := Gf.joinL_len _ _
theorem Gf.nblock_len (l : List UInt8) (h : l.length ≤ 16) : (Gf.nblock l).length = 16 := by
  have : ((Gf.zeros 16).set (15 - l.length) 1).length = 16 := by rw [List.length_set]; rfl
  unfold Gf.nblock; rw [splice_len _ _ _ (by omega), this]
theorem Gf.nclean_len (l : List UInt8) (h : l.length ≤ 16) : (Gf.nclean l).length = 16 := by unfold Gf.nclean; rw [List.length_set]; exact Gf.nblock_len l h
theorem and63 : ∀ n : Nat, n < 256 → bits .and .u8 (n : Int) 63 = ((n % 64 : Nat) : Int) := by decide +kernel
theorem not63 : ∀ n : Nat, n < 256 → bits .andNot .u8 (n : Int) 63 = ((n / 64 * 64 : Nat) : Int) := by decide +kernel

theorem sh_hi (H L p : Nat) (hL : L < 18446744073709551616) : bits .or .u64 (IntKind.u64.wrap ((H : Int) * 2 ^ p)) ((L : Int) / 2 ^ (64 - p)) = (((H * 2 ^ p % 18446744073709551616) ||| (L / 2 ^ (64 - p)) : Nat) : Int) := by
  have e1 : (H : Int) * 2 ^ p = ((H * 2 ^ p : Nat) : Int) := by simp
  have e2 : (L : Int) / 2 ^ (64 - p) = ((L / 2 ^ (64 - p) : Nat) : Int) := by simp
  rw [e1, e2, wrap_nat, u64_or_nat _ _ (Nat.mod_lt _ (by decide)) (Nat.lt_of_le_of_lt (Nat.div_le_self _ _) hL)]
theorem behind_lt (H L : Nat) (hH : H < 18446744073709551616) (hL : L < 18446744073709551616) : Gf.behind H L < 18446744073709551616 := by
  unfold Gf.behind
  exact Nat.xor_lt_two_pow (n := 64) hH (Nat.or_lt_two_pow (n := 64) (Nat.mod_lt _ (by decide)) (Nat.lt_of_le_of_lt (Nat.div_le_self _ _) hL))
theorem behind_int (H L : Nat) (hH : H < 18446744073709551616) (hL : L < 18446744073709551616) : bits .xor .u64 (H : Int) (bits .or .u64 (IntKind.u64.wrap ((H : Int) * 256)) ((L : Int) / 72057594037927936)) = (Gf.behind H L : Int) := by
  have e1 : (H : Int) * 256 = ((H * 256 : Nat) : Int) := by simp
  have e2 : (L : Int) / 72057594037927936 = ((L / 72057594037927936 : Nat) : Int) := by simp
  have h2 : L / 72057594037927936 < 18446744073709551616 := Nat.lt_of_le_of_lt (Nat.div_le_self _ _) hL
  rw [e1, e2, wrap_nat, u64_or_nat _ _ (Nat.mod_lt _ (by decide)) h2, u64_xor_nat _ _ hH (Nat.or_lt_two_pow (n := 64) (Nat.mod_lt _ (by decide)) h2)]
  rfl

set_option maxRecDepth 100000 in
set_option maxHeartbeats 1000000 in
theorem begin_any (S : Nat → Prop) (key : List UInt8) (hkey : key.length = 16) (v : Value) (l : List UInt8) (h0 : 0 < l.length) (h15 : l.length ≤ 15) (w : World) (hl : Bts S w v l) :
    Calls Tryd.prog 23 #[.agg (ag key), v] w fun e w' => e = .returned (.agg (ag (Gf.begin key l))) ∧ Below w.heap.size w w' := by
  obtain ⟨a, c, rfl, hc, h3⟩ := hl
  rcases h3 with rfl | ⟨b, o, rfl, hS, hr⟩
  · simp at h0
  have hlt := range_lt hr h0
  have lB := Gf.nblock_len l (by omega)
  have lC := Gf.nclean_len l (by omega)
  have HB : Box' (splice ((Gf.zeros 16).set (15 - l.length) 1) (16 - l.length) l = Gf.nblock l) := ⟨rfl⟩
  have HC : Box' ((Gf.nblock l).set 15 (UInt8.ofNat (((Gf.nblock l).getD 15 0).toNat / 64 * 64)) = Gf.nclean l) := ⟨rfl⟩
  have HP : Box' (Gf.place l = ((Gf.nblock l).getD 15 0).toNat % 64) := ⟨rfl⟩
  have HG : Box' (Gf.begin key l = Gf.shifted (Gf.half (Gf.encrypt key (Gf.nclean l)) 0) (Gf.half (Gf.encrypt key (Gf.nclean l)) 8) (Gf.place l)) := ⟨rfl⟩
  have lG := Gf.begin_len key l
  have hE := fun w => encrypt_any key (Gf.nclean l) hkey lC w
  have lE := Gf.encrypt_len key (Gf.nclean l)
  have hS2 := fun w => split_any (Gf.encrypt key (Gf.nclean l)) lE w
  have hH := half_lt (Gf.encrypt key (Gf.nclean l)) 0
  have hL := half_lt (Gf.encrypt key (Gf.nclean l)) 8
  generalize Gf.half (Gf.encrypt key (Gf.nclean l)) 0 = H at *
  generalize Gf.half (Gf.encrypt key (Gf.nclean l)) 8 = L at *
  generalize Gf.encrypt key (Gf.nclean l) = E at *
  generalize Gf.nclean l = NC at *
  generalize Gf.begin key l = BG at *
  generalize Gf.place l = pl at *
  generalize Gf.nblock l = NB at *
  obtain ⟨x, hx⟩ : ∃ x, NB.getD 15 0 = x := ⟨_, rfl⟩
  rw [hx] at HC HP
  obtain ⟨n, hn⟩ : ∃ n, l.length = n := ⟨_, rfl⟩
  rw [hn] at h0 h15 hc HB
  rw [hn]
  have hxl := x.toNat_lt
  have a1 := and63 x.toNat hxl
  have a2 := not63 x.toNat hxl
  have e1 : (16 : Int) - (n : Int) = ((16 - n : Nat) : Int) := by omega
  have e2 : ((16 - n : Nat) : Int) - 1 = ((15 - n : Nat) : Int) := by omega
  go_enter Tryd.func23, Tryd.ntmps23
  have hw0 : Below w.heap.size w (((w.alloc (.cells (ag key) 23)).alloc (.cells (ag (Gf.zeros 16)) 23)).alloc (.cells (ag (Gf.zeros 16)) 23)) := (((Below.refl _ _).alloc (Nat.le_refl _) _).alloc (by simp) _).alloc (by simp; omega) _
  have hr' := range_below hr hw0 hlt
  have k0 : Row (((w.alloc (.cells (ag key) 23)).alloc (.cells (ag (Gf.zeros 16)) 23)).alloc (.cells (ag (Gf.zeros 16)) 23)) w.heap.size 23 (ag key) := ((Row.new _ _ _).alloc _).alloc _
  have r0 : Room (((w.alloc (.cells (ag key) 23)).alloc (.cells (ag (Gf.zeros 16)) 23)).alloc (.cells (ag (Gf.zeros 16)) 23)) (w.heap.size + 1) 23 16 := (Room.made _ _ _ _ _ rfl (by simp)).alloc _
  have r1 : Row (((w.alloc (.cells (ag key) 23)).alloc (.cells (ag (Gf.zeros 16)) 23)).alloc (.cells (ag (Gf.zeros 16)) 23)) (w.heap.size + 1 + 1) 23 (ag (Gf.zeros 16)) := Row.made _ _ _ _ _ rfl (by simp)
  go_upto_region 3 with (fail)
  generalize hW0 : World.alloc (World.alloc (World.alloc w _) _) _ = W0
  have hw0' : Below w.heap.size w W0 := by rw [← hW0]; exact hw0
  have hr1 : W0.rangeAt b o (l.map B) := by rw [← hW0]; exact hr'
  have k1 : Row W0 w.heap.size 23 (ag key) := by rw [← hW0]; exact k0
  have r2 : Room W0 (w.heap.size + 1) 23 16 := by rw [← hW0]; exact r0
  have r3 : Row W0 (w.heap.size + 1 + 1) 23 (ag (Gf.zeros 16)) := by rw [← hW0]; exact r1
  clear hW0 hw0 hr' k0 r0 r1 hr
  have c3 := r3.byte (k := 15 - n) (by show _ < (List.replicate 16 (0 : UInt8)).length; rw [List.length_replicate]; omega)
  have f3 := r3.frozen (15 - n)
  go_upto_region 4 with (fail)
  have r4 : Row (W0.setCell ⟨w.heap.size + 1 + 1, 15 - n, none⟩ (.int .u8 1)) (w.heap.size + 1 + 1) 23 (ag ((Gf.zeros 16).set (15 - n) 1)) := r3.setByte (15 - n) 1
  have hw1 := hw0'.setCell (p := ⟨w.heap.size + 1 + 1, 15 - n, none⟩) (by show w.heap.size ≤ w.heap.size + 1 + 1; omega) (.int .u8 1)
  have hr2 := range_below hr1 ((Below.refl w.heap.size W0).setCell (p := ⟨w.heap.size + 1 + 1, 15 - n, none⟩) (by show w.heap.size ≤ w.heap.size + 1 + 1; omega) (.int .u8 1)) hlt
  have k2 := k1.setOther ⟨w.heap.size + 1 + 1, 15 - n, none⟩ (.int .u8 1) (by show w.heap.size ≠ w.heap.size + 1 + 1; omega)
  have r5 := r2.setOther ⟨w.heap.size + 1 + 1, 15 - n, none⟩ (.int .u8 1) (by show w.heap.size + 1 ≠ w.heap.size + 1 + 1; omega)
  clear hw0' hr1 k1 r2 r3 c3 f3
  generalize World.setCell _ _ _ = W1 at *
  have hcp : l.length = Nat.min n (16 - (16 - n)) := by rw [hn, Nat.sub_sub_self (by omega)]; exact (Nat.min_self n).symm
  have l1 : ((Gf.zeros 16).set (15 - n) 1).length = 16 := by rw [List.length_set]; rfl
  have hlt16 : 16 - n < 16 := by omega
  have hsl := run_slice_from (P := Tryd.prog) W1 23 5 16 Tryd.underlying23 (by kernel_rfl) (w.heap.size + 1 + 1) 0 (16 - n) hlt16
  rw [Nat.zero_add] at hsl
  go_wp2_with (first
    | (refine wpList_val rfl _ (slice_op 23 (.tmp 5) (some (.tmp 17)) none none rfl _ _ hsl) ?_)
    | (refine wpList_copy_range rfl (.tmp 18) (.tmp 19) 24 24 rfl 5 Tryd.underlying24 (by kernel_rfl) (w.heap.size + 1 + 1) (16 - n) (16 - (16 - n)) (16 - (16 - n)) b o n c rfl rfl ((Gf.zeros 16).set (15 - n) 1) l 23 r4 hr2 hcp (by omega) ?_
       rw [hn, HB.out]
       have r6 := r4.setRow (ag NB)
       have k3 := k2.setRowOther (w.heap.size + 1 + 1) (ag NB) (by omega)
       have r7 := r5.setRowOther (w.heap.size + 1 + 1) (ag NB) (by omega)
       have hw2 := below_setRow hw1 (show w.heap.size ≤ w.heap.size + 1 + 1 by omega) (ag NB)
       clear r4 hr2 hcp k2 r5 hw1
       generalize World.setRow _ _ _ = W2 at *
       have c6 := cell_form (r6.byte (k := 15) (by omega)) hx
       have f6 := r6.frozen 15
       have r8 : Row (W2.setCell ⟨w.heap.size + 1 + 1, 15, none⟩ (.int .u8 ((x.toNat / 64 * 64 : Nat) : Int))) (w.heap.size + 1 + 1) 23 (ag NC) := by
         have := r6.setByte 15 (UInt8.ofNat (x.toNat / 64 * 64))
         rw [HC.out, UInt8.toNat_ofNat_of_lt' (by show x.toNat / 64 * 64 < 256; omega)] at this
         exact this
       have k4 := k3.setOther ⟨w.heap.size + 1 + 1, 15, none⟩ (.int .u8 ((x.toNat / 64 * 64 : Nat) : Int)) (by show w.heap.size ≠ w.heap.size + 1 + 1; omega)
       have r9 := r7.setOther ⟨w.heap.size + 1 + 1, 15, none⟩ (.int .u8 ((x.toNat / 64 * 64 : Nat) : Int)) (by show w.heap.size + 1 ≠ w.heap.size + 1 + 1; omega)
       have hw3 := hw2.setCell (p := ⟨w.heap.size + 1 + 1, 15, none⟩) (by show w.heap.size ≤ w.heap.size + 1 + 1; omega) (.int .u8 ((x.toNat / 64 * 64 : Nat) : Int))
       clear r6 k3 r7 hw2)
    | (refine wpList_load_row rfl 23 _ rfl _ rfl _ _ k4 _ Tryd.underlying23 rfl 16 Tryd.info23 (by rw [ag_size]; exact hkey) ?_)
    | (refine wpList_load_row rfl 23 _ rfl _ rfl _ _ r8 _ Tryd.underlying23 rfl 16 Tryd.info23 (by rw [ag_size]; exact lC) ?_)
    | fail)
  refine (hE _).mono ?_
  rintro e w1 ⟨rfl, hb1⟩
  have hw4 : Below w.heap.size w w1 := hw3.trans (hb1.mono (by simp; have := hw3.size; simp at this; omega))
  have r10 : Room w1 (w.heap.size + 1) 23 16 := r9.below hb1 (r9.elim fun _ h => h.1.lt)
  clear hb1 hw3 r9 r8 k4
  go_wp2_with fail
  refine (hS2 _).mono ?_
  rintro e w2 ⟨rfl, hb2⟩
  have hz1 := r10.elim fun _ h => h.1.lt
  have hw5 : Below w.heap.size w w2 := hw4.trans (hb2.mono (by omega))
  have r11 : Room w2 (w.heap.size + 1) 23 16 := r10.below hb2 hz1
  clear hb2 hw4 r10
  go_wp2_with fail
  rw [behind_int H L hH hL, sh_hi H L _ hL, sh_hi L (Gf.behind H L) _ (behind_lt H L hH hL)]
  refine (ocbJoin_any _ _ _).mono ?_
  rintro e w3 ⟨rfl, hb3⟩
  have hz2 := r11.elim fun _ h => h.1.lt
  have q3 : Room w3 (w.heap.size + 1) 23 16 := r11.below hb3 hz2
  have hw6 : Below w.heap.size w w3 := hw5.trans (hb3.mono (by omega))
  have hG : Gf.joinL ((H * 2 ^ (x.toNat % 64) % 18446744073709551616) ||| (L / 2 ^ (64 - x.toNat % 64))) ((L * 2 ^ (x.toNat % 64) % 18446744073709551616) ||| (Gf.behind H L / 2 ^ (64 - x.toNat % 64))) = BG := by rw [HG.out, HP.out]; rfl
  rw [hG]
  clear hb3 r11 hw5 hG
  go_wp2_with (refine wpList_store_row rfl 23 _ _ rfl _ rfl _ rfl _ _ q3 Tryd.info23 (by rw [ag_size]; exact lG) (ag_one _) ?_)
  exact bodyPost_ret (results_row rfl _ _ rfl _ _ (q3.setRow _) _ Tryd.underlying23 rfl 16 Tryd.info23 (by rw [ag_size]; exact lG)) rfl ⟨rfl, below_setRow hw6 (by omega) _⟩
end Go.Proofs.YtmolhljgmaoflaaDoor
