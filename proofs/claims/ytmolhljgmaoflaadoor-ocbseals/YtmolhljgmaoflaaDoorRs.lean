/- The walk of OcbSeals. -/
import Derived.Test.YtmolhljgmaoflaaDoorRo
import Derived.Test.YtmolhljgmaoflaaDoorOv
import Derived.Test.YtmolhljgmaoflaaDoorGx
import Derived.Test.YtmolhljgmaoflaaDoorQ
namespace Go.Proofs.YtmolhljgmaoflaaDoor
open Go.RowKit Go.BigFrame

theorem wp_unguard {P : Program} {op : Oper} {a : Act} {w : World} {K : Act → World → Prop} {Q : Exit → Act → World → Prop} (h : Oper.wp P { op with guard := none } a w K Q) : op.wp P a w K Q := h
theorem Gf.badE_is (n b : Nat) (s : Int) : Gf.badE n b s = Gf.fault n b s := rfl
set_option maxHeartbeats 1000000 in
theorem refSeal_bad (key : List UInt8) (an : Option Addr) (n cn : Nat) (ab : Option Addr) (b cb : Nat) (ap : Option Addr) (p cp : Nat) (hn : n ≤ maxLen) (hb : b ≤ maxLen) (w : World) (hf : Gf.fault n b (p : Int) ≠ 0) :
    Calls Tryd.prog 9 #[.agg (ag key), .slice an n cn, .slice ab b cb, .slice ap p cp] w fun e w' => e = .returned (.tuple #[.slice none 0 0, .int .i64 (Gf.fault n b (p : Int))]) ∧ Below w.heap.size w w' := by
  have hfa := fun w => bad_any an n cn ab b cb (p : Int) hn hb w
  simp only [Gf.badE_is] at hfa
  generalize Gf.fault n b (p : Int) = c at *
  unfold maxLen at hn hb
  have hc : (c == 0) = false := by rw [beq_eq_false_iff_ne]; exact hf
  go_enter Tryd.func9, Tryd.ntmps9
  go_wp2_with (first | (go_at_call 25; refine (hfa _).mono ?_; rintro e w1 ⟨rfl, rfl⟩) | fail)
  go_ret2
  exact ⟨rfl, (Below.refl _ _).alloc (Nat.le_refl _) _⟩
def Gf.slL (key ln lb lp : List UInt8) : List UInt8 := if Gf.fault ln.length lb.length (lp.length : Int) = 0 then Gf.sealed key ln lb lp else []
theorem fault_fits {n b : Nat} {s : Int} (h : Gf.fault n b s = 0) : 0 < n ∧ n ≤ 15 ∧ b ≤ 65536 ∧ s ≤ 65536 := by
  unfold Gf.fault at h
  by_cases h1 : n < 1 ∨ 15 < n
  · rw [if_pos h1] at h; omega
  · rw [if_neg h1] at h
    by_cases h2 : 65536 < s ∨ 65536 < b
    · rw [if_pos h2] at h; omega
    · omega
theorem noBts (w : World) : Bts (· < w.heap.size) w (.slice none 0 0) [] := ⟨none, 0, rfl, Nat.le_refl _, .inl rfl⟩
theorem seal_un (key : List UInt8) (hkey : key.length = 16) (vn vb vp : Value) (ln lb lp : List UInt8) (mn : ln.length ≤ maxLen) (mb : lb.length ≤ maxLen) (w : World) (ht : Tab w)
    (hn : Bts (· < w.heap.size) w vn ln) (hb : Bts (· < w.heap.size) w vb lb) (hp : Bts (· < w.heap.size) w vp lp) :
    Calls Tryd.prog 8 #[.agg (ag key), vn, vb, vp] w fun e w' => ∃ u, e = .returned (.tuple #[u, .int .i64 (Gf.fault ln.length lb.length (lp.length : Int))]) ∧ Bts (· < w'.heap.size) w' u (Gf.slL key ln lb lp) ∧ Below w.heap.size w w' := by
  have hnc := hn
  have hbc := hb
  have hpc := hp
  obtain ⟨an, cn, rfl, _, _⟩ := hnc
  obtain ⟨ab, cb, rfl, _, _⟩ := hbc
  obtain ⟨ap, cp, rfl, _, _⟩ := hpc
  by_cases hf : Gf.fault ln.length lb.length (lp.length : Int) = 0
  · obtain ⟨h1, h2, h3, h4⟩ := fault_fits hf
    rw [show Gf.slL key ln lb lp = Gf.sealed key ln lb lp from if_pos hf, hf]
    refine (seal_ok key hkey _ _ _ ln lb lp h1 h2 h3 (by omega) w ht hn hb hp).mono ?_
    rintro e w' ⟨g, rfl, hbu, hg, hbl⟩
    refine ⟨_, rfl, ?_, hbl⟩
    have lS := Gf.sealed_len key ln lb lp
    have := hbu.bts (S := (· < w'.heap.size)) ((World.ownsRow.lt hbu g rfl).2) (by omega)
    rw [lS] at this
    exact this
  · rw [show Gf.slL key ln lb lp = [] from if_neg hf]
    exact (seal_bad key an _ cn ab _ cb ap _ cp mn mb w hf).mono fun e w' h => ⟨_, h.1, noBts _, h.2⟩
theorem refSeal_un (key : List UInt8) (hkey : key.length = 16) (vn vb vp : Value) (ln lb lp : List UInt8) (mn : ln.length ≤ maxLen) (mb : lb.length ≤ maxLen) (w : World)
    (hn : Bts (· < w.heap.size) w vn ln) (hb : Bts (· < w.heap.size) w vb lb) (hp : Bts (· < w.heap.size) w vp lp) :
    Calls Tryd.prog 9 #[.agg (ag key), vn, vb, vp] w fun e w' => ∃ u, e = .returned (.tuple #[u, .int .i64 (Gf.fault ln.length lb.length (lp.length : Int))]) ∧ Bts (· < w'.heap.size) w' u (Gf.slL key ln lb lp) ∧ Below w.heap.size w w' := by
  have hnc := hn
  have hbc := hb
  have hpc := hp
  obtain ⟨an, cn, rfl, _, _⟩ := hnc
  obtain ⟨ab, cb, rfl, _, _⟩ := hbc
  obtain ⟨ap, cp, rfl, _, _⟩ := hpc
  by_cases hf : Gf.fault ln.length lb.length (lp.length : Int) = 0
  · obtain ⟨h1, h2, h3, h4⟩ := fault_fits hf
    rw [show Gf.slL key ln lb lp = Gf.sealed key ln lb lp from if_pos hf, hf]
    exact (refSeal_ok key hkey _ _ _ ln lb lp h1 h2 h3 (by omega) w hn hb hp).mono fun e w' ⟨v', h5, h6, h7⟩ => ⟨v', h5, h6.bts, h7⟩
  · rw [show Gf.slL key ln lb lp = [] from if_neg hf]
    exact (refSeal_bad key an _ cn ab _ cb ap _ cp mn mb w hf).mono fun e w' h => ⟨_, h.1, noBts _, h.2⟩

set_option maxRecDepth 100000 in
set_option maxHeartbeats 8000000 in
theorem seals_any (key : List UInt8) (hkey : key.length = 16) (vn vb vp : Value) (ln lb lp : List UInt8) (mn : ln.length ≤ maxLen) (mb : lb.length ≤ maxLen) (mp : lp.length ≤ maxLen) (w : World) (ht : Tab w)
    (hn : Bts (· < w.heap.size) w vn ln) (hb : Bts (· < w.heap.size) w vb lb) (hp : Bts (· < w.heap.size) w vp lp) :
    Calls Tryd.prog 3 #[.agg (cas key vn vb), vp] w fun e w' => e = .returned (.bool true) ∧ Below w.heap.size w w' := by
  have hlt := ht.lt
  have b0 : Below w.heap.size w (w.alloc (.cells (cas key vn vb) 26)) := (Below.refl _ _).alloc (Nat.le_refl _) _
  have r0 : Row (w.alloc (.cells (cas key vn vb) 26)) w.heap.size 26 (cas key vn vb) := Row.new _ _ _
  have hz0 : (w.alloc (.cells (cas key vn vb) 26)).heap.size = w.heap.size + 1 := by simp
  have t0 := ht.below b0 hlt
  have up : ∀ {W : World} {v : Value} {l : List UInt8}, Below w.heap.size w W → Bts (· < w.heap.size) w v l → Bts (· < W.heap.size) W v l := fun hW h => h.keep fun b hb => ⟨Nat.lt_of_lt_of_le hb hW.size, hW.block b hb⟩
  have hO := seal_un key hkey vn vb vp ln lb lp mn mb (w.alloc (.cells (cas key vn vb) 26)) t0 (up b0 hn) (up b0 hb) (up b0 hp)
  have hR := fun W (hW : Below w.heap.size w W) => refSeal_un key hkey vn vb vp ln lb lp mn mb W (up hW hn) (up hW hb) (up hW hp)
  generalize Gf.fault ln.length lb.length (lp.length : Int) = E at *
  generalize Gf.slL key ln lb lp = L at *
  have hnc := hn
  have hbc := hb
  have hpc := hp
  obtain ⟨an, cn, rfl, _, _⟩ := hnc
  obtain ⟨ab, cb, rfl, _, _⟩ := hbc
  obtain ⟨ap, cp, rfl, _, _⟩ := hpc
  have g16 := cas_range r0
  have c16 := cas_16 hkey r0
  have c17 := cas_17 hkey r0
  have HO := Box'.mk hO
  have HR := Box'.mk hR
  have UP := Box'.mk @up
  clear up hO hR
  go_enter Tryd.func3, Tryd.ntmps3
  go_wp2_with (first
    | (refine wpList_load_midB rfl 23 (.tmp 10) rfl _ _ rfl _ g16 _ Tryd.underlying23 rfl 16 Tryd.info23 hkey ?_)
    | fail)
  refine HO.out.mono ?_
  clear HO
  rintro e w1 ⟨u1, rfl, hB1, hb1⟩
  have b1 : Below w.heap.size w w1 := b0.trans (hb1.mono (by omega))
  have r1 : Row w1 w.heap.size 26 (cas key (.slice an ln.length cn) (.slice ab lb.length cb)) := r0.below hb1 (by omega)
  clear g16 c16 c17 r0 t0 hb1 b0 hz0
  have g16 := cas_range r1
  have c16 := cas_16 hkey r1
  have c17 := cas_17 hkey r1
  go_wp2_with (first
    | (refine wpList_load_midB rfl 23 (.tmp 21) rfl _ _ rfl _ g16 _ Tryd.underlying23 rfl 16 Tryd.info23 hkey ?_)
    | fail)
  refine (HR.out _ b1).mono ?_
  rintro e W ⟨u2, rfl, hB2, hb2⟩
  have bW : Below w.heap.size w W := b1.trans (hb2.mono b1.size)
  have rW : Row W w.heap.size 26 (cas key (.slice an ln.length cn) (.slice ab lb.length cb)) := r1.below hb2 r1.lt
  have hB1' : Bts (· < W.heap.size) W u1 L := hB1.keep fun b hbb => ⟨Nat.lt_of_lt_of_le hbb hb2.size, hb2.block b hbb⟩
  have tW := ht.below bW hlt
  have hbW := UP.out bW hb
  have hpW := UP.out bW hp
  clear g16 c16 c17 r1 hb2 hB1 HR b1 UP
  go_upto_region 3 with (fail)
  have on : ∀ {w3 : World} {v : Value} {l : List UInt8}, Below W.heap.size W w3 → Bts (· < W.heap.size) W v l → Bts (· < w3.heap.size) w3 v l := fun hW h => h.keep fun b hb => ⟨Nat.lt_of_lt_of_le hb hW.size, hW.block b hb⟩
  have hS1 : ∀ w3, Below W.heap.size W w3 → Calls Tryd.prog 10 #[u1, u2] w3 fun e w' => e = .returned (.bool true) ∧ Below w3.heap.size w3 w' := fun w3 h3 => by
    have := refSame_any _ _ _ _ L L w3 (on h3 hB1') (on h3 hB2)
    rw [decide_eq_true rfl] at this
    exact this.mono fun e w' ⟨h1, h2⟩ => ⟨h1, by rw [h2]; exact Below.refl _ _⟩
  have hDa : ∀ w3, Below W.heap.size W w3 → Calls Tryd.prog 11 #[.agg (ag key)] w3 fun e w' => e = .returned (.agg (ag (Gf.dblk key))) ∧ Below w3.heap.size w3 w' := fun w3 _ => ocbDouble_any key hkey w3
  have hDb : ∀ w3, Below W.heap.size W w3 → Calls Tryd.prog 12 #[.agg (ag key)] w3 fun e w' => e = .returned (.agg (ag (Gf.dblk key))) ∧ Below w3.heap.size w3 w' := fun w3 _ => refDouble_any key hkey w3
  have lDK := Gf.dblk_len key
  generalize Gf.dblk key = DK at *
  have hSa : ∀ w3, Below W.heap.size W w3 → Calls Tryd.prog 13 #[.slice ap lp.length cp, .slice ab lb.length cb] w3 fun e w' => e = .returned (.bool (decide (lp = lb))) ∧ Below w3.heap.size w3 w' := fun w3 h3 => same_any _ _ _ _ lp lb w3 (on h3 hpW) (on h3 hbW) mp mb
  have hSb : ∀ w3, Below W.heap.size W w3 → Calls Tryd.prog 10 #[.slice ap lp.length cp, .slice ab lb.length cb] w3 fun e w' => e = .returned (.bool (decide (lp = lb))) ∧ Below w3.heap.size w3 w' := fun w3 h3 =>
    (refSame_any _ _ _ _ lp lb w3 (on h3 hpW) (on h3 hbW)).mono fun e w' ⟨h1, h2⟩ => ⟨h1, by rw [h2]; exact Below.refl _ _⟩
  generalize decide (lp = lb) = dd at *
  have hAn : ∀ w3, Below W.heap.size W w3 → Calls Tryd.prog 14 #[] w3 fun e w' => e = .returned (.bool true) ∧ Below w3.heap.size w3 w' := fun w3 h3 => anchored_any w3 (tW.below h3 (by have := bW.size; omega))
  have kr : ∀ w3, Below W.heap.size W w3 → w3.rangeAt w.heap.size 0 (key.map B) := fun w3 h3 => cas_range (rW.below h3 rW.lt)
  have kb : ∀ w3, Below W.heap.size W w3 → w3.cell? ⟨w.heap.size, 17, none⟩ = some (.slice ab lb.length cb) := fun w3 h3 => cas_17 hkey (rW.below h3 rW.lt)
  generalize hN0 : w.heap.size = N at *
  generalize lp.length = np at *
  generalize lb.length = nb at *
  have KR := Box'.mk kr
  have KB := Box'.mk kb
  clear kr kb on hB1' hB2 hbW hpW tW rW hn hb hp
  refine wp_region_growt 31 62 [3, 8, 17, 28] rfl (by kernel_rfl) (by kernel_rfl) (by kernel_rfl) (fun a b => Below a.heap.size a b) (fun w3 => Below W.heap.size W w3) (fun k w1 v => match k with
    | 0 => v = u1
    | 1 => v = u2
    | 2 => v = .bool true
    | 3 => v = .bool true
    | 4 => v = .int .i64 E
    | 5 => v = .int .i64 E
    | 6 => v = .bool true
    | 7 => v = .bool true
    | 8 => v = .bool true
    | 9 => v = .pointer (some ⟨N, 0, none⟩)
    | 10 => v = .agg (ag key)
    | 11 => v = .agg (ag DK)
    | 12 => v = .pointer (some ⟨N, 0, none⟩)
    | 13 => v = .agg (ag key)
    | 14 => v = .agg (ag DK)
    | 15 => v = .bool true
    | 16 => v = .bool true
    | 17 => v = .bool true
    | 18 => v = .slice ap np cp
    | 19 => v = .pointer (some ⟨N, 17, none⟩)
    | 20 => v = .slice ab nb cb
    | 21 => v = .bool dd
    | 22 => v = .slice ap np cp
    | 23 => v = .pointer (some ⟨N, 17, none⟩)
    | 24 => v = .slice ab nb cb
    | 25 => v = .bool dd
    | 26 => v = .bool true
    | 27 => v = .bool true
    | 28 => v = .bool true
    | 29 => v = .bool true
    | 30 => v = .bool true
    | _ => True) ?_ ?_ ?_ ?_ ?_ ?_
  · intro j hj w3 v _ hv
    simp only [List.mem_cons, List.not_mem_nil, or_false] at hj
    rcases hj with rfl | rfl | rfl | rfl <;> exact hv
  · intro w1 w2 hb h
    exact h.trans (hb.mono h.size)
  · intro k v w1 w2 hC1 hb h
    match k, h with
    | 0, h => exact h
    | 1, h => exact h
    | 2, h => exact h
    | 3, h => exact h
    | 4, h => exact h
    | 5, h => exact h
    | 6, h => exact h
    | 7, h => exact h
    | 8, h => exact h
    | 9, h => exact h
    | 10, h => exact h
    | 11, h => exact h
    | 12, h => exact h
    | 13, h => exact h
    | 14, h => exact h
    | 15, h => exact h
    | 16, h => exact h
    | 17, h => exact h
    | 18, h => exact h
    | 19, h => exact h
    | 20, h => exact h
    | 21, h => exact h
    | 22, h => exact h
    | 23, h => exact h
    | 24, h => exact h
    | 25, h => exact h
    | 26, h => exact h
    | 27, h => exact h
    | 28, h => exact h
    | 29, h => exact h
    | 30, h => exact h
    | k + 31, h => trivial
  · exact (Below.refl _ _).drew
  · refine ⟨?_, ?_, ?_, ?_, ?_, ?_, ?_, ?_, ?_, ?_, ?_, ?_, ?_, ?_, ?_, ?_, ?_, ?_, ?_, ?_, ?_, ?_, ?_, ?_, ?_, ?_, ?_, ?_, ?_, ?_, ?_, trivial⟩
    · intro f w1 hC hd KK hK
      simp only [List.take_succ_cons, List.take_zero, setAll, List.setIfInBounds_toArray, List.set_cons_succ, List.set_cons_zero, Nat.zero_add, Nat.reduceAdd] at hK ⊢
      refine wp_unguard ?_
      refine wp_of_quiet rfl ?_
      go_big_quiet_step (fail)
      exact wpQuiet_nil (hK _ _ rfl (Below.refl _ _))
    · intro f w1 hC hd KK hK
      simp only [List.take_succ_cons, List.take_zero, setAll, List.setIfInBounds_toArray, List.set_cons_succ, List.set_cons_zero, Nat.zero_add, Nat.reduceAdd] at hK ⊢
      refine wp_unguard ?_
      refine wp_of_quiet rfl ?_
      go_big_quiet_step (fail)
      exact wpQuiet_nil (hK _ _ rfl (Below.refl _ _))
    · intro f w1 hC hd KK hK
      have g0 : f 0 = _ := hd 0 rfl
      have g1 : f 1 = _ := hd 1 rfl
      simp only [List.take_succ_cons, List.take_zero, setAll, List.setIfInBounds_toArray, List.set_cons_succ, List.set_cons_zero, Nat.zero_add, Nat.reduceAdd, g0, g1] at hK ⊢
      exact wp_call 10 #[u1, u2] (by simp [go_sem]) _ _ (hS1 _ hC) (fun w' hb => hK _ _ rfl hb)
    · intro f w1 hC hd KK hK
      have g2 : f 2 = _ := hd 2 rfl
      simp only [List.take_succ_cons, List.take_zero, setAll, List.setIfInBounds_toArray, List.set_cons_succ, List.set_cons_zero, Nat.zero_add, Nat.reduceAdd, g2] at hK ⊢
      refine wp_unguard ?_
      refine wp_of_quiet rfl ?_
      go_big_quiet_step (fail)
      exact wpQuiet_nil (hK _ _ rfl (Below.refl _ _))
    · intro f w1 hC hd KK hK
      simp only [List.take_succ_cons, List.take_zero, setAll, List.setIfInBounds_toArray, List.set_cons_succ, List.set_cons_zero, Nat.zero_add, Nat.reduceAdd] at hK ⊢
      refine wp_unguard ?_
      refine wp_of_quiet rfl ?_
      go_big_quiet_step (fail)
      exact wpQuiet_nil (hK _ _ rfl (Below.refl _ _))
    · intro f w1 hC hd KK hK
      simp only [List.take_succ_cons, List.take_zero, setAll, List.setIfInBounds_toArray, List.set_cons_succ, List.set_cons_zero, Nat.zero_add, Nat.reduceAdd] at hK ⊢
      refine wp_unguard ?_
      refine wp_of_quiet rfl ?_
      go_big_quiet_step (fail)
      exact wpQuiet_nil (hK _ _ rfl (Below.refl _ _))
    · intro f w1 hC hd KK hK
      have g4 : f 4 = _ := hd 4 rfl
      have g5 : f 5 = _ := hd 5 rfl
      simp only [List.take_succ_cons, List.take_zero, setAll, List.setIfInBounds_toArray, List.set_cons_succ, List.set_cons_zero, Nat.zero_add, Nat.reduceAdd, g4, g5] at hK ⊢
      refine wp_unguard ?_
      refine wp_of_quiet rfl ?_
      go_big_quiet_step (fail)
      exact wpQuiet_nil (hK _ _ rfl (Below.refl _ _))
    · intro f w1 hC hd KK hK
      have g3 : f 3 = _ := hd 3 rfl
      have g6 : f 6 = _ := hd 6 rfl
      simp only [List.take_succ_cons, List.take_zero, setAll, List.setIfInBounds_toArray, List.set_cons_succ, List.set_cons_zero, Nat.zero_add, Nat.reduceAdd, g3, g6] at hK ⊢
      exact wp_run _ (run_pick_op _ _ _ rfl true rfl _ rfl _) (hK _ _ rfl (Below.refl _ _))
    · intro f w1 hC hd KK hK
      have g7 : f 7 = _ := hd 7 rfl
      simp only [List.take_succ_cons, List.take_zero, setAll, List.setIfInBounds_toArray, List.set_cons_succ, List.set_cons_zero, Nat.zero_add, Nat.reduceAdd, g7] at hK ⊢
      refine wp_unguard ?_
      refine wp_of_quiet rfl ?_
      go_big_quiet_step (fail)
      exact wpQuiet_nil (hK _ _ rfl (Below.refl _ _))
    · intro f w1 hC hd KK hK
      simp only [List.take_succ_cons, List.take_zero, setAll, List.setIfInBounds_toArray, List.set_cons_succ, List.set_cons_zero, Nat.zero_add, Nat.reduceAdd] at hK ⊢
      refine wp_unguard ?_
      refine wp_of_quiet rfl ?_
      go_big_quiet_step (fail)
      exact wpQuiet_nil (hK _ _ rfl (Below.refl _ _))
    · intro f w1 hC hd KK hK
      have g9 : f 9 = _ := hd 9 rfl
      simp only [List.take_succ_cons, List.take_zero, setAll, List.setIfInBounds_toArray, List.set_cons_succ, List.set_cons_zero, Nat.zero_add, Nat.reduceAdd, g9] at hK ⊢
      refine _root_.Go.wp_load_mid 23 _ rfl _ _ rfl (key.map B) _ (KR.out _ hC) Tryd.underlying23 rfl (by rw [Tryd.info23, List.length_map, hkey]) ?_
      exact hK _ _ rfl (Below.refl _ _)
    · intro f w1 hC hd KK hK
      have g10 : f 10 = _ := hd 10 rfl
      simp only [List.take_succ_cons, List.take_zero, setAll, List.setIfInBounds_toArray, List.set_cons_succ, List.set_cons_zero, Nat.zero_add, Nat.reduceAdd, g10] at hK ⊢
      exact wp_call 11 #[.agg (ag key)] (by simp [go_sem]) _ _ (hDa _ hC) (fun w' hb => hK _ _ rfl hb)
    · intro f w1 hC hd KK hK
      simp only [List.take_succ_cons, List.take_zero, setAll, List.setIfInBounds_toArray, List.set_cons_succ, List.set_cons_zero, Nat.zero_add, Nat.reduceAdd] at hK ⊢
      refine wp_unguard ?_
      refine wp_of_quiet rfl ?_
      go_big_quiet_step (fail)
      exact wpQuiet_nil (hK _ _ rfl (Below.refl _ _))
    · intro f w1 hC hd KK hK
      have g12 : f 12 = _ := hd 12 rfl
      simp only [List.take_succ_cons, List.take_zero, setAll, List.setIfInBounds_toArray, List.set_cons_succ, List.set_cons_zero, Nat.zero_add, Nat.reduceAdd, g12] at hK ⊢
      refine _root_.Go.wp_load_mid 23 _ rfl _ _ rfl (key.map B) _ (KR.out _ hC) Tryd.underlying23 rfl (by rw [Tryd.info23, List.length_map, hkey]) ?_
      exact hK _ _ rfl (Below.refl _ _)
    · intro f w1 hC hd KK hK
      have g13 : f 13 = _ := hd 13 rfl
      simp only [List.take_succ_cons, List.take_zero, setAll, List.setIfInBounds_toArray, List.set_cons_succ, List.set_cons_zero, Nat.zero_add, Nat.reduceAdd, g13] at hK ⊢
      exact wp_call 12 #[.agg (ag key)] (by simp [go_sem]) _ _ (hDb _ hC) (fun w' hb => hK _ _ rfl hb)
    · intro f w1 hC hd KK hK
      have g11 : f 11 = _ := hd 11 rfl
      have g14 : f 14 = _ := hd 14 rfl
      simp only [List.take_succ_cons, List.take_zero, setAll, List.setIfInBounds_toArray, List.set_cons_succ, List.set_cons_zero, Nat.zero_add, Nat.reduceAdd, g11, g14] at hK ⊢
      exact wp_run _ (run_eql_op 23 5 _ 16 .u8 _ _ rfl (by kernel_rfl) Tryd.underlying23 Tryd.underlying5 (by kernel_rfl) DK DK rfl rfl lDK lDK true (decide_eq_true rfl) _) (hK _ _ rfl (Below.refl _ _))
    · intro f w1 hC hd KK hK
      have g8 : f 8 = _ := hd 8 rfl
      have g15 : f 15 = _ := hd 15 rfl
      simp only [List.take_succ_cons, List.take_zero, setAll, List.setIfInBounds_toArray, List.set_cons_succ, List.set_cons_zero, Nat.zero_add, Nat.reduceAdd, g8, g15] at hK ⊢
      exact wp_run _ (run_pick_op _ _ _ rfl true rfl _ rfl _) (hK _ _ rfl (Below.refl _ _))
    · intro f w1 hC hd KK hK
      have g16 : f 16 = _ := hd 16 rfl
      simp only [List.take_succ_cons, List.take_zero, setAll, List.setIfInBounds_toArray, List.set_cons_succ, List.set_cons_zero, Nat.zero_add, Nat.reduceAdd, g16] at hK ⊢
      refine wp_unguard ?_
      refine wp_of_quiet rfl ?_
      go_big_quiet_step (fail)
      exact wpQuiet_nil (hK _ _ rfl (Below.refl _ _))
    · intro f w1 hC hd KK hK
      simp only [List.take_succ_cons, List.take_zero, setAll, List.setIfInBounds_toArray, List.set_cons_succ, List.set_cons_zero, Nat.zero_add, Nat.reduceAdd] at hK ⊢
      refine wp_unguard ?_
      refine wp_of_quiet rfl ?_
      go_big_quiet_step (fail)
      exact wpQuiet_nil (hK _ _ rfl (Below.refl _ _))
    · intro f w1 hC hd KK hK
      simp only [List.take_succ_cons, List.take_zero, setAll, List.setIfInBounds_toArray, List.set_cons_succ, List.set_cons_zero, Nat.zero_add, Nat.reduceAdd] at hK ⊢
      refine wp_unguard ?_
      refine wp_of_quiet rfl ?_
      go_big_quiet_step (fail)
      exact wpQuiet_nil (hK _ _ rfl (Below.refl _ _))
    · intro f w1 hC hd KK hK
      have hcb := KB.out _ hC
      have g19 : f 19 = _ := hd 19 rfl
      simp only [List.take_succ_cons, List.take_zero, setAll, List.setIfInBounds_toArray, List.set_cons_succ, List.set_cons_zero, Nat.zero_add, Nat.reduceAdd, g19] at hK ⊢
      refine wp_unguard ?_
      refine wp_of_quiet rfl ?_
      go_big_quiet_step (fail)
      exact wpQuiet_nil (hK _ _ rfl (Below.refl _ _))
    · intro f w1 hC hd KK hK
      have g18 : f 18 = _ := hd 18 rfl
      have g20 : f 20 = _ := hd 20 rfl
      simp only [List.take_succ_cons, List.take_zero, setAll, List.setIfInBounds_toArray, List.set_cons_succ, List.set_cons_zero, Nat.zero_add, Nat.reduceAdd, g18, g20] at hK ⊢
      exact wp_call 13 #[.slice ap np cp, .slice ab nb cb] (by simp [go_sem]) _ _ (hSa _ hC) (fun w' hb => hK _ _ rfl hb)
    · intro f w1 hC hd KK hK
      simp only [List.take_succ_cons, List.take_zero, setAll, List.setIfInBounds_toArray, List.set_cons_succ, List.set_cons_zero, Nat.zero_add, Nat.reduceAdd] at hK ⊢
      refine wp_unguard ?_
      refine wp_of_quiet rfl ?_
      go_big_quiet_step (fail)
      exact wpQuiet_nil (hK _ _ rfl (Below.refl _ _))
    · intro f w1 hC hd KK hK
      simp only [List.take_succ_cons, List.take_zero, setAll, List.setIfInBounds_toArray, List.set_cons_succ, List.set_cons_zero, Nat.zero_add, Nat.reduceAdd] at hK ⊢
      refine wp_unguard ?_
      refine wp_of_quiet rfl ?_
      go_big_quiet_step (fail)
      exact wpQuiet_nil (hK _ _ rfl (Below.refl _ _))
    · intro f w1 hC hd KK hK
      have hcb := KB.out _ hC
      have g23 : f 23 = _ := hd 23 rfl
      simp only [List.take_succ_cons, List.take_zero, setAll, List.setIfInBounds_toArray, List.set_cons_succ, List.set_cons_zero, Nat.zero_add, Nat.reduceAdd, g23] at hK ⊢
      refine wp_unguard ?_
      refine wp_of_quiet rfl ?_
      go_big_quiet_step (fail)
      exact wpQuiet_nil (hK _ _ rfl (Below.refl _ _))
    · intro f w1 hC hd KK hK
      have g22 : f 22 = _ := hd 22 rfl
      have g24 : f 24 = _ := hd 24 rfl
      simp only [List.take_succ_cons, List.take_zero, setAll, List.setIfInBounds_toArray, List.set_cons_succ, List.set_cons_zero, Nat.zero_add, Nat.reduceAdd, g22, g24] at hK ⊢
      exact wp_call 10 #[.slice ap np cp, .slice ab nb cb] (by simp [go_sem]) _ _ (hSb _ hC) (fun w' hb => hK _ _ rfl hb)
    · intro f w1 hC hd KK hK
      have g21 : f 21 = _ := hd 21 rfl
      have g25 : f 25 = _ := hd 25 rfl
      simp only [List.take_succ_cons, List.take_zero, setAll, List.setIfInBounds_toArray, List.set_cons_succ, List.set_cons_zero, Nat.zero_add, Nat.reduceAdd, g21, g25] at hK ⊢
      refine wp_unguard ?_
      refine wp_of_quiet rfl ?_
      go_big_quiet_step (fail)
      exact wpQuiet_nil (hK _ _ rfl (Below.refl _ _))
    · intro f w1 hC hd KK hK
      have g17 : f 17 = _ := hd 17 rfl
      have g26 : f 26 = _ := hd 26 rfl
      simp only [List.take_succ_cons, List.take_zero, setAll, List.setIfInBounds_toArray, List.set_cons_succ, List.set_cons_zero, Nat.zero_add, Nat.reduceAdd, g17, g26] at hK ⊢
      exact wp_run _ (run_pick_op _ _ _ rfl true rfl _ rfl _) (hK _ _ rfl (Below.refl _ _))
    · intro f w1 hC hd KK hK
      have g27 : f 27 = _ := hd 27 rfl
      simp only [List.take_succ_cons, List.take_zero, setAll, List.setIfInBounds_toArray, List.set_cons_succ, List.set_cons_zero, Nat.zero_add, Nat.reduceAdd, g27] at hK ⊢
      refine wp_unguard ?_
      refine wp_of_quiet rfl ?_
      go_big_quiet_step (fail)
      exact wpQuiet_nil (hK _ _ rfl (Below.refl _ _))
    · intro f w1 hC hd KK hK
      simp only [List.take_succ_cons, List.take_zero, setAll, List.setIfInBounds_toArray, List.set_cons_succ, List.set_cons_zero, Nat.zero_add, Nat.reduceAdd] at hK ⊢
      exact wp_call 14 #[] (by simp [go_sem]) _ _ (hAn _ hC) (fun w' hb => hK _ _ rfl hb)
    · intro f w1 hC hd KK hK
      have g28 : f 28 = _ := hd 28 rfl
      have g29 : f 29 = _ := hd 29 rfl
      simp only [List.take_succ_cons, List.take_zero, setAll, List.setIfInBounds_toArray, List.set_cons_succ, List.set_cons_zero, Nat.zero_add, Nat.reduceAdd, g28, g29] at hK ⊢
      exact wp_run _ (run_pick_op _ _ _ rfl true rfl _ rfl _) (hK _ _ rfl (Below.refl _ _))
  · intro f w1 hC hv
    have g0 : f 0 = _ := hv 0 (by decide)
    have g1 : f 1 = _ := hv 1 (by decide)
    have g2 : f 2 = _ := hv 2 (by decide)
    have g3 : f 3 = _ := hv 3 (by decide)
    have g4 : f 4 = _ := hv 4 (by decide)
    have g5 : f 5 = _ := hv 5 (by decide)
    have g6 : f 6 = _ := hv 6 (by decide)
    have g7 : f 7 = _ := hv 7 (by decide)
    have g8 : f 8 = _ := hv 8 (by decide)
    have g9 : f 9 = _ := hv 9 (by decide)
    have g10 : f 10 = _ := hv 10 (by decide)
    have g11 : f 11 = _ := hv 11 (by decide)
    have g12 : f 12 = _ := hv 12 (by decide)
    have g13 : f 13 = _ := hv 13 (by decide)
    have g14 : f 14 = _ := hv 14 (by decide)
    have g15 : f 15 = _ := hv 15 (by decide)
    have g16 : f 16 = _ := hv 16 (by decide)
    have g17 : f 17 = _ := hv 17 (by decide)
    have g18 : f 18 = _ := hv 18 (by decide)
    have g19 : f 19 = _ := hv 19 (by decide)
    have g20 : f 20 = _ := hv 20 (by decide)
    have g21 : f 21 = _ := hv 21 (by decide)
    have g22 : f 22 = _ := hv 22 (by decide)
    have g23 : f 23 = _ := hv 23 (by decide)
    have g24 : f 24 = _ := hv 24 (by decide)
    have g25 : f 25 = _ := hv 25 (by decide)
    have g26 : f 26 = _ := hv 26 (by decide)
    have g27 : f 27 = _ := hv 27 (by decide)
    have g28 : f 28 = _ := hv 28 (by decide)
    have g29 : f 29 = _ := hv 29 (by decide)
    have g30 : f 30 = _ := hv 30 (by decide)
    simp only [List.take_succ_cons, List.take_zero, List.drop_succ_cons, List.drop_zero, setAll, List.setIfInBounds_toArray, List.set_cons_succ, List.set_cons_zero, Nat.zero_add, Nat.reduceAdd, g0, g1, g2, g3, g4, g5, g6, g7, g8, g9, g10, g11, g12, g13, g14, g15, g16, g17, g18, g19, g20, g21, g22, g23, g24, g25, g26, g27, g28, g29, g30]
    clear g0 g1 g2 g3 g4 g5 g6 g7 g8 g9 g10 g11 g12 g13 g14 g15 g16 g17 g18 g19 g20 g21 g22 g23 g24 g25 g26 g27 g28 g29 g30 hv
    have hbw := bW.trans (hC.mono (by have := bW.size; omega))
    go_wp2_with fail
    go_ret
    exact ⟨rfl, by first | exact hbw | (rw [hN0]; exact hbw)⟩
end Go.Proofs.YtmolhljgmaoflaaDoor
