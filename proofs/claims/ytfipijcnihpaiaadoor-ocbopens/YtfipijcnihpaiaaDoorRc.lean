/- The walks of the reference's padded and block. -/
import Derived.Test.YtfipijcnihpaiaaDoorRb
import Derived.Test.YtfipijcnihpaiaaDoorOi
namespace Go.Proofs.YtfipijcnihpaiaaDoor
open Go.RowKit Go.BigFrame

set_option maxRecDepth 100000 in
set_option maxHeartbeats 1000000 in
theorem refPadded_any (S : Nat → Prop) (v : Value) (l : List UInt8) (h0 : 0 < l.length) (h16 : l.length < 16) (w : World) (hl : Bts S w v l) :
    Calls Tryd.prog 32 #[v] w fun e w' => e = .returned (.agg (ag (Gf.fup l))) ∧ Below w.heap.size w w' := by
  obtain ⟨a, c, rfl, hc, h3⟩ := hl
  rcases h3 with rfl | ⟨b, o, rfl, hS, hr⟩
  · simp at h0
  have hlt := range_lt hr h0
  have lF := Gf.fup_len l h16
  have z16 : (Gf.zeros 16).length = 16 := rfl
  have lS : (splice (Gf.zeros 16) 0 l).length = 16 := splice_len _ _ _ (by omega)
  have hF : (splice (Gf.zeros 16) 0 l).set l.length 128 = Gf.fup l := rfl
  generalize Gf.fup l = F at *
  have HF := Box'.mk hF
  clear hF
  obtain ⟨n, hn⟩ : ∃ n, l.length = n := ⟨_, rfl⟩
  rw [hn] at HF h0 h16 hc
  rw [hn]
  go_enter Tryd.func32, Tryd.ntmps32
  have hw0 : Below w.heap.size w ((w.alloc (.cells (ag (Gf.zeros 16)) 23)).alloc (.cells (ag (Gf.zeros 16)) 23)) := ((Below.refl _ _).alloc (Nat.le_refl _) _).alloc (by simp) _
  have hr' := range_below hr hw0 hlt
  have r0 : Room ((w.alloc (.cells (ag (Gf.zeros 16)) 23)).alloc (.cells (ag (Gf.zeros 16)) 23)) w.heap.size 23 16 := (Room.new _ _ _ _ rfl).alloc _
  have r1 : Row ((w.alloc (.cells (ag (Gf.zeros 16)) 23)).alloc (.cells (ag (Gf.zeros 16)) 23)) (w.heap.size + 1) 23 (ag (Gf.zeros 16)) := Row.made _ _ _ _ _ rfl (by simp)
  have hcp : l.length = Nat.min n 16 := by rw [hn]; exact (Nat.min_eq_left (by omega)).symm
  go_wp2_with (first
    | (refine wpList_copy_range rfl (.tmp 4) (.tmp 5) 24 24 rfl 5 Tryd.underlying24 (by kernel_rfl) _ 0 16 16 b o n c rfl rfl (Gf.zeros 16) l 23 r1 hr' hcp (by omega) ?_
       rw [hn]
       have r2 := r1.setRow (ag (splice (Gf.zeros 16) 0 l))
       have r4 := r0.setRowOther (w.heap.size + 1) (ag (splice (Gf.zeros 16) 0 l)) (by omega)
       have hbl := below_setRow hw0 (show w.heap.size ≤ w.heap.size + 1 by omega) (ag (splice (Gf.zeros 16) 0 l))
       clear r0 r1 hr' hw0 hcp
       generalize hW : World.setRow _ _ _ = W2
       have r2' : Row W2 (w.heap.size + 1) 23 (ag (splice (Gf.zeros 16) 0 l)) := by rw [← hW]; exact r2
       have r4' : Room W2 w.heap.size 23 16 := by rw [← hW]; exact r4
       have hbl' : Below w.heap.size w W2 := by rw [← hW]; exact hbl
       have c2 := r2'.byte (k := n) (by omega)
       have f2 := r2'.frozen n
       have r3 : Row (W2.setCell ⟨w.heap.size + 1, n, none⟩ (.int .u8 128)) (w.heap.size + 1) 23 (ag F) := by have := r2'.setByte n 128; rw [HF.out] at this; exact this
       have r5 := r4'.setOther ⟨w.heap.size + 1, n, none⟩ (.int .u8 128) (by simp)
       have hbl2 := hbl'.setCell (p := ⟨w.heap.size + 1, n, none⟩) (by simp) (.int .u8 128)
       clear hW r2 r4 hbl r2' r4' hbl')
    | (refine wpList_load_row rfl 23 _ rfl _ rfl _ _ r3 _ Tryd.underlying23 rfl 16 Tryd.info23 (by rw [ag_size]; exact lF) ?_)
    | (refine wpList_store_row rfl 23 (.tmp 2) (.tmp 10) rfl _ rfl _ rfl _ _ r5 Tryd.info23 (by rw [ag_size]; exact lF) (ag_one _) ?_)
    | fail)
  exact bodyPost_ret (results_row rfl _ _ rfl _ _ (r5.setRow _) _ Tryd.underlying23 rfl 16 Tryd.info23 (by rw [ag_size]; exact lF)) rfl ⟨rfl, below_setRow hbl2 (Nat.le_refl _) _⟩
set_option maxRecDepth 100000 in
set_option maxHeartbeats 1000000 in
theorem refBlock_any (S : Nat → Prop) (v : Value) (l : List UInt8) (h16 : l.length = 16) (w : World) (hl : Bts S w v l) :
    Calls Tryd.prog 28 #[v] w fun e w' => e = .returned (.agg (ag l)) ∧ Below w.heap.size w w' := by
  obtain ⟨a, c, rfl, hc, h3⟩ := hl
  rcases h3 with rfl | ⟨b, o, rfl, hS, hr⟩
  · simp at h16
  have hlt := range_lt hr (by omega)
  have z16 : (Gf.zeros 16).length = 16 := rfl
  have hS0 : splice (Gf.zeros 16) 0 l = l := by
    unfold splice
    rw [List.take_zero, List.nil_append, List.drop_of_length_le (by rw [z16]; omega), List.append_nil]
  have HS := Box'.mk hS0
  clear hS0
  rw [h16]
  rw [h16] at hc
  go_enter Tryd.func28, Tryd.ntmps28
  have hw0 : Below w.heap.size w ((w.alloc (.cells (ag (Gf.zeros 16)) 23)).alloc (.cells (ag (Gf.zeros 16)) 23)) := ((Below.refl _ _).alloc (Nat.le_refl _) _).alloc (by simp) _
  have hr' := range_below hr hw0 hlt
  have r0 : Room ((w.alloc (.cells (ag (Gf.zeros 16)) 23)).alloc (.cells (ag (Gf.zeros 16)) 23)) w.heap.size 23 16 := (Room.new _ _ _ _ rfl).alloc _
  have r1 : Row ((w.alloc (.cells (ag (Gf.zeros 16)) 23)).alloc (.cells (ag (Gf.zeros 16)) 23)) (w.heap.size + 1) 23 (ag (Gf.zeros 16)) := Row.made _ _ _ _ _ rfl (by simp)
  have hcp : l.length = Nat.min 16 16 := by rw [h16]; rfl
  go_wp2_with (first
    | (refine wpList_copy_range rfl (.tmp 4) (.tmp 5) 24 24 rfl 5 Tryd.underlying24 (by kernel_rfl) _ 0 16 16 b o 16 c rfl rfl (Gf.zeros 16) l 23 r1 hr' hcp (by omega) ?_
       rw [h16, HS.out]
       have r2 := r1.setRow (ag l)
       have r4 := r0.setRowOther (w.heap.size + 1) (ag l) (by omega)
       have hbl := below_setRow hw0 (show w.heap.size ≤ w.heap.size + 1 by omega) (ag l)
       clear r0 r1 hr' hw0 hcp
       generalize hW : World.setRow _ _ _ = W2
       have r3 : Row W2 (w.heap.size + 1) 23 (ag l) := by rw [← hW]; exact r2
       have r5 : Room W2 w.heap.size 23 16 := by rw [← hW]; exact r4
       have hbl2 : Below w.heap.size w W2 := by rw [← hW]; exact hbl
       clear hW r2 r4 hbl)
    | (refine wpList_load_row rfl 23 _ rfl _ rfl _ _ r3 _ Tryd.underlying23 rfl 16 Tryd.info23 (by rw [ag_size]; exact h16) ?_)
    | (refine wpList_store_row rfl 23 (.tmp 2) (.tmp 7) rfl _ rfl _ rfl _ _ r5 Tryd.info23 (by rw [ag_size]; exact h16) (ag_one _) ?_)
    | fail)
  exact bodyPost_ret (results_row rfl _ _ rfl _ _ (r5.setRow _) _ Tryd.underlying23 rfl 16 Tryd.info23 (by rw [ag_size]; exact h16)) rfl ⟨rfl, below_setRow hbl2 (Nat.le_refl _) _⟩
end Go.Proofs.YtfipijcnihpaiaaDoor
