/- The walks of mix and unmix of package aes. -/
import Derived.Test.YtmolhljgmaoflaaDoorC
import Derived.Test.YtmolhljgmaoflaaDoorA
import Derived.Test.YtmolhljgmaoflaaDoorG
import Derived.Deep.QuietTactic
import Derived.BigQuiet
namespace Go.Proofs.YtmolhljgmaoflaaDoor
open Go.RowKit Go.BigFrame


set_option maxHeartbeats 1000000 in
set_option maxRecDepth 100000 in
theorem mix_any (b : List UInt8) (hb : b.length = 16) (w : World) :
    Calls Tryd.prog 47 #[.agg (ag b)] w fun e w' => e = .returned (.agg (ag (Gf.mixL b))) ∧ Below w.heap.size w w' := by
  go_enter Tryd.func47, Tryd.ntmps47
  go_wp2
  go_loopw [3] (fun i wr => ∃ (m k : Nat) (l : List UInt8), m ≤ 16 ∧ Hid (m = 4 * k) ∧ Hid (l = Gf.mixTo b k) ∧ l.length = 16 ∧ i = .int .i64 (m : Int) ∧ Row wr w.heap.size 23 (ag l) ∧ Room wr (w.heap.size + 1) 23 16 ∧ Below w.heap.size w wr) (fun i _ => 16 - (intOf i).toNat)
  case atStart =>
    refine ⟨0, 0, b, by omega, rfl, rfl, hb, rfl, ?_, ?_, ?_⟩
    · exact (Row.new _ _ _).alloc _
    · exact Room.made _ _ _ _ _ rfl (by simp)
    · exact ((Below.refl _ _).alloc (Nat.le_refl _) _).alloc (by simp) _
  case round =>
    obtain ⟨m, k, l, hm, hm4, hlk, hl, rfl, h1, h2, hbl⟩ := hrel
    by_cases hlt : m < 16
    · have hlt : m ≤ 12 := by have := hm4.out; omega
      have c0 := h1.byte (k := m) (by omega)
      have c1 := h1.byte (k := m + 1) (by omega)
      have c2 := h1.byte (k := m + 2) (by omega)
      have c3 := h1.byte (k := m + 3) (by omega)
      have f0 := h1.frozen m
      have f1 := h1.frozen (m + 1)
      have f2 := h1.frozen (m + 2)
      have f3 := h1.frozen (m + 3)
      have hE : Hid (Gf.mixTo b (k + 1) = Gf.mcol l m (l.getD m 0) (l.getD (m + 1) 0) (l.getD (m + 2) 0) (l.getD (m + 3) 0)) := by
        have e1 := hlk.out
        have e2 := hm4.out
        show _ = _
        rw [e1, e2]; rfl
      generalize l.getD m 0 = x0 at *
      generalize l.getD (m + 1) 0 = x1 at *
      generalize l.getD (m + 2) 0 = x2 at *
      generalize l.getD (m + 3) 0 = x3 at *
      have hx : ∀ x y : UInt8, bits .xor .u8 (x.toNat : Int) (y.toNat : Int) = ((Gf.bx x y).toNat : Int) := xor_bx
      go_wp2
      go_quiet (fail)
      go_wp2
      refine wp_region_tail 15 (by kernel_rfl) (by kernel_rfl) ?_
      simp only [List.take_succ_cons, List.take_zero, List.drop_succ_cons, List.drop_zero]
      repeat (first | go_big_quiet_step (fail) | (go_big_quiet_want; go_big_quiet_op; refine ⟨_, double_any _ _, ?_⟩; go_big_quiet_on))
      refine wpQuiet_nil ?_
      go_wp2
      refine wp_region_tail 17 (by kernel_rfl) (by kernel_rfl) ?_
      simp only [List.take_succ_cons, List.take_zero, List.drop_succ_cons, List.drop_zero]
      repeat (first | go_big_quiet_step (fail) | (go_big_quiet_want; go_big_quiet_op; refine ⟨_, double_any _ _, ?_⟩; go_big_quiet_on))
      refine wpQuiet_nil ?_
      go_wp2
      refine wp_region_tail 17 (by kernel_rfl) (by kernel_rfl) ?_
      simp only [List.take_succ_cons, List.take_zero, List.drop_succ_cons, List.drop_zero]
      repeat (first | go_big_quiet_step (fail) | (go_big_quiet_want; go_big_quiet_op; refine ⟨_, double_any _ _, ?_⟩; go_big_quiet_on))
      refine wpQuiet_nil ?_
      go_wp2
      refine wp_region_tail 14 (by kernel_rfl) (by kernel_rfl) ?_
      simp only [List.take_succ_cons, List.take_zero, List.drop_succ_cons, List.drop_zero]
      repeat (first | go_big_quiet_step (fail) | (go_big_quiet_want; go_big_quiet_op; refine ⟨_, double_any _ _, ?_⟩; go_big_quiet_on))
      refine wpQuiet_nil ?_
      go_wp2
      refine ⟨⟨m + 4, k + 1, Gf.mixTo b (k + 1), by omega, ?_, rfl, ?_, by go_num, ?_, ?_, ?_⟩, by simp [intOf]; omega⟩
      · have := hm4.out; show _ = _; omega
      · rw [Gf.mixTo_len]; exact hb
      · rw [hE.out]; exact ((((h1.drewN (nq + 1)).setByte m _).setByte (m + 1) _).setByte (m + 2) _).setByte (m + 3) _
      · exact ((((h2.drewN (nq + 1)).setOther _ _ (by simp)).setOther _ _ (by simp)).setOther _ _ (by simp)).setOther _ _ (by simp)
      · exact (((((Below.drewN hbl (nq + 1)).setCell (Nat.le_refl _) _).setCell (Nat.le_refl _) _).setCell (Nat.le_refl _) _).setCell (Nat.le_refl _) _).drew.drew.drew
    · have hk' : k = 4 := by have := hm4.out; omega
      subst hk'
      have hl' : l = Gf.mixL b := hlk.out
      clear hlk
      subst hl'
      go_wp2_with (first
        | (refine wpList_load_row rfl 23 _ rfl _ rfl _ _ h1 _ Tryd.underlying23 rfl 16 Tryd.info23 (by rw [ag_size, hl]) ?_)
        | (refine wpList_store_row rfl 23 _ _ rfl _ rfl _ rfl _ _ h2 Tryd.info23 (by rw [ag_size, hl]) (ag_one _) ?_))
      exact bodyPost_ret (results_row rfl _ _ rfl _ _ (h2.setRow _) _ Tryd.underlying23 rfl 16 Tryd.info23 (by rw [ag_size, hl])) rfl ⟨rfl, below_setRow hbl (by omega) _⟩

end Go.Proofs.YtmolhljgmaoflaaDoor
