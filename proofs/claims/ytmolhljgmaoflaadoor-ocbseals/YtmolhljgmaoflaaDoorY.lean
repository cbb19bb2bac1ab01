/- The walk of unmix of package aes. -/
import Derived.Test.YtmolhljgmaoflaaDoorX
namespace Go.Proofs.YtmolhljgmaoflaaDoor
open Go.RowKit Go.BigFrame

set_option maxHeartbeats 1000000 in
set_option maxRecDepth 100000 in
theorem unmix_any (b : List UInt8) (hb : b.length = 16) (w : World) :
    Calls Tryd.prog 54 #[.agg (ag b)] w fun e w' => e = .returned (.agg (ag (Gf.unmixL b))) ∧ Below w.heap.size w w' := by
  go_enter Tryd.func54, Tryd.ntmps54
  go_wp2
  go_loopw [3] (fun i wr => ∃ (m k : Nat) (l : List UInt8), m ≤ 16 ∧ Hid (m = 4 * k) ∧ Hid (l = Gf.preTo b k) ∧ l.length = 16 ∧ i = .int .i64 (m : Int) ∧ Row wr w.heap.size 23 (ag l) ∧ Room wr (w.heap.size + 1) 23 16 ∧ Below w.heap.size w wr) (fun i _ => 16 - (intOf i).toNat)
  case atStart =>
    refine ⟨0, 0, b, by omega, rfl, rfl, hb, rfl, ?_, ?_, ?_⟩
    · exact (Row.new _ _ _).alloc _
    · exact Room.made _ _ _ _ _ rfl (by simp)
    · exact ((Below.refl _ _).alloc (Nat.le_refl _) _).alloc (by simp) _
  case round =>
    obtain ⟨m, k, l, hm, hm4, hlk, hl, rfl, h1, h2, hbl⟩ := hrel
    by_cases hlt : m < 16
    · have hlt : m ≤ 12 := by have := hm4.out; omega
      have c0 := h1.byte (k := m) (by omega)
      have c1 := h1.byte (k := m + 1) (by omega)
      have c2 := h1.byte (k := m + 2) (by omega)
      have c3 := h1.byte (k := m + 3) (by omega)
      have f0 := h1.frozen m
      have f1 := h1.frozen (m + 1)
      have f2 := h1.frozen (m + 2)
      have f3 := h1.frozen (m + 3)
      have hE : Hid (Gf.preTo b (k + 1) = Gf.ucol l m (l.getD m 0) (l.getD (m + 1) 0) (l.getD (m + 2) 0) (l.getD (m + 3) 0)) := by
        have e1 := hlk.out
        have e2 := hm4.out
        show _ = _
        rw [e1, e2]; rfl
      generalize l.getD m 0 = x0 at *
      generalize l.getD (m + 1) 0 = x1 at *
      generalize l.getD (m + 2) 0 = x2 at *
      generalize l.getD (m + 3) 0 = x3 at *
      have hx : ∀ x y : UInt8, bits .xor .u8 (x.toNat : Int) (y.toNat : Int) = ((Gf.bx x y).toNat : Int) := xor_bx
      go_wp2
      go_quiet ((go_at_call 56; exact Calls.quiet_of_same (double_any _ _)))
      go_wp2
      go_quiet ((go_at_call 56; exact (double_any _ _).mono (fun _ _ h => ⟨h.1, _, h.2⟩)))
      go_wp2
      refine ⟨⟨m + 4, k + 1, Gf.preTo b (k + 1), by omega, ?_, rfl, ?_, by go_num, ?_, ?_, ?_⟩, by simp [intOf]; omega⟩
      · have := hm4.out; show _ = _; omega
      · rw [Gf.preTo_len]; exact hb
      · rw [hE.out]; exact ((((h1.drewN _).setByte m _).setByte (m + 1) _).setByte (m + 2) _).setByte (m + 3) _
      · exact ((((h2.drewN _).setOther _ _ (by simp)).setOther _ _ (by simp)).setOther _ _ (by simp)).setOther _ _ (by simp)
      · exact (((((Below.drewN hbl _).setCell (Nat.le_refl _) _).setCell (Nat.le_refl _) _).setCell (Nat.le_refl _) _).setCell (Nat.le_refl _) _)
    · have hk' : k = 4 := by have := hm4.out; omega
      subst hk'
      have hl' : l = Gf.preTo b 4 := hlk.out
      have HL : Hid (Gf.mixL l = Gf.unmixL b) := by show _ = _; rw [hl']; rfl
      clear hlk hl'
      go_wp2_with (first
        | (refine wpList_load_row rfl 23 _ rfl _ rfl _ _ h1 _ Tryd.underlying23 rfl 16 Tryd.info23 (by rw [ag_size, hl]) ?_)
        | fail)
      refine (mix_any l hl _).mono ?_
      rintro e w1 ⟨rfl, hb1⟩
      have hlm : (Gf.unmixL b).length = 16 := by rw [Gf.unmixL_len]; exact hb
      have h3 : Room w1 (w.heap.size + 1) 23 16 := h2.below hb1 (h2.elim fun _ h => h.1.lt)
      have hbl1 : Below w.heap.size w w1 := hbl.trans (hb1.mono (by have := h1.lt; omega))
      clear h1 h2 hbl hb1
      rw [HL.out]
      go_wp2_with (refine wpList_store_row rfl 23 _ _ rfl _ rfl _ rfl _ _ h3 Tryd.info23 (by rw [ag_size, hlm]) (ag_one _) ?_)
      exact bodyPost_ret (results_row rfl _ _ rfl _ _ (h3.setRow _) _ Tryd.underlying23 rfl 16 Tryd.info23 (by rw [ag_size, hlm])) rfl ⟨rfl, below_setRow hbl1 (by omega) _⟩

end Go.Proofs.YtmolhljgmaoflaaDoor
