/- The walks of turnRows of package aes, at one place and at three. -/
import Derived.Test.YtmolhljgmaoflaaDoorC
namespace Go.Proofs.YtmolhljgmaoflaaDoor
open Go.RowKit

set_option maxHeartbeats 400000 in
theorem turn1_any (b : List UInt8) (hb : b.length = 16) (w : World) :
    Calls Tryd.prog 45 #[.agg (ag b), .int .i64 1] w fun e w' => e = .returned (.agg (ag (Gf.turn b 1))) ∧ Below w.heap.size w w' := by
  have hF : Gf.fill (Gf.zeros 16) (fun i => b.getD ((i + 4 * (i % 4) * 1) % 16) 0) 16 = Gf.turn b 1 := Gf.fill_full _ _ _ rfl
  have HF := show Hid _ from hF
  clear hF
  go_enter Tryd.func45, Tryd.ntmps45
  go_wp2
  go_loopw [8] (fun i wr => ∃ k : Nat, k ≤ 16 ∧ i = .int .i64 k ∧ Row wr w.heap.size 23 (ag b) ∧ Room wr (w.heap.size + 1) 23 16 ∧ Row wr (w.heap.size + 1 + 1) 23 (ag (Gf.fill (Gf.zeros 16) (fun i => b.getD ((i + 4 * (i % 4) * 1) % 16) 0) k)) ∧ Below w.heap.size w wr) (fun i _ => 16 - (intOf i).toNat)
  case atStart =>
    refine ⟨0, by omega, rfl, ?_, ?_, ?_, ?_⟩
    · exact ((Row.new _ _ _).alloc _).alloc _
    · simpa using (Room.new (w.alloc (.cells (ag b) 23)) 23 _ 16 rfl).alloc _
    · exact Row.made _ _ _ _ _ rfl (by simp)
    · exact (((Below.refl _ _).alloc (Nat.le_refl _) _).alloc (by simp) _).alloc (by simp; omega) _
  case round =>
    obtain ⟨k, hk, rfl, h1, h2, h3, hbl⟩ := hrel
    by_cases hlt : k < 16
    · have c3 := h3.byte (k := k) (by rw [Gf.fill_len]; exact hlt)
      have f3 := h3.frozen k
      obtain ⟨y, hy⟩ : ∃ y, b.getD ((k + 4 * (k % 4)) % 16) 0 = y := ⟨_, rfl⟩
      have c1 := cell_form (h1.byte (k := (k + 4 * (k % 4)) % 16) (by rw [hb]; omega)) hy
      have e : Gf.fill (Gf.zeros 16) (fun i => b.getD ((i + 4 * (i % 4) * 1) % 16) 0) (k + 1) = (Gf.fill (Gf.zeros 16) (fun i => b.getD ((i + 4 * (i % 4) * 1) % 16) 0) k).set k y := by rw [← hy]; simp only [Gf.fill, Nat.mul_one]
      have HE := show Hid _ from e
      clear hy e
      go_wp2
      go_roundw
      case rel =>
        refine ⟨k + 1, by omega, by go_num, ?_, ?_, ?_, ?_⟩
        · exact h1.setOther _ _ (by simp; omega)
        · exact h2.setOther _ _ (by simp)
        · rw [HE.out]; exact h3.setByte k _
        · exact hbl.setCell (by simp; omega) _
      case measure => simp [intOf]; omega
    · have hk' : k = 16 := by omega
      subst hk'
      rw [HF.out] at h3
      have hl := Gf.turn_len b 1
      go_wp2_with (first
        | (refine wpList_load_row rfl 23 _ rfl _ rfl _ _ h3 _ Tryd.underlying23 rfl 16 Tryd.info23 (by rw [ag_size, hl]) ?_)
        | (refine wpList_store_row rfl 23 _ _ rfl _ rfl _ rfl _ _ h2 Tryd.info23 (by rw [ag_size, hl]) (ag_one _) ?_))
      exact bodyPost_ret (results_row rfl _ _ rfl _ _ (h2.setRow _) _ Tryd.underlying23 rfl 16 Tryd.info23 (by rw [ag_size, hl])) rfl ⟨rfl, below_setRow hbl (by omega) _⟩
set_option maxHeartbeats 400000 in
theorem turn3_any (b : List UInt8) (hb : b.length = 16) (w : World) :
    Calls Tryd.prog 45 #[.agg (ag b), .int .i64 3] w fun e w' => e = .returned (.agg (ag (Gf.turn b 3))) ∧ Below w.heap.size w w' := by
  have hF : Gf.fill (Gf.zeros 16) (fun i => b.getD ((i + 4 * (i % 4) * 3) % 16) 0) 16 = Gf.turn b 3 := Gf.fill_full _ _ _ rfl
  have HF := show Hid _ from hF
  clear hF
  go_enter Tryd.func45, Tryd.ntmps45
  go_wp2
  go_loopw [8] (fun i wr => ∃ k : Nat, k ≤ 16 ∧ i = .int .i64 k ∧ Row wr w.heap.size 23 (ag b) ∧ Room wr (w.heap.size + 1) 23 16 ∧ Row wr (w.heap.size + 1 + 1) 23 (ag (Gf.fill (Gf.zeros 16) (fun i => b.getD ((i + 4 * (i % 4) * 3) % 16) 0) k)) ∧ Below w.heap.size w wr) (fun i _ => 16 - (intOf i).toNat)
  case atStart =>
    refine ⟨0, by omega, rfl, ?_, ?_, ?_, ?_⟩
    · exact ((Row.new _ _ _).alloc _).alloc _
    · simpa using (Room.new (w.alloc (.cells (ag b) 23)) 23 _ 16 rfl).alloc _
    · exact Row.made _ _ _ _ _ rfl (by simp)
    · exact (((Below.refl _ _).alloc (Nat.le_refl _) _).alloc (by simp) _).alloc (by simp; omega) _
  case round =>
    obtain ⟨k, hk, rfl, h1, h2, h3, hbl⟩ := hrel
    by_cases hlt : k < 16
    · have c3 := h3.byte (k := k) (by rw [Gf.fill_len]; exact hlt)
      have f3 := h3.frozen k
      obtain ⟨y, hy⟩ : ∃ y, b.getD ((k + 4 * (k % 4) * 3) % 16) 0 = y := ⟨_, rfl⟩
      have c1 := cell_form (h1.byte (k := (k + 4 * (k % 4) * 3) % 16) (by rw [hb]; omega)) hy
      have e : Gf.fill (Gf.zeros 16) (fun i => b.getD ((i + 4 * (i % 4) * 3) % 16) 0) (k + 1) = (Gf.fill (Gf.zeros 16) (fun i => b.getD ((i + 4 * (i % 4) * 3) % 16) 0) k).set k y := by rw [← hy]; simp only [Gf.fill]
      have HE := show Hid _ from e
      clear hy e
      go_wp2
      go_roundw
      case rel =>
        refine ⟨k + 1, by omega, by go_num, ?_, ?_, ?_, ?_⟩
        · exact h1.setOther _ _ (by simp; omega)
        · exact h2.setOther _ _ (by simp)
        · rw [HE.out]; exact h3.setByte k _
        · exact hbl.setCell (by simp; omega) _
      case measure => simp [intOf]; omega
    · have hk' : k = 16 := by omega
      subst hk'
      rw [HF.out] at h3
      have hl := Gf.turn_len b 3
      go_wp2_with (first
        | (refine wpList_load_row rfl 23 _ rfl _ rfl _ _ h3 _ Tryd.underlying23 rfl 16 Tryd.info23 (by rw [ag_size, hl]) ?_)
        | (refine wpList_store_row rfl 23 _ _ rfl _ rfl _ rfl _ _ h2 Tryd.info23 (by rw [ag_size, hl]) (ag_one _) ?_))
      exact bodyPost_ret (results_row rfl _ _ rfl _ _ (h2.setRow _) _ Tryd.underlying23 rfl 16 Tryd.info23 (by rw [ag_size, hl])) rfl ⟨rfl, below_setRow hbl (by omega) _⟩
end Go.Proofs.YtmolhljgmaoflaaDoor
