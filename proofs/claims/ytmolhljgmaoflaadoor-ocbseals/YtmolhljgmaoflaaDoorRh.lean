/- How often a number can be halved: what the library's table tells is so. -/
import Derived.Test.YtmolhljgmaoflaaDoorOb
import Derived.Test.YtmolhljgmaoflaaDoorRd
namespace Go.Proofs.YtmolhljgmaoflaaDoor
theorem ntz_all : ∀ k, k < 13 → ∀ a, a < 17 → ∀ b, b < 256 → (a * 256 + b) % 2 = 1 → (a * 256 + b) * 2 ^ k < 4200 → Gf.ntz ((a * 256 + b) * 2 ^ k) = k := by decide +kernel
theorem ntz_pow (m k : Nat) (h : m % 2 = 1) (h2 : m * 2 ^ k < 4200) : Gf.ntz (m * 2 ^ k) = k := by
  have h3 : 0 < m := by omega
  have h4 : k < 13 := by
    rcases Nat.lt_or_ge k 13 with h | h
    · exact h
    · have : 2 ^ 13 ≤ 2 ^ k := Nat.pow_le_pow_right (by decide) h
      have : 1 * 2 ^ k ≤ m * 2 ^ k := Nat.mul_le_mul_right _ h3
      omega
  have h5 : m < 4200 := by
    have : m * 1 ≤ m * 2 ^ k := Nat.mul_le_mul_left _ (Nat.one_le_two_pow)
    omega
  have h6 : m / 256 * 256 + m % 256 = m := by omega
  have := ntz_all k h4 (m / 256) (by omega) (m % 256) (by omega)
  rw [h6] at this
  exact this h h2

end Go.Proofs.YtmolhljgmaoflaaDoor

/- The walk of the reference's at. -/
namespace Go.Proofs.YtmolhljgmaoflaaDoor
open Go.RowKit Go.BigFrame

theorem elk_range {w : World} {b sb : Nat} {t : TypeId} {key : List UInt8} (h : Row w b t (elk key sb)) :
    w.rangeAt b 0 (cip (.pointer (some ⟨sb, 0, none⟩)) (Gf.keys Gf.sbox key)).toList ∧ w.rangeAt b 177 ((Gf.star key).map B) ∧ w.rangeAt b 193 ((Gf.dblk (Gf.star key)).map B) := by
  have lK := Gf.keys_len Gf.sbox key
  have lS := Gf.star_len key
  have lD := Gf.dblk_len (Gf.star key)
  have hg := els_get (.pointer (some ⟨sb, 0, none⟩)) (Gf.keys Gf.sbox key) (Gf.star key) (Gf.dblk (Gf.star key)) lK lS
  have h' : ∀ k, w.cell? ⟨b, k, none⟩ = (els (.pointer (some ⟨sb, 0, none⟩)) (Gf.keys Gf.sbox key) (Gf.star key) (Gf.dblk (Gf.star key)))[k]? := fun k => h.cell k
  refine ⟨fun j v hv => ?_, fun j v hv => ?_, fun j v hv => ?_⟩
  · have hj : j < 177 := by
      have := (List.getElem?_eq_some_iff.1 hv).1
      rw [Array.length_toList, cip_size, lK] at this; exact this
    rw [Nat.zero_add, h', hg, if_pos hj, ← Array.getElem?_toList]; exact hv
  · have hj : j < 16 := by
      have := (List.getElem?_eq_some_iff.1 hv).1
      rw [List.length_map, lS] at this; exact this
    rw [h', hg, if_neg (by omega), if_pos (by omega), Nat.add_sub_cancel_left, ag]
    simpa using hv
  · rw [h', hg, if_neg (by omega), if_neg (by omega), Nat.add_sub_cancel_left, ag]
    simpa using hv

set_option maxRecDepth 100000 in
set_option maxHeartbeats 2000000 in
theorem refAt_any (key : List UInt8) (sb i : Nat) (h0 : 0 < i) (h1 : i < 4200) (w : World) :
    Calls Tryd.prog 30 #[.agg (elk key sb), .int .i64 (i : Int)] w fun e w' => e = .returned (.agg (ag (Gf.ell (Gf.star key) (2 + Gf.ntz i)))) ∧ Below w.heap.size w w' := by
  have hrng := (elk_range (Row.new w 54 (elk key sb))).2.2
  have lD := Gf.dblk_len (Gf.star key)
  have lL := Gf.ell_len (Gf.star key) (Gf.star_len key)
  have hD := fun k w => refDouble_any (Gf.ell (Gf.star key) k) (lL k) w
  have L1 : Box' (Gf.ell (Gf.star key) 1 = Gf.dblk (Gf.star key)) := ⟨rfl⟩
  have LS : Box' (∀ k, Gf.dblk (Gf.ell (Gf.star key) k) = Gf.ell (Gf.star key) (k + 1)) := ⟨fun _ => rfl⟩
  have NP := Box'.mk (ntz_pow)
  generalize hz : Gf.ntz i = z at *
  have HZ := Box'.mk hz
  clear hz
  rw [← L1.out] at hrng lD
  generalize Gf.star key = l0 at *
  have hel := elk_size key sb
  generalize elk key sb = EL at *
  have hr2 : ((w.alloc (.cells EL 54)).alloc (.cells (ag (Gf.zeros 16)) 23)).rangeAt w.heap.size 193 ((Gf.ell l0 1).map B) := range_below hrng ((Below.refl _ _).alloc (Nat.le_refl _) _) (by simp)
  have q0 : Room ((w.alloc (.cells EL 54)).alloc (.cells (ag (Gf.zeros 16)) 23)) (w.heap.size + 1) 23 16 := Room.made _ _ _ _ _ rfl (by simp)
  have b0 : Below w.heap.size w ((w.alloc (.cells EL 54)).alloc (.cells (ag (Gf.zeros 16)) 23)) := ((Below.refl _ _).alloc (Nat.le_refl _) _).alloc (by simp) _
  have D1 := hD 1
  rw [LS.out 1] at D1
  have hDD : ∀ k w, Calls Tryd.prog 12 #[.agg (ag (Gf.ell l0 k))] w fun e w' => e = .returned (.agg (ag (Gf.ell l0 (k + 1)))) ∧ Below w.heap.size w w' := fun k w => by rw [← LS.out k]; exact hD k w
  have HDD := Box'.mk hDD
  clear hrng hD L1 LS hDD
  go_enter Tryd.func30, Tryd.ntmps30
  go_wp2_with (first
    | (refine wpList_alloc_row rfl 23 rfl _ _ Tryd.zero23 ?_)
    | (refine wpList_load_mid rfl 23 (.tmp 6) rfl w.heap.size 193 rfl _ _ hr2 Tryd.underlying23 rfl (by rw [Tryd.info23, List.length_map, lD]) ?_)
    | fail)
  refine (D1 _).mono ?_
  rintro e w1 ⟨rfl, hb1⟩
  have q1 : Room w1 (w.heap.size + 1) 23 16 := q0.below hb1 (q0.elim fun _ h => h.1.lt)
  have b1 : Below w.heap.size w w1 := b0.trans (hb1.mono (by simp; omega))
  have hz1 := q1.elim fun _ h => h.1.lt
  have qz : Room (w1.alloc (.cells (ag (Gf.zeros 16)) 23)) w1.heap.size 23 16 := Room.new _ _ _ _ rfl
  have r2 : Row ((w1.alloc (.cells (ag (Gf.zeros 16)) 23)).setRow w1.heap.size (ag (Gf.ell l0 2))) w1.heap.size 23 (ag (Gf.ell l0 2)) := qz.setRow _
  have q2 : Room ((w1.alloc (.cells (ag (Gf.zeros 16)) 23)).setRow w1.heap.size (ag (Gf.ell l0 2))) (w.heap.size + 1) 23 16 := (q1.alloc _).setRowOther _ _ (by omega)
  have b2 : Below w.heap.size w ((w1.alloc (.cells (ag (Gf.zeros 16)) 23)).setRow w1.heap.size (ag (Gf.ell l0 2))) := below_setRow (b1.alloc b1.size _) b1.size _
  have hpp : w1.heap.size ≠ w.heap.size + 1 := by omega
  have hpq : w.heap.size ≤ w1.heap.size := by omega
  clear hb1 q0 b0 hr2 q1 b1 D1 hel
  go_wp2_with (first
    | (refine wpList_alloc_row rfl 23 rfl _ _ Tryd.zero23 ?_)
    | (refine wpList_store_row rfl 23 (.tmp 5) (.tmp 8) rfl _ rfl _ rfl _ _ qz Tryd.info23 (by rw [ag_size]; exact lL 2) (ag_one _) ?_)
    | fail)
  simp only [Act.put, List.setIfInBounds_toArray, List.set_cons_succ, List.set_cons_zero]
  generalize w1.heap.size = p at *
  go_loopw [1] (fun t wr => ∃ m k : Nat, 0 < m ∧ m < 4200 ∧ t = .int .i64 (m : Int) ∧ Box' (i = m * 2 ^ k) ∧ Row wr p 23 (ag (Gf.ell l0 (2 + k))) ∧ Room wr (w.heap.size + 1) 23 16 ∧ Below w.heap.size w wr) (fun t _ => (intOf t).toNat)
  case atStart => exact ⟨i, 0, h0, h1, rfl, ⟨by simp⟩, r2, q2, b2⟩
  case round =>
    obtain ⟨m, k, hm0, hm1, rfl, HI, r3, q3, b3⟩ := hrel
    by_cases hev : m % 2 = 0
    · have i1 : ((m : Int) % 2 == 0) = true := by rw [beq_iff_eq]; omega
      go_wp2_with (first
        | (refine wpList_load_row rfl 23 (.tmp 5) rfl _ rfl _ _ r3 _ Tryd.underlying23 rfl 16 Tryd.info23 (by rw [ag_size]; exact lL _) ?_)
        | fail)
      refine (HDD.out (2 + k) _).mono ?_
      rintro e w4 ⟨rfl, hb4⟩
      have r4 : Room w4 p 23 16 := (r3.below hb4 r3.lt).room (by rw [ag_size]; exact lL _)
      have q4 := q3.below hb4 (q3.elim fun _ h => h.1.lt)
      have b4 : Below w.heap.size w w4 := b3.trans (hb4.mono b3.size)
      clear hb4 r3 q3 b3
      go_wp2_with (first
        | (refine wpList_store_row rfl 23 (.tmp 5) (.tmp 13) rfl _ rfl _ rfl _ _ r4 Tryd.info23 (by rw [ag_size]; exact lL _) (ag_one _) ?_)
        | fail)
      have hm2 : (m : Int) / 2 = ((m / 2 : Nat) : Int) := by omega
      rw [hm2]
      refine ⟨⟨m / 2, k + 1, by omega, by omega, rfl, ⟨?_⟩, r4.setRow _, q4.setRowOther _ _ (by omega), below_setRow b4 hpq _⟩, by simp [intOf]; omega⟩
      rw [HI.out, Nat.pow_succ, Nat.mul_comm (2 ^ k) 2, ← Nat.mul_assoc]
      congr 1
      omega
    · have i1 : ((m : Int) % 2 == 0) = false := by rw [beq_eq_false_iff_ne]; omega
      obtain rfl : z = k := by rw [← HZ.out, HI.out]; exact NP.out m k (by omega) (by rw [← HI.out]; exact h1)
      go_wp2_with (first
        | (refine wpList_load_row rfl 23 (.tmp 5) rfl _ rfl _ _ r3 _ Tryd.underlying23 rfl 16 Tryd.info23 (by rw [ag_size]; exact lL _) ?_)
        | (refine wpList_store_row rfl 23 (.tmp 4) (.tmp 16) rfl _ rfl _ rfl _ _ q3 Tryd.info23 (by rw [ag_size]; exact lL _) (ag_one _) ?_)
        | fail)
      exact bodyPost_ret (results_row rfl _ _ rfl _ _ (q3.setRow _) _ Tryd.underlying23 rfl 16 Tryd.info23 (by rw [ag_size]; exact lL _)) rfl ⟨rfl, below_setRow b3 (by omega) _⟩
end Go.Proofs.YtmolhljgmaoflaaDoor
