/- The walks of the functions on blocks of package aes: exclusive or, replacing, turning rows. -/
import Derived.Test.YtmolhljgmaoflaaDoorRows
import Derived.Test.YtmolhljgmaoflaaDoorL
import Derived.Test.YtmolhljgmaoflaaDoorM
import Derived.BigRegion
namespace Go.Proofs.YtmolhljgmaoflaaDoor
open Go.RowKit

theorem Tryd.info23 : (Tryd.prog.info? 23).map (·.size) = some 16 := by kernel_rfl

set_option maxHeartbeats 400000 in
theorem against_any (a b : List UInt8) (ha : a.length = 16) (hb : b.length = 16) (w : World) :
    Calls Tryd.prog 44 #[.agg (ag a), .agg (ag b)] w fun e w' => e = .returned (.agg (ag (Gf.bxor a b))) ∧ Below w.heap.size w w' := by
  have hF : Gf.fill a (fun i => a.getD i 0 ^^^ b.getD i 0) 16 = Gf.bxor a b := Gf.fill_full _ _ _ ha
  have HF := show Hid _ from hF
  clear hF
  go_enter Tryd.func44, Tryd.ntmps44
  go_wp2
  go_loopw [6] (fun i wr => ∃ k : Nat, k ≤ 16 ∧ i = .int .i64 k ∧ Row wr w.heap.size 23 (ag (Gf.fill a (fun i => a.getD i 0 ^^^ b.getD i 0) k)) ∧ Row wr (w.heap.size + 1) 23 (ag b) ∧ Room wr (w.heap.size + 1 + 1) 23 16 ∧ Below w.heap.size w wr) (fun i _ => 16 - (intOf i).toNat)
  case atStart =>
    refine ⟨0, by omega, rfl, ?_, ?_, ?_, ?_⟩
    · exact ((Row.new _ _ _).alloc _).alloc _
    · simpa using (Row.new (w.alloc (.cells (ag a) 23)) 23 (ag b)).alloc _
    · simpa using Room.new ((w.alloc (.cells (ag a) 23)).alloc (.cells (ag b) 23)) 23 _ 16 rfl
    · exact (((Below.refl _ _).alloc (Nat.le_refl _) _).alloc (by simp) _).alloc (by simp; omega) _
  case round =>
    obtain ⟨k, hk, rfl, h1, h2, h3, hbl⟩ := hrel
    by_cases hlt : k < 16
    · have c1 := h1.byte (k := k) (by rw [Gf.fill_len, ha]; exact hlt)
      have f1 := h1.frozen k
      have c2 := h2.byte (k := k) (by rw [hb]; exact hlt)
      rw [Gf.fill_get _ _ _ _ (Nat.le_refl _)] at c1
      go_wp2
      go_region
      go_wp2
      go_roundw
      case rel =>
        refine ⟨k + 1, by omega, by go_num, ?_, ?_, ?_, ?_⟩
        · have e : Gf.fill a (fun i => a.getD i 0 ^^^ b.getD i 0) (k + 1) = (Gf.fill a (fun i => a.getD i 0 ^^^ b.getD i 0) k).set k (a[k] ^^^ b[k]) := by simp [Gf.fill, ha, hb, hlt]
          rw [e, xor_u8]; exact (h1.setByte k _).drew
        · exact (h2.setOther _ _ (by simp)).drew
        · exact (h3.setOther _ _ (by simp; omega)).drew
        · exact (hbl.setCell (Nat.le_refl _) _).drew
      case measure => simp [intOf]; omega
    · have hk' : k = 16 := by omega
      subst hk'
      rw [HF.out] at h1
      have hl := Gf.bxor_len a b
      go_wp2_with (first
        | (refine wpList_load_row rfl 23 _ rfl _ rfl _ _ h1 _ Tryd.underlying23 rfl 16 Tryd.info23 (by rw [ag_size, hl]) ?_)
        | (refine wpList_store_row rfl 23 _ _ rfl _ rfl _ rfl _ _ h3 Tryd.info23 (by rw [ag_size, hl]) (ag_one _) ?_))
      exact bodyPost_ret (results_row rfl _ _ rfl _ _ (h3.setRow _) _ Tryd.underlying23 rfl 16 Tryd.info23 (by rw [ag_size, hl])) rfl ⟨rfl, below_setRow hbl (by omega) _⟩

theorem cell_form {w : World} {b k : Nat} {x y : UInt8} (h : w.cell? ⟨b, k, none⟩ = some (.int .u8 (x.toNat : Int))) (e : x = y) : w.cell? ⟨b, k, none⟩ = some (.int .u8 (y.toNat : Int)) := by rw [← e]; exact h

set_option maxHeartbeats 400000 in
theorem replace_any (b t : List UInt8) (hb : b.length = 16) (ht : t.length = 256) (w : World) (tb : Nat) (tt : TypeId) (htb : Row w tb tt (ag t)) :
    Calls Tryd.prog 46 #[.agg (ag b), .pointer (some ⟨tb, 0, none⟩)] w fun e w' => e = .returned (.agg (ag (Gf.subst t b))) ∧ Below w.heap.size w w' := by
  have hF : Gf.fill b (fun i => Gf.look t (b.getD i 0)) 16 = Gf.subst t b := Gf.fill_full _ _ _ hb
  have HF := show Hid _ from hF
  clear hF
  have hlt0 := htb.lt
  go_enter Tryd.func46, Tryd.ntmps46
  go_wp2
  go_loopw [6] (fun i wr => ∃ k : Nat, k ≤ 16 ∧ i = .int .i64 k ∧ Row wr w.heap.size 23 (ag (Gf.fill b (fun i => Gf.look t (b.getD i 0)) k)) ∧ Room wr (w.heap.size + 1) 23 16 ∧ Below w.heap.size w wr) (fun i _ => 16 - (intOf i).toNat)
  case atStart =>
    refine ⟨0, by omega, rfl, ?_, ?_, ?_⟩
    · exact (Row.new _ _ _).alloc _
    · simpa using Room.new (w.alloc (.cells (ag b) 23)) 23 _ 16 rfl
    · exact ((Below.refl _ _).alloc (Nat.le_refl _) _).alloc (by simp) _
  case round =>
    obtain ⟨k, hk, rfl, h1, h3, hbl⟩ := hrel
    by_cases hlt : k < 16
    · have c1 := h1.byte (k := k) (by rw [Gf.fill_len, hb]; exact hlt)
      have f1 := h1.frozen k
      rw [Gf.fill_get _ _ _ _ (Nat.le_refl _)] at c1
      obtain ⟨x, hx⟩ : ∃ x, b.getD k 0 = x := ⟨_, rfl⟩
      rw [hx] at c1
      have hxl : x.toNat < 256 := x.toNat_lt
      have c2 := (htb.below hbl hlt0).byte (k := x.toNat) (by rw [ht]; exact hxl)
      have e : Gf.fill b (fun i => Gf.look t (b.getD i 0)) (k + 1) = (Gf.fill b (fun i => Gf.look t (b.getD i 0)) k).set k (t.getD x.toNat 0) := by simp only [Gf.fill, hx, Gf.look]
      have HE := show Hid _ from e
      have hne : ¬ tb = w.heap.size := by omega
      clear hx e
      generalize t.getD x.toNat 0 = y at *
      go_wp2
      go_region
      go_wp2
      go_roundw
      case rel =>
        refine ⟨k + 1, by omega, by go_num, ?_, ?_, ?_⟩
        · rw [HE.out]; exact (h1.setByte k _).drew
        · exact (h3.setOther _ _ (by simp)).drew
        · exact (hbl.setCell (Nat.le_refl _) _).drew
      case measure => simp [intOf]; omega
    · have hk' : k = 16 := by omega
      subst hk'
      rw [HF.out] at h1
      have hl := Gf.subst_len t b
      go_wp2_with (first
        | (refine wpList_load_row rfl 23 _ rfl _ rfl _ _ h1 _ Tryd.underlying23 rfl 16 Tryd.info23 (by rw [ag_size, hl]) ?_)
        | (refine wpList_store_row rfl 23 _ _ rfl _ rfl _ rfl _ _ h3 Tryd.info23 (by rw [ag_size, hl]) (ag_one _) ?_))
      exact bodyPost_ret (results_row rfl _ _ rfl _ _ (h3.setRow _) _ Tryd.underlying23 rfl 16 Tryd.info23 (by rw [ag_size, hl])) rfl ⟨rfl, below_setRow hbl (by omega) _⟩

end Go.Proofs.YtmolhljgmaoflaaDoor
