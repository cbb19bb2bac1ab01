/- The walks of Expand, of the reference's Expand and New. -/
import Derived.Test.YtmolhljgmaoflaaDoorBu
namespace Go.Proofs.YtmolhljgmaoflaaDoor
open Go.RowKit Go.BigFrame

theorem cip_one (a : Option Addr) (K : List UInt8) : (cip (.pointer a) K).all (·.oneCell') = true := by
  rw [Array.all_eq_true_iff_forall_mem]; intro v hv
  simp only [cip, Array.mem_append] at hv
  rcases hv with hv | hv
  · simp at hv; subst hv; rfl
  · exact Array.all_eq_true_iff_forall_mem.1 (ag_one K) v hv

set_option maxRecDepth 100000 in
set_option maxHeartbeats 1000000 in
theorem new_any (key : List UInt8) (hkey : key.length = 16) (w : World) :
    Calls Tryd.prog 50 #[.agg (ag key)] w fun e w' => ∃ sb, e = .returned (.agg (cip (.pointer (some ⟨sb, 0, none⟩)) (Gf.keys Gf.sbox key))) ∧ Row w' sb 66 (ag Gf.sbox) ∧ Below w.heap.size w w' := by
  have HK0 : Hid ((Gf.keys Gf.sbox key).length = 176) := Gf.keys_len Gf.sbox key
  have HS : Hid (Gf.sbox.length = 256) := Gf.sbox_len
  obtain ⟨R, hR⟩ : ∃ R, Gf.keys Gf.sbox key = R := ⟨_, rfl⟩
  obtain ⟨T, hT⟩ : ∃ T, Gf.sbox = T := ⟨_, rfl⟩
  rw [hR, hT]
  rw [hR] at HK0
  rw [hT] at HS hR
  have HT := show Hid _ from hT
  have HR := show Hid _ from hR
  clear hR hT
  go_enter Tryd.func50, Tryd.ntmps50
  go_wp2_with (first
    | (refine wpList_alloc_row rfl 52 rfl _ _ Tryd.zero52 ?_)
    | fail)
  refine (refTable_any _).mono ?_
  rintro e w1 ⟨rfl, hb1⟩
  have r1 : Row w1 w.heap.size 23 (ag key) := Row.below ((Row.new _ _ _).alloc _) hb1 (by simp; omega)
  have r2 : Room w1 (w.heap.size + 1) 52 177 := Room.below (Room.made _ _ _ _ _ (by rw [cip_size]; show (List.replicate 176 (0 : UInt8)).length + 1 = 177; rw [List.length_replicate]) (by simp)) hb1 (by simp)
  have hbl : Below w.heap.size w w1 := (((Below.refl _ _).alloc (Nat.le_refl _) _).alloc (by simp) _).trans (hb1.mono (by simp; omega))
  have hz1 : w.heap.size + 1 < w1.heap.size := r2.elim fun _ h => h.1.lt
  clear hb1
  rw [HT.out]
  go_wp2_with (first
    | (refine wpList_alloc_row rfl 66 rfl _ _ Tryd.zero66 ?_)
    | (refine wpList_store_row rfl 66 _ _ rfl _ rfl _ rfl _ _ (Room.new _ _ _ _ (by rw [ag_size]; exact List.length_replicate)) Tryd.info66 (by rw [ag_size]; exact HS.out) (ag_one _) ?_; rw [World.setRow_alloc_new])
    | (refine wpList_load_row rfl 23 _ rfl _ rfl _ _ (r1.alloc _) _ Tryd.underlying23 rfl 16 Tryd.info23 (by rw [ag_size]; exact hkey) ?_)
    | fail)
  refine (refExpand_any key T hkey HS.out _ _ _ (Row.new _ _ _)).mono ?_
  rintro e w2 ⟨rfl, hb2⟩
  have q2 : Room w2 (w.heap.size + 1) 52 177 := (r2.alloc _).below hb2 (by simp; omega)
  have q3 : Row w2 w1.heap.size 66 (ag T) := (Row.new _ _ _).below hb2 (by simp)
  have hbl2 : Below w.heap.size w w2 := (hbl.alloc (by omega) _).trans (hb2.mono (by simp; omega))
  clear r1 r2 hbl hb2
  rw [HR.out]
  generalize w1.heap.size = sb at *
  have hbu : (Instr.build 52 #[(0, .pointer (some ⟨sb, 0, none⟩)), (1, .agg (ag R))]).run Tryd.prog w2 = .ok (.agg (cip (.pointer (some ⟨sb, 0, none⟩)) R)) w2 := run_build46 w2 _ R HK0.out
  go_wp2_with (first
    | (refine wpList_run rfl (.agg (cip (.pointer (some ⟨sb, 0, none⟩)) R)) (build_op 52 #[(0, .tmp 3), (1, .tmp 6)] #[(0, .pointer (some ⟨sb, 0, none⟩)), (1, .agg (ag R))] rfl (by simp [Act.eval]) _ _ hbu) ?_)
    | (refine wpList_store_row rfl 52 _ _ rfl _ rfl _ rfl _ _ q2 Tryd.info52 (by rw [cip_size, HK0.out]) (cip_one _ _) ?_)
    | fail)
  have q4 := q2.setRow (cip (.pointer (some ⟨sb, 0, none⟩)) R)
  have hcs : (cip (.pointer (some ⟨sb, 0, none⟩)) R).size = 177 := by rw [cip_size, HK0.out]
  exact bodyPost_ret (results_row rfl _ _ rfl _ _ q4 _ Tryd.underlying52 rfl 177 Tryd.info52 hcs) rfl ⟨sb, rfl, q3.setRowOther _ _ (by have := q3.lt; omega), below_setRow hbl2 (by omega) _⟩

end Go.Proofs.YtmolhljgmaoflaaDoor
