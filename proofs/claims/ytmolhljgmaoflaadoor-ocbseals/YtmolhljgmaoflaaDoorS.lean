/- The walks of substitutes and origins of package aes: the tables. -/
import Derived.Test.YtmolhljgmaoflaaDoorC
import Derived.Test.YtmolhljgmaoflaaDoorA
import Derived.Test.YtmolhljgmaoflaaDoorG
import Derived.BigQuiet
namespace Go.Proofs.YtmolhljgmaoflaaDoor
open Go.RowKit Go.BigFrame

theorem Tryd.zero66 : (Tryd.prog.info? 66).map (fun i => (i.zero, i.size)) = some (some (.agg (ag (Gf.zeros 256))), 256) := by kernel_rfl
theorem Tryd.zero76 : (Tryd.prog.info? 76).map (fun i => (i.zero, i.size)) = some (some (.agg (ag (Gf.zeros 255))), 255) := by kernel_rfl
theorem Tryd.info66 : (Tryd.prog.info? 66).map (·.size) = some 256 := by kernel_rfl
theorem Tryd.info76 : (Tryd.prog.info? 76).map (·.size) = some 255 := by kernel_rfl
theorem scatter_zero (w : World) : Calls Tryd.prog 57 #[.int .u8 0] w fun e w' => e = .returned (.int .u8 ((Gf.sct 0).toNat : Int)) ∧ w' = w := scatter_any 0 w

set_option maxRecDepth 100000 in
set_option maxHeartbeats 1000000 in
theorem substitutes_any (w : World) :
    Calls Tryd.prog 42 #[] w fun e w' => e = .returned (.agg (ag Gf.sbox)) ∧ Below w.heap.size w w' := by
  have hx : ∀ x y : UInt8, bits .xor .u8 (x.toNat : Int) (y.toNat : Int) = ((Gf.bx x y).toNat : Int) := xor_bx
  go_enter Tryd.func42, Tryd.ntmps42
  go_wp2_with (first
    | (refine wpList_alloc_row rfl 66 rfl _ _ Tryd.zero66 ?_)
    | (refine wpList_alloc_row rfl 76 rfl _ _ Tryd.zero76 ?_))
  go_loopw [2, 7] (fun p i wr => ∃ k : Nat, k ≤ 255 ∧ i = .int .i64 k ∧ p = .int .u8 ((Gf.pk k).toNat : Int) ∧ Room wr w.heap.size 66 256 ∧ Row wr (w.heap.size + 1) 76 (ag (Gf.fill (Gf.zeros 255) Gf.pk k)) ∧ wr.heap.size = w.heap.size + 2 ∧ Below w.heap.size w wr) (fun _ i _ => 255 - (intOf i).toNat)
  case atStart =>
    refine ⟨0, by omega, rfl, rfl, ?_, ?_, by simp, ?_⟩
    · exact (Room.new _ _ _ _ (by rw [ag_size]; exact List.length_replicate)).alloc _
    · exact Row.made _ _ _ _ _ rfl (by simp)
    · exact ((Below.refl _ _).alloc (Nat.le_refl _) _).alloc (by simp) _
  case round =>
    obtain ⟨k, hk, rfl, rfl, h0, h1, hsz, hbl⟩ := hrel
    by_cases hlt : k < 255
    · have c1 := h1.byte (k := k) (by rw [Gf.fill_len]; exact hlt)
      have f1 := h1.frozen k
      go_wp2_with (go_at_call 56; refine (double_any _ _).mono ?_; rintro e w' ⟨rfl, rfl⟩)
      go_roundw
      case rel =>
        refine ⟨k + 1, by omega, by go_num, rfl, ?_, ?_, by simpa using hsz, ?_⟩
        · exact h0.setOther _ _ (by simp)
        · exact h1.setByte k _
        · exact hbl.setCell (by simp) _
      case measure => simp [intOf]; omega
    · have hk' : k = 255 := by omega
      subst hk'
      rw [Gf.fill_full (Gf.zeros 255) Gf.pk 255 List.length_replicate] at h1
      have hz0 : (ag (Gf.zeros 256))[0]? = some (.int .u8 0) := by kernel_rfl
      have hp : Row wr (w.heap.size + 1) 76 (ag Gf.pows) := h1
      clear h1
      have hpl := Gf.pows_len
      have HP := show Hid _ from hpl
      clear hpl
      go_wp2_with (first
        | (refine wpList_alloc_row rfl 66 rfl _ _ Tryd.zero66 ?_)
        | (go_at_call 57; refine (scatter_zero _).mono ?_; rintro e w' ⟨rfl, rfl⟩)
        | (refine wpList_load_row rfl 76 _ rfl _ rfl _ _ (hp.alloc _) _ Tryd.underlying76 rfl 255 Tryd.info76 (by rw [ag_size]; exact HP.out) ?_))
      go_loopw [21] (fun i wr => ∃ k : Nat, k ≤ 255 ∧ i = .int .i64 k ∧ Room wr w.heap.size 66 256 ∧ Row wr (w.heap.size + 1) 76 (ag Gf.pows) ∧ Row wr (w.heap.size + 2) 66 (ag (Gf.subTo k)) ∧ Below w.heap.size w wr) (fun i _ => 255 - (intOf i).toNat)
      case atStart =>
        refine ⟨0, by omega, rfl, ?_, ?_, ?_, ?_⟩
        · exact h0.alloc _
        · exact hp.alloc _
        · exact Row.made _ _ _ _ _ (ag_set _ _ _) hsz.symm
        · exact hbl.alloc (by omega) _
      case round =>
        clear h0 hsz hp hbl hz0
        obtain ⟨k, hk, rfl, h0, h1, h2, hbl⟩ := hrel
        by_cases hlt : k < 255
        · obtain ⟨x, hxe⟩ : ∃ x, Gf.pows.getD k 0 = x := ⟨_, rfl⟩
          obtain ⟨y, hye⟩ : ∃ y, Gf.pows.getD ((255 - k) % 255) 0 = y := ⟨_, rfl⟩
          have hE : Hid (Gf.subTo (k + 1) = (Gf.subTo k).set x.toNat (Gf.sct y)) := by
            show _ = _
            rw [← hxe, ← hye]; rfl
          have hi : (ag Gf.pows)[k]? = some (.int .u8 (x.toNat : Int)) := by rw [ag_get (by rw [HP.out]; exact hlt), hxe]
          have hix : (Instr.index 76 (.agg (ag Gf.pows)) (.int .i64 (k : Int))).run Tryd.prog wr = .ok (.int .u8 (x.toNat : Int)) wr := run_index_arr wr 76 5 255 _ k _ .i64 .u8 Tryd.underlying76 Tryd.underlying5 (by kernel_rfl) hlt hi
          clear hi
          have c1 := cell_form (h1.byte (k := (255 - k) % 255) (by rw [HP.out]; omega)) hye
          have hxl : x.toNat < 256 := x.toNat_lt
          have c2 := h2.byte (k := x.toNat) (by rw [Gf.subTo_len]; exact hxl)
          have f2 := h2.frozen x.toNat
          obtain ⟨j, hj⟩ : ∃ j, (255 - k) % 255 = j := ⟨_, rfl⟩
          rw [hj] at c1
          have hj2 : ((255 : Int) - (k : Int)) % 255 = (j : Int) := by omega
          have hj3 : j < 255 := by omega
          clear hxe hye hj
          go_wp2_with (go_at_call 57; refine (scatter_any _ _).mono ?_; rintro e w' ⟨rfl, rfl⟩)
          refine ⟨⟨k + 1, by omega, by go_num, h0.setOther _ _ (by simp), h1.setOther _ _ (by simp), ?_, hbl.setCell (by simp) _⟩, by simp [intOf]; omega⟩
          rw [hE.out]; exact h2.setByte _ _
        · have hk' : k = 255 := by omega
          subst hk'
          have hs : Row wr (w.heap.size + 2) 66 (ag Gf.sbox) := h2
          have hsl := Gf.sbox_len
          have HS := show Hid _ from hsl
          clear hsl h2
          go_wp2_with (first
            | (refine wpList_load_row rfl 66 _ rfl _ rfl _ _ hs _ Tryd.underlying66 rfl 256 Tryd.info66 (by rw [ag_size]; exact HS.out) ?_)
            | (refine wpList_store_row rfl 66 _ _ rfl _ rfl _ rfl _ _ h0 Tryd.info66 (by rw [ag_size]; exact HS.out) (ag_one _) ?_))
          exact bodyPost_ret (results_row rfl _ _ rfl _ _ (h0.setRow _) _ Tryd.underlying66 rfl 256 Tryd.info66 (by rw [ag_size]; exact HS.out)) rfl ⟨rfl, below_setRow hbl (by omega) _⟩

set_option maxRecDepth 100000 in
set_option maxHeartbeats 1000000 in
theorem origins_any (t : List UInt8) (ht : t.length = 256) (w : World) (tb : Nat) (tt : TypeId) (htb : Row w tb tt (ag t)) :
    Calls Tryd.prog 53 #[.pointer (some ⟨tb, 0, none⟩)] w fun e w' => e = .returned (.agg (ag (Gf.orig t))) ∧ Below w.heap.size w w' := by
  have hlt0 := htb.lt
  go_enter Tryd.func53, Tryd.ntmps53
  go_wp2_with (refine wpList_alloc_row rfl 66 rfl _ _ Tryd.zero66 ?_)
  go_loopw [7] (fun i wr => ∃ k : Nat, k ≤ 256 ∧ i = .int .i64 k ∧ Room wr w.heap.size 66 256 ∧ Row wr (w.heap.size + 1) 66 (ag (Gf.origTo t k)) ∧ Below w.heap.size w wr) (fun i _ => 256 - (intOf i).toNat)
  case atStart =>
    refine ⟨0, by omega, rfl, ?_, ?_, ?_⟩
    · exact (Room.new _ _ _ _ (by rw [ag_size]; exact List.length_replicate)).alloc _
    · exact Row.made _ _ _ _ _ rfl (by simp)
    · exact ((Below.refl _ _).alloc (Nat.le_refl _) _).alloc (by simp) _
  case round =>
    obtain ⟨k, hk, rfl, h0, h1, hbl⟩ := hrel
    by_cases hlt : k < 256
    · have c0 := (htb.below hbl hlt0).byte (k := k) (by rw [ht]; exact hlt)
      have hE : Hid (Gf.origTo t (k + 1) = (Gf.origTo t k).set (t.getD k 0).toNat (UInt8.ofNat k)) := rfl
      generalize t.getD k 0 = x at *
      have hxl : x.toNat < 256 := x.toNat_lt
      have c1 := h1.byte (k := x.toNat) (by rw [Gf.origTo_len]; exact hxl)
      have f1 := h1.frozen x.toNat
      have hu : Hid ((UInt8.ofNat k).toNat = k) := UInt8.toNat_ofNat_of_lt' hlt
      go_wp2
      go_quiet (fail)
      go_wp2
      refine ⟨⟨k + 1, by omega, by go_num, (h0.drewN nq).setOther _ _ (by simp), ?_, (Below.drewN hbl nq).setCell (by simp) _⟩, by simp [intOf]; omega⟩
      have := (h1.drewN nq).setByte x.toNat (UInt8.ofNat k)
      rw [hu.out] at this
      rw [hE.out]; exact this
    · have hk' : k = 256 := by omega
      subst hk'
      have hs : Row wr (w.heap.size + 1) 66 (ag (Gf.orig t)) := h1
      have HS : Hid ((Gf.orig t).length = 256) := Gf.origTo_len t 256
      clear h1
      go_wp2_with (first
        | (refine wpList_load_row rfl 66 _ rfl _ rfl _ _ hs _ Tryd.underlying66 rfl 256 Tryd.info66 (by rw [ag_size]; exact HS.out) ?_)
        | (refine wpList_store_row rfl 66 _ _ rfl _ rfl _ rfl _ _ h0 Tryd.info66 (by rw [ag_size]; exact HS.out) (ag_one _) ?_))
      exact bodyPost_ret (results_row rfl _ _ rfl _ _ (h0.setRow _) _ Tryd.underlying66 rfl 256 Tryd.info66 (by rw [ag_size]; exact HS.out)) rfl ⟨rfl, below_setRow hbl (by omega) _⟩

end Go.Proofs.YtmolhljgmaoflaaDoor
