/- The reference's cipher with its L's: how it lies in memory, how it is built. -/
import Derived.Test.YtmolhljgmaoflaaDoorRb
import Derived.Test.YtmolhljgmaoflaaDoorRe
import Derived.Test.YtmolhljgmaoflaaDoorOg
import Derived.Test.YtmolhljgmaoflaaDoorCe
import Derived.Test.YtmolhljgmaoflaaDoorOq
import Derived.Deep.Cut
namespace Go.Proofs.YtmolhljgmaoflaaDoor
open Go.RowKit Go.BigFrame

def els (a : Value) (K s c : List UInt8) : Array Value := cip a K ++ ag s ++ ag c
theorem els_size (a : Value) (K s c : List UInt8) (hK : K.length = 176) (hs : s.length = 16) (hc : c.length = 16) : (els a K s c).size = 209 := by
  rw [els, Array.size_append, Array.size_append, cip_size, ag_size, ag_size, hK, hs, hc]
theorem els_get (a : Value) (K s c : List UInt8) (hK : K.length = 176) (hs : s.length = 16) (j : Nat) : (els a K s c)[j]? = if j < 177 then (cip a K)[j]? else if j < 193 then (ag s)[j - 177]? else (ag c)[j - 193]? := by
  have h1 : (cip a K).size = 177 := by rw [cip_size, hK]
  have h2 : (ag s).size = 16 := by rw [ag_size, hs]
  unfold els
  by_cases a1 : j < 177
  · rw [if_pos a1, Array.getElem?_append_left (by rw [Array.size_append]; omega), Array.getElem?_append_left (by omega)]
  · rw [if_neg a1]
    by_cases a2 : j < 193
    · rw [if_pos a2, Array.getElem?_append_left (by rw [Array.size_append]; omega), Array.getElem?_append_right (by omega), h1]
    · rw [if_neg a2, Array.getElem?_append_right (by rw [Array.size_append]; omega), Array.size_append, h1, h2]
theorem els_one (a : Option Addr) (K s c : List UInt8) : (els (.pointer a) K s c).all (·.oneCell') = true := by
  rw [Array.all_eq_true_iff_forall_mem]; intro v hv
  simp only [els, Array.mem_append] at hv
  rcases hv with (hv | hv) | hv
  · exact Array.all_eq_true_iff_forall_mem.1 (cip_one a K) v hv
  · exact Array.all_eq_true_iff_forall_mem.1 (ag_one s) v hv
  · exact Array.all_eq_true_iff_forall_mem.1 (ag_one c) v hv
theorem Tryd.zero54 : (Tryd.prog.info? 54).map (fun i => (i.zero, i.size)) = some (some (.agg (els (.pointer none) (Gf.zeros 176) (Gf.zeros 16) (Gf.zeros 16))), 209) := by kernel_rfl
theorem Tryd.info54 : (Tryd.prog.info? 54).map (·.size) = some 209 := by kernel_rfl

theorem fold_ag (off : Nat) (c z : Array Value) (j : Nat) : (Array.foldl (fun cs (x : Value × Nat) => cs.setIfInBounds (off + x.snd) x.fst) z c.zipIdx)[j]? = if off ≤ j ∧ j < off + c.size ∧ j < z.size then c[j - off]? else z[j]? := by
  obtain ⟨l⟩ := c
  have e : Array.foldl (fun cs (x : Value × Nat) => cs.setIfInBounds (off + x.snd) x.fst) z (⟨l⟩ : Array Value).zipIdx = (l.zipIdx 0).foldl (fun cs (p : Value × Nat) => cs.setIfInBounds (off + p.2) p.1) z := by simp
  rw [e, fold_get]
  simp
theorem fold_size (off : Nat) (c z : Array Value) : (Array.foldl (fun cs (x : Value × Nat) => cs.setIfInBounds (off + x.snd) x.fst) z c.zipIdx).size = z.size := by
  obtain ⟨l⟩ := c
  have e : Array.foldl (fun cs (x : Value × Nat) => cs.setIfInBounds (off + x.snd) x.fst) z (⟨l⟩ : Array Value).zipIdx = (l.zipIdx 0).foldl (fun cs (p : Value × Nat) => cs.setIfInBounds (off + p.2) p.1) z := by simp
  rw [e]
  clear e
  generalize l.zipIdx 0 = q
  induction q generalizing z with
  | nil => rfl
  | cons x q ih => rw [List.foldl_cons, ih]; simp
theorem run_build54 (w : World) (a : Value) (K s c : List UInt8) (hK : K.length = 176) (hs : s.length = 16) (hc : c.length = 16) :
    (Instr.build 54 #[(0, .agg (cip a K)), (1, .agg (ag s)), (2, .agg (ag c))]).run Tryd.prog w = .ok (.agg (els a K s c)) w := by
  have hz := (zero_of_info Tryd.zero54).1
  have s52 : ∀ w, (sizeOf 52).run Tryd.prog w = .ok 177 w := fun w => run_sizeOf w 52 177 Tryd.info52
  have s23 : ∀ w, (sizeOf 23).run Tryd.prog w = .ok 16 w := fun w => run_sizeOf w 23 16 Tryd.info23
  have hcs : (cip a K).size = 177 := by rw [cip_size, hK]
  have hss : (ag s).size = 16 := by rw [ag_size, hs]
  have hcc : (ag c).size = 16 := by rw [ag_size, hc]
  have hzs : (els (.pointer none) (Gf.zeros 176) (Gf.zeros 16) (Gf.zeros 16)).size = 209 := els_size _ _ _ _ (List.length_replicate) rfl rfl
  have hf : Instr.fill (fun x => ([(0, 177), (177, 16), (193, 16)] : List (Nat × Nat))[x]?) (Value.agg (els (.pointer none) (Gf.zeros 176) (Gf.zeros 16) (Gf.zeros 16))).cells [(0, Value.agg (cip a K)), (1, Value.agg (ag s)), (2, Value.agg (ag c))] = some (els a K s c) := by
    simp only [Instr.fill, Value.cells, List.getElem?_cons_zero, List.getElem?_cons_succ, hcs, hss, hcc, hzs]
    simp only [fold_size, hzs]
    rw [if_neg (by decide), if_neg (by decide), if_neg (by decide)]
    refine congrArg some ?_
    apply Array.ext_getElem?
    intro j
    simp only [fold_ag, fold_size, hzs, hcs, hss, hcc]
    simp only [Nat.zero_add, Nat.reduceAdd, Nat.sub_zero]
    rw [els_get a K s c hK hs]
    by_cases h1 : j < 177
    · rw [if_neg (by omega), if_neg (by omega), if_pos (by omega), if_pos h1]
    · by_cases h2 : j < 193
      · rw [if_neg (by omega), if_pos (by omega), if_neg h1, if_pos h2]
      · rw [if_neg h1, if_neg h2]
        by_cases h3 : j < 209
        · rw [if_pos (by omega)]
        · rw [if_neg (by omega), if_neg (by omega), if_neg (by omega), Array.getElem?_eq_none (by omega), Array.getElem?_eq_none (by omega)]
  unfold Instr.build
  simp only [Sem.run_bind, hz, Result.andThen_ok, run_underlying Tryd.underlying54]
  simp [s52, s23, hf]
end Go.Proofs.YtmolhljgmaoflaaDoor

/- The walks of the reference's newElls and at. -/
namespace Go.Proofs.YtmolhljgmaoflaaDoor
open Go.RowKit Go.BigFrame

theorem wp_run {P : Program} {op : Oper} {a : Act} {w : World} {K : Act → World → Prop} {Q : Exit → Act → World → Prop} (v : Value) (hrun : (execOp a.eval op).run P w = .ok (.value v) w) (h : K (a.put op.dst v) w) : op.wp P a w K Q := by
  unfold Oper.wp; rw [hrun]; exact h

/-- The cipher of a key with its L's. -/
def elk (key : List UInt8) (sb : Nat) : Array Value := els (.pointer (some ⟨sb, 0, none⟩)) (Gf.keys Gf.sbox key) (Gf.star key) (Gf.dblk (Gf.star key))
theorem Gf.star_len (key : List UInt8) : (Gf.star key).length = 16 := Gf.encrypt_len _ _
theorem elk_size (key : List UInt8) (sb : Nat) : (elk key sb).size = 209 := els_size _ _ _ _ (Gf.keys_len _ _) (Gf.star_len _) (Gf.dblk_len _)
theorem elk_one (key : List UInt8) (sb : Nat) : (elk key sb).all (·.oneCell') = true := els_one _ _ _ _

set_option maxRecDepth 100000 in
set_option maxHeartbeats 2000000 in
theorem newElls_any (key : List UInt8) (hkey : key.length = 16) (w : World) :
    Calls Tryd.prog 26 #[.agg (ag key)] w fun e w' => ∃ sb, e = .returned (.agg (elk key sb)) ∧ Row w' sb 66 (ag Gf.sbox) ∧ Below w.heap.size w w' := by
  have hE : ∀ w sb, Row w sb 66 (ag Gf.sbox) → Calls Tryd.prog 31 #[.agg (cip (.pointer (some ⟨sb, 0, none⟩)) (Gf.keys Gf.sbox key)), .agg (ag (Gf.zeros 16))] w fun e w' => e = .returned (.agg (ag (Gf.star key))) ∧ Below w.heap.size w w' :=
    fun w sb h => cipher_any Gf.sbox (Gf.keys Gf.sbox key) (Gf.zeros 16) Gf.sbox_len (Gf.keys_len _ _) rfl w sb h
  have hN := new_any key hkey
  have lK := Gf.keys_len Gf.sbox key
  have lS := Gf.star_len key
  have hD := fun w => refDouble_any (Gf.star key) lS w
  have lC := Gf.dblk_len (Gf.star key)
  have hB := fun w a => run_build54 w a (Gf.keys Gf.sbox key) (Gf.star key) (Gf.dblk (Gf.star key)) lK lS lC
  have hel : ∀ sb, elk key sb = els (.pointer (some ⟨sb, 0, none⟩)) (Gf.keys Gf.sbox key) (Gf.star key) (Gf.dblk (Gf.star key)) := fun _ => rfl
  have HEL := Box'.mk hel
  have HB := Box'.mk hB
  clear hel hB
  generalize Gf.keys Gf.sbox key = K at *
  generalize Gf.dblk (Gf.star key) = C at *
  generalize Gf.star key = S at *
  generalize Gf.sbox = T at *
  have z209 : (els (.pointer none) (Gf.zeros 176) (Gf.zeros 16) (Gf.zeros 16)).size = 209 := els_size _ _ _ _ (List.length_replicate) rfl rfl
  generalize hZ : els (.pointer none) (Gf.zeros 176) (Gf.zeros 16) (Gf.zeros 16) = Z at *
  have HZ := Box'.mk hZ
  clear hZ
  have zz := Tryd.zero54
  rw [HZ.out] at zz
  have ZZ := Box'.mk zz
  clear zz
  go_enter Tryd.func26, Tryd.ntmps26
  have r0 : Row ((w.alloc (.cells (ag key) 23)).alloc (.cells Z 54)) w.heap.size 23 (ag key) := (Row.new _ _ _).alloc _
  have q0 : Room ((w.alloc (.cells (ag key) 23)).alloc (.cells Z 54)) (w.heap.size + 1) 54 209 := Room.made _ _ _ _ _ z209 (by simp)
  have b0 : Below w.heap.size w ((w.alloc (.cells (ag key) 23)).alloc (.cells Z 54)) := ((Below.refl _ _).alloc (Nat.le_refl _) _).alloc (by simp) _
  go_wp2_with (first
    | (refine wpList_alloc_row rfl 54 rfl _ _ ZZ.out ?_)
    | (refine wpList_load_row rfl 23 (.tmp 1) rfl _ rfl _ _ r0 _ Tryd.underlying23 rfl 16 Tryd.info23 (by rw [ag_size]; exact hkey) ?_)
    | fail)
  refine (hN _).mono ?_
  rintro e w1 ⟨sb, rfl, t1, hb1⟩
  have q1 : Room w1 (w.heap.size + 1) 54 209 := q0.below hb1 (q0.elim fun _ h => h.1.lt)
  have b1 : Below w.heap.size w w1 := b0.trans (hb1.mono (by simp; omega))
  clear hb1 q0 b0 r0 hN
  have hz1 := q1.elim fun _ h => h.1.lt
  have st := t1.lt
  have z52 : (cip (.pointer none) (Gf.zeros 176)).size = 177 := by rw [cip_size]; show (List.replicate 176 (0 : UInt8)).length + 1 = 177; rw [List.length_replicate]
  generalize hZ2 : cip (.pointer none) (Gf.zeros 176) = Z2 at *
  have zz2 := Tryd.zero52
  rw [hZ2] at zz2
  have ZZ2 := Box'.mk zz2
  clear zz2 hZ2
  have q2 : Room (w1.alloc (.cells Z2 52)) w1.heap.size 52 177 := Room.new _ _ _ _ z52
  have lcip : (cip (.pointer (some ⟨sb, 0, none⟩)) K).size = 177 := by rw [cip_size, lK]
  have ocip := cip_one (some ⟨sb, 0, none⟩) K
  generalize hcip : cip (.pointer (some ⟨sb, 0, none⟩)) K = cp at *
  have r2 : Row ((w1.alloc (.cells Z2 52)).setRow w1.heap.size cp) w1.heap.size 52 cp := q2.setRow cp
  have t2 : Row ((w1.alloc (.cells Z2 52)).setRow w1.heap.size cp) sb 66 (ag T) := (t1.alloc _).setRowOther _ _ (by omega)
  have q3 : Room ((w1.alloc (.cells Z2 52)).setRow w1.heap.size cp) (w.heap.size + 1) 54 209 := (q1.alloc _).setRowOther _ _ (by omega)
  have b2 : Below w.heap.size w ((w1.alloc (.cells Z2 52)).setRow w1.heap.size cp) := below_setRow (b1.alloc b1.size _) b1.size _
  have hz2 : ((w1.alloc (.cells Z2 52)).setRow w1.heap.size cp).heap.size = w1.heap.size + 1 := by simp [World.setRow]
  have HE : Box' (∀ w, Row w sb 66 (ag T) → Calls Tryd.prog 31 #[.agg cp, .agg (ag (Gf.zeros 16))] w fun e w' => e = .returned (.agg (ag S)) ∧ Below w.heap.size w w') := ⟨fun w h => by rw [← hcip]; exact hE w sb h⟩
  have HB2 : Box' (∀ w, (Instr.build 54 #[(0, .agg cp), (1, .agg (ag S)), (2, .agg (ag C))]).run Tryd.prog w = .ok (.agg (elk key sb)) w) := ⟨fun w => by rw [HEL.out, ← hcip]; exact HB.out w _⟩
  have le := elk_size key sb
  have oe := elk_one key sb
  generalize hEL : elk key sb = EL at *
  have HELq := Box'.mk hEL
  clear hE hcip HEL HB hEL
  go_wp2_with (first
    | (refine wpList_alloc_row rfl 52 rfl _ _ ZZ2.out ?_)
    | (refine wpList_store_row rfl 52 (.tmp 3) (.tmp 6) rfl _ rfl _ rfl _ _ q2 Tryd.info52 lcip ocip ?_)
    | (refine wpList_load_row rfl 52 (.tmp 3) rfl _ rfl _ _ r2 _ Tryd.underlying52 rfl 177 Tryd.info52 lcip ?_)
    | fail)
  refine (HE.out _ t2).mono ?_
  rintro e w2 ⟨rfl, hb2⟩
  have r4 : Row w2 w1.heap.size 52 cp := r2.below hb2 r2.lt
  have t4 : Row w2 sb 66 (ag T) := t2.below hb2 t2.lt
  have q6 : Room w2 (w.heap.size + 1) 54 209 := q3.below hb2 (q3.elim fun _ h => h.1.lt)
  have b4 : Below w.heap.size w w2 := b2.trans (hb2.mono b2.size)
  have hz3 := hb2.size
  have hst : sb < w2.heap.size := t4.lt
  have hp2 := r4.lt
  have hN2 := q6.elim fun _ h => h.1.lt
  have hne : sb ≠ w.heap.size + 1 := by
    intro h
    obtain ⟨c, h1, _⟩ := q6
    rw [← h] at h1
    have e : some (Obj.cells c 54 (0, 0)) = some (.cells (ag T) 66 (0, 0)) := h1.symm.trans t4
    injection e with e
    injection e with _ e
    exact absurd e (by decide)
  have qz : Room (w2.alloc (.cells (ag (Gf.zeros 16)) 23)) w2.heap.size 23 16 := Room.new _ _ _ _ rfl
  have q5 : Row ((w2.alloc (.cells (ag (Gf.zeros 16)) 23)).setRow w2.heap.size (ag S)) w2.heap.size 23 (ag S) := qz.setRow _
  have r3 : Row ((w2.alloc (.cells (ag (Gf.zeros 16)) 23)).setRow w2.heap.size (ag S)) w1.heap.size 52 cp := (r4.alloc _).setRowOther _ _ (by omega)
  have t3 : Row ((w2.alloc (.cells (ag (Gf.zeros 16)) 23)).setRow w2.heap.size (ag S)) sb 66 (ag T) := (t4.alloc _).setRowOther _ _ (by omega)
  have q4 : Room ((w2.alloc (.cells (ag (Gf.zeros 16)) 23)).setRow w2.heap.size (ag S)) (w.heap.size + 1) 54 209 := (q6.alloc _).setRowOther _ _ (by omega)
  have b3 : Below w.heap.size w ((w2.alloc (.cells (ag (Gf.zeros 16)) 23)).setRow w2.heap.size (ag S)) := below_setRow (b4.alloc b4.size _) b4.size _
  clear hb2 r2 t2 q3 b2 q2 hz2 HE t1 q1 b1 r4 t4 q6 b4
  go_upto_region 3 with (first
    | (refine wpList_alloc_row rfl 23 rfl _ _ Tryd.zero23 ?_)
    | (refine wpList_store_row rfl 23 (.tmp 4) (.tmp 9) rfl _ rfl _ rfl _ _ qz Tryd.info23 (by rw [ag_size]; exact lS) (ag_one _) ?_)
    | fail)
  refine wp_region_grow 5 (by kernel_rfl) (by kernel_rfl) (fun a b => Below a.heap.size a b) (fun w3 => Row w3 w1.heap.size 52 cp ∧ Row w3 w2.heap.size 23 (ag S) ∧ Room w3 (w.heap.size + 1) 54 209 ∧ Row w3 sb 66 (ag T) ∧ Below w.heap.size w w3) (fun k w1 v => match k with
    | 0 => v = .agg cp
    | 1 => v = .agg (ag S)
    | 2 => v = .agg (ag S)
    | 3 => v = .agg (ag C)
    | 4 => v = .agg EL
    | _ => True) ?_ ?_ ?_ ?_ ?_
  · rintro a b hb ⟨c1, c2, c3, c4, c5⟩
    exact ⟨c1.below hb c1.lt, c2.below hb c2.lt, c3.below hb (c3.elim fun _ h => h.1.lt), c4.below hb c4.lt, c5.trans (hb.mono c5.size)⟩
  · intro k v w1 w2 hC1 hb h
    match k, h with
    | 0, h => exact h
    | 1, h => exact h
    | 2, h => exact h
    | 3, h => exact h
    | 4, h => exact h
    | k + 5, h => trivial
  · exact ⟨r3.drew, q5.drew, q4.drew, t3.drew, b3.drew⟩
  · refine ⟨?_, ?_, ?_, ?_, ?_, trivial⟩
    · intro f w1 hC hd KK hK
      simp only [List.take_succ_cons, List.take_zero, setAll, List.setIfInBounds_toArray, List.set_cons_succ, List.set_cons_zero, Nat.zero_add, Nat.reduceAdd] at hK ⊢
      refine wp_load_row 52 _ rfl _ rfl _ _ hC.1 _ Tryd.underlying52 rfl 177 Tryd.info52 lcip ?_
      exact hK _ _ rfl (Below.refl _ _)
    · intro f w1 hC hd KK hK
      simp only [List.take_succ_cons, List.take_zero, setAll, List.setIfInBounds_toArray, List.set_cons_succ, List.set_cons_zero, Nat.zero_add, Nat.reduceAdd] at hK ⊢
      refine wp_load_row 23 _ rfl _ rfl _ _ (hC.2.1) _ Tryd.underlying23 rfl 16 Tryd.info23 (by rw [ag_size]; exact lS) ?_
      exact hK _ _ rfl (Below.refl _ _)
    · intro f w1 hC hd KK hK
      simp only [List.take_succ_cons, List.take_zero, setAll, List.setIfInBounds_toArray, List.set_cons_succ, List.set_cons_zero, Nat.zero_add, Nat.reduceAdd] at hK ⊢
      refine wp_load_row 23 _ rfl _ rfl _ _ (hC.2.1) _ Tryd.underlying23 rfl 16 Tryd.info23 (by rw [ag_size]; exact lS) ?_
      exact hK _ _ rfl (Below.refl _ _)
    · intro f w1 hC hd KK hK
      have g2 : f 2 = _ := hd 2 rfl
      simp only [List.take_succ_cons, List.take_zero, setAll, List.setIfInBounds_toArray, List.set_cons_succ, List.set_cons_zero, Nat.zero_add, Nat.reduceAdd, g2] at hK ⊢
      exact wp_call 12 #[.agg (ag S)] (by simp [go_sem]) _ _ (hD _) (fun w' hb => hK _ _ rfl hb)
    · intro f w1 hC hd KK hK
      have g0 : f 0 = _ := hd 0 rfl
      have g1 : f 1 = _ := hd 1 rfl
      have g3 : f 3 = _ := hd 3 rfl
      simp only [List.take_succ_cons, List.take_zero, setAll, List.setIfInBounds_toArray, List.set_cons_succ, List.set_cons_zero, Nat.zero_add, Nat.reduceAdd, g0, g1, g3] at hK ⊢
      exact wp_run _ (build_op 54 _ #[(0, .agg cp), (1, .agg (ag S)), (2, .agg (ag C))] rfl (by simp [Act.eval]) _ _ (HB2.out _)) (hK _ _ rfl (Below.refl _ _))
  · intro f w1 hC hv
    have g0 : f 0 = _ := hv 0 (by decide)
    have g1 : f 1 = _ := hv 1 (by decide)
    have g2 : f 2 = _ := hv 2 (by decide)
    have g3 : f 3 = _ := hv 3 (by decide)
    have g4 : f 4 = _ := hv 4 (by decide)
    simp only [List.take_succ_cons, List.take_zero, List.drop_succ_cons, List.drop_zero, setAll, List.setIfInBounds_toArray, List.set_cons_succ, List.set_cons_zero, Nat.zero_add, Nat.reduceAdd, g0, g1, g2, g3, g4]
    clear g0 g1 g2 g3 g4 hv
    obtain ⟨c1, c2, c3, c4, c5⟩ := hC
    go_wp2_with (first
      | (refine wpList_store_row rfl 54 (.tmp 2) (.tmp 14) rfl _ rfl _ rfl _ _ c3 Tryd.info54 le oe ?_)
      | fail)
    exact bodyPost_ret (results_row rfl _ _ rfl _ _ (c3.setRow _) _ Tryd.underlying54 rfl 209 Tryd.info54 le) rfl ⟨sb, by rw [HELq.out], c4.setRowOther _ _ (by omega), below_setRow c5 (by omega) _⟩
end Go.Proofs.YtmolhljgmaoflaaDoor
