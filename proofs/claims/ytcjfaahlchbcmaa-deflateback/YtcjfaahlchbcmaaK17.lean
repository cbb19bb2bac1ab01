/- The walk of the reference's Fixed. -/
import Derived.Test.YtcjfaahlchbcmaaK09
import Derived.Test.YtcjfaahlchbcmaaK13
import Derived.Test.YtcjfaahlchbcmaaK05
import Derived.Test.YtcjfaahlchbcmaaK01
namespace Go.Proofs.Ytcjfaahlchbcmaa
open Go.RowKit Go.BigFrame
set_option linter.unusedSimpArgs false
theorem wp_makeI {op : Oper} {a : Act} {w : World} {K : Act → World → Prop} {Q : Exit → Act → World → Prop} (x y : Operand) (ho : op.op = .makeSlice 63 x y) (L C : Int) (n : Nat) (hx : a.eval x = .int .i64 L) (hy : a.eval y = .int .i64 C) (hL : L = (n : Int)) (hC : C = (n : Int)) (hn : n ≤ 65536)
    (h : K (a.put op.dst (.slice (some ⟨w.heap.size, 0, none⟩) n n)) (w.alloc (.cells (ai (List.replicate n 0)) 3))) : op.wp Try.prog a w K Q := by
  obtain ⟨i, h1, h2, h3, h4⟩ := Try.info3'
  have hrun := run_make (P := Try.prog) w 63 3 i _ Try.underlying63 h1 h2 .i64 .i64 (n : Int) (n : Int) (by omega) (Int.le_refl _) (by rw [h4]; omega) (by omega)
  rw [h3, Int.toNat_natCast, Nat.mul_one, show (Value.int .i64 0).cells = #[.int .i64 0] from rfl, made_ints] at hrun
  subst hL hC
  unfold Oper.wp
  simp only [execOp, ho, hx, hy, Sem.run_bind, hrun, Result.andThen_ok]
  exact h
def fixV (i : Nat) : Int := if 255 < i ∧ i < 280 then 7 else if 143 < i ∧ i < 256 then 9 else 8
theorem fixV_all : fixS = (List.range 288).map fixV := by decide +kernel
def fixK (k : Nat) : List Int := (List.range 288).map fun i => if i < k then fixV i else 0
theorem fixK_zero : fixK 0 = List.replicate 288 0 := by decide +kernel
theorem fixK_all : fixK 288 = fixS := by
  rw [fixV_all]
  unfold fixK
  exact List.map_congr_left fun i hi => if_pos (List.mem_range.1 hi)
theorem fixK_len (k : Nat) : (fixK k).length = 288 := by simp [fixK]
theorem fixK_set (k : Nat) (h : k < 288) : (fixK k).set k (fixV k) = fixK (k + 1) := by
  apply List.ext_getElem?
  intro i
  unfold fixK
  rw [List.getElem?_set]
  by_cases e : k = i
  · subst e
    simp [h]
  · rw [if_neg e]
    by_cases hi : i < 288
    · have : i < k + 1 ↔ i < k := by omega
      simp [hi, this]
    · simp [hi]
set_option maxRecDepth 100000 in
set_option maxHeartbeats 2000000 in
theorem refFixed_any (w : World) : Calls Try.prog 28 #[] w fun e w' => ∃ g h, e = .returned (.tuple #[.slice (some ⟨g, 0, none⟩) 288 288, .slice (some ⟨h, 0, none⟩) 30 30]) ∧ w.heap.size ≤ g ∧ SegI w' g fixS ∧ w.heap.size ≤ h ∧ SegI w' h fixD ∧ Below w.heap.size w w' := by
  go_enter Try.func28, Try.ntmps28
  go_wp2_with fail
  refine wp_region_grow 4 (by kernel_rfl) (by kernel_rfl) (fun w1 w2 => Below w1.heap.size w1 w2) (fun w1 => Below w.heap.size w w1) (fun k w1 v => match k with
    | 0 => ∃ blk, v = .slice (some ⟨blk, 0, none⟩) 288 288 ∧ w.heap.size ≤ blk ∧ Row w1 blk 3 (ai (List.replicate 288 0))
    | 1 => ∃ blk, v = .slice (some ⟨blk, 0, none⟩) 30 30 ∧ w.heap.size ≤ blk ∧ Row w1 blk 3 (ai (List.replicate 30 0))
    | 2 => ∃ blk, v = .slice (some ⟨blk, 0, none⟩) 288 288 ∧ w.heap.size ≤ blk ∧ Row w1 blk 3 (ai (List.replicate 288 0))
    | 3 => ∃ blk, v = .slice (some ⟨blk, 0, none⟩) 30 30 ∧ w.heap.size ≤ blk ∧ Row w1 blk 3 (ai (List.replicate 30 0))
    | _ => True) ?_ ?_ ?_ ?_ ?_
  · rintro w1 w2 hb q2
    exact q2.trans (hb.mono q2.size)
  · intro k v w1 w2 hC1 hb h
    match k, h with
    | 0, ⟨blk, e1, e2, r1⟩ => exact ⟨blk, e1, e2, r1.below hb r1.lt⟩
    | 1, ⟨blk, e1, e2, r1⟩ => exact ⟨blk, e1, e2, r1.below hb r1.lt⟩
    | 2, ⟨blk, e1, e2, r1⟩ => exact ⟨blk, e1, e2, r1.below hb r1.lt⟩
    | 3, ⟨blk, e1, e2, r1⟩ => exact ⟨blk, e1, e2, r1.below hb r1.lt⟩
    | k + 4, h => trivial
  · exact (Below.refl _ _).drew
  · refine ⟨?_, ?_, ?_, ?_, trivial⟩
    · intro f w1 hC hd KK hK
      simp only [List.take_succ_cons, List.take_zero, setAll, List.setIfInBounds_toArray, List.set_cons_succ, List.set_cons_zero, Nat.zero_add, Nat.reduceAdd] at hK ⊢
      refine wp_makeI _ _ rfl _ _ 288 rfl rfl rfl rfl (by decide) ?_
      exact hK _ _ ⟨_, rfl, hC.size, Row.new _ _ _⟩ ((Below.refl _ _).alloc (Nat.le_refl _) _)
    · intro f w1 hC hd KK hK
      simp only [List.take_succ_cons, List.take_zero, setAll, List.setIfInBounds_toArray, List.set_cons_succ, List.set_cons_zero, Nat.zero_add, Nat.reduceAdd] at hK ⊢
      refine wp_makeI _ _ rfl _ _ 30 rfl rfl rfl rfl (by decide) ?_
      exact hK _ _ ⟨_, rfl, hC.size, Row.new _ _ _⟩ ((Below.refl _ _).alloc (Nat.le_refl _) _)
    · intro f w1 hC hd KK hK
      obtain ⟨blk, g0, e2, r1⟩ := hd 0 rfl
      simp only [List.take_succ_cons, List.take_zero, setAll, List.setIfInBounds_toArray, List.set_cons_succ, List.set_cons_zero, Nat.zero_add, Nat.reduceAdd, g0] at hK ⊢
      refine wp_of_quiet rfl ?_
      go_big_quiet_step (fail)
      exact wpQuiet_nil (hK _ _ ⟨blk, rfl, e2, r1⟩ (Below.refl _ _))
    · intro f w1 hC hd KK hK
      obtain ⟨blk, g1, e2, r1⟩ := hd 1 rfl
      simp only [List.take_succ_cons, List.take_zero, setAll, List.setIfInBounds_toArray, List.set_cons_succ, List.set_cons_zero, Nat.zero_add, Nat.reduceAdd, g1] at hK ⊢
      refine wp_of_quiet rfl ?_
      go_big_quiet_step (fail)
      exact wpQuiet_nil (hK _ _ ⟨blk, rfl, e2, r1⟩ (Below.refl _ _))
  · intro f w1 hC hv
    have p0 : ∃ blk, f 2 = .slice (some ⟨blk, 0, none⟩) 288 288 ∧ w.heap.size ≤ blk ∧ Row w1 blk 3 (ai (List.replicate 288 0)) := hv 2 (by decide)
    have p1 : ∃ blk, f 3 = .slice (some ⟨blk, 0, none⟩) 30 30 ∧ w.heap.size ≤ blk ∧ Row w1 blk 3 (ai (List.replicate 30 0)) := hv 3 (by decide)
    simp only [List.take_succ_cons, List.take_zero, List.drop_succ_cons, List.drop_zero, setAll, List.setIfInBounds_toArray, List.set_cons_succ, List.set_cons_zero, Nat.zero_add, Nat.reduceAdd]
    clear hv
    cases p0 with
    | intro gs p0 =>
    cases p1 with
    | intro gd p1 =>
    have g0 := p0.1
    have g1 := p1.1
    have hgs := p0.2.1
    have hgd := p1.2.1
    have rs := p0.2.2
    have rd := p1.2.2
    rw [g0, g1]
    clear p0 p1 g0 g1
    have hne : gs ≠ gd := by
      rintro rfl
      unfold Row at rs rd
      rw [rs] at rd
      have e := congrArg (fun o : Option Obj => match o with | some (.cells x _ _) => x.size | _ => 0) rd
      simp [ai] at e
    have FS := Box'.mk fixK_set
    have FA := Box'.mk fixK_all
    have FL := Box'.mk fixK_len
    have RS := Box'.mk (rep_step 5 30)
    have HNE := Box'.mk hne
    rw [← fixK_zero] at rs
    generalize f 0 = f0 at *
    generalize f 1 = f1 at *
    go_wp2_with fail
    go_loopw [4] (fun i wr => ∃ k : Nat, k ≤ 288 ∧ i = .int .i64 (k : Int) ∧ Row wr gs 3 (ai (fixK k)) ∧ Row wr gd 3 (ai (List.replicate 30 0)) ∧ Below w.heap.size w wr) (fun i _ => 288 - (intOf i).toNat)
    case atStart => exact ⟨0, by omega, rfl, rs, rd, hC⟩
    case round =>
      clear rs rd hC
      obtain ⟨k, hk, rfl, rs, rd, hbl⟩ := hrel
      by_cases hlt : k < 288
      · have c0 : wr.cell? ⟨gs, k, none⟩ = some (.int .i64 ((fixK k).getD k 0)) := by rw [rs.cell]; exact ai_get (by rw [FL.out]; exact hlt)
        have f0 := rs.frozen k
        have s8 := rs.setCell k (.int .i64 8)
        have d8 : Row (wr.setCell ⟨gs, k, none⟩ (.int .i64 8)) gd 3 (ai (List.replicate 30 0)) := rd.same (Below.heap_setCell _ _ _ _ (fun e => HNE.out e.symm))
        have b8 := hbl.setCell (p := ⟨gs, k, none⟩) hgs (.int .i64 8)
        have c8 : (wr.setCell ⟨gs, k, none⟩ (.int .i64 8)).cell? ⟨gs, k, none⟩ = some (.int .i64 8) := by rw [s8.cell, ai_set]; rw [ai_get (by rw [List.length_set, FL.out]; exact hlt)]; simp [FL.out, hlt]
        have f8 := s8.frozen k
        have FSk := FS.out k hlt
        generalize (fixK k).getD k 0 = y at *
        by_cases h1 : 255 < k ∧ k < 280
        · have hv : fixV k = 7 := if_pos h1
          obtain ⟨h11, h12⟩ := h1
          have s7 := s8.setCell k (.int .i64 7)
          rw [ai_set, ai_set, List.set_set, ← hv, FSk, hv] at s7
          have d7 : Row ((wr.setCell ⟨gs, k, none⟩ (.int .i64 8)).setCell ⟨gs, k, none⟩ (.int .i64 7)) gd 3 (ai (List.replicate 30 0)) := d8.same (Below.heap_setCell _ _ _ _ (fun e => HNE.out e.symm))
          have b7 := b8.setCell (p := ⟨gs, k, none⟩) hgs (.int .i64 7)
          have S7 := Box'.mk s7
          have D7 := Box'.mk d7
          clear FS FA FL RS s8 d8 rs rd FSk hv s7 d7
          go_wp2_with fail
          exact ⟨⟨k + 1, by omega, by go_num, S7.out, D7.out, b7⟩, by simp [intOf]; omega⟩
        · by_cases h2 : 143 < k ∧ k < 256
          · have hv : fixV k = 9 := by unfold fixV; rw [if_neg h1, if_pos h2]
            obtain ⟨h21, h22⟩ := h2
            have h3 : ¬ 255 < k := by omega
            have s7 := s8.setCell k (.int .i64 9)
            rw [ai_set, ai_set, List.set_set, ← hv, FSk, hv] at s7
            have d7 : Row ((wr.setCell ⟨gs, k, none⟩ (.int .i64 8)).setCell ⟨gs, k, none⟩ (.int .i64 9)) gd 3 (ai (List.replicate 30 0)) := d8.same (Below.heap_setCell _ _ _ _ (fun e => HNE.out e.symm))
            have b7 := b8.setCell (p := ⟨gs, k, none⟩) hgs (.int .i64 9)
            have S7 := Box'.mk s7
            have D7 := Box'.mk d7
            clear FS FA FL RS s8 d8 rs rd FSk hv s7 d7 h1
            go_wp2_with fail
            exact ⟨⟨k + 1, by omega, by go_num, S7.out, D7.out, b7⟩, by simp [intOf]; omega⟩
          · have hv : fixV k = 8 := by unfold fixV; rw [if_neg h1, if_neg h2]
            rw [ai_set, ← hv, FSk, hv] at s8
            have S7 := Box'.mk s8
            have D7 := Box'.mk d8
            clear FS FA FL RS s8 d8 rs rd FSk hv
            by_cases h3 : k ≤ 143
            · clear h1 h2
              go_wp2_with fail
              exact ⟨⟨k + 1, by omega, by go_num, S7.out, D7.out, b8⟩, by simp [intOf]; omega⟩
            · have h4 : 280 ≤ k := by omega
              clear h1 h2 h3
              go_wp2_with fail
              exact ⟨⟨k + 1, by omega, by go_num, S7.out, D7.out, b8⟩, by simp [intOf]; omega⟩
      · obtain rfl : k = 288 := by omega
        rw [FA.out] at rs
        have rs := rs.seg
        clear FS FA FL
        go_wp2_with fail
        go_loopw [5] (fun i wr => ∃ k : Nat, k ≤ 30 ∧ i = .int .i64 (k : Int) ∧ SegI wr gs fixS ∧ Row wr gd 3 (ai (List.replicate k 5 ++ List.replicate (30 - k) 0)) ∧ Below w.heap.size w wr) (fun i _ => 30 - (intOf i).toNat)
        case atStart => exact ⟨0, by omega, rfl, rs, by simpa using rd, hbl⟩
        case round =>
          clear rs rd hbl
          obtain ⟨k, hk, rfl, rs, rd, hbl⟩ := hrel
          by_cases hlt : k < 30
          · have c0 : wr.cell? ⟨gd, k, none⟩ = some (.int .i64 ((List.replicate k (5 : Int) ++ List.replicate (30 - k) 0).getD k 0)) := by rw [rd.cell]; exact ai_get (l := List.replicate k 5 ++ List.replicate (30 - k) 0) (k := k) (by rw [List.length_append, List.length_replicate, List.length_replicate]; omega)
            have f0 := rd.frozen k
            have s5 := rd.setCell k (.int .i64 5)
            rw [ai_set, RS.out k hlt] at s5
            have d5 : SegI (wr.setCell ⟨gd, k, none⟩ (.int .i64 5)) gs fixS := rs.same (Below.heap_setCell _ _ _ _ HNE.out)
            have b5 := hbl.setCell (p := ⟨gd, k, none⟩) hgd (.int .i64 5)
            generalize (List.replicate k (5 : Int) ++ List.replicate (30 - k) 0).getD k 0 = y at *
            have S5 := Box'.mk s5
            have D5 := Box'.mk d5
            clear RS s5 d5 rs rd
            go_wp2_with fail
            exact ⟨⟨k + 1, by omega, by go_num, D5.out, S5.out, b5⟩, by simp [intOf]; omega⟩
          · obtain rfl : k = 30 := by omega
            have rd2 : SegI wr gd fixD := by
              have : Row wr gd 3 (ai fixD) := by simpa [fixD] using rd
              exact this.seg
            have R1 := Box'.mk rs
            have R2 := Box'.mk rd2
            clear RS rd rs rd2
            go_wp2_with fail
            go_ret2
            exact ⟨gs, gd, rfl, hgs, R1.out, hgd, R2.out, hbl⟩
end Go.Proofs.Ytcjfaahlchbcmaa
