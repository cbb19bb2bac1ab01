/- The walks of firsts and numbers. -/
import Derived.Test.YtcppfoolhkcfaaaU
import Derived.Test.YtcppfoolhkcfaaaS
import Derived.Test.YtcppfoolhkcfaaaT
namespace Go.Proofs.Ytcppfoolhkcfaaa
open Go.RowKit Go.BigFrame

/-! Numbers in a row. -/
def ai (l : List Int) : Array Value := (l.map (Value.int .i64)).toArray
theorem ai_size (l : List Int) : (ai l).size = l.length := by simp [ai]
theorem ai_get {l : List Int} {k : Nat} (h : k < l.length) : (ai l)[k]? = some (.int .i64 (l.getD k 0)) := by simp [ai, h]
theorem ai_set (l : List Int) (k : Nat) (x : Int) : (ai l).setIfInBounds k (.int .i64 x) = ai (l.set k x) := by
  simp only [ai, List.setIfInBounds_toArray, List.map_set]
theorem ai_one (l : List Int) : (ai l).all (·.oneCell') = true := by
  rw [Array.all_eq_true_iff_forall_mem]; intro v hv
  simp only [ai, List.mem_toArray, List.mem_map] at hv
  obtain ⟨x, _, rfl⟩ := hv; rfl
theorem Row.int {w : World} {b : Nat} {t : TypeId} {l : List Int} (h : Row w b t (ai l)) {k : Nat} (hk : k < l.length) : w.cell? ⟨b, k, none⟩ = some (.int .i64 (l.getD k 0)) := by
  rw [h.cell, ai_get hk]
theorem Row.setInt {w : World} {b : Nat} {t : TypeId} {l : List Int} (h : Row w b t (ai l)) (k : Nat) (x : Int) : Row (w.setCell ⟨b, k, none⟩ (.int .i64 x)) b t (ai (l.set k x)) := by
  rw [← ai_set]; exact h.setCell k _

/-! The states of firsts and numbers. -/
def sixteen (f : Nat → Nat) : List Int := (List.range 16).map fun n => (f n : Int)
theorem sixteen_len (f : Nat → Nat) : (sixteen f).length = 16 := by simp [sixteen]
theorem sixteen_get (f : Nat → Nat) (n : Nat) (h : n < 16) : (sixteen f).getD n 0 = (f n : Int) := by simp [sixteen, h]
theorem sixteen_set (f g : Nat → Nat) (n : Nat) (x : Int) (hx : x = (g n : Int)) (hg : ∀ m, m < 16 → m ≠ n → g m = f m) : (sixteen f).set n x = sixteen g := by
  subst hx
  apply List.ext_getElem
  · simp [sixteen]
  · intro m h1 h2
    simp only [sixteen, List.length_set, List.length_map, List.length_range] at h1
    simp only [sixteen, List.getElem_set, List.getElem_map, List.getElem_range]
    split
    · rename_i e; subst e; rfl
    · rename_i e; rw [hg m h1 (Ne.symm e)]
theorem sixteen_zero (f : Nat → Nat) (h : ∀ n, n < 16 → f n = 0) : sixteen f = sixteen fun _ => 0 := by
  unfold sixteen
  apply List.map_congr_left
  intro n hn
  rw [h n (List.mem_range.1 hn)]
def firstTo (l : List Int) (m n : Nat) : Nat := if n ≤ m then Gf.low l n else 0

theorem Try.info78 : (Try.prog.info? 78).map (·.size) = some 16 := by kernel_rfl
theorem Try.zero78 : (Try.prog.info? 78).map (fun i => (i.zero, i.size)) = some (some (.agg (ai (sixteen fun _ => 0))), 16) := by kernel_rfl

set_option maxRecDepth 100000 in
set_option maxHeartbeats 1000000 in
theorem firsts_any (v : Value) (l : List Int) (hA : l.all Gf.lenB = true) (hW : Gf.wgt l ≤ 32768) (h512 : l.length ≤ 512) (w : World) (h : Ints w.heap.size w v l) :
    Calls Try.prog 41 #[v] w fun e w' => e = .returned (.agg (ai (sixteen (Gf.low l)))) ∧ Below w.heap.size w w' := by
  obtain ⟨a, c, rfl, hc, h3⟩ := h
  have HCL := Box'.mk (Ints.cells h3)
  have AG := Box'.mk (Gf.all_get Gf.lenB l hA)
  have HA := Box'.mk hA
  have EB : Box' (∀ n k, n ≤ 15 → k ≤ l.length → Gf.low l n + Gf.eqk l n k ≤ 32768) := ⟨fun n k h1 h2 => Nat.le_trans (Gf.nxt_le l hA n k h1 h2) hW⟩
  have ES : Box' (∀ k, k < l.length → (sixteen fun n => Gf.eqk l n k).set (Gf.ln l k) ((Gf.eqk l (Gf.ln l k) k : Int) + (Gf.shr (l.getD k 0) : Nat)) = sixteen fun n => Gf.eqk l n (k + 1)) := ⟨fun k hk => by
    have hl := Gf.ln_le l hA k
    apply sixteen_set
    · rw [Gf.eqk_succ l _ k hk, if_pos hl.2, hl.2]; omega
    · intro m _ hm
      rw [Gf.eqk_succ l _ k hk, if_neg (by rw [hl.2]; omega)]; omega⟩
  have LN : Box' (∀ k, l.getD k 0 = (Gf.ln l k : Int) ∧ Gf.ln l k ≤ 15) := ⟨fun k => ⟨(Gf.ln_le l hA k).2, (Gf.ln_le l hA k).1⟩⟩
  have E0 : Box' ((sixteen fun n => Gf.eqk l n 0) = sixteen fun _ => 0) := ⟨sixteen_zero _ fun n _ => Gf.eqk_zero l n⟩
  have F0 : Box' (sixteen (firstTo l 0) = sixteen fun _ => 0) := ⟨sixteen_zero _ fun n _ => by
    unfold firstTo
    split
    · rename_i hh; have : n = 0 := by omega
      subst this; exact Gf.low_zero l hA
    · rfl⟩
  have F15 : Box' (sixteen (firstTo l 15) = sixteen (Gf.low l)) := ⟨by
    unfold sixteen
    apply List.map_congr_left
    intro n hn
    have := List.mem_range.1 hn
    unfold firstTo; rw [if_pos (by omega)]⟩
  have FS : Box' (∀ m, m < 15 → (sixteen (firstTo l m)).set (m + 1) ((Gf.low l m : Int) + (Gf.eqk l m l.length : Int)) = sixteen (firstTo l (m + 1))) := ⟨fun m hm => by
    apply sixteen_set
    · unfold firstTo; rw [if_pos (Nat.le_refl _), Gf.low_succ]; omega
    · intro j _ hj
      unfold firstTo
      by_cases h1 : j ≤ m
      · rw [if_pos h1, if_pos (by omega)]
      · rw [if_neg h1, if_neg (by omega)]⟩
  have FG : Box' (∀ m, m ≤ 15 → (sixteen (firstTo l m)).getD m 0 = (Gf.low l m : Int)) := ⟨fun m hm => by rw [sixteen_get _ _ (by omega)]; unfold firstTo; rw [if_pos (Nat.le_refl _)]⟩
  generalize hn : l.length = n at *
  clear h3 hn hA hW
  go_enter Try.func41, Try.ntmps41
  go_wp2_with (refine wpList_alloc_row rfl 78 rfl _ _ Try.zero78 ?_)
  go_loopw [10] (fun i wr => ∃ k : Nat, k ≤ n ∧ i = .int .i64 (k : Int) ∧ Row wr (w.heap.size + 1) 78 (ai (sixteen fun m => Gf.eqk l m k)) ∧ Row wr (w.heap.size + 2) 78 (ai (sixteen fun _ => 0)) ∧ Room wr w.heap.size 78 16 ∧ Below w.heap.size w wr) (fun i _ => n - (intOf i).toNat)
  case atStart =>
    refine ⟨0, by omega, rfl, ?_, ?_, ?_, ?_⟩
    · rw [E0.out]; exact (Row.made _ _ _ _ _ rfl (by simp)).alloc _
    · exact Row.made _ _ _ _ _ rfl (by simp)
    · exact ((Room.new _ _ _ _ rfl).alloc _).alloc _
    · exact (((Below.refl _ _).alloc (Nat.le_refl _) _).alloc (by simp) _).alloc (by simp; omega) _
  case round =>
    obtain ⟨k, hk, rfl, r1, r2, r3, hbl⟩ := hrel
    by_cases hlt : k < n
    · obtain ⟨b, o, rfl, hbw, c0⟩ := HCL.out k hlt
      have ESk := Box'.mk (ES.out k hlt)
      have hs := fun w => share_any _ (AG.out k hlt) w
      obtain ⟨hx, hx15⟩ := LN.out k
      have hsl := Gf.shr_le (l.getD k 0)
      have hEB := EB.out (Gf.ln l k) k hx15 (by omega)
      obtain ⟨hc0, -⟩ := bcell hbl
      rw [← hc0 _ _ hbw, hx] at c0
      have cT := r1.int (k := Gf.ln l k) (by rw [sixteen_len]; omega)
      rw [sixteen_get _ _ (by omega)] at cT
      have fT := r1.frozen (Gf.ln l k)
      rw [hx] at hs hsl ESk
      generalize Gf.shr ((Gf.ln l k : Nat) : Int) = y at *
      generalize hsx : Gf.ln l k = s at *
      generalize hex : Gf.eqk l s k = x at *
      clear HCL AG ES LN E0 F0 F15 FS FG EB hc0 hsx hex hx
      go_wp2_with fail
      refine wp_region_tail 6 (by kernel_rfl) (by kernel_rfl) ?_
      simp only [List.take_succ_cons, List.take_zero, List.drop_succ_cons, List.drop_zero]
      repeat (first | go_big_quiet_step (fail) | (go_big_quiet_want; go_big_quiet_op; refine ⟨_, hs _, ?_⟩; go_big_quiet_on))
      refine wpQuiet_nil ?_
      go_wp2_with fail
      refine ⟨⟨k + 1, by omega, by go_num, ?_, ?_, ?_, ?_⟩, by simp [intOf]; omega⟩
      · have := (r1.drew).setInt s ((x : Int) + (y : Int))
        rw [ESk.out] at this
        exact this
      · exact r2.drew.setOther _ _ (by simp)
      · exact r3.drew.setOther _ _ (by simp)
      · exact hbl.drew.setCell (by simp) _
    · obtain rfl : k = n := by omega
      clear HCL AG ES E0
      go_wp2_with fail
      go_loopw [7] (fun i wr => ∃ m : Nat, 1 ≤ m ∧ m ≤ 16 ∧ i = .int .i64 (m : Int) ∧ Row wr (w.heap.size + 1) 78 (ai (sixteen fun j => Gf.eqk l j k)) ∧ Row wr (w.heap.size + 2) 78 (ai (sixteen (firstTo l (m - 1)))) ∧ Room wr w.heap.size 78 16 ∧ Below w.heap.size w wr) (fun i _ => 16 - (intOf i).toNat)
      case atStart => exact ⟨1, by omega, by omega, rfl, r1, by rw [F0.out]; exact r2, r3, hbl⟩
      case round =>
        clear r1 r2 r3 hbl
        obtain ⟨m, hm1, hm2, rfl, r1, r2, r3, hbl⟩ := hrel
        by_cases hlt : m ≤ 15
        · obtain ⟨m, rfl⟩ : ∃ j, m = j + 1 := ⟨m - 1, by omega⟩
          rw [Nat.add_sub_cancel] at r2
          have FSm := Box'.mk (FS.out m (by omega))
          have cF := r2.int (k := m) (by rw [sixteen_len]; omega)
          rw [FG.out m (by omega)] at cF
          have cT := r1.int (k := m) (by rw [sixteen_len]; omega)
          rw [sixteen_get _ _ (by omega)] at cT
          have fF := r2.frozen (m + 1)
          have cG := r2.int (k := m + 1) (by rw [sixteen_len]; omega)
          rw [show w.heap.size + 2 = w.heap.size + 1 + 1 from rfl] at fF cG cF
          have hEB := EB.out m k (by omega) (by omega)
          generalize Gf.low l m = x at *
          generalize Gf.eqk l m k = y at *
          clear F0 F15 FS FG EB LN
          go_wp2_with fail
          refine wp_region_tail 10 (by kernel_rfl) (by kernel_rfl) ?_
          simp only [List.take_succ_cons, List.take_zero, List.drop_succ_cons, List.drop_zero]
          repeat (go_big_quiet_step (fail))
          refine wpQuiet_nil ?_
          go_wp2_with fail
          refine ⟨⟨m + 2, by omega, by omega, by go_num, ?_, ?_, ?_, ?_⟩, by simp [intOf]; omega⟩
          · exact r1.drew.setOther _ _ (by show w.heap.size + 1 ≠ w.heap.size + 1 + 1; omega)
          · have := (r2.drew).setInt (m + 1) ((x : Int) + (y : Int))
            rw [FSm.out] at this
            exact this
          · exact r3.drew.setOther _ _ (by show w.heap.size ≠ w.heap.size + 1 + 1; omega)
          · exact hbl.drew.setCell (by show w.heap.size ≤ w.heap.size + 1 + 1; omega) _
        · obtain rfl : m = 16 := by omega
          have r2' : Row wr (w.heap.size + 2) 78 (ai (sixteen (Gf.low l))) := by rw [← F15.out]; exact r2
          have hsz : (ai (sixteen (Gf.low l))).size = 16 := by rw [ai_size, sixteen_len]
          have h1 := ai_one (sixteen (Gf.low l))
          generalize hZ : ai (sixteen (Gf.low l)) = Z at *
          clear F0 F15 FS FG EB LN r2
          go_wp2_with (first
            | (refine wpList_load_row rfl 78 _ rfl _ rfl _ _ r2' _ Try.underlying78 rfl 16 Try.info78 hsz ?_)
            | (refine wpList_store_row rfl 78 _ _ rfl _ rfl _ rfl _ _ r3 Try.info78 hsz h1 ?_))
          exact bodyPost_ret (results_row rfl _ _ rfl _ _ (r3.setRow _) _ Try.underlying78 rfl 16 Try.info78 hsz) rfl ⟨by rw [hZ], below_setRow hbl (by omega) _⟩
end Go.Proofs.Ytcppfoolhkcfaaa
