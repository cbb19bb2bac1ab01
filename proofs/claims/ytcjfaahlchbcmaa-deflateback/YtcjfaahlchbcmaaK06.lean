/- The walks of the reference's Weight and Bad, and of the counts and costs, the program's and the reference's. -/
import Derived.Test.YtcjfaahlchbcmaaK01
import Derived.Test.YtcjfaahlchbcmaaK05
import Derived.Test.YtcjfaahlchbcmaaK02
import Derived.StillTail
import Derived.BigQuiet
import Derived.Deep.MidRow
namespace Go.Proofs.Ytcjfaahlchbcmaa
open Go.RowKit Go.BigFrame
theorem wgt_cases (l : List Int) : (l.all Gf.lenB = false → Gf.wgtE l = 2 ∧ Gf.wgtN l = 0) ∧ (l.all Gf.lenB = true → 512 < l.length → Gf.wgtE l = 4 ∧ Gf.wgtN l = 0) ∧ (l.all Gf.lenB = true → ¬ 512 < l.length → Gf.wgtE l = 0 ∧ Gf.wgtN l = Gf.wgt l) := by
  refine ⟨fun h => ?_, fun h h1 => ?_, fun h h1 => ?_⟩
  · have e : Gf.wgtE l = 2 := if_pos h
    exact ⟨e, by unfold Gf.wgtN; rw [e]; rfl⟩
  · have e : Gf.wgtE l = 4 := by unfold Gf.wgtE; rw [if_neg (by simp [h]), if_pos h1]
    exact ⟨e, by unfold Gf.wgtN; rw [e]; rfl⟩
  · have e : Gf.wgtE l = 0 := by unfold Gf.wgtE; rw [if_neg (by simp [h]), if_neg h1]
    exact ⟨e, by unfold Gf.wgtN; rw [e]; rfl⟩
theorem lenB_nat {x : Int} (h : Gf.lenB x = true) : ∃ n : Nat, x = (n : Int) ∧ n ≤ 15 := by
  have := of_decide_eq_true h
  exact ⟨x.toNat, by omega, by omega⟩
theorem lenB_not {x : Int} (h : Gf.lenB x = false) : x < 0 ∨ (¬ x < 0 ∧ 15 < x) := by
  have := of_decide_eq_false h
  omega
set_option maxHeartbeats 1000000 in
theorem refWeight_any (v : Value) (l : List Int) (hl : l.length ≤ 17592186044416) (w : World) (h : Ints w.heap.size w v l) :
    Calls Try.prog 68 #[v] w fun e w' => e = .returned (.tuple #[.int .i64 ((Gf.wgtN l : Nat) : Int), .int .i64 (Gf.wgtE l)]) ∧ w' = w := by
  obtain ⟨a, c, rfl, hc, h3⟩ := h
  have HCL := Box'.mk (Ints.cells h3)
  have TT := Box'.mk (Gf.wgt_take l)
  have AT := Box'.mk (Gf.all_take Gf.lenB l)
  have AN := Box'.mk (Gf.all_not Gf.lenB l)
  have WC := Box'.mk (wgt_cases l)
  have LE : Box' (l.take l.length = l) := ⟨List.take_length⟩
  generalize hn : l.length = n at *
  clear h3 hn
  go_enter Try.func68, Try.ntmps68
  go_wp2_with fail
  go_loop [4, 5] (fun t i => ∃ k m : Nat, k ≤ n ∧ i = .int .i64 (k : Int) ∧ t = .int .i64 (m : Int) ∧ m ≤ 32768 * k ∧ Box' (m = Gf.wgt (l.take k)) ∧ Box' ((l.take k).all Gf.lenB = true)) (fun _ i => n - (intOf i).toNat)
  case atStart => exact ⟨0, 0, by omega, rfl, rfl, by omega, ⟨by simp [Gf.wgt]⟩, ⟨by simp⟩⟩
  case round =>
    obtain ⟨k, m, hk, rfl, rfl, hm, HM, HA⟩ := hrel
    by_cases hlt : k < n
    · obtain ⟨b, o, rfl, hbw, c0⟩ := HCL.out k hlt
      have TK := Box'.mk (TT.out k hlt)
      have AK := Box'.mk (AT.out k hlt HA.out)
      have NK := Box'.mk (AN.out k hlt)
      have hsl := Gf.shr_le (l.getD k 0)
      generalize l.getD k 0 = x at *
      cases hx : Gf.lenB x with
      | false =>
        have e2 := Box'.mk (WC.out.1 (NK.out hx))
        clear HCL TT AT AN NK AK WC hsl TK
        rcases lenB_not hx with h1 | ⟨h1, h2⟩
        · clear hx
          go_wp2_with fail
          go_ret2
          exact ⟨by rw [e2.out.1, e2.out.2]; rfl, rfl⟩
        · clear hx
          go_wp2_with fail
          go_ret2
          exact ⟨by rw [e2.out.1, e2.out.2]; rfl, rfl⟩
      | true =>
        have AK2 := Box'.mk (AK.out hx)
        obtain ⟨s, rfl, hs⟩ := lenB_nat hx
        clear hx
        by_cases h0 : s = 0
        · subst h0
          clear HCL TT AT AN NK WC
          go_wp2_with fail
          refine ⟨⟨k + 1, m, by omega, by go_num, rfl, by omega, ⟨by rw [TK.out, HM.out]; rfl⟩, ⟨AK2.out⟩⟩, by simp [intOf]; omega⟩
        · have E := Box'.mk (shl_shr s hs h0)
          have i0 : (0 : Int) < (s : Int) := by omega
          have hE : (wrap64 (2 ^ (15 - s)) : Int) ≤ 32768 := by rw [E.out]; omega
          have hE2 : 0 ≤ (wrap64 (2 ^ (15 - s)) : Int) := by rw [E.out]; omega
          clear HCL TT AT AN NK WC
          go_wp2_with fail
          refine ⟨⟨k + 1, m + Gf.shr (s : Int), by omega, by go_num, ?_, by omega, ⟨by rw [TK.out, HM.out]⟩, ⟨AK2.out⟩⟩, by simp [intOf]; omega⟩
          rw [E.out]; go_num
    · obtain rfl : k = n := by omega
      have h1 := HM.out
      have hA := HA.out
      rw [LE.out] at h1 hA
      by_cases h5 : 512 < k
      · have e5 := Box'.mk (WC.out.2.1 hA h5)
        have e6 : (512 : Int) < (k : Int) := by omega
        clear hA HCL AT AN WC HA TT h1 HM
        go_wp2_with fail
        go_ret2
        exact ⟨by rw [e5.out.1, e5.out.2]; rfl, rfl⟩
      · have e5 := Box'.mk (WC.out.2.2 hA h5)
        have e6 : ¬ (512 : Int) < (k : Int) := by omega
        clear hA HCL AT AN WC HA TT HM
        go_wp2_with fail
        go_ret2
        exact ⟨by rw [e5.out.1, e5.out.2]; rfl, rfl⟩
set_option maxHeartbeats 1000000 in
theorem refBad_any (v : Value) (l : List Int) (hl : l.length ≤ 17592186044416) (w : World) (h : Ints w.heap.size w v l) :
    Calls Try.prog 52 #[v] w fun e w' => e = .returned (.int .i64 (Gf.chkE l)) ∧ w' = w := by
  have hw := refWeight_any v l hl w h
  obtain ⟨a, c, rfl, hc, h3⟩ := h
  have CC := Gf.chkE_cases l
  have WC := wgt_cases l
  by_cases hA : l.all Gf.lenB = true
  · by_cases h5 : 512 < l.length
    · obtain ⟨w1, w2⟩ := WC.2.1 hA h5
      rw [w1, w2] at hw
      have HCL := Box'.mk (Ints.cells h3)
      have TT := Box'.mk (Gf.wgt_take l)
      have AG := Box'.mk (Gf.all_get Gf.lenB l hA)
      have LE : Box' (l.take l.length = l) := ⟨List.take_length⟩
      have C1 : Box' (if 32768 < Gf.wgt l then Gf.chkE l = 2 else Gf.chkE l = 4) := ⟨by
        unfold Gf.chkE
        split
        · rename_i hh; rw [if_pos (.inr hh)]
        · rename_i hh
          have hh2 : ¬ (l.all Gf.lenB = false ∨ 32768 < Gf.wgt l) := by simp [hA]; omega
          simp only [hh2, if_false]⟩
      generalize hn : l.length = n at *
      clear h3 hn CC WC hA w1 w2
      go_enter Try.func52, Try.ntmps52
      go_wp2_with (go_at_call 68; refine hw.mono ?_; rintro e w' ⟨rfl, rfl⟩)
      go_loop [3, 5] (fun t i => ∃ k m : Nat, k ≤ n ∧ i = .int .i64 (k : Int) ∧ t = .int .i64 (m : Int) ∧ m ≤ 32768 * k ∧ Box' (m = Gf.wgt (l.take k))) (fun _ i => n - (intOf i).toNat)
      case atStart => exact ⟨0, 0, by omega, rfl, rfl, by omega, ⟨by simp [Gf.wgt]⟩⟩
      case round =>
        obtain ⟨k, m, hk, rfl, rfl, hm, HM⟩ := hrel
        by_cases hlt : k < n
        · obtain ⟨b, o, rfl, hbw, c0⟩ := HCL.out k hlt
          have TK := Box'.mk (TT.out k hlt)
          have hsl := Gf.shr_le (l.getD k 0)
          have hx := AG.out k hlt
          generalize l.getD k 0 = x at *
          obtain ⟨s, rfl, hs⟩ := lenB_nat hx
          clear hx hw
          by_cases h0 : s = 0
          · subst h0
            clear HCL TT AG
            go_wp2_with fail
            refine ⟨⟨k + 1, m, by omega, by go_num, rfl, by omega, ⟨by rw [TK.out, HM.out]; rfl⟩⟩, by simp [intOf]; omega⟩
          · have E := Box'.mk (shl_shr s hs h0)
            have i0 : (0 : Int) < (s : Int) := by omega
            have hE : (wrap64 (2 ^ (15 - s)) : Int) ≤ 32768 := by rw [E.out]; omega
            have hE2 : 0 ≤ (wrap64 (2 ^ (15 - s)) : Int) := by rw [E.out]; omega
            clear HCL TT AG
            go_wp2_with fail
            refine ⟨⟨k + 1, m + Gf.shr (s : Int), by omega, by go_num, ?_, by omega, ⟨by rw [TK.out, HM.out]⟩⟩, by simp [intOf]; omega⟩
            rw [E.out]; go_num
        · obtain rfl : k = n := by omega
          have h1 := HM.out
          rw [LE.out] at h1
          by_cases h6 : 32768 < m
          · have e1 : Box' (Gf.chkE l = 2) := ⟨by have := C1.out; rw [if_pos (by omega)] at this; exact this⟩
            have i6 : (32768 : Int) < (m : Int) := by omega
            clear HCL TT AG HM h1 C1 hw
            go_wp2_with fail
            go_ret
            exact ⟨by rw [e1.out]; rfl, rfl⟩
          · have e1 : Box' (Gf.chkE l = 4) := ⟨by have := C1.out; rw [if_neg (by omega)] at this; exact this⟩
            have i6 : ¬ (32768 : Int) < (m : Int) := by omega
            clear HCL TT AG HM h1 C1 hw
            go_wp2_with fail
            go_ret
            exact ⟨by rw [e1.out]; rfl, rfl⟩
    · obtain ⟨w1, w2⟩ := WC.2.2 hA h5
      rw [w1, w2] at hw
      by_cases h6 : 32768 < Gf.wgt l
      · have e1 : Gf.chkE l = 2 := if_pos (.inr h6)
        rw [e1]
        have i6 : (32768 : Int) < (Gf.wgt l : Int) := by omega
        generalize Gf.wgt l = m at *
        clear CC WC h3 w1 w2 e1
        go_enter Try.func52, Try.ntmps52
        go_wp2_with (go_at_call 68; refine hw.mono ?_; rintro e w' ⟨rfl, rfl⟩)
        go_ret
        exact ⟨rfl, rfl⟩
      · have e1 : Gf.chkE l = 0 := by unfold Gf.chkE; rw [if_neg (by simp [hA]; omega), if_neg h5]
        rw [e1]
        have i6 : ¬ (32768 : Int) < (Gf.wgt l : Int) := by omega
        generalize Gf.wgt l = m at *
        clear CC WC h3 w1 w2 e1
        go_enter Try.func52, Try.ntmps52
        go_wp2_with (go_at_call 68; refine hw.mono ?_; rintro e w' ⟨rfl, rfl⟩)
        go_ret
        exact ⟨rfl, rfl⟩
  · have hA' : l.all Gf.lenB = false := by simpa using hA
    obtain ⟨w1, w2⟩ := WC.1 hA'
    have e1 : Gf.chkE l = 2 := if_pos (.inl hA')
    rw [w1, w2] at hw
    rw [e1]
    clear CC WC h3 w1 w2 e1 hA hA'
    go_enter Try.func52, Try.ntmps52
    go_wp2_with (go_at_call 68; refine hw.mono ?_; rintro e w' ⟨rfl, rfl⟩)
    go_ret
    exact ⟨rfl, rfl⟩
theorem cntB_not {x : Int} (h : Gf.cntB x = false) : x < 0 ∨ (¬ x < 0 ∧ 1048576 < x) := by
  have := of_decide_eq_false h
  omega
theorem cntB_yes {x : Int} (h : Gf.cntB x = true) : ¬ x < 0 ∧ ¬ 1048576 < x := by
  have := of_decide_eq_true h
  omega
section
variable {P : Program} {ops : Array Oper} {w : World}
theorem still_of_quiet {o : Oper} {a : Act} {K K' : Act → Prop} (hk : ∀ a, K a → K' a) (h : o.quiet P a (fun w' => w' = w) K) : o.still P a w K' := by
  obtain ⟨v, h1, h2⟩ := h
  have h3 := h1 w rfl
  unfold Oper.quietAt at h3
  unfold Oper.still
  generalize (execOp a.eval o).run P w = r at *
  cases r with
  | ok n w' =>
    cases n <;> simp only [Oper.quietUpon] at h3 <;> simp only [Oper.stillUpon]
    case value u => obtain ⟨e1, e2⟩ := h3; subst e1 e2; exact ⟨rfl, hk _ h2⟩
    case skip => obtain ⟨e1, e2⟩ := h3; subst e1 e2; exact ⟨rfl, hk _ h2⟩
    case enter f args => obtain ⟨e1, e2⟩ := h3; subst e1; exact ⟨rfl, v, e2, hk _ h2⟩
  | halt x w' => simp only [Oper.quietUpon] at h3
theorem wpStill_of_quiet {Q : Act → Prop} : ∀ (l : List Oper) (a : Act), wpQuiet P ops (fun w' => w' = w) Q l a → wpStill P ops w Q l a
  | [], _, h => h
  | o :: rest, a, h => by
    unfold wpQuiet at h
    unfold wpStill
    split
    · rename_i hw
      simp only [hw, if_true] at h
      exact still_of_quiet (fun a' h' => wpStill_of_quiet rest a' h') h
    · rename_i hw
      simp only [hw] at h
      exact wpStill_of_quiet rest _ h
end
theorem wp_region_tail {P : Program} {id : Nat} {Q : Exit → Act → World → Prop} {a : Act} {w : World} {l : List Oper} (n : Nat) (hm : P.follows .mixedOrders = true) (hB : Region.lexTailB .any l.toArray n = true)
    (h : wpQuiet P l.toArray (fun w' => w' = w.drew) (fun a' => wpList P l.toArray Q (l.drop n) a' w.drew) (l.take n) a) : (Code.region id l.toArray true).wp P Q a w :=
  wp_region_still_tail n hm hB (wpStill_of_quiet _ _ h)
theorem Row.range {w : World} {b : Nat} {t : TypeId} {l : List UInt8} (h : Row w b t (ag l)) (o n : Nat) : w.rangeAt b o (((l.drop o).take n).map B) := fun j v hv => by
  rw [h.cell]
  simp only [List.getElem?_map, List.getElem?_take, List.getElem?_drop] at hv
  split at hv
  · simpa [ag] using hv
  · simp at hv
def ai (l : List Int) : Array Value := (l.map (Value.int .i64)).toArray
theorem ai_size (l : List Int) : (ai l).size = l.length := by simp [ai]
theorem ai_get {l : List Int} {k : Nat} (h : k < l.length) : (ai l)[k]? = some (.int .i64 (l.getD k 0)) := by simp [ai, h]
theorem ai_set (l : List Int) (k : Nat) (x : Int) : (ai l).setIfInBounds k (.int .i64 x) = ai (l.set k x) := by
  simp only [ai, List.setIfInBounds_toArray, List.map_set]
theorem ai_one (l : List Int) : (ai l).all (·.oneCell') = true := by
  rw [Array.all_eq_true_iff_forall_mem]; intro v hv
  simp only [ai, List.mem_toArray, List.mem_map] at hv
  obtain ⟨x, _, rfl⟩ := hv; rfl
theorem Row.int {w : World} {b : Nat} {t : TypeId} {l : List Int} (h : Row w b t (ai l)) {k : Nat} (hk : k < l.length) : w.cell? ⟨b, k, none⟩ = some (.int .i64 (l.getD k 0)) := by
  rw [h.cell, ai_get hk]
theorem Row.setInt {w : World} {b : Nat} {t : TypeId} {l : List Int} (h : Row w b t (ai l)) (k : Nat) (x : Int) : Row (w.setCell ⟨b, k, none⟩ (.int .i64 x)) b t (ai (l.set k x)) := by
  rw [← ai_set]; exact h.setCell k _
def sixteen (f : Nat → Nat) : List Int := (List.range 16).map fun n => (f n : Int)
theorem sixteen_len (f : Nat → Nat) : (sixteen f).length = 16 := by simp [sixteen]
theorem sixteen_get (f : Nat → Nat) (n : Nat) (h : n < 16) : (sixteen f).getD n 0 = (f n : Int) := by simp [sixteen, h]
theorem sixteen_set (f g : Nat → Nat) (n : Nat) (x : Int) (hx : x = (g n : Int)) (hg : ∀ m, m < 16 → m ≠ n → g m = f m) : (sixteen f).set n x = sixteen g := by
  subst hx
  apply List.ext_getElem
  · simp [sixteen]
  · intro m h1 h2
    simp only [sixteen, List.length_set, List.length_map, List.length_range] at h1
    simp only [sixteen, List.getElem_set, List.getElem_map, List.getElem_range]
    split
    · rename_i e; subst e; rfl
    · rename_i e; rw [hg m h1 (Ne.symm e)]
theorem sixteen_zero (f : Nat → Nat) (h : ∀ n, n < 16 → f n = 0) : sixteen f = sixteen fun _ => 0 := by
  unfold sixteen
  apply List.map_congr_left
  intro n hn
  rw [h n (List.mem_range.1 hn)]
def firstTo (l : List Int) (m n : Nat) : Nat := if n ≤ m then Gf.low l n else 0
set_option maxRecDepth 100000 in
theorem Try.info134 : (Try.prog.info? 134).map (·.size) = some 16 := by kernel_rfl
set_option maxRecDepth 100000 in
theorem Try.zero134 : (Try.prog.info? 134).map (fun i => (i.zero, i.size)) = some (some (.agg (ai (sixteen fun _ => 0))), 16) := by kernel_rfl
set_option maxRecDepth 100000 in
set_option maxHeartbeats 1000000 in
theorem firsts_any (v : Value) (l : List Int) (hA : l.all Gf.lenB = true) (hW : Gf.wgt l ≤ 32768) (h512 : l.length ≤ 512) (w : World) (h : Ints w.heap.size w v l) :
    Calls Try.prog 82 #[v] w fun e w' => e = .returned (.agg (ai (sixteen (Gf.low l)))) ∧ Below w.heap.size w w' := by
  obtain ⟨a, c, rfl, hc, h3⟩ := h
  have HCL := Box'.mk (Ints.cells h3)
  have AG := Box'.mk (Gf.all_get Gf.lenB l hA)
  have HA := Box'.mk hA
  have EB : Box' (∀ n k, n ≤ 15 → k ≤ l.length → Gf.low l n + Gf.eqk l n k ≤ 32768) := ⟨fun n k h1 h2 => Nat.le_trans (Gf.nxt_le l hA n k h1 h2) hW⟩
  have ES : Box' (∀ k, k < l.length → (sixteen fun n => Gf.eqk l n k).set (Gf.ln l k) ((Gf.eqk l (Gf.ln l k) k : Int) + (Gf.shr (l.getD k 0) : Nat)) = sixteen fun n => Gf.eqk l n (k + 1)) := ⟨fun k hk => by
    have hl := Gf.ln_le l hA k
    apply sixteen_set
    · rw [Gf.eqk_succ l _ k hk, if_pos hl.2, hl.2]; omega
    · intro m _ hm
      rw [Gf.eqk_succ l _ k hk, if_neg (by rw [hl.2]; omega)]; omega⟩
  have LN : Box' (∀ k, l.getD k 0 = (Gf.ln l k : Int) ∧ Gf.ln l k ≤ 15) := ⟨fun k => ⟨(Gf.ln_le l hA k).2, (Gf.ln_le l hA k).1⟩⟩
  have E0 : Box' ((sixteen fun n => Gf.eqk l n 0) = sixteen fun _ => 0) := ⟨sixteen_zero _ fun n _ => Gf.eqk_zero l n⟩
  have F0 : Box' (sixteen (firstTo l 0) = sixteen fun _ => 0) := ⟨sixteen_zero _ fun n _ => by
    unfold firstTo
    split
    · rename_i hh; have : n = 0 := by omega
      subst this; exact Gf.low_zero l hA
    · rfl⟩
  have F15 : Box' (sixteen (firstTo l 15) = sixteen (Gf.low l)) := ⟨by
    unfold sixteen
    apply List.map_congr_left
    intro n hn
    have := List.mem_range.1 hn
    unfold firstTo; rw [if_pos (by omega)]⟩
  have FS : Box' (∀ m, m < 15 → (sixteen (firstTo l m)).set (m + 1) ((Gf.low l m : Int) + (Gf.eqk l m l.length : Int)) = sixteen (firstTo l (m + 1))) := ⟨fun m hm => by
    apply sixteen_set
    · unfold firstTo; rw [if_pos (Nat.le_refl _), Gf.low_succ]; omega
    · intro j _ hj
      unfold firstTo
      by_cases h1 : j ≤ m
      · rw [if_pos h1, if_pos (by omega)]
      · rw [if_neg h1, if_neg (by omega)]⟩
  have FG : Box' (∀ m, m ≤ 15 → (sixteen (firstTo l m)).getD m 0 = (Gf.low l m : Int)) := ⟨fun m hm => by rw [sixteen_get _ _ (by omega)]; unfold firstTo; rw [if_pos (Nat.le_refl _)]⟩
  generalize hn : l.length = n at *
  clear h3 hn hA hW
  go_enter Try.func82, Try.ntmps82
  go_wp2_with (refine wpList_alloc_row rfl 134 rfl _ _ Try.zero134 ?_)
  go_loopw [10] (fun i wr => ∃ k : Nat, k ≤ n ∧ i = .int .i64 (k : Int) ∧ Row wr (w.heap.size + 1) 134 (ai (sixteen fun m => Gf.eqk l m k)) ∧ Row wr (w.heap.size + 2) 134 (ai (sixteen fun _ => 0)) ∧ Room wr w.heap.size 134 16 ∧ Below w.heap.size w wr) (fun i _ => n - (intOf i).toNat)
  case atStart =>
    refine ⟨0, by omega, rfl, ?_, ?_, ?_, ?_⟩
    · rw [E0.out]; exact (Row.made _ _ _ _ _ rfl (by simp)).alloc _
    · exact Row.made _ _ _ _ _ rfl (by simp)
    · exact ((Room.new _ _ _ _ rfl).alloc _).alloc _
    · exact (((Below.refl _ _).alloc (Nat.le_refl _) _).alloc (by simp) _).alloc (by simp; omega) _
  case round =>
    obtain ⟨k, hk, rfl, r1, r2, r3, hbl⟩ := hrel
    by_cases hlt : k < n
    · obtain ⟨b, o, rfl, hbw, c0⟩ := HCL.out k hlt
      have ESk := Box'.mk (ES.out k hlt)
      have hs := fun w => share_any _ (AG.out k hlt) w
      obtain ⟨hx, hx15⟩ := LN.out k
      have hsl := Gf.shr_le (l.getD k 0)
      have hEB := EB.out (Gf.ln l k) k hx15 (by omega)
      obtain ⟨hc0, -⟩ := bcell hbl
      rw [← hc0 _ _ hbw, hx] at c0
      have cT := r1.int (k := Gf.ln l k) (by rw [sixteen_len]; omega)
      rw [sixteen_get _ _ (by omega)] at cT
      have fT := r1.frozen (Gf.ln l k)
      rw [hx] at hs hsl ESk
      generalize Gf.shr ((Gf.ln l k : Nat) : Int) = y at *
      generalize hsx : Gf.ln l k = s at *
      generalize hex : Gf.eqk l s k = x at *
      clear HCL AG ES LN E0 F0 F15 FS FG EB hc0 hsx hex hx
      go_wp2_with fail
      refine wp_region_tail 6 (by kernel_rfl) (by kernel_rfl) ?_
      simp only [List.take_succ_cons, List.take_zero, List.drop_succ_cons, List.drop_zero]
      repeat (first | go_big_quiet_step (fail) | (go_big_quiet_want; go_big_quiet_op; refine ⟨_, hs _, ?_⟩; go_big_quiet_on))
      refine wpQuiet_nil ?_
      go_wp2_with fail
      refine ⟨⟨k + 1, by omega, by go_num, ?_, ?_, ?_, ?_⟩, by simp [intOf]; omega⟩
      · have := (r1.drew).setInt s ((x : Int) + (y : Int))
        rw [ESk.out] at this
        exact this
      · exact r2.drew.setOther _ _ (by simp)
      · exact r3.drew.setOther _ _ (by simp)
      · exact hbl.drew.setCell (by simp) _
    · obtain rfl : k = n := by omega
      clear HCL AG ES E0
      go_wp2_with fail
      go_loopw [7] (fun i wr => ∃ m : Nat, 1 ≤ m ∧ m ≤ 16 ∧ i = .int .i64 (m : Int) ∧ Row wr (w.heap.size + 1) 134 (ai (sixteen fun j => Gf.eqk l j k)) ∧ Row wr (w.heap.size + 2) 134 (ai (sixteen (firstTo l (m - 1)))) ∧ Room wr w.heap.size 134 16 ∧ Below w.heap.size w wr) (fun i _ => 16 - (intOf i).toNat)
      case atStart => exact ⟨1, by omega, by omega, rfl, r1, by rw [F0.out]; exact r2, r3, hbl⟩
      case round =>
        clear r1 r2 r3 hbl
        obtain ⟨m, hm1, hm2, rfl, r1, r2, r3, hbl⟩ := hrel
        by_cases hlt : m ≤ 15
        · obtain ⟨m, rfl⟩ : ∃ j, m = j + 1 := ⟨m - 1, by omega⟩
          rw [Nat.add_sub_cancel] at r2
          have FSm := Box'.mk (FS.out m (by omega))
          have cF := r2.int (k := m) (by rw [sixteen_len]; omega)
          rw [FG.out m (by omega)] at cF
          have cT := r1.int (k := m) (by rw [sixteen_len]; omega)
          rw [sixteen_get _ _ (by omega)] at cT
          have fF := r2.frozen (m + 1)
          have cG := r2.int (k := m + 1) (by rw [sixteen_len]; omega)
          rw [show w.heap.size + 2 = w.heap.size + 1 + 1 from rfl] at fF cG cF
          have hEB := EB.out m k (by omega) (by omega)
          generalize Gf.low l m = x at *
          generalize Gf.eqk l m k = y at *
          clear F0 F15 FS FG EB LN
          go_wp2_with fail
          refine wp_region_tail 10 (by kernel_rfl) (by kernel_rfl) ?_
          simp only [List.take_succ_cons, List.take_zero, List.drop_succ_cons, List.drop_zero]
          repeat (go_big_quiet_step (fail))
          refine wpQuiet_nil ?_
          go_wp2_with fail
          refine ⟨⟨m + 2, by omega, by omega, by go_num, ?_, ?_, ?_, ?_⟩, by simp [intOf]; omega⟩
          · exact r1.drew.setOther _ _ (by show w.heap.size + 1 ≠ w.heap.size + 1 + 1; omega)
          · have := (r2.drew).setInt (m + 1) ((x : Int) + (y : Int))
            rw [FSm.out] at this
            exact this
          · exact r3.drew.setOther _ _ (by show w.heap.size ≠ w.heap.size + 1 + 1; omega)
          · exact hbl.drew.setCell (by show w.heap.size ≤ w.heap.size + 1 + 1; omega) _
        · obtain rfl : m = 16 := by omega
          have r2' : Row wr (w.heap.size + 2) 134 (ai (sixteen (Gf.low l))) := by rw [← F15.out]; exact r2
          have hsz : (ai (sixteen (Gf.low l))).size = 16 := by rw [ai_size, sixteen_len]
          have h1 := ai_one (sixteen (Gf.low l))
          generalize hZ : ai (sixteen (Gf.low l)) = Z at *
          clear F0 F15 FS FG EB LN r2
          go_wp2_with (first
            | (refine wpList_load_row rfl 134 _ rfl _ rfl _ _ r2' _ Try.underlying134 rfl 16 Try.info134 hsz ?_)
            | (refine wpList_store_row rfl 134 _ _ rfl _ rfl _ rfl _ _ r3 Try.info134 hsz h1 ?_))
          exact bodyPost_ret (results_row rfl _ _ rfl _ _ (r3.setRow _) _ Try.underlying134 rfl 16 Try.info134 hsz) rfl ⟨by rw [hZ], below_setRow hbl (by omega) _⟩
def pcell (l : List (Nat × Int)) (j : Nat) : Value := if j % 2 = 0 then .int .u64 ((l.getD (j / 2) (0, 0)).1 : Int) else .int .i64 (l.getD (j / 2) (0, 0)).2
def agp (l : List (Nat × Int)) : Array Value := ((List.range (2 * l.length)).map (pcell l)).toArray
theorem agp_size (l : List (Nat × Int)) : (agp l).size = 2 * l.length := by simp [agp]
theorem agp_get (l : List (Nat × Int)) (j : Nat) (h : j < 2 * l.length) : (agp l)[j]? = some (pcell l j) := by simp [agp, h]
theorem pcell0 (l : List (Nat × Int)) (k : Nat) : pcell l (k * 2) = .int .u64 ((l.getD k (0, 0)).1 : Int) := by
  unfold pcell; rw [if_pos (by omega), show k * 2 / 2 = k by omega]
theorem pcell1 (l : List (Nat × Int)) (k : Nat) : pcell l (k * 2 + 1) = .int .i64 (l.getD k (0, 0)).2 := by
  unfold pcell; rw [if_neg (by omega), show (k * 2 + 1) / 2 = k by omega]
theorem agp_set (l : List (Nat × Int)) (k : Nat) (hk : k < l.length) (a : Nat) (s : Int) :
    ((agp l).setIfInBounds (k * 2) (.int .u64 (a : Int))).setIfInBounds (k * 2 + 1) (.int .i64 s) = agp (l.set k (a, s)) := by
  apply Array.ext_getElem?
  intro j
  rw [Array.getElem?_setIfInBounds, Array.getElem?_setIfInBounds]
  simp only [Array.size_setIfInBounds, agp_size]
  by_cases hj : j < 2 * l.length
  · rw [agp_get (l.set k (a, s)) j (by rw [List.length_set]; exact hj), agp_get l j hj]
    by_cases e1 : k * 2 + 1 = j
    · subst e1
      rw [if_pos rfl, if_pos (by omega), pcell1]; simp [hk]
    · rw [if_neg e1]
      by_cases e0 : k * 2 = j
      · subst e0
        rw [if_pos rfl, if_pos (by omega), pcell0]; simp [hk]
      · rw [if_neg e0]
        have hne : k ≠ j / 2 := by omega
        unfold pcell
        simp [hne]
  · rw [if_neg (by omega), if_neg (by omega)]
    simp [agp, hj]
theorem Row.pr0 {w : World} {b : Nat} {t : TypeId} {l : List (Nat × Int)} (h : Row w b t (agp l)) {k : Nat} (hk : k < l.length) : w.cell? ⟨b, k * 2, none⟩ = some (.int .u64 ((l.getD k (0, 0)).1 : Int)) := by
  rw [h.cell, agp_get _ _ (by omega), pcell0]
theorem Row.pr1 {w : World} {b : Nat} {t : TypeId} {l : List (Nat × Int)} (h : Row w b t (agp l)) {k : Nat} (hk : k < l.length) : w.cell? ⟨b, k * 2 + 1, none⟩ = some (.int .i64 (l.getD k (0, 0)).2) := by
  rw [h.cell, agp_get _ _ (by omega), pcell1]
theorem Row.setPr {w : World} {b : Nat} {t : TypeId} {l : List (Nat × Int)} (h : Row w b t (agp l)) (k : Nat) (hk : k < l.length) (a : Nat) (s : Int) :
    Row ((w.setCell ⟨b, k * 2, none⟩ (.int .u64 (a : Int))).setCell ⟨b, k * 2 + 1, none⟩ (.int .i64 s)) b t (agp (l.set k (a, s))) := by
  rw [← agp_set l k hk]; exact (h.setCell _ _).setCell _ _
theorem made_pairs (n : Nat) : madeCells #[.int .u64 0, .int .i64 0] (n * 2) = agp (List.replicate n (0, 0)) := by
  apply Array.ext
  · simp [agp, madeCells]; omega
  · intro j h1 h2
    have hj : j < 2 * n := by simpa [agp] using h2
    simp only [madeCells, agp, Array.getElem_map, List.getElem_toArray, List.getElem_map, List.getElem_range, Array.getElem_range]
    unfold pcell
    have hr : (List.replicate n ((0 : Nat), (0 : Int))).getD (j / 2) (0, 0) = (0, 0) := by
      have : j / 2 < n := by omega
      simp [this]
    rw [hr]
    by_cases h0 : j % 2 = 0
    · rw [if_pos h0]; simp [h0]
    · have h0' : j % 2 = 1 := by omega
      rw [if_neg h0]; simp [h0']
set_option maxRecDepth 100000 in
theorem Try.info73' : ∃ i, Try.prog.info? 73 = some i ∧ i.zero = some (.agg #[.int .u64 0, .int .i64 0]) ∧ i.size = 2 ∧ i.bytes = 16 := ⟨_, rfl, rfl, rfl, rfl⟩
theorem wpList_make_pairs {ops : Array Oper} {rest : List Oper} {op : Oper} {a : Act} {w : World} {Q : Exit → Act → World → Prop}
    (hgd : op.guard = none) (x y : Operand) (ho : op.op = .makeSlice 48 x y) (L C : Int) (n : Nat) (hx : a.eval x = .int .i64 L) (hy : a.eval y = .int .i64 C) (hL : L = (n : Int)) (hC : C = (n : Int)) (hn : n ≤ 65536)
    (h : wpList Try.prog ops Q rest (a.put op.dst (.slice (some ⟨w.heap.size, 0, none⟩) n n)) (w.alloc (.cells (agp (List.replicate n (0, 0))) 73))) : wpList Try.prog ops Q (op :: rest) a w := by
  obtain ⟨i, h1, h2, h3, h4⟩ := Try.info73'
  have hrun := run_make (P := Try.prog) w 48 73 i _ Try.underlying48 h1 h2 .i64 .i64 (n : Int) (n : Int) (by omega) (Int.le_refl _) (by rw [h4]; omega) (by omega)
  rw [h3, Int.toNat_natCast, show (Value.agg #[.int .u64 0, .int .i64 0]).cells = #[.int .u64 0, .int .i64 0] from rfl, made_pairs] at hrun
  refine wpList_plain hgd fun K hK' => ?_
  subst hL hC
  unfold Oper.wp
  simp only [execOp, ho, hx, hy, Sem.run_bind, hrun, Result.andThen_ok]
  exact hK' _ _ h
def nbs (l : List Int) (k : Nat) : List (Nat × Int) := (List.range l.length).map fun i => if i < k then (Gf.cod l i, l.getD i 0) else (0, 0)
theorem nbs_len (l : List Int) (k : Nat) : (nbs l k).length = l.length := by simp [nbs]
theorem nbs_zero (l : List Int) : nbs l 0 = List.replicate l.length (0, 0) := by
  unfold nbs
  apply List.ext_getElem
  · simp
  · intro i h1 h2; simp
theorem nbs_set (l : List Int) (k : Nat) : (nbs l k).set k (Gf.cod l k, l.getD k 0) = nbs l (k + 1) := by
  apply List.ext_getElem
  · simp [nbs]
  · intro i h1 h2
    simp only [nbs, List.getElem_set, List.getElem_map, List.getElem_range]
    by_cases e : k = i
    · subst e; rw [if_pos rfl, if_pos (by omega)]
    · rw [if_neg e]
      by_cases h3 : i < k
      · rw [if_pos h3, if_pos (by omega)]
      · rw [if_neg h3, if_neg (by omega)]
theorem nbs_skip (l : List Int) (k : Nat) (hA : l.all Gf.lenB = true) (hW : Gf.wgt l ≤ 32768) (hk : k < l.length) (h0 : Gf.ln l k = 0) : nbs l (k + 1) = nbs l k := by
  unfold nbs
  apply List.map_congr_left
  intro i _
  by_cases e : i = k
  · subst e
    rw [if_pos (by omega), if_neg (by omega), Gf.cod_zero l hA hW i hk h0, (Gf.ln_le l hA i).2, h0]; rfl
  · by_cases h3 : i < k
    · rw [if_pos h3, if_pos (by omega)]
    · rw [if_neg h3, if_neg (by omega)]
set_option maxRecDepth 100000 in
set_option maxHeartbeats 1000000 in
theorem numbers_any (v : Value) (l : List Int) (hA : l.all Gf.lenB = true) (hW : Gf.wgt l ≤ 32768) (h512 : l.length ≤ 512) (w : World) (h : Ints w.heap.size w v l) :
    Calls Try.prog 70 #[v] w fun e w' => ∃ g, e = .returned (.slice (some ⟨g, 0, none⟩) l.length l.length) ∧ w.heap.size ≤ g ∧ Row w' g 73 (agp (nbs l l.length)) ∧ Below w.heap.size w w' := by
  have hf := firsts_any v l hA hW h512 w h
  obtain ⟨a, c, rfl, hc, h3⟩ := h
  have HCL := Box'.mk (Ints.cells h3)
  have AG := Box'.mk (Gf.all_get Gf.lenB l hA)
  have EB : Box' (∀ n k, n ≤ 15 → k ≤ l.length → Gf.nxt l n k ≤ 32768) := ⟨fun n k h1 h2 => Nat.le_trans (Gf.nxt_le l hA n k h1 h2) hW⟩
  have ES : Box' (∀ k, k < l.length → (sixteen fun n => Gf.nxt l n k).set (Gf.ln l k) ((Gf.nxt l (Gf.ln l k) k : Int) + (Gf.shr (l.getD k 0) : Nat)) = sixteen fun n => Gf.nxt l n (k + 1)) := ⟨fun k hk => by
    have hl := Gf.ln_le l hA k
    apply sixteen_set
    · unfold Gf.nxt; rw [Gf.eqk_succ l _ k hk, if_pos hl.2, hl.2]; omega
    · intro m _ hm
      rw [Gf.nxt_other l m k hk (by rw [hl.2]; omega)]⟩
  have EZ : Box' (∀ k, k < l.length → Gf.ln l k = 0 → (sixteen fun n => Gf.nxt l n (k + 1)) = sixteen fun n => Gf.nxt l n k) := ⟨fun k hk h0 => by
    unfold sixteen
    apply List.map_congr_left
    intro n _
    show ((Gf.low l n + Gf.eqk l n (k + 1) : Nat) : Int) = ((Gf.low l n + Gf.eqk l n k : Nat) : Int)
    rw [Gf.eqk_succ l _ k hk]
    split
    · rename_i e
      have : n = 0 := by have := (Gf.ln_le l hA k).2; omega
      subst this; rfl
    · rfl⟩
  have LN : Box' (∀ k, l.getD k 0 = (Gf.ln l k : Int) ∧ Gf.ln l k ≤ 15) := ⟨fun k => ⟨(Gf.ln_le l hA k).2, (Gf.ln_le l hA k).1⟩⟩
  have E0 : Box' ((sixteen fun n => Gf.nxt l n 0) = sixteen (Gf.low l)) := ⟨by
    unfold sixteen
    apply List.map_congr_left
    intro n _
    show ((Gf.low l n + Gf.eqk l n 0 : Nat) : Int) = _
    rw [Gf.eqk_zero]; rfl⟩
  have NZ := Box'.mk (nbs_zero l)
  have NS := Box'.mk (nbs_set l)
  have NK : Box' (∀ k, k < l.length → Gf.ln l k = 0 → nbs l (k + 1) = nbs l k) := ⟨fun k hk h0 => nbs_skip l k hA hW hk h0⟩
  have NL := Box'.mk (nbs_len l)
  have CD : Box' (∀ k, Gf.cod l k = Gf.nxt l (Gf.ln l k) k / 2 ^ (15 - Gf.ln l k)) := ⟨fun k => rfl⟩
  have hsz : (ai (sixteen (Gf.low l))).size = 16 := by rw [ai_size, sixteen_len]
  have h1 := ai_one (sixteen (Gf.low l))
  generalize hZ : ai (sixteen (Gf.low l)) = Z at *
  have HZ := Box'.mk hZ
  generalize hn : l.length = n at *
  clear h3 hn hA hW hZ
  go_enter Try.func70, Try.ntmps70
  go_wp2_with fail
  refine hf.mono ?_
  rintro e w1 ⟨rfl, hb1⟩
  have hz1 := hb1.size
  have r0 : Room (w1.alloc (.cells (ai (sixteen fun _ => 0)) 134)) w1.heap.size 134 16 := Room.new _ _ _ _ rfl
  clear hf
  go_wp2_with (first
    | (refine wpList_alloc_row rfl 134 rfl _ _ Try.zero134 ?_)
    | (refine wpList_store_row rfl 134 _ _ rfl _ rfl _ rfl _ _ r0 Try.info134 hsz h1 ?_)
    | (refine wpList_make_pairs rfl _ _ rfl _ _ n rfl rfl rfl rfl (by omega) ?_)
    | fail)
  have q0 : Row ((w1.alloc (.cells (ai (sixteen fun _ => 0)) 134)).setRow w1.heap.size Z) w1.heap.size 134 Z := r0.setRow Z
  generalize hw2 : (w1.alloc (.cells (ai (sixteen fun _ => 0)) 134)).setRow w1.heap.size Z = w2 at *
  have hz2 : w2.heap.size = w1.heap.size + 1 := by rw [← hw2]; simp [World.setRow]
  have bl2 : Below w.heap.size w w2 := by rw [← hw2]; exact below_setRow (hb1.alloc hz1 _) (by omega) _
  clear hw2 r0 hb1
  go_loopw [14] (fun i wr => ∃ k : Nat, k ≤ n ∧ i = .int .i64 (k : Int) ∧ Row wr w1.heap.size 134 (ai (sixteen fun m => Gf.nxt l m k)) ∧ Row wr (w1.heap.size + 1) 73 (agp (nbs l k)) ∧ Below w.heap.size w wr) (fun i _ => n - (intOf i).toNat)
  case atStart =>
    refine ⟨0, by omega, rfl, ?_, ?_, ?_⟩
    · rw [E0.out, HZ.out]; exact q0.alloc _
    · rw [NZ.out]; exact Row.made _ _ _ _ _ rfl (by omega)
    · exact bl2.alloc (by omega) _
  case round =>
    clear q0 bl2
    obtain ⟨k, hk, rfl, r1, r2, hbl⟩ := hrel
    by_cases hlt : k < n
    · obtain ⟨b, o, rfl, hbw, c0⟩ := HCL.out k hlt
      have hs := fun w => share_any _ (AG.out k hlt) w
      obtain ⟨hx, hx15⟩ := LN.out k
      have hsl := Gf.shr_le (l.getD k 0)
      have hEB := EB.out (Gf.ln l k) k hx15 (by omega)
      obtain ⟨hc0, -⟩ := bcell hbl
      rw [← hc0 _ _ hbw, hx] at c0
      by_cases h0 : Gf.ln l k = 0
      · have NKk := Box'.mk (NK.out k hlt h0)
        have EZk := Box'.mk (EZ.out k hlt h0)
        rw [h0] at c0
        clear HCL AG ES E0 EB hc0 hs hx hsl EZ NK NS NZ CD LN hEB
        go_wp2_with fail
        refine ⟨⟨k + 1, by omega, by go_num, by rw [EZk.out]; exact r1, by rw [NKk.out]; exact r2, hbl⟩, by simp [intOf]; omega⟩
      · have ESk := Box'.mk (ES.out k hlt)
        have NSk := Box'.mk (NS.out k)
        have CDk := Box'.mk (CD.out k)
        have cT := r1.int (k := Gf.ln l k) (by rw [sixteen_len]; omega)
        rw [sixteen_get _ _ (by omega)] at cT
        have fT := r1.frozen (Gf.ln l k)
        have p0 := r2.pr0 (k := k) (by rw [NL.out]; omega)
        have p1 := r2.pr1 (k := k) (by rw [NL.out]; omega)
        have f0 := r2.frozen (k * 2)
        have f1 := r2.frozen (k * 2 + 1)
        rw [hx] at hs hsl ESk NSk
        have i0 : ((Gf.ln l k : Int) == 0) = false := by rw [beq_eq_false_iff_ne]; omega
        generalize Gf.shr ((Gf.ln l k : Nat) : Int) = y at *
        generalize hsx : Gf.ln l k = s at *
        generalize hex : Gf.nxt l s k = x at *
        generalize hey : Gf.cod l k = z at *
        have hnk : k < (nbs l k).length := by rw [NL.out]; omega
        clear HCL AG ES E0 EB hc0 EZ NK NS NZ CD LN hsx hx hey
        go_wp2_with fail
        have ez : ((x : Int) / 2 ^ (15 - s)) = ((z : Nat) : Int) := by rw [show ((x : Int) / 2 ^ (15 - s)) = ((x / 2 ^ (15 - s) : Nat) : Int) by simp, ← CDk.out]
        have r4 := r2.setPr k hnk z (s : Int)
        rw [NSk.out, ← ez] at r4
        have r5 := (r1.setOther ⟨w1.heap.size + 1, k * 2, none⟩ (.int .u64 ((x : Int) / 2 ^ (15 - s))) (by show w1.heap.size ≠ w1.heap.size + 1; omega)).setOther ⟨w1.heap.size + 1, k * 2 + 1, none⟩ (.int .i64 (s : Int)) (by show w1.heap.size ≠ w1.heap.size + 1; omega)
        have bl5 : Below w.heap.size w ((wr.setCell ⟨w1.heap.size + 1, k * 2, none⟩ (.int .u64 ((x : Int) / 2 ^ (15 - s)))).setCell ⟨w1.heap.size + 1, k * 2 + 1, none⟩ (.int .i64 (s : Int))) := (hbl.setCell (by show w.heap.size ≤ w1.heap.size + 1; omega) _).setCell (by show w.heap.size ≤ w1.heap.size + 1; omega) _
        generalize (wr.setCell ⟨w1.heap.size + 1, k * 2, none⟩ (.int .u64 ((x : Int) / 2 ^ (15 - s)))).setCell ⟨w1.heap.size + 1, k * 2 + 1, none⟩ (.int .i64 (s : Int)) = w3 at *
        have cU := r5.int (k := s) (by rw [sixteen_len]; omega)
        rw [sixteen_get _ _ (by omega), hex] at cU
        have fU := r5.frozen s
        clear cT fT p0 p1 f0 f1 r1 r2 hbl c0 hex
        refine wp_region_tail 6 (by kernel_rfl) (by kernel_rfl) ?_
        simp only [List.take_succ_cons, List.take_zero, List.drop_succ_cons, List.drop_zero]
        repeat (first | go_big_quiet_step (fail) | (go_big_quiet_want; go_big_quiet_op; refine ⟨_, hs _, ?_⟩; go_big_quiet_on))
        refine wpQuiet_nil ?_
        go_wp2_with fail
        refine ⟨⟨k + 1, by omega, by go_num, ?_, ?_, ?_⟩, by simp [intOf]; omega⟩
        · have := (r5.drew).setInt s ((x : Int) + (y : Int))
          rw [ESk.out] at this
          exact this
        · exact r4.drew.setOther _ _ (by show w1.heap.size + 1 ≠ w1.heap.size; omega)
        · exact bl5.drew.setCell (by show w.heap.size ≤ w1.heap.size; omega) _
    · obtain rfl : k = n := by omega
      clear HCL AG ES E0 EB EZ NK NS NZ CD LN
      go_wp2_with fail
      go_ret
      exact ⟨w1.heap.size + 1, rfl, by omega, r2, hbl⟩
set_option maxRecDepth 100000 in
theorem Try.info73 : (Try.prog.info? 73).map (·.size) = some 2 := by kernel_rfl
def bts2 (v : Nat) (s : Int) : Array Value := #[.int .u64 (v : Int), .int .i64 s]
def revE (x : Nat × Int) : Int := if Gf.may x = true then 0 else 2
def revV (x : Nat × Int) : Nat × Int := if Gf.may x = true then (Gf.rev x.1 x.2.toNat, x.2) else (0, 0)
theorem and1_u64 (n : Nat) (h : n < 18446744073709551616) : bits .and .u64 (n : Int) 1 = ((n % 2 : Nat) : Int) := by
  have := u64_and_nat n 1 h (by decide)
  rw [Nat.and_one_is_mod] at this; exact this
theorem rev_step (v k : Nat) (hv : v < 18446744073709551616) (hk : k < 64) : bits .or .u64 (IntKind.u64.wrap (((Gf.rev v k : Nat) : Int) * 2)) (bits .and .u64 ((v : Int) / 2 ^ k) 1) = ((Gf.rev v (k + 1) : Nat) : Int) := by
  have hr := Gf.rev_lt v k
  have hp : 2 ^ k ≤ 2 ^ 63 := Nat.pow_le_pow_right (by decide) (by omega)
  have e1 : ((Gf.rev v k : Nat) : Int) * 2 = ((Gf.rev v k * 2 : Nat) : Int) := by simp
  have e2 : (v : Int) / 2 ^ k = ((v / 2 ^ k : Nat) : Int) := by simp
  have hd : v / 2 ^ k < 18446744073709551616 := Nat.lt_of_le_of_lt (Nat.div_le_self _ _) hv
  rw [e1, e2, wrap_nat, and1_u64 _ hd, Nat.mod_eq_of_lt (by omega), u64_or_nat _ _ (by omega) (by omega)]
  have h3 := Nat.shiftLeft_add_eq_or_of_lt (i := 1) (show v / 2 ^ k % 2 < 2 ^ 1 by omega) (Gf.rev v k)
  rw [Nat.shiftLeft_eq] at h3
  rw [Gf.rev, Nat.mul_comm 2]
  have h4 : Gf.rev v k * 2 = Gf.rev v k * 2 ^ 1 := rfl
  rw [h4, ← h3]
set_option maxHeartbeats 1000000 in
theorem reverse_any (v : Nat) (hv : v < 18446744073709551616) (s : Int) (w : World) :
    Calls Try.prog 71 #[.agg (bts2 v s)] w fun e w' => e = .returned (.tuple #[.agg (bts2 (revV (v, s)).1 (revV (v, s)).2), .int .i64 (revE (v, s))]) ∧ Below w.heap.size w w' := by
  have hm := fun w => bitsMayBe_any v s w
  unfold bts2
  by_cases h : Gf.may (v, s) = true
  · rw [show revV (v, s) = (Gf.rev v s.toNat, s) from if_pos h, show revE (v, s) = 0 from if_pos h]
    rw [h] at hm
    have hs : 0 ≤ s ∧ s ≤ 64 := by unfold Gf.may at h; have := of_decide_eq_true h; exact ⟨this.1, this.2.1⟩
    obtain ⟨n, rfl⟩ : ∃ n : Nat, s = (n : Int) := ⟨s.toNat, by omega⟩
    rw [Int.toNat_natCast]
    have hn : n ≤ 64 := by omega
    clear h hs
    go_enter Try.func71, Try.ntmps71
    go_wp2_with fail
    refine (hm _).mono ?_
    rintro e w1 ⟨rfl, hb⟩
    have r1 : Row w1 w.heap.size 73 #[.int .u64 (v : Int), .int .i64 (n : Int)] := ((Row.new _ _ _).alloc _).below hb (by simp; omega)
    have q1 : Row w1 (w.heap.size + 1) 73 #[.int .u64 0, .int .i64 0] := (Row.made _ _ _ _ _ rfl (by simp)).below hb (by simp)
    have d0 : w1.cell? ⟨w.heap.size + 1, 0, none⟩ = some (.int .u64 0) := by rw [q1.cell]; rfl
    have d1 : w1.cell? ⟨w.heap.size + 1, 1, none⟩ = some (.int .i64 0) := by rw [q1.cell]; rfl
    have f0 := q1.frozen 0
    have f1 := q1.frozen 1
    have bl : Below w.heap.size w w1 := (((Below.refl _ _).alloc (Nat.le_refl _) _).alloc (by simp) _).trans (hb.mono (by simp; omega))
    have c0 : w1.cell? ⟨w.heap.size, 0, none⟩ = some (.int .u64 (v : Int)) := by rw [r1.cell]; rfl
    have c1 : w1.cell? ⟨w.heap.size, 1, none⟩ = some (.int .i64 (n : Int)) := by rw [r1.cell]; rfl
    clear hb hm r1
    go_wp2_with fail
    go_loop [4, 12] (fun t i => ∃ k : Nat, k ≤ n ∧ i = .int .i64 k ∧ t = .int .u64 ((Gf.rev v k : Nat) : Int)) (fun _ i => n - (intOf i).toNat)
    case atStart => exact ⟨0, by omega, rfl, rfl⟩
    case round =>
      obtain ⟨k, hk, rfl, rfl⟩ := hrel
      by_cases hlt : k < n
      · have E := Box'.mk (rev_step v k hv (by omega))
        go_wp2_with fail
        exact ⟨⟨k + 1, by omega, by go_num, by rw [E.out]⟩, by simp [intOf]; omega⟩
      · have hkn : k = n := by omega
        subst hkn
        go_wp2_with fail
        exact bodyPost_ret (results_row_slot rfl _ _ rfl _ rfl _ _ ((q1.setCell 0 _).setCell 1 _) _ Try.underlying73 rfl 2 Try.info73 rfl) rfl ⟨rfl, (bl.setCell (by simp) _).setCell (by simp) _⟩
  · rw [show revV (v, s) = (0, 0) from if_neg h, show revE (v, s) = 2 from if_neg h]
    rw [show Gf.may (v, s) = false by simpa using h] at hm
    clear h
    go_enter Try.func71, Try.ntmps71
    go_wp2_with fail
    refine (hm _).mono ?_
    rintro e w1 ⟨rfl, hb⟩
    have q1 : Row w1 (w.heap.size + 1) 73 #[.int .u64 0, .int .i64 0] := (Row.made _ _ _ _ _ rfl (by simp)).below hb (by simp)
    have d0 : w1.cell? ⟨w.heap.size + 1, 0, none⟩ = some (.int .u64 0) := by rw [q1.cell]; rfl
    have d1 : w1.cell? ⟨w.heap.size + 1, 1, none⟩ = some (.int .i64 0) := by rw [q1.cell]; rfl
    have f0 := q1.frozen 0
    have f1 := q1.frozen 1
    have bl : Below w.heap.size w w1 := (((Below.refl _ _).alloc (Nat.le_refl _) _).alloc (by simp) _).trans (hb.mono (by simp; omega))
    clear hb hm
    go_wp2_with fail
    exact bodyPost_ret (results_row_slot rfl _ _ rfl _ rfl _ _ ((q1.setCell 0 _).setCell 1 _) _ Try.underlying73 rfl 2 Try.info73 rfl) rfl ⟨rfl, (bl.setCell (by simp) _).setCell (by simp) _⟩
end Go.Proofs.Ytcjfaahlchbcmaa
