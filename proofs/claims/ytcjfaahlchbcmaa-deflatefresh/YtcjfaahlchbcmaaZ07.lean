/- The walks of the reference's Weight and Bad, and of the counts and costs, the program's and the reference's. -/
import Derived.Test.YtcjfaahlchbcmaaZ06
import Derived.Test.YtcjfaahlchbcmaaZ05
import Derived.Test.YtcjfaahlchbcmaaZ01
import Derived.Test.YtcjfaahlchbcmaaZ02
import Derived.StillTail
import Derived.BigQuiet
import Derived.Deep.MidRow
namespace Go.Proofs.Ytcjfaahlchbcmaa
open Go.RowKit Go.BigFrame

theorem wgt_cases (l : List Int) : (l.all Gf.lenB = false → Gf.wgtE l = 2 ∧ Gf.wgtN l = 0) ∧ (l.all Gf.lenB = true → 512 < l.length → Gf.wgtE l = 4 ∧ Gf.wgtN l = 0) ∧ (l.all Gf.lenB = true → ¬ 512 < l.length → Gf.wgtE l = 0 ∧ Gf.wgtN l = Gf.wgt l) := by
  refine ⟨fun h => ?_, fun h h1 => ?_, fun h h1 => ?_⟩
  · have e : Gf.wgtE l = 2 := if_pos h
    exact ⟨e, by unfold Gf.wgtN; rw [e]; rfl⟩
  · have e : Gf.wgtE l = 4 := by unfold Gf.wgtE; rw [if_neg (by simp [h]), if_pos h1]
    exact ⟨e, by unfold Gf.wgtN; rw [e]; rfl⟩
  · have e : Gf.wgtE l = 0 := by unfold Gf.wgtE; rw [if_neg (by simp [h]), if_neg h1]
    exact ⟨e, by unfold Gf.wgtN; rw [e]; rfl⟩
theorem lenB_nat {x : Int} (h : Gf.lenB x = true) : ∃ n : Nat, x = (n : Int) ∧ n ≤ 15 := by
  have := of_decide_eq_true h
  exact ⟨x.toNat, by omega, by omega⟩
theorem lenB_not {x : Int} (h : Gf.lenB x = false) : x < 0 ∨ (¬ x < 0 ∧ 15 < x) := by
  have := of_decide_eq_false h
  omega

set_option maxHeartbeats 1000000 in
theorem refWeight_any (v : Value) (l : List Int) (hl : l.length ≤ 17592186044416) (w : World) (h : Ints w.heap.size w v l) :
    Calls Try.prog 68 #[v] w fun e w' => e = .returned (.tuple #[.int .i64 ((Gf.wgtN l : Nat) : Int), .int .i64 (Gf.wgtE l)]) ∧ w' = w := by
  obtain ⟨a, c, rfl, hc, h3⟩ := h
  have HCL := Box'.mk (Ints.cells h3)
  have TT := Box'.mk (Gf.wgt_take l)
  have AT := Box'.mk (Gf.all_take Gf.lenB l)
  have AN := Box'.mk (Gf.all_not Gf.lenB l)
  have WC := Box'.mk (wgt_cases l)
  have LE : Box' (l.take l.length = l) := ⟨List.take_length⟩
  generalize hn : l.length = n at *
  clear h3 hn
  go_enter Try.func68, Try.ntmps68
  go_wp2_with fail
  go_loop [4, 5] (fun t i => ∃ k m : Nat, k ≤ n ∧ i = .int .i64 (k : Int) ∧ t = .int .i64 (m : Int) ∧ m ≤ 32768 * k ∧ Box' (m = Gf.wgt (l.take k)) ∧ Box' ((l.take k).all Gf.lenB = true)) (fun _ i => n - (intOf i).toNat)
  case atStart => exact ⟨0, 0, by omega, rfl, rfl, by omega, ⟨by simp [Gf.wgt]⟩, ⟨by simp⟩⟩
  case round =>
    obtain ⟨k, m, hk, rfl, rfl, hm, HM, HA⟩ := hrel
    by_cases hlt : k < n
    · obtain ⟨b, o, rfl, hbw, c0⟩ := HCL.out k hlt
      have TK := Box'.mk (TT.out k hlt)
      have AK := Box'.mk (AT.out k hlt HA.out)
      have NK := Box'.mk (AN.out k hlt)
      have hsl := Gf.shr_le (l.getD k 0)
      generalize l.getD k 0 = x at *
      cases hx : Gf.lenB x with
      | false =>
        have e2 := Box'.mk (WC.out.1 (NK.out hx))
        clear HCL TT AT AN NK AK WC hsl TK
        rcases lenB_not hx with h1 | ⟨h1, h2⟩
        · clear hx
          go_wp2_with fail
          go_ret2
          exact ⟨by rw [e2.out.1, e2.out.2]; rfl, rfl⟩
        · clear hx
          go_wp2_with fail
          go_ret2
          exact ⟨by rw [e2.out.1, e2.out.2]; rfl, rfl⟩
      | true =>
        have AK2 := Box'.mk (AK.out hx)
        obtain ⟨s, rfl, hs⟩ := lenB_nat hx
        clear hx
        by_cases h0 : s = 0
        · subst h0
          clear HCL TT AT AN NK WC
          go_wp2_with fail
          refine ⟨⟨k + 1, m, by omega, by go_num, rfl, by omega, ⟨by rw [TK.out, HM.out]; rfl⟩, ⟨AK2.out⟩⟩, by simp [intOf]; omega⟩
        · have E := Box'.mk (shl_shr s hs h0)
          have i0 : (0 : Int) < (s : Int) := by omega
          have hE : (wrap64 (2 ^ (15 - s)) : Int) ≤ 32768 := by rw [E.out]; omega
          have hE2 : 0 ≤ (wrap64 (2 ^ (15 - s)) : Int) := by rw [E.out]; omega
          clear HCL TT AT AN NK WC
          go_wp2_with fail
          refine ⟨⟨k + 1, m + Gf.shr (s : Int), by omega, by go_num, ?_, by omega, ⟨by rw [TK.out, HM.out]⟩, ⟨AK2.out⟩⟩, by simp [intOf]; omega⟩
          rw [E.out]; go_num
    · obtain rfl : k = n := by omega
      have h1 := HM.out
      have hA := HA.out
      rw [LE.out] at h1 hA
      by_cases h5 : 512 < k
      · have e5 := Box'.mk (WC.out.2.1 hA h5)
        have e6 : (512 : Int) < (k : Int) := by omega
        clear hA HCL AT AN WC HA TT h1 HM
        go_wp2_with fail
        go_ret2
        exact ⟨by rw [e5.out.1, e5.out.2]; rfl, rfl⟩
      · have e5 := Box'.mk (WC.out.2.2 hA h5)
        have e6 : ¬ (512 : Int) < (k : Int) := by omega
        clear hA HCL AT AN WC HA TT HM
        go_wp2_with fail
        go_ret2
        exact ⟨by rw [e5.out.1, e5.out.2]; rfl, rfl⟩

set_option maxHeartbeats 1000000 in
theorem refBad_any (v : Value) (l : List Int) (hl : l.length ≤ 17592186044416) (w : World) (h : Ints w.heap.size w v l) :
    Calls Try.prog 52 #[v] w fun e w' => e = .returned (.int .i64 (Gf.chkE l)) ∧ w' = w := by
  have hw := refWeight_any v l hl w h
  obtain ⟨a, c, rfl, hc, h3⟩ := h
  have CC := Gf.chkE_cases l
  have WC := wgt_cases l
  by_cases hA : l.all Gf.lenB = true
  · by_cases h5 : 512 < l.length
    · obtain ⟨w1, w2⟩ := WC.2.1 hA h5
      rw [w1, w2] at hw
      have HCL := Box'.mk (Ints.cells h3)
      have TT := Box'.mk (Gf.wgt_take l)
      have AG := Box'.mk (Gf.all_get Gf.lenB l hA)
      have LE : Box' (l.take l.length = l) := ⟨List.take_length⟩
      have C1 : Box' (if 32768 < Gf.wgt l then Gf.chkE l = 2 else Gf.chkE l = 4) := ⟨by
        unfold Gf.chkE
        split
        · rename_i hh; rw [if_pos (.inr hh)]
        · rename_i hh
          have hh2 : ¬ (l.all Gf.lenB = false ∨ 32768 < Gf.wgt l) := by simp [hA]; omega
          simp only [hh2, if_false]⟩
      generalize hn : l.length = n at *
      clear h3 hn CC WC hA w1 w2
      go_enter Try.func52, Try.ntmps52
      go_wp2_with (go_at_call 68; refine hw.mono ?_; rintro e w' ⟨rfl, rfl⟩)
      go_loop [3, 5] (fun t i => ∃ k m : Nat, k ≤ n ∧ i = .int .i64 (k : Int) ∧ t = .int .i64 (m : Int) ∧ m ≤ 32768 * k ∧ Box' (m = Gf.wgt (l.take k))) (fun _ i => n - (intOf i).toNat)
      case atStart => exact ⟨0, 0, by omega, rfl, rfl, by omega, ⟨by simp [Gf.wgt]⟩⟩
      case round =>
        obtain ⟨k, m, hk, rfl, rfl, hm, HM⟩ := hrel
        by_cases hlt : k < n
        · obtain ⟨b, o, rfl, hbw, c0⟩ := HCL.out k hlt
          have TK := Box'.mk (TT.out k hlt)
          have hsl := Gf.shr_le (l.getD k 0)
          have hx := AG.out k hlt
          generalize l.getD k 0 = x at *
          obtain ⟨s, rfl, hs⟩ := lenB_nat hx
          clear hx hw
          by_cases h0 : s = 0
          · subst h0
            clear HCL TT AG
            go_wp2_with fail
            refine ⟨⟨k + 1, m, by omega, by go_num, rfl, by omega, ⟨by rw [TK.out, HM.out]; rfl⟩⟩, by simp [intOf]; omega⟩
          · have E := Box'.mk (shl_shr s hs h0)
            have i0 : (0 : Int) < (s : Int) := by omega
            have hE : (wrap64 (2 ^ (15 - s)) : Int) ≤ 32768 := by rw [E.out]; omega
            have hE2 : 0 ≤ (wrap64 (2 ^ (15 - s)) : Int) := by rw [E.out]; omega
            clear HCL TT AG
            go_wp2_with fail
            refine ⟨⟨k + 1, m + Gf.shr (s : Int), by omega, by go_num, ?_, by omega, ⟨by rw [TK.out, HM.out]⟩⟩, by simp [intOf]; omega⟩
            rw [E.out]; go_num
        · obtain rfl : k = n := by omega
          have h1 := HM.out
          rw [LE.out] at h1
          by_cases h6 : 32768 < m
          · have e1 : Box' (Gf.chkE l = 2) := ⟨by have := C1.out; rw [if_pos (by omega)] at this; exact this⟩
            have i6 : (32768 : Int) < (m : Int) := by omega
            clear HCL TT AG HM h1 C1 hw
            go_wp2_with fail
            go_ret
            exact ⟨by rw [e1.out]; rfl, rfl⟩
          · have e1 : Box' (Gf.chkE l = 4) := ⟨by have := C1.out; rw [if_neg (by omega)] at this; exact this⟩
            have i6 : ¬ (32768 : Int) < (m : Int) := by omega
            clear HCL TT AG HM h1 C1 hw
            go_wp2_with fail
            go_ret
            exact ⟨by rw [e1.out]; rfl, rfl⟩
    · obtain ⟨w1, w2⟩ := WC.2.2 hA h5
      rw [w1, w2] at hw
      by_cases h6 : 32768 < Gf.wgt l
      · have e1 : Gf.chkE l = 2 := if_pos (.inr h6)
        rw [e1]
        have i6 : (32768 : Int) < (Gf.wgt l : Int) := by omega
        generalize Gf.wgt l = m at *
        clear CC WC h3 w1 w2 e1
        go_enter Try.func52, Try.ntmps52
        go_wp2_with (go_at_call 68; refine hw.mono ?_; rintro e w' ⟨rfl, rfl⟩)
        go_ret
        exact ⟨rfl, rfl⟩
      · have e1 : Gf.chkE l = 0 := by unfold Gf.chkE; rw [if_neg (by simp [hA]; omega), if_neg h5]
        rw [e1]
        have i6 : ¬ (32768 : Int) < (Gf.wgt l : Int) := by omega
        generalize Gf.wgt l = m at *
        clear CC WC h3 w1 w2 e1
        go_enter Try.func52, Try.ntmps52
        go_wp2_with (go_at_call 68; refine hw.mono ?_; rintro e w' ⟨rfl, rfl⟩)
        go_ret
        exact ⟨rfl, rfl⟩
  · have hA' : l.all Gf.lenB = false := by simpa using hA
    obtain ⟨w1, w2⟩ := WC.1 hA'
    have e1 : Gf.chkE l = 2 := if_pos (.inl hA')
    rw [w1, w2] at hw
    rw [e1]
    clear CC WC h3 w1 w2 e1 hA hA'
    go_enter Try.func52, Try.ntmps52
    go_wp2_with (go_at_call 68; refine hw.mono ?_; rintro e w' ⟨rfl, rfl⟩)
    go_ret
    exact ⟨rfl, rfl⟩

theorem cntB_not {x : Int} (h : Gf.cntB x = false) : x < 0 ∨ (¬ x < 0 ∧ 1048576 < x) := by
  have := of_decide_eq_false h
  omega
theorem cntB_yes {x : Int} (h : Gf.cntB x = true) : ¬ x < 0 ∧ ¬ 1048576 < x := by
  have := of_decide_eq_true h
  omega
end Go.Proofs.Ytcjfaahlchbcmaa

/- A region that draws its order: its head only reads, its tail is forced. -/
namespace Go.Proofs.Ytcjfaahlchbcmaa

section
variable {P : Program} {ops : Array Oper} {w : World}

theorem still_of_quiet {o : Oper} {a : Act} {K K' : Act → Prop} (hk : ∀ a, K a → K' a) (h : o.quiet P a (fun w' => w' = w) K) : o.still P a w K' := by
  obtain ⟨v, h1, h2⟩ := h
  have h3 := h1 w rfl
  unfold Oper.quietAt at h3
  unfold Oper.still
  generalize (execOp a.eval o).run P w = r at *
  cases r with
  | ok n w' =>
    cases n <;> simp only [Oper.quietUpon] at h3 <;> simp only [Oper.stillUpon]
    case value u => obtain ⟨e1, e2⟩ := h3; subst e1 e2; exact ⟨rfl, hk _ h2⟩
    case skip => obtain ⟨e1, e2⟩ := h3; subst e1 e2; exact ⟨rfl, hk _ h2⟩
    case enter f args => obtain ⟨e1, e2⟩ := h3; subst e1; exact ⟨rfl, v, e2, hk _ h2⟩
  | halt x w' => simp only [Oper.quietUpon] at h3

theorem wpStill_of_quiet {Q : Act → Prop} : ∀ (l : List Oper) (a : Act), wpQuiet P ops (fun w' => w' = w) Q l a → wpStill P ops w Q l a
  | [], _, h => h
  | o :: rest, a, h => by
    unfold wpQuiet at h
    unfold wpStill
    split
    · rename_i hw
      simp only [hw, if_true] at h
      exact still_of_quiet (fun a' h' => wpStill_of_quiet rest a' h') h
    · rename_i hw
      simp only [hw] at h
      exact wpStill_of_quiet rest _ h
end

theorem wp_region_tail {P : Program} {id : Nat} {Q : Exit → Act → World → Prop} {a : Act} {w : World} {l : List Oper} (n : Nat) (hm : P.follows .mixedOrders = true) (hB : Region.lexTailB .any l.toArray n = true)
    (h : wpQuiet P l.toArray (fun w' => w' = w.drew) (fun a' => wpList P l.toArray Q (l.drop n) a' w.drew) (l.take n) a) : (Code.region id l.toArray true).wp P Q a w :=
  wp_region_still_tail n hm hB (wpStill_of_quiet _ _ h)

/-! A part of a row, as one value. -/
theorem Row.range {w : World} {b : Nat} {t : TypeId} {l : List UInt8} (h : Row w b t (ag l)) (o n : Nat) : w.rangeAt b o (((l.drop o).take n).map B) := fun j v hv => by
  rw [h.cell]
  simp only [List.getElem?_map, List.getElem?_take, List.getElem?_drop] at hv
  split at hv
  · simpa [ag] using hv
  · simp at hv

theorem run_load_part {P : Program} (w : World) (ty : TypeId) (b o : Nat) (t : TypeId) (l : List UInt8) (hr : Row w b t (ag l)) (d : TypeDesc) (hu : P.underlying ty = some d) (hd : d.isRow = true) (n : Nat) (hi : (P.info? ty).map (·.size) = some n) (hn : o + n ≤ l.length) :
    (Instr.loadAt ty (.pointer (some ⟨b, o, none⟩))).run P w = .ok (.agg (ag ((l.drop o).take n))) w :=
  run_loadAt_mid w b o ty _ d (hr.range o n) hu hd (by rw [hi]; simp; omega)

theorem wpList_load_part {P : Program} {ops : Array Oper} {rest : List Oper} {op : Oper} {a : Act} {w : World} {Q : Exit → Act → World → Prop} (hgd : op.guard = none) (ty : TypeId) (x : Operand) (ho : op.op = .load ty x) (b o : Nat) (hx : a.eval x = .pointer (some ⟨b, o, none⟩))
    (t : TypeId) (l : List UInt8) (hr : Row w b t (ag l)) (d : TypeDesc) (hu : P.underlying ty = some d) (hd : d.isRow = true) (n : Nat) (hi : (P.info? ty).map (·.size) = some n) (hn : o + n ≤ l.length)
    (h : wpList P ops Q rest (a.put op.dst (.agg (ag ((l.drop o).take n)))) w) : wpList P ops Q (op :: rest) a w :=
  wpList_load_mid hgd ty x ho b o hx _ d (hr.range o n) hu hd (by rw [hi]; simp; omega) h

theorem quiet_load_row {P : Program} {C : World → Prop} {K : Act → Prop} {op : Oper} {a : Act} (ty : TypeId) (x : Operand) (ho : op.op = .load ty x) (b : Nat) (hx : a.eval x = .pointer (some ⟨b, 0, none⟩))
    (t : TypeId) (c : Array Value) (hr : ∀ w, C w → Row w b t c) (d : TypeDesc) (hu : P.underlying ty = some d) (hd : (match d with | .struct _ | .array _ _ => true | _ => false) = true) (n : Nat) (hi : (P.info? ty).map (·.size) = some n) (hn : c.size = n)
    (h : K (a.put op.dst (.agg c))) : op.quiet P a C K :=
  ⟨_, fun w hw => by
    have hrun := run_loadVar_row (P := P) w b t ty c (0, 0) d (hr w hw) hu hd (by rw [hn]; exact hi)
    unfold Oper.quietAt execOp
    simp only [ho, hx, Instr.loadAt, Instr.sureAddr, Sem.run_bind, Sem.run_pure, hrun, Result.andThen_ok]
    exact ⟨rfl, rfl⟩, h⟩

theorem quiet_load_part {P : Program} {C : World → Prop} {K : Act → Prop} {op : Oper} {a : Act} (ty : TypeId) (x : Operand) (ho : op.op = .load ty x) (b o : Nat) (hx : a.eval x = .pointer (some ⟨b, o, none⟩))
    (t : TypeId) (l : List UInt8) (hr : ∀ w, C w → Row w b t (ag l)) (d : TypeDesc) (hu : P.underlying ty = some d) (hd : d.isRow = true) (n : Nat) (hi : (P.info? ty).map (·.size) = some n) (hn : o + n ≤ l.length)
    (h : K (a.put op.dst (.agg (ag ((l.drop o).take n))))) : op.quiet P a C K :=
  ⟨_, fun w hw => by
    have hrun := run_load_part (P := P) w ty b o t l (hr w hw) d hu hd n hi hn
    unfold Oper.quietAt execOp
    simp only [ho, hx, Sem.run_bind, hrun, Result.andThen_ok]
    exact ⟨rfl, rfl⟩, h⟩

end Go.Proofs.Ytcjfaahlchbcmaa

/- The walks of firsts and numbers. -/
namespace Go.Proofs.Ytcjfaahlchbcmaa
open Go.RowKit Go.BigFrame

/-! Numbers in a row. -/
def ai (l : List Int) : Array Value := (l.map (Value.int .i64)).toArray
theorem ai_size (l : List Int) : (ai l).size = l.length := by simp [ai]
theorem ai_get {l : List Int} {k : Nat} (h : k < l.length) : (ai l)[k]? = some (.int .i64 (l.getD k 0)) := by simp [ai, h]
theorem ai_set (l : List Int) (k : Nat) (x : Int) : (ai l).setIfInBounds k (.int .i64 x) = ai (l.set k x) := by
  simp only [ai, List.setIfInBounds_toArray, List.map_set]
theorem ai_one (l : List Int) : (ai l).all (·.oneCell') = true := by
  rw [Array.all_eq_true_iff_forall_mem]; intro v hv
  simp only [ai, List.mem_toArray, List.mem_map] at hv
  obtain ⟨x, _, rfl⟩ := hv; rfl
theorem Row.int {w : World} {b : Nat} {t : TypeId} {l : List Int} (h : Row w b t (ai l)) {k : Nat} (hk : k < l.length) : w.cell? ⟨b, k, none⟩ = some (.int .i64 (l.getD k 0)) := by
  rw [h.cell, ai_get hk]
theorem Row.setInt {w : World} {b : Nat} {t : TypeId} {l : List Int} (h : Row w b t (ai l)) (k : Nat) (x : Int) : Row (w.setCell ⟨b, k, none⟩ (.int .i64 x)) b t (ai (l.set k x)) := by
  rw [← ai_set]; exact h.setCell k _

/-! The states of firsts and numbers. -/
def sixteen (f : Nat → Nat) : List Int := (List.range 16).map fun n => (f n : Int)
theorem sixteen_len (f : Nat → Nat) : (sixteen f).length = 16 := by simp [sixteen]
theorem sixteen_get (f : Nat → Nat) (n : Nat) (h : n < 16) : (sixteen f).getD n 0 = (f n : Int) := by simp [sixteen, h]
theorem sixteen_set (f g : Nat → Nat) (n : Nat) (x : Int) (hx : x = (g n : Int)) (hg : ∀ m, m < 16 → m ≠ n → g m = f m) : (sixteen f).set n x = sixteen g := by
  subst hx
  apply List.ext_getElem
  · simp [sixteen]
  · intro m h1 h2
    simp only [sixteen, List.length_set, List.length_map, List.length_range] at h1
    simp only [sixteen, List.getElem_set, List.getElem_map, List.getElem_range]
    split
    · rename_i e; subst e; rfl
    · rename_i e; rw [hg m h1 (Ne.symm e)]
theorem sixteen_zero (f : Nat → Nat) (h : ∀ n, n < 16 → f n = 0) : sixteen f = sixteen fun _ => 0 := by
  unfold sixteen
  apply List.map_congr_left
  intro n hn
  rw [h n (List.mem_range.1 hn)]
def firstTo (l : List Int) (m n : Nat) : Nat := if n ≤ m then Gf.low l n else 0

set_option maxRecDepth 100000 in
theorem Try.info134 : (Try.prog.info? 134).map (·.size) = some 16 := by kernel_rfl
set_option maxRecDepth 100000 in
theorem Try.zero134 : (Try.prog.info? 134).map (fun i => (i.zero, i.size)) = some (some (.agg (ai (sixteen fun _ => 0))), 16) := by kernel_rfl

set_option maxRecDepth 100000 in
set_option maxHeartbeats 1000000 in
theorem firsts_any (v : Value) (l : List Int) (hA : l.all Gf.lenB = true) (hW : Gf.wgt l ≤ 32768) (h512 : l.length ≤ 512) (w : World) (h : Ints w.heap.size w v l) :
    Calls Try.prog 82 #[v] w fun e w' => e = .returned (.agg (ai (sixteen (Gf.low l)))) ∧ Below w.heap.size w w' := by
  obtain ⟨a, c, rfl, hc, h3⟩ := h
  have HCL := Box'.mk (Ints.cells h3)
  have AG := Box'.mk (Gf.all_get Gf.lenB l hA)
  have HA := Box'.mk hA
  have EB : Box' (∀ n k, n ≤ 15 → k ≤ l.length → Gf.low l n + Gf.eqk l n k ≤ 32768) := ⟨fun n k h1 h2 => Nat.le_trans (Gf.nxt_le l hA n k h1 h2) hW⟩
  have ES : Box' (∀ k, k < l.length → (sixteen fun n => Gf.eqk l n k).set (Gf.ln l k) ((Gf.eqk l (Gf.ln l k) k : Int) + (Gf.shr (l.getD k 0) : Nat)) = sixteen fun n => Gf.eqk l n (k + 1)) := ⟨fun k hk => by
    have hl := Gf.ln_le l hA k
    apply sixteen_set
    · rw [Gf.eqk_succ l _ k hk, if_pos hl.2, hl.2]; omega
    · intro m _ hm
      rw [Gf.eqk_succ l _ k hk, if_neg (by rw [hl.2]; omega)]; omega⟩
  have LN : Box' (∀ k, l.getD k 0 = (Gf.ln l k : Int) ∧ Gf.ln l k ≤ 15) := ⟨fun k => ⟨(Gf.ln_le l hA k).2, (Gf.ln_le l hA k).1⟩⟩
  have E0 : Box' ((sixteen fun n => Gf.eqk l n 0) = sixteen fun _ => 0) := ⟨sixteen_zero _ fun n _ => Gf.eqk_zero l n⟩
  have F0 : Box' (sixteen (firstTo l 0) = sixteen fun _ => 0) := ⟨sixteen_zero _ fun n _ => by
    unfold firstTo
    split
    · rename_i hh; have : n = 0 := by omega
      subst this; exact Gf.low_zero l hA
    · rfl⟩
  have F15 : Box' (sixteen (firstTo l 15) = sixteen (Gf.low l)) := ⟨by
    unfold sixteen
    apply List.map_congr_left
    intro n hn
    have := List.mem_range.1 hn
    unfold firstTo; rw [if_pos (by omega)]⟩
  have FS : Box' (∀ m, m < 15 → (sixteen (firstTo l m)).set (m + 1) ((Gf.low l m : Int) + (Gf.eqk l m l.length : Int)) = sixteen (firstTo l (m + 1))) := ⟨fun m hm => by
    apply sixteen_set
    · unfold firstTo; rw [if_pos (Nat.le_refl _), Gf.low_succ]; omega
    · intro j _ hj
      unfold firstTo
      by_cases h1 : j ≤ m
      · rw [if_pos h1, if_pos (by omega)]
      · rw [if_neg h1, if_neg (by omega)]⟩
  have FG : Box' (∀ m, m ≤ 15 → (sixteen (firstTo l m)).getD m 0 = (Gf.low l m : Int)) := ⟨fun m hm => by rw [sixteen_get _ _ (by omega)]; unfold firstTo; rw [if_pos (Nat.le_refl _)]⟩
  generalize hn : l.length = n at *
  clear h3 hn hA hW
  go_enter Try.func82, Try.ntmps82
  go_wp2_with (refine wpList_alloc_row rfl 134 rfl _ _ Try.zero134 ?_)
  go_loopw [10] (fun i wr => ∃ k : Nat, k ≤ n ∧ i = .int .i64 (k : Int) ∧ Row wr (w.heap.size + 1) 134 (ai (sixteen fun m => Gf.eqk l m k)) ∧ Row wr (w.heap.size + 2) 134 (ai (sixteen fun _ => 0)) ∧ Room wr w.heap.size 134 16 ∧ Below w.heap.size w wr) (fun i _ => n - (intOf i).toNat)
  case atStart =>
    refine ⟨0, by omega, rfl, ?_, ?_, ?_, ?_⟩
    · rw [E0.out]; exact (Row.made _ _ _ _ _ rfl (by simp)).alloc _
    · exact Row.made _ _ _ _ _ rfl (by simp)
    · exact ((Room.new _ _ _ _ rfl).alloc _).alloc _
    · exact (((Below.refl _ _).alloc (Nat.le_refl _) _).alloc (by simp) _).alloc (by simp; omega) _
  case round =>
    obtain ⟨k, hk, rfl, r1, r2, r3, hbl⟩ := hrel
    by_cases hlt : k < n
    · obtain ⟨b, o, rfl, hbw, c0⟩ := HCL.out k hlt
      have ESk := Box'.mk (ES.out k hlt)
      have hs := fun w => share_any _ (AG.out k hlt) w
      obtain ⟨hx, hx15⟩ := LN.out k
      have hsl := Gf.shr_le (l.getD k 0)
      have hEB := EB.out (Gf.ln l k) k hx15 (by omega)
      obtain ⟨hc0, -⟩ := bcell hbl
      rw [← hc0 _ _ hbw, hx] at c0
      have cT := r1.int (k := Gf.ln l k) (by rw [sixteen_len]; omega)
      rw [sixteen_get _ _ (by omega)] at cT
      have fT := r1.frozen (Gf.ln l k)
      rw [hx] at hs hsl ESk
      generalize Gf.shr ((Gf.ln l k : Nat) : Int) = y at *
      generalize hsx : Gf.ln l k = s at *
      generalize hex : Gf.eqk l s k = x at *
      clear HCL AG ES LN E0 F0 F15 FS FG EB hc0 hsx hex hx
      go_wp2_with fail
      refine wp_region_tail 6 (by kernel_rfl) (by kernel_rfl) ?_
      simp only [List.take_succ_cons, List.take_zero, List.drop_succ_cons, List.drop_zero]
      repeat (first | go_big_quiet_step (fail) | (go_big_quiet_want; go_big_quiet_op; refine ⟨_, hs _, ?_⟩; go_big_quiet_on))
      refine wpQuiet_nil ?_
      go_wp2_with fail
      refine ⟨⟨k + 1, by omega, by go_num, ?_, ?_, ?_, ?_⟩, by simp [intOf]; omega⟩
      · have := (r1.drew).setInt s ((x : Int) + (y : Int))
        rw [ESk.out] at this
        exact this
      · exact r2.drew.setOther _ _ (by simp)
      · exact r3.drew.setOther _ _ (by simp)
      · exact hbl.drew.setCell (by simp) _
    · obtain rfl : k = n := by omega
      clear HCL AG ES E0
      go_wp2_with fail
      go_loopw [7] (fun i wr => ∃ m : Nat, 1 ≤ m ∧ m ≤ 16 ∧ i = .int .i64 (m : Int) ∧ Row wr (w.heap.size + 1) 134 (ai (sixteen fun j => Gf.eqk l j k)) ∧ Row wr (w.heap.size + 2) 134 (ai (sixteen (firstTo l (m - 1)))) ∧ Room wr w.heap.size 134 16 ∧ Below w.heap.size w wr) (fun i _ => 16 - (intOf i).toNat)
      case atStart => exact ⟨1, by omega, by omega, rfl, r1, by rw [F0.out]; exact r2, r3, hbl⟩
      case round =>
        clear r1 r2 r3 hbl
        obtain ⟨m, hm1, hm2, rfl, r1, r2, r3, hbl⟩ := hrel
        by_cases hlt : m ≤ 15
        · obtain ⟨m, rfl⟩ : ∃ j, m = j + 1 := ⟨m - 1, by omega⟩
          rw [Nat.add_sub_cancel] at r2
          have FSm := Box'.mk (FS.out m (by omega))
          have cF := r2.int (k := m) (by rw [sixteen_len]; omega)
          rw [FG.out m (by omega)] at cF
          have cT := r1.int (k := m) (by rw [sixteen_len]; omega)
          rw [sixteen_get _ _ (by omega)] at cT
          have fF := r2.frozen (m + 1)
          have cG := r2.int (k := m + 1) (by rw [sixteen_len]; omega)
          rw [show w.heap.size + 2 = w.heap.size + 1 + 1 from rfl] at fF cG cF
          have hEB := EB.out m k (by omega) (by omega)
          generalize Gf.low l m = x at *
          generalize Gf.eqk l m k = y at *
          clear F0 F15 FS FG EB LN
          go_wp2_with fail
          refine wp_region_tail 10 (by kernel_rfl) (by kernel_rfl) ?_
          simp only [List.take_succ_cons, List.take_zero, List.drop_succ_cons, List.drop_zero]
          repeat (go_big_quiet_step (fail))
          refine wpQuiet_nil ?_
          go_wp2_with fail
          refine ⟨⟨m + 2, by omega, by omega, by go_num, ?_, ?_, ?_, ?_⟩, by simp [intOf]; omega⟩
          · exact r1.drew.setOther _ _ (by show w.heap.size + 1 ≠ w.heap.size + 1 + 1; omega)
          · have := (r2.drew).setInt (m + 1) ((x : Int) + (y : Int))
            rw [FSm.out] at this
            exact this
          · exact r3.drew.setOther _ _ (by show w.heap.size ≠ w.heap.size + 1 + 1; omega)
          · exact hbl.drew.setCell (by show w.heap.size ≤ w.heap.size + 1 + 1; omega) _
        · obtain rfl : m = 16 := by omega
          have r2' : Row wr (w.heap.size + 2) 134 (ai (sixteen (Gf.low l))) := by rw [← F15.out]; exact r2
          have hsz : (ai (sixteen (Gf.low l))).size = 16 := by rw [ai_size, sixteen_len]
          have h1 := ai_one (sixteen (Gf.low l))
          generalize hZ : ai (sixteen (Gf.low l)) = Z at *
          clear F0 F15 FS FG EB LN r2
          go_wp2_with (first
            | (refine wpList_load_row rfl 134 _ rfl _ rfl _ _ r2' _ Try.underlying134 rfl 16 Try.info134 hsz ?_)
            | (refine wpList_store_row rfl 134 _ _ rfl _ rfl _ rfl _ _ r3 Try.info134 hsz h1 ?_))
          exact bodyPost_ret (results_row rfl _ _ rfl _ _ (r3.setRow _) _ Try.underlying134 rfl 16 Try.info134 hsz) rfl ⟨by rw [hZ], below_setRow hbl (by omega) _⟩
end Go.Proofs.Ytcjfaahlchbcmaa
