/- The reference's joiner: the walks of has and of Holds. -/
import Derived.Test.YthmcmdojnnbefaaUe
import Derived.Test.YthmcmdojnnbefaaSb
import Derived.BigQuiet
namespace Go.Proofs.Ythmcmdojnnbefaa
open Go.RowKit Go.BigFrame
set_option linter.unusedVariables false
set_option linter.unusedSimpArgs false

/-- A part that is kept, as a part. -/
def toP (id : Nat) (x : Pc) : Prt := ⟨id, (x.n : Int), x.last, x.d⟩
/-- The reference's joiner at tb. -/
structure JR (N : Nat) (w : World) (tb : Nat) (any : Bool) (s : Jn) (vL : Value) (qs : List (Prt × Value)) : Prop where
  row : Row w tb 48 #[.int .u64 (s.id : Int), vL, .bool any, .bool s.ended]
  own : OwnQ N w vL qs
  ls : qs.map (·.1) = s.L.map (toP s.id)
  nl : N ≤ tb
theorem JR.below {N tb : Nat} {w w' : World} {any : Bool} {s : Jn} {vL : Value} {qs : List (Prt × Value)} (h : JR N w tb any s vL qs) (hb : Below w.heap.size w w') : JR N w' tb any s vL qs := ⟨h.row.below hb h.row.lt, h.own.below hb, h.ls, h.nl⟩
theorem JR.len {N tb : Nat} {w : World} {any : Bool} {s : Jn} {vL : Value} {qs : List (Prt × Value)} (h : JR N w tb any s vL qs) : qs.length = s.L.length := by
  have := congrArg List.length h.ls
  simpa using this
theorem JR.at {N tb : Nat} {w : World} {any : Bool} {s : Jn} {vL : Value} {qs : List (Prt × Value)} (h : JR N w tb any s vL qs) {k : Nat} (hk : k < s.L.length) : ∃ g c vq, vL = .slice (some ⟨g, 0, none⟩) s.L.length c ∧ (toP s.id s.L[k], vq) ∈ qs ∧ w.rangeAt g (k * 4) (prC (toP s.id s.L[k]) vq) := by
  have hkq : k < qs.length := by rw [h.len]; exact hk
  obtain ⟨g, c, e, _, r⟩ := h.own.at hkq
  have e1 : qs[k].1 = toP s.id s.L[k] := by
    have := congrArg (fun l => l[k]?) h.ls
    simpa [hkq, hk] using this
  rw [e1] at r
  refine ⟨g, c, qs[k].2, by rw [← h.len]; exact e, ?_, r⟩
  rw [← e1]
  exact List.getElem_mem hkq
theorem get_cons (x : Pc) (L : List Pc) (n : Nat) : get (x :: L) n = if x.n = n then some x else get L n := by
  unfold get
  rw [List.find?_cons]
  by_cases h : x.n = n
  · simp [h]
  · rw [show (x.n == n) = false from beq_false_of_ne h, if_neg h]
theorem get_drop {L : List Pc} {k : Nat} (h : k < L.length) (n : Nat) : get (L.drop k) n = if L[k].n = n then some L[k] else get (L.drop (k + 1)) n := by
  rw [List.drop_eq_getElem_cons h, get_cons]
/-- How has ends. -/
def HEnd (w : World) (id : Nat) (qs : List (Prt × Value)) (r : Option Pc) (e : Ending) (w' : World) : Prop :=
  (match r with
  | none => e = .returned (.tuple #[.agg #[.int .u64 0, .int .i64 0, .bool false, .slice none 0 0], .bool false])
  | some x => ∃ vq, (toP id x, vq) ∈ qs ∧ e = .returned (.tuple #[pv (toP id x) vq, .bool true])) ∧ Below w.heap.size w w'

set_option maxRecDepth 100000 in
set_option maxHeartbeats 4000000 in
theorem has_any (N : Nat) (w : World) (tb : Nat) (any : Bool) (s : Jn) (vL : Value) (qs : List (Prt × Value)) (h : JR N w tb any s vL qs) (hl : s.L.length ≤ 256) (n : Nat) :
    Calls Try.prog 35 #[.pointer (some ⟨tb, 0, none⟩), .int .i64 (n : Int)] w (HEnd w s.id qs (get s.L n)) := by
  obtain ⟨w0, hw0⟩ : ∃ w0, w0 = w.alloc (.cells #[.int .u64 0, .int .i64 0, .bool false, .slice none 0 0] 25) := ⟨_, rfl⟩
  have b0 : Below w.heap.size w w0 := by rw [hw0]; exact (Below.refl _ _).alloc (Nat.le_refl _) _
  have r0 : Row w0 w.heap.size 25 #[.int .u64 0, .int .i64 0, .bool false, .slice none 0 0] := by rw [hw0]; exact Row.new _ _ _
  have HJ := Box'.mk (h.below b0)
  have HB0 := Box'.mk b0
  have HR0 := Box'.mk r0
  have hneq : w.heap.size ≠ tb := by have := h.row.lt; omega
  obtain ⟨aL, cL, hvL⟩ := h.own.slice
  rw [h.len] at hvL
  subst hvL
  have c1 : w0.cell? ⟨tb, 1, none⟩ = some (.slice aL s.L.length cL) := by rw [HJ.out.row.cell]; rfl
  have HG : Box' (get s.L n = get (s.L.drop 0) n) := ⟨by rw [List.drop_zero]⟩
  generalize get s.L n = R at *
  obtain ⟨ll, hll⟩ : ∃ ll, s.L.length = ll := ⟨_, rfl⟩
  rw [hll] at c1 hl
  have HLL := Box'.mk hll
  clear h b0 r0 hll
  go_enter Try.func35, Try.ntmps35
  go_wp2_with fail
  rw [← hw0]
  clear hw0
  go_loopw [6] (fun i wr => ∃ k : Nat, i = .int .i64 (k : Int) ∧ k ≤ ll ∧ Box' (R = get (s.L.drop k) n) ∧ wr = w0) (fun i _ => ll - (intOf i).toNat)
  case atStart => exact ⟨0, rfl, by omega, HG, rfl⟩
  case round =>
    clear HG
    obtain ⟨k, rfl, hk, HG, rfl⟩ := hrel
    by_cases hlt : k < ll
    · have hkl : k < s.L.length := by rw [HLL.out]; exact hlt
      obtain ⟨g, c, vq, e, hm, hr⟩ := HJ.out.at hkl
      rw [HLL.out] at e
      have e' := e
      injection e' with e1 _ e2
      subst e1 e2
      have HG2 : Box' (R = if s.L[k].n = n then some s.L[k] else get (s.L.drop (k + 1)) n) := ⟨by rw [HG.out, get_drop hkl]⟩
      generalize s.L[k] = x at *
      have cn : wr.cell? ⟨g, k * 4 + 1, none⟩ = some (.int .i64 (x.n : Int)) := hr 1 _ rfl
      have HRG := Box'.mk hr
      have HM := Box'.mk hm
      clear hr hm HG e
      by_cases hx : x.n = n
      · have e3 := HG2.out
        rw [if_pos hx] at e3
        subst e3
        have hxi : ((x.n : Int) == (n : Int)) = true := by simp [hx]
        have hxe : (x.n : Int) = (n : Int) := by omega
        have RM : Box' (Room wr w.heap.size 25 4) := ⟨⟨_, HR0.out, rfl⟩⟩
        obtain ⟨av, nv, cv, hvs⟩ : ∃ a n c, vq = .slice a n c := by obtain ⟨a, c, h⟩ := (HJ.out.own.own _ HM.out).slice; exact ⟨_, _, _, h⟩
        subst hvs
        clear HG2
        have HXE := Box'.mk hxe
        have HXX := Box'.mk hx
        clear hx hxe
        go_wp2_with (first
          | (refine wpList_load_mid rfl 25 (.tmp 31) rfl _ _ rfl _ _ HRG.out Try.underlying25 rfl Try.info25 ?_)
          | (refine wpList_store_row rfl 25 (.tmp 4) (.tmp 32) rfl w.heap.size rfl _ rfl 25 4 RM.out Try.info25 rfl (pt_one _ _ _ _ _ _) ?_))
        have rw1 : Row (wr.setRow w.heap.size (prC (toP s.id x) (.slice av nv cv)).toArray) w.heap.size 25 (prC (toP s.id x) (.slice av nv cv)).toArray := HR0.out.setRow _
        exact bodyPost_ret (v := .tuple #[.agg (prC (toP s.id x) (.slice av nv cv)).toArray, .bool true]) (results_row_slot rfl _ w.heap.size rfl (.bool true) rfl _ _ rw1 _ Try.underlying25 rfl 4 Try.info25 rfl) rfl ⟨⟨_, HM.out, rfl⟩, below_setRow HB0.out (Nat.le_refl _) _⟩
      · have e3 := HG2.out
        rw [if_neg hx] at e3
        have HG3 := Box'.mk e3
        have hxe : ¬ ((x.n : Int) = (n : Int)) := by omega
        clear HG2 e3 hx
        go_wp2_with fail
        exact ⟨⟨k + 1, by go_num, by omega, HG3, by first | rfl | trivial⟩, by simp [intOf]; omega⟩
    · obtain rfl : k = ll := by omega
      have e3 := HG.out
      rw [List.drop_of_length_le (by rw [HLL.out]; exact Nat.le_refl _)] at e3
      have e4 : R = none := e3
      subst e4
      have hrm : Room wr w.heap.size 25 4 := ⟨_, HR0.out, rfl⟩
      clear HG e3
      go_wp2_with (refine wpList_store_row rfl 25 (.tmp 4) (.tmp 33) rfl w.heap.size rfl _ rfl 25 4 hrm Try.info25 rfl zp_one ?_)
      have rw1 : Row (wr.setRow w.heap.size #[.int .u64 0, .int .i64 0, .bool false, .slice none 0 0]) w.heap.size 25 #[.int .u64 0, .int .i64 0, .bool false, .slice none 0 0] := HR0.out.setRow _
      exact bodyPost_ret (v := .tuple #[.agg #[.int .u64 0, .int .i64 0, .bool false, .slice none 0 0], .bool false]) (results_row_slot rfl _ w.heap.size rfl (.bool false) rfl _ _ rw1 _ Try.underlying25 rfl 4 Try.info25 rfl) rfl ⟨rfl, below_setRow HB0.out (Nat.le_refl _) _⟩
theorem sumD_take {L : List Pc} {k : Nat} (h : k < L.length) : sumD (L.take (k + 1)) = sumD (L.take k) + L[k].d.length := by
  rw [List.take_succ_eq_append_getElem h, sumD_append]
  simp [sumD]
set_option maxRecDepth 100000 in
set_option maxHeartbeats 4000000 in
theorem refHolds_any (N : Nat) (w : World) (tb : Nat) (any : Bool) (s : Jn) (vL : Value) (qs : List (Prt × Value)) (h : JR N w tb any s vL qs) (ho : JOk s) :
    Calls Try.prog 22 #[.pointer (some ⟨tb, 0, none⟩)] w fun e w' => e = .returned (.tuple #[.int .u64 (s.id : Int), .int .i64 (s.L.length : Int), .int .i64 (sumD s.L : Int)]) ∧ Below w.heap.size w w' := by
  have HJ := Box'.mk h
  have HO := Box'.mk ho
  have hl := ho.few
  obtain ⟨aL, cL, hvL⟩ := h.own.slice
  rw [h.len] at hvL
  subst hvL
  have c0 : w.cell? ⟨tb, 0, none⟩ = some (.int .u64 (s.id : Int)) := by rw [h.row.cell]; rfl
  have c1 : w.cell? ⟨tb, 1, none⟩ = some (.slice aL s.L.length cL) := by rw [h.row.cell]; rfl
  obtain ⟨ll, hll⟩ : ∃ ll, s.L.length = ll := ⟨_, rfl⟩
  rw [hll] at c1 hl ⊢
  have HLL := Box'.mk hll
  clear h ho hll
  go_enter Try.func22, Try.ntmps22
  go_wp2_with fail
  go_loopw [5, 6] (fun u i wr => ∃ k m : Nat, u = .int .i64 (m : Int) ∧ i = .int .i64 (k : Int) ∧ k ≤ ll ∧ m ≤ 262144 ∧ Box' (m = sumD (s.L.take k)) ∧ wr = w) (fun _ i _ => ll - (intOf i).toNat)
  case atStart => exact ⟨0, 0, rfl, rfl, by omega, by omega, ⟨by simp [sumD]⟩, rfl⟩
  case round =>
    obtain ⟨k, m, rfl, rfl, hk, hm, HM, hwr⟩ := hrel
    subst hwr
    by_cases hlt : k < ll
    · have hkl : k < s.L.length := by rw [HLL.out]; exact hlt
      obtain ⟨g, c, vq, e, hmm, hr⟩ := HJ.out.at hkl
      rw [HLL.out] at e
      injection e with e1 _ e2
      subst e1 e2
      obtain ⟨av, cv, hvq⟩ : ∃ av cv, vq = .slice av s.L[k].d.length cv := (HJ.out.own.own _ hmm).slice
      subst hvq
      have HM2 : Box' (m + s.L[k].d.length = sumD (s.L.take (k + 1))) := ⟨by rw [HM.out, sumD_take hkl]⟩
      have cn : wr.cell? ⟨g, k * 4 + 3, none⟩ = some (.slice av s.L[k].d.length cv) := hr 3 _ rfl
      have hdl : s.L[k].d.length ≤ 1024 := HO.out.len _ (List.getElem_mem hkl)
      have hm2 : m + s.L[k].d.length ≤ 262144 := by
        rw [HM2.out]
        refine Nat.le_trans (sumD_le (fun x hx => HO.out.len x (List.mem_of_mem_take hx))) ?_
        rw [List.length_take]
        omega
      generalize s.L[k].d.length = dl at *
      clear hr hmm HM
      go_wp2_with fail
      exact ⟨⟨k + 1, m + dl, by go_num, by go_num, by omega, hm2, HM2, by first | rfl | trivial⟩, by simp [intOf]; omega⟩
    · obtain rfl : k = ll := by omega
      have HMS : Box' (m = sumD s.L) := ⟨by rw [HM.out, List.take_of_length_le (by rw [HLL.out]; exact Nat.le_refl _)]⟩
      clear HM HJ HO
      go_wp2_with fail
      go_quiet (fail)
      go_wp2_with fail
      go_ret3
      exact ⟨by rw [← HMS.out]; rfl, Below.drewN (Below.refl _ _) _⟩
end Go.Proofs.Ythmcmdojnnbefaa
