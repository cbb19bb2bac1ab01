/- What the program's Tick asks: how long ago, a copy of bytes, a difference, what is told. -/
import Derived.Test.YtikkekdmahdgaaaTd
import Derived.Test.YtikkekdmahdgaaaRp
namespace Go.Proofs.Ytikkekdmahdgaaa
open Go.RowKit Go.BigFrame
set_option linter.unusedSimpArgs false
set_option linter.unusedVariables false
set_option maxRecDepth 100000

theorem after_any (b4 b5 p : Nat) (any : Bool) (tm now : Nat) (ms : Int) (w : World) (h4 : w.cell? ⟨b4, 0, none⟩ = some (.pointer (some ⟨p, 0, none⟩))) (h5 : w.cell? ⟨b5, 0, none⟩ = some (.int .u64 (now : Int))) (hp3 : w.cell? ⟨p, 3, none⟩ = some (.bool any)) (hp4 : w.cell? ⟨p, 4, none⟩ = some (.int .u64 (tm : Int)))
    (hn : now < 18446744073709551616) (h0 : 0 ≤ ms) (h1 : ms < 9223372036854775808) (ho : any = true → tm ≤ now) :
    Calls Try.prog 45 #[.int .i64 ms, .pointer (some ⟨b4, 0, none⟩), .pointer (some ⟨b5, 0, none⟩)] w fun e w' => e = .returned (.bool (!any || decide (ms ≤ ((now - tm : Nat) : Int)))) ∧ Below w.heap.size w w' := by
  have C4 : Box' (∀ wa : World, wa = w.drew → wa.cell? ⟨b4, 0, none⟩ = some (.pointer (some ⟨p, 0, none⟩))) := ⟨fun wa e => by subst e; exact h4⟩
  have C5 : Box' (∀ wa : World, wa = w.drew → wa.cell? ⟨b5, 0, none⟩ = some (.int .u64 (now : Int))) := ⟨fun wa e => by subst e; exact h5⟩
  have D3 : Box' (∀ wa : World, wa = w.drew → wa.cell? ⟨p, 3, none⟩ = some (.bool any)) := ⟨fun wa e => by subst e; exact hp3⟩
  have D4 : Box' (∀ wa : World, wa = w.drew → wa.cell? ⟨p, 4, none⟩ = some (.int .u64 (tm : Int))) := ⟨fun wa e => by subst e; exact hp4⟩
  have BD := Box'.mk ((Below.refl w.heap.size w).drew)
  clear h4 h5 hp3 hp4
  go_enter Try.func45, Try.ntmps45
  go_upto_region 1 with (fail)
  cases any with
  | false =>
    refine wp_region_lex (fun wa => wa = w.drew) (by kernel_rfl) (by kernel_rfl) rfl ?_
    go_big_quiet_want
    refine qC_load23 (.tmp 1) rfl b4 0 _ rfl C4.out ?_
    simp only [Act.put, List.setIfInBounds_toArray, List.set_cons_succ, List.set_cons_zero]
    go_big_quiet_on
    go_big_quiet_want
    go_big_quiet_op
    first | go_big_quiet_on | (refine ⟨_, fun _ _ => rfl, ?_⟩; go_big_quiet_on) | (refine ⟨_, fun _ _ _ => rfl, ?_⟩; go_big_quiet_on)
    go_big_quiet_want
    go_big_quiet_op
    first | go_big_quiet_on | (refine ⟨_, fun _ _ => rfl, ?_⟩; go_big_quiet_on) | (refine ⟨_, fun _ _ _ => rfl, ?_⟩; go_big_quiet_on)
    go_big_quiet_want
    refine qC_load4 (.tmp 7) rfl p 3 _ rfl D3.out ?_
    simp only [Act.put, List.setIfInBounds_toArray, List.set_cons_succ, List.set_cons_zero]
    go_big_quiet_on
    go_big_quiet_want
    go_big_quiet_op
    first | go_big_quiet_on | (refine ⟨_, fun _ _ => rfl, ?_⟩; go_big_quiet_on) | (refine ⟨_, fun _ _ _ => rfl, ?_⟩; go_big_quiet_on)
    go_big_quiet_want
    go_big_quiet_op
    first | go_big_quiet_on | (refine ⟨_, fun _ _ => rfl, ?_⟩; go_big_quiet_on) | (refine ⟨_, fun _ _ _ => rfl, ?_⟩; go_big_quiet_on)
    go_big_quiet_skip
    go_big_quiet_skip
    go_big_quiet_skip
    go_big_quiet_skip
    go_big_quiet_skip
    go_big_quiet_skip
    go_big_quiet_skip
    go_big_quiet_skip
    go_big_quiet_skip
    go_big_quiet_want
    go_big_quiet_op
    first | go_big_quiet_on | (refine ⟨_, fun _ _ => rfl, ?_⟩; go_big_quiet_on) | (refine ⟨_, fun _ _ _ => rfl, ?_⟩; go_big_quiet_on)
    go_big_quiet_want
    go_big_quiet_op
    first | go_big_quiet_on | (refine ⟨_, fun _ _ => rfl, ?_⟩; go_big_quiet_on) | (refine ⟨_, fun _ _ _ => rfl, ?_⟩; go_big_quiet_on)
    refine wpQuiet_nil ?_
    rintro wz rfl
    clear C4 C5 D3 D4
    go_wp2_with fail
    go_ret
    exact ⟨rfl, BD.out⟩
  | true =>
    have ho := ho rfl
    by_cases hd : ms ≤ ((now - tm : Nat) : Int)
    · refine wp_region_lex (fun wa => wa = w.drew) (by kernel_rfl) (by kernel_rfl) rfl ?_
      go_big_quiet_want
      refine qC_load23 (.tmp 1) rfl b4 0 _ rfl C4.out ?_
      simp only [Act.put, List.setIfInBounds_toArray, List.set_cons_succ, List.set_cons_zero]
      go_big_quiet_on
      go_big_quiet_want
      go_big_quiet_op
      first | go_big_quiet_on | (refine ⟨_, fun _ _ => rfl, ?_⟩; go_big_quiet_on) | (refine ⟨_, fun _ _ _ => rfl, ?_⟩; go_big_quiet_on)
      go_big_quiet_want
      go_big_quiet_op
      first | go_big_quiet_on | (refine ⟨_, fun _ _ => rfl, ?_⟩; go_big_quiet_on) | (refine ⟨_, fun _ _ _ => rfl, ?_⟩; go_big_quiet_on)
      go_big_quiet_want
      refine qC_load4 (.tmp 7) rfl p 3 _ rfl D3.out ?_
      simp only [Act.put, List.setIfInBounds_toArray, List.set_cons_succ, List.set_cons_zero]
      go_big_quiet_on
      go_big_quiet_want
      go_big_quiet_op
      first | go_big_quiet_on | (refine ⟨_, fun _ _ => rfl, ?_⟩; go_big_quiet_on) | (refine ⟨_, fun _ _ _ => rfl, ?_⟩; go_big_quiet_on)
      go_big_quiet_want
      go_big_quiet_op
      first | go_big_quiet_on | (refine ⟨_, fun _ _ => rfl, ?_⟩; go_big_quiet_on) | (refine ⟨_, fun _ _ _ => rfl, ?_⟩; go_big_quiet_on)
      go_big_quiet_want
      refine qC_load29 (.tmp 2) rfl b5 0 _ rfl C5.out ?_
      simp only [Act.put, List.setIfInBounds_toArray, List.set_cons_succ, List.set_cons_zero]
      go_big_quiet_on
      go_big_quiet_want
      refine qC_load23 (.tmp 1) rfl b4 0 _ rfl C4.out ?_
      simp only [Act.put, List.setIfInBounds_toArray, List.set_cons_succ, List.set_cons_zero]
      go_big_quiet_on
      go_big_quiet_want
      go_big_quiet_op
      first | go_big_quiet_on | (refine ⟨_, fun _ _ => rfl, ?_⟩; go_big_quiet_on) | (refine ⟨_, fun _ _ _ => rfl, ?_⟩; go_big_quiet_on)
      go_big_quiet_want
      go_big_quiet_op
      first | go_big_quiet_on | (refine ⟨_, fun _ _ => rfl, ?_⟩; go_big_quiet_on) | (refine ⟨_, fun _ _ _ => rfl, ?_⟩; go_big_quiet_on)
      go_big_quiet_want
      refine qC_load29 (.tmp 14) rfl p 4 _ rfl D4.out ?_
      simp only [Act.put, List.setIfInBounds_toArray, List.set_cons_succ, List.set_cons_zero]
      go_big_quiet_on
      go_big_quiet_want
      refine qC_of (.int .u64 ((now - tm : Nat) : Int)) (fun wq hC => by unfold execOp; simp [go_sem, IntKind.wrap_u64]; omega) ?_
      simp only [Act.put, List.setIfInBounds_toArray, List.set_cons_succ, List.set_cons_zero]
      go_big_quiet_on
      go_big_quiet_want
      go_big_quiet_op
      first | go_big_quiet_on | (refine ⟨_, fun _ _ => rfl, ?_⟩; go_big_quiet_on) | (refine ⟨_, fun _ _ _ => rfl, ?_⟩; go_big_quiet_on)
      go_big_quiet_want
      refine qC_of (.int .u64 ms) (fun wq hC => by unfold execOp; simp [go_sem, IntKind.wrap_u64]; omega) ?_
      simp only [Act.put, List.setIfInBounds_toArray, List.set_cons_succ, List.set_cons_zero]
      go_big_quiet_on
      go_big_quiet_want
      refine qC_of (.bool true) (fun wq hC => by unfold execOp; simp [go_sem] <;> omega) ?_
      simp only [Act.put, List.setIfInBounds_toArray, List.set_cons_succ, List.set_cons_zero]
      go_big_quiet_on
      go_big_quiet_want
      go_big_quiet_op
      first | go_big_quiet_on | (refine ⟨_, fun _ _ => rfl, ?_⟩; go_big_quiet_on) | (refine ⟨_, fun _ _ _ => rfl, ?_⟩; go_big_quiet_on)
      go_big_quiet_want
      go_big_quiet_op
      first | go_big_quiet_on | (refine ⟨_, fun _ _ => rfl, ?_⟩; go_big_quiet_on) | (refine ⟨_, fun _ _ _ => rfl, ?_⟩; go_big_quiet_on)
      refine wpQuiet_nil ?_
      rintro wz rfl
      clear C4 C5 D3 D4
      go_wp2_with fail
      go_ret
      exact ⟨rfl, BD.out⟩
    · refine wp_region_lex (fun wa => wa = w.drew) (by kernel_rfl) (by kernel_rfl) rfl ?_
      go_big_quiet_want
      refine qC_load23 (.tmp 1) rfl b4 0 _ rfl C4.out ?_
      simp only [Act.put, List.setIfInBounds_toArray, List.set_cons_succ, List.set_cons_zero]
      go_big_quiet_on
      go_big_quiet_want
      go_big_quiet_op
      first | go_big_quiet_on | (refine ⟨_, fun _ _ => rfl, ?_⟩; go_big_quiet_on) | (refine ⟨_, fun _ _ _ => rfl, ?_⟩; go_big_quiet_on)
      go_big_quiet_want
      go_big_quiet_op
      first | go_big_quiet_on | (refine ⟨_, fun _ _ => rfl, ?_⟩; go_big_quiet_on) | (refine ⟨_, fun _ _ _ => rfl, ?_⟩; go_big_quiet_on)
      go_big_quiet_want
      refine qC_load4 (.tmp 7) rfl p 3 _ rfl D3.out ?_
      simp only [Act.put, List.setIfInBounds_toArray, List.set_cons_succ, List.set_cons_zero]
      go_big_quiet_on
      go_big_quiet_want
      go_big_quiet_op
      first | go_big_quiet_on | (refine ⟨_, fun _ _ => rfl, ?_⟩; go_big_quiet_on) | (refine ⟨_, fun _ _ _ => rfl, ?_⟩; go_big_quiet_on)
      go_big_quiet_want
      go_big_quiet_op
      first | go_big_quiet_on | (refine ⟨_, fun _ _ => rfl, ?_⟩; go_big_quiet_on) | (refine ⟨_, fun _ _ _ => rfl, ?_⟩; go_big_quiet_on)
      go_big_quiet_want
      refine qC_load29 (.tmp 2) rfl b5 0 _ rfl C5.out ?_
      simp only [Act.put, List.setIfInBounds_toArray, List.set_cons_succ, List.set_cons_zero]
      go_big_quiet_on
      go_big_quiet_want
      refine qC_load23 (.tmp 1) rfl b4 0 _ rfl C4.out ?_
      simp only [Act.put, List.setIfInBounds_toArray, List.set_cons_succ, List.set_cons_zero]
      go_big_quiet_on
      go_big_quiet_want
      go_big_quiet_op
      first | go_big_quiet_on | (refine ⟨_, fun _ _ => rfl, ?_⟩; go_big_quiet_on) | (refine ⟨_, fun _ _ _ => rfl, ?_⟩; go_big_quiet_on)
      go_big_quiet_want
      go_big_quiet_op
      first | go_big_quiet_on | (refine ⟨_, fun _ _ => rfl, ?_⟩; go_big_quiet_on) | (refine ⟨_, fun _ _ _ => rfl, ?_⟩; go_big_quiet_on)
      go_big_quiet_want
      refine qC_load29 (.tmp 14) rfl p 4 _ rfl D4.out ?_
      simp only [Act.put, List.setIfInBounds_toArray, List.set_cons_succ, List.set_cons_zero]
      go_big_quiet_on
      go_big_quiet_want
      refine qC_of (.int .u64 ((now - tm : Nat) : Int)) (fun wq hC => by unfold execOp; simp [go_sem, IntKind.wrap_u64]; omega) ?_
      simp only [Act.put, List.setIfInBounds_toArray, List.set_cons_succ, List.set_cons_zero]
      go_big_quiet_on
      go_big_quiet_want
      go_big_quiet_op
      first | go_big_quiet_on | (refine ⟨_, fun _ _ => rfl, ?_⟩; go_big_quiet_on) | (refine ⟨_, fun _ _ _ => rfl, ?_⟩; go_big_quiet_on)
      go_big_quiet_want
      refine qC_of (.int .u64 ms) (fun wq hC => by unfold execOp; simp [go_sem, IntKind.wrap_u64]; omega) ?_
      simp only [Act.put, List.setIfInBounds_toArray, List.set_cons_succ, List.set_cons_zero]
      go_big_quiet_on
      go_big_quiet_want
      refine qC_of (.bool false) (fun wq hC => by unfold execOp; simp [go_sem] <;> omega) ?_
      simp only [Act.put, List.setIfInBounds_toArray, List.set_cons_succ, List.set_cons_zero]
      go_big_quiet_on
      go_big_quiet_want
      go_big_quiet_op
      first | go_big_quiet_on | (refine ⟨_, fun _ _ => rfl, ?_⟩; go_big_quiet_on) | (refine ⟨_, fun _ _ _ => rfl, ?_⟩; go_big_quiet_on)
      go_big_quiet_want
      go_big_quiet_op
      first | go_big_quiet_on | (refine ⟨_, fun _ _ => rfl, ?_⟩; go_big_quiet_on) | (refine ⟨_, fun _ _ _ => rfl, ?_⟩; go_big_quiet_on)
      refine wpQuiet_nil ?_
      rintro wz rfl
      clear C4 C5 D3 D4
      go_wp2_with fail
      go_ret
      exact ⟨by rw [decide_eq_false (Int.not_le.2 hd)]; rfl, BD.out⟩
/-- A slice of bytes that may be looked at, nil or not. -/
def InG (w : World) (v : Value) (l : List UInt8) : Prop := ∃ a c, v = .slice a l.length c ∧ (a = none → l = []) ∧ ∀ ad, a = some ad → (l = [] ∨ ad.block < w.heap.size) ∧ l.length ≤ c ∧ ∀ j u, (l.map B)[j]? = some u → w.cell? (ad.add j) = some u
theorem InE.inG {w : World} {v : Value} {l : List UInt8} (h : InE w.heap.size w v l) : InG w v l := by
  rcases h with ⟨rfl, rfl⟩ | ⟨a, c, rfl, h1, h2, h3⟩
  · exact ⟨none, 0, rfl, fun _ => rfl, fun ad e => by cases e⟩
  · exact ⟨some a, c, rfl, fun e => (by cases e), fun ad e => (by injection e with e; subst e; exact ⟨h2, h1, h3⟩)⟩
theorem InG.below {w w' : World} {v : Value} {l : List UInt8} (h : InG w v l) (hb : Below w.heap.size w w') : InG w' v l := by
  obtain ⟨a, c, rfl, h1, h2⟩ := h
  refine ⟨a, c, rfl, h1, fun ad e => ?_⟩
  obtain ⟨q1, q2, q3⟩ := h2 ad e
  refine ⟨q1.imp id fun q => Nat.lt_of_lt_of_le q hb.size, q2, fun j u hu => ?_⟩
  rcases q1 with rfl | q1
  · simp at hu
  · exact (hb.cell (p := ad.add j) (by rw [add_blk]; exact q1)).trans (q3 j u hu)
theorem clone46_any (v : Value) (l : List UInt8) (w : World) (h : InG w v l) (hm : l.length ≤ 140737488351232) :
    Calls Try.prog 46 #[v] w fun e w' => ∃ v', e = .returned v' ∧ OwnB w.heap.size w' v' l ∧ Below w.heap.size w w' := by
  obtain ⟨a, c, rfl, h1, h2⟩ := h
  have qE : ∀ (w : World) (a : Option Addr) (n c n' c' : Nat), (binOp .eql 39 (.slice a n c) (.slice none n' c')).run Try.prog w = .ok (.bool a.isNone) w := fun w a n c n' c' => Go.Lib.run_eql_slice_nil w 39 5 a n c n' c' Try.underlying39
  cases a with
  | none =>
    obtain rfl := h1 rfl
    clear h2
    go_enter Try.func46, Try.ntmps46
    go_wp2_with fail
    go_ret
    exact ⟨_, rfl, OwnB.nil _ _, Below.refl _ _⟩
  | some ad =>
    obtain ⟨q1, q2, q3⟩ := h2 ad rfl
    have b0 : Below w.heap.size w (w.alloc (.cells #[] 5)) := (Below.refl _ _).alloc (Nat.le_refl _) _
    have IE : Box' (InE w.heap.size (w.alloc (.cells #[] 5)) (.slice (some ad) l.length c) l) := ⟨.inr ⟨ad, c, rfl, q2, q1, fun j u hu => by
      rcases q1 with rfl | q1
      · simp at hu
      · exact (b0.cell (p := ad.add j) (by rw [add_blk]; exact q1)).trans (q3 j u hu)⟩⟩
    have OE : Box' (OwnB w.heap.size (w.alloc (.cells #[] 5)) (.slice (some ⟨w.heap.size, 0, none⟩) 0 0) []) := ⟨⟨rfl, .inr ⟨w.heap.size, 0, #[], rfl, Nat.le_refl _, heap_alloc_last w _, Nat.le_refl _, by unfold maxLen; omega, rfl, rfl⟩⟩⟩
    have HZ : Box' (w.heap.size ≤ (w.alloc (.cells #[] 5)).heap.size) := ⟨b0.size⟩
    have HM : Box' (([] : List UInt8).length + l.length ≤ 140737488355328) := ⟨by simp; omega⟩
    have FB : Box' (∀ w' : World, Fr w.heap.size (w.alloc (.cells #[] 5)) w' → Below w.heap.size w w') := ⟨fun w' hf => b0.trans (hf.below b0.size)⟩
    clear h1 h2 q1 q2 q3 b0
    go_enter Try.func46, Try.ntmps46
    go_wp2_with (refine wpList_appE rfl (.tmp 5) (.tmp 6) rfl w.heap.size w.heap.size HZ.out _ [] rfl OE.out _ l rfl IE.out HM.out ?_
                 intro v' w' k1 k2
                 have K1 := Box'.mk k1
                 have K2 := Box'.mk (FB.out w' k2)
                 clear k1 k2 FB OE IE)
    go_ret
    exact ⟨_, rfl, by simpa using K1.out, K2.out⟩
end Go.Proofs.Ytikkekdmahdgaaa
