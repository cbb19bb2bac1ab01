/- Parts; the walks of both may's and of Clone. -/
import Derived.Test.YthmcmdojnnbefaaU
namespace Go.Proofs.Ythmcmdojnnbefaa
open Go.RowKit Go.BigFrame

/-- A part. -/
structure Prt where
  id : Nat
  n : Int
  last : Bool
  d : List UInt8
/-- Whether a part may be. -/
def mayN (n : Int) (last : Bool) (k : Nat) : Bool := decide (0 ≤ n ∧ n < 256 ∧ k ≤ 1024 ∧ (last = true ∨ 0 < k))
def Prt.may (p : Prt) : Bool := mayN p.n p.last p.d.length
/-- Its value, with the bytes behind v. -/
def pv (p : Prt) (v : Value) : Value := .agg #[.int .u64 (p.id : Int), .int .i64 p.n, .bool p.last, v]

set_option maxRecDepth 100000 in
set_option maxHeartbeats 2000000 in
theorem may_any (i : Nat) (n : Int) (last : Bool) (a : Option Addr) (k c : Nat) (w : World) :
    Calls Try.prog 24 #[.agg #[.int .u64 (i : Int), .int .i64 n, .bool last, .slice a k c]] w fun e w' => e = .returned (.bool (mayN n last k)) ∧ Below w.heap.size w w' := by
  have HB := Box'.mk (fun o => (Below.refl w.heap.size w).alloc (Nat.le_refl _) o)
  have HM := Box'.mk (mayN.eq_1 n last k)
  generalize mayN n last k = R at *
  by_cases h1 : 0 ≤ n
  · by_cases h2 : n < 256
    · by_cases h3 : k ≤ 1024
      · cases last with
        | true =>
          have e : R = true := by rw [HM.out, decide_eq_true_eq]; exact ⟨h1, h2, h3, .inl rfl⟩
          clear HM
          subst e
          go_enter Try.func24, Try.ntmps24
          go_wp2_with fail
          go_ret
          exact ⟨rfl, HB.out _⟩
        | false =>
          by_cases h4 : 0 < k
          · have e : R = true := by rw [HM.out, decide_eq_true_eq]; exact ⟨h1, h2, h3, .inr h4⟩
            clear HM
            subst e
            go_enter Try.func24, Try.ntmps24
            go_wp2_with fail
            go_ret
            exact ⟨rfl, HB.out _⟩
          · have e : R = false := by rw [HM.out, decide_eq_false_iff_not]; rintro ⟨_, _, _, h | h⟩; cases h; exact h4 h
            clear HM
            subst e
            obtain rfl : k = 0 := by omega
            clear h4 h3
            go_enter Try.func24, Try.ntmps24
            go_wp2_with fail
            go_ret
            exact ⟨rfl, HB.out _⟩
      · have e : R = false := by rw [HM.out, decide_eq_false_iff_not]; rintro ⟨_, _, h, _⟩; exact h3 h
        clear HM
        subst e
        go_enter Try.func24, Try.ntmps24
        go_wp2_with fail
        go_ret
        exact ⟨rfl, HB.out _⟩
    · have e : R = false := by rw [HM.out, decide_eq_false_iff_not]; rintro ⟨_, h, _, _⟩; exact h2 h
      clear HM
      subst e
      go_enter Try.func24, Try.ntmps24
      go_wp2_with fail
      go_ret
      exact ⟨rfl, HB.out _⟩
  · have e : R = false := by rw [HM.out, decide_eq_false_iff_not]; rintro ⟨h, _⟩; exact h1 h
    clear HM
    subst e
    go_enter Try.func24, Try.ntmps24
    go_wp2_with fail
    go_ret
    exact ⟨rfl, HB.out _⟩
set_option maxRecDepth 100000 in
set_option maxHeartbeats 2000000 in
theorem refMay_any (i : Nat) (n : Int) (last : Bool) (a : Option Addr) (k c : Nat) (w : World) :
    Calls Try.prog 23 #[.agg #[.int .u64 (i : Int), .int .i64 n, .bool last, .slice a k c]] w fun e w' => e = .returned (.bool (mayN n last k)) ∧ Below w.heap.size w w' := by
  have HB := Box'.mk (fun o => (Below.refl w.heap.size w).alloc (Nat.le_refl _) o)
  have HM := Box'.mk (mayN.eq_1 n last k)
  generalize mayN n last k = R at *
  by_cases h1 : 0 ≤ n
  · by_cases h2 : n < 256
    · by_cases h3 : k ≤ 1024
      · cases last with
        | true =>
          have e : R = true := by rw [HM.out, decide_eq_true_eq]; exact ⟨h1, h2, h3, .inl rfl⟩
          clear HM
          subst e
          go_enter Try.func23, Try.ntmps23
          go_wp2_with fail
          go_ret
          exact ⟨rfl, HB.out _⟩
        | false =>
          by_cases h4 : 0 < k
          · have e : R = true := by rw [HM.out, decide_eq_true_eq]; exact ⟨h1, h2, h3, .inr h4⟩
            clear HM
            subst e
            go_enter Try.func23, Try.ntmps23
            go_wp2_with fail
            go_ret
            exact ⟨rfl, HB.out _⟩
          · have e : R = false := by rw [HM.out, decide_eq_false_iff_not]; rintro ⟨_, _, _, h | h⟩; cases h; exact h4 h
            clear HM
            subst e
            obtain rfl : k = 0 := by omega
            clear h4 h3
            go_enter Try.func23, Try.ntmps23
            go_wp2_with fail
            go_ret
            exact ⟨rfl, HB.out _⟩
      · have e : R = false := by rw [HM.out, decide_eq_false_iff_not]; rintro ⟨_, _, h, _⟩; exact h3 h
        clear HM
        subst e
        go_enter Try.func23, Try.ntmps23
        go_wp2_with fail
        go_ret
        exact ⟨rfl, HB.out _⟩
    · have e : R = false := by rw [HM.out, decide_eq_false_iff_not]; rintro ⟨_, h, _, _⟩; exact h2 h
      clear HM
      subst e
      go_enter Try.func23, Try.ntmps23
      go_wp2_with fail
      go_ret
      exact ⟨rfl, HB.out _⟩
  · have e : R = false := by rw [HM.out, decide_eq_false_iff_not]; rintro ⟨h, _⟩; exact h1 h
    clear HM
    subst e
    go_enter Try.func23, Try.ntmps23
    go_wp2_with fail
    go_ret
    exact ⟨rfl, HB.out _⟩
set_option maxRecDepth 100000 in
set_option maxHeartbeats 1000000 in
theorem clone_any (S : Nat → Prop) (v : Value) (l : List UInt8) (w : World) (h : Bts S w v l) (hS : ∀ b, S b → b < w.heap.size) (hm : l.length ≤ 140737488351232) :
    Calls Try.prog 28 #[v] w fun e w' => ∃ v', e = .returned v' ∧ OwnB w.heap.size w' v' l ∧ Below w.heap.size w w' := by
  have b0 : Below w.heap.size w (w.alloc (.cells #[] 5)) := (Below.refl _ _).alloc (Nat.le_refl _) _
  have h' : Bts S (w.alloc (.cells #[] 5)) v l := h.keep fun b hb => ⟨hb, b0.block b (hS b hb)⟩
  clear h
  obtain ⟨a, c, rfl, hc, h3⟩ := h'
  have buf0 : Buf (w.alloc (.cells #[] 5)) w.heap.size 0 [] := ⟨rfl, .inr ⟨_, _, #[], rfl, Nat.zero_le _, Row.new w 5 #[], Nat.le_refl _, Nat.zero_le _, rfl, rfl⟩⟩
  have hz : (w.alloc (.cells #[] 5)).heap.size = w.heap.size + 1 := by simp
  cases a with
  | none =>
    obtain rfl : l = [] := by
      rcases h3 with h3 | ⟨b, o, h3, _⟩
      · exact h3
      · cases h3
    clear buf0 hz b0 h3
    have qE : ∀ (w : World) (a : Option Addr) (n c n' c' : Nat), (binOp .eql 23 (.slice a n c) (.slice none n' c')).run Try.prog w = .ok (.bool a.isNone) w := fun w a n c n' c' => Go.Lib.run_eql_slice_nil w 23 5 a n c n' c' Try.underlying23
    go_enter Try.func28, Try.ntmps28
    go_wp2
    go_ret
    exact ⟨_, rfl, OwnB.nil _ _, Below.refl _ _⟩
  | some ad =>
    have hcl : ∀ j u, (l.map B)[j]? = some u → (w.alloc (.cells #[] 5)).cell? (ad.add j) = some u := by
      intro j u hu
      rcases h3 with rfl | ⟨b, o, h4, h5, h6⟩
      · simp at hu
      · injection h4 with h4
        subst h4
        rw [Addr.add_mid]
        exact h6 j u hu
    obtain ⟨i0, i1, i2, i3, i4⟩ := Try.info5a
    clear h3
    have qE : ∀ (w : World) (a : Option Addr) (n c n' c' : Nat), (binOp .eql 23 (.slice a n c) (.slice none n' c')).run Try.prog w = .ok (.bool a.isNone) w := fun w a n c n' c' => Go.Lib.run_eql_slice_nil w 23 5 a n c n' c' Try.underlying23
    go_enter Try.func28, Try.ntmps28
    go_wp2_with (first
      | (refine wpList_append_at rfl (.tmp 5) (.tmp 6) 23 rfl 5 i0 _ 1 1 Try.underlying23 i1 i2 i3 i4 rfl (by decide) w.heap.size 0 0 [] rfl buf0 ad l.length c (l.map B) rfl (by rw [List.length_map, Nat.mul_one]) hcl (one_By l) (by unfold maxLen; omega) (by omega) (fun g cp w' ho hg hnew => ?_))
      | fail)
    rw [Nat.zero_add, List.nil_append] at ho
    have hB : Below w.heap.size w w' := ⟨hg.os.trans b0.os, hg.tape.trans b0.tape, hg.output.trans b0.output, Nat.le_trans b0.size hg.size, fun k hk => (hg.block k (by omega) (by simp; omega)).trans (b0.block k hk)⟩
    have hgg : w.heap.size ≤ g := by omega
    have HO : OwnB w.heap.size w' (.slice (some ⟨g, 0, none⟩) l.length cp) l := by
      refine ⟨ho.1, ?_⟩
      rcases ho.2 with ⟨e, _⟩ | ⟨g1, c1, cur, e1, _, e3⟩
      · cases e
      · have e2 := e1
        injection e1 with e1
        injection e1 with e1
        injection e1 with e1
        subst e1
        exact .inr ⟨g, c1, cur, e2, hgg, e3⟩
    clear hg hnew hcl b0 buf0 hz i1 i2 i3 i4 ho hgg
    go_wp2
    go_ret
    exact ⟨_, rfl, HO, hB⟩
end Go.Proofs.Ythmcmdojnnbefaa
