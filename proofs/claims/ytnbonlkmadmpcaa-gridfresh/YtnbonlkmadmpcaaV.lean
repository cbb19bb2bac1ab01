/- Numbers behind a slice, cut; colours in the long way and the short one. -/
import Derived.Test.YtnbonlkmadmpcaaU
import Derived.Laws.Small
namespace Go.Proofs.Ytnbonlkmadmpcaa
open Go.RowKit Go.BigFrame
set_option linter.unusedVariables false
set_option linter.unusedSimpArgs false

/-- The slice v has the numbers l, in a block below N. -/
def Is (N : Nat) (w : World) (v : Value) (l : List Int) : Prop :=
  ∃ a c, v = .slice a l.length c ∧ l.length ≤ c ∧ (l = [] ∨ ∃ b o, a = some ⟨b, o, none⟩ ∧ b < N ∧
    ∀ k, k < l.length → w.cell? ⟨b, o + k, none⟩ = some (.int .i64 (l.getD k 0)))
theorem Is.below {N M : Nat} {w w' : World} {v : Value} {l : List Int} (h : Is N w v l) (hb : Below M w w') (hN : N ≤ M) : Is N w' v l := by
  obtain ⟨a, c, h1, h2, h4⟩ := h
  refine ⟨a, c, h1, h2, ?_⟩
  rcases h4 with h4 | ⟨b, o, h5, h6, h7⟩
  · exact .inl h4
  · refine .inr ⟨b, o, h5, h6, fun k hk => ?_⟩
    rw [hb.cell (p := ⟨b, o + k, none⟩) (by show b < M; omega)]
    exact h7 k hk
theorem Is.up {N M : Nat} {w : World} {v : Value} {l : List Int} (h : Is N w v l) (hN : N ≤ M) : Is M w v l := by
  obtain ⟨a, c, h1, h2, h4⟩ := h
  refine ⟨a, c, h1, h2, ?_⟩
  rcases h4 with h4 | ⟨b, o, h5, h6, h7⟩
  · exact .inl h4
  · exact .inr ⟨b, o, h5, by omega, h7⟩
theorem slice_op {P : Program} {op : Oper} {a : Act} (t : TypeId) (x : Operand) (lo hi mx : Option Operand) (ho : op.op = .slice t x lo hi mx) (v : Value) (w : World) (h : (Instr.sliceAt t (a.eval x) (lo.map a.eval) (hi.map a.eval) (mx.map a.eval)).run P w = .ok v w) :
    (execOp a.eval op).run P w = .ok (.value v) w := by
  unfold execOp
  simp only [ho, Sem.run_bind, h, Result.andThen_ok, Sem.run_pure]
theorem wp_val {P : Program} {op : Oper} {a : Act} {w : World} {K : Act → World → Prop} {Q : Exit → Act → World → Prop} (v : Value) (hrun : (execOp a.eval op).run P w = .ok (.value v) w) (h : K (a.put op.dst v) w) : op.wp P a w K Q := by
  unfold Oper.wp; rw [hrun]; exact h
theorem wpList_slice {P : Program} {ops : Array Oper} {rest : List Oper} {op : Oper} {a : Act} {w : World} {Q : Exit → Act → World → Prop} (hgd : op.guard = none) (t : TypeId) (x : Operand) (lo hi mx : Option Operand) (ho : op.op = .slice t x lo hi mx) (v : Value)
    (h : (Instr.sliceAt t (a.eval x) (lo.map a.eval) (hi.map a.eval) (mx.map a.eval)).run P w = .ok v w) (hk : wpList P ops Q rest (a.put op.dst v) w) : wpList P ops Q (op :: rest) a w :=
  wpList_plain hgd fun K hK => wp_val v (slice_op t x lo hi mx ho v w h) (hK _ _ hk)
set_option maxRecDepth 100000 in
theorem info3 : ∃ i, Try.prog.info? 3 = some i ∧ i.size = 1 := ⟨_, rfl, rfl⟩
theorem size3 (w : World) : (sizeOf 3).run Try.prog w = .ok 1 w := by
  obtain ⟨i, h1, h2⟩ := info3
  simp [sizeOf, typeInfo, h1, h2]
def backA (a : Option Addr) (c k : Nat) : Option Addr := if c = k then a else a.map (·.add k)
theorem Is.back {N : Nat} {w : World} {a : Option Addr} {n c k : Nat} {l : List Int} (h : Is N w (.slice a n c) l) (hk : k ≤ l.length) : Is N w (.slice (backA a c k) (n - k) (c - k)) (l.drop k) := by
  have hlen : (l.drop k).length = l.length - k := List.length_drop
  obtain ⟨a', c', e, hc, h3⟩ := h
  simp only [Value.slice.injEq] at e
  obtain ⟨rfl, rfl, rfl⟩ := e
  refine ⟨_, _, by rw [hlen], by omega, ?_⟩
  rcases h3 with rfl | ⟨b, o, rfl, h6, h7⟩
  · exact .inl (by simp)
  · by_cases hck : c = k
    · exact .inl (List.eq_nil_of_length_eq_zero (by rw [hlen]; omega))
    · refine .inr ⟨b, o + k, ?_, h6, fun j hj => ?_⟩
      · unfold backA; rw [if_neg hck, Option.map_some, Addr.add_mid]
      · rw [hlen] at hj
        rw [Nat.add_assoc, h7 (k + j) (by omega)]
        simp

def isC (n : Int) : Bool := decide (0 ≤ n ∧ n ≤ 255)
set_option maxHeartbeats 1000000 in
theorem isColour_any (n : Int) (w : World) : Calls Try.prog 70 #[.int .i64 n] w fun e w' => e = .returned (.bool (isC n)) ∧ w' = w := by
  by_cases h1 : 0 ≤ n
  · by_cases h2 : n ≤ 255
    · have E : Box' (isC n = true) := ⟨by unfold isC; simp; omega⟩
      go_enter Try.func70, Try.ntmps70
      go_wp2_with fail
      go_ret
      exact ⟨by rw [E.out]; rfl, rfl⟩
    · have E : Box' (isC n = false) := ⟨by unfold isC; simp; omega⟩
      go_enter Try.func70, Try.ntmps70
      go_wp2_with fail
      go_ret
      exact ⟨by rw [E.out]; rfl, rfl⟩
  · have E : Box' (isC n = false) := ⟨by unfold isC; simp; omega⟩
    go_enter Try.func70, Try.ntmps70
    go_wp2_with fail
    go_ret
    exact ⟨by rw [E.out]; rfl, rfl⟩
end Go.Proofs.Ytnbonlkmadmpcaa
