/- Runes are cut. -/
import Derived.Test.YtmflhcbojgaekaaQ
import Derived.Test.YtmflhcbojgaekaaGx
namespace Go.Proofs.Ytmflhcbojgaekaa
open Go.RowKit Go.BigFrame
set_option linter.unusedVariables false
set_option linter.unusedSimpArgs false

theorem slice_op {P : Program} {op : Oper} {a : Act} (t : TypeId) (x : Operand) (lo hi mx : Option Operand) (ho : op.op = .slice t x lo hi mx) (v : Value) (w : World) (h : (Instr.sliceAt t (a.eval x) (lo.map a.eval) (hi.map a.eval) (mx.map a.eval)).run P w = .ok v w) :
    (execOp a.eval op).run P w = .ok (.value v) w := by
  unfold execOp
  simp only [ho, Sem.run_bind, h, Result.andThen_ok, Sem.run_pure]
theorem wp_val {P : Program} {op : Oper} {a : Act} {w : World} {K : Act → World → Prop} {Q : Exit → Act → World → Prop} (v : Value) (hrun : (execOp a.eval op).run P w = .ok (.value v) w) (h : K (a.put op.dst v) w) : op.wp P a w K Q := by
  unfold Oper.wp; rw [hrun]; exact h
set_option maxRecDepth 100000 in
theorem info21 : ∃ i, Try.prog.info? 21 = some i ∧ i.size = 1 := ⟨_, rfl, rfl⟩
theorem size21 (w : World) : (sizeOf 21).run Try.prog w = .ok 1 w := by
  obtain ⟨i, h1, h2⟩ := info21
  simp [sizeOf, typeInfo, h1, h2]
theorem run_front (a : Option Addr) (n c k : Nat) (h1 : k ≤ c) (w : World) : (Instr.sliceAt 22 (.slice a n c) none (some (.int .i64 (k : Int))) (some (.int .i64 (k : Int)))).run Try.prog w = .ok (.slice a k k) w := by
  have e : Try.prog.elem 22 = 21 := by kernel_rfl
  rw [run_sliceAt_slice w 22 _ _ _ _ (by kernel_rfl), run_slice_hm w 22 a n c (by kernel_rfl) _ _ _ _ (by omega) (by omega) (by omega), e, size21]
  simp only [Result.andThen_ok, Int.toNat_natCast]
  cases a with
  | none => simp [sliced]
  | some p => simp [sliced, Addr.add_mid, Addr.add]
def backA (a : Option Addr) (c k : Nat) : Option Addr := if c = k then a else a.map (·.add k)
theorem run_back (a : Option Addr) (n c k : Nat) (h0 : k ≤ n) (h1 : n ≤ c) (w : World) : (Instr.sliceAt 22 (.slice a n c) (some (.int .i64 (k : Int))) none none).run Try.prog w = .ok (.slice (backA a c k) (n - k) (c - k)) w := by
  have e : Try.prog.elem 22 = 21 := by kernel_rfl
  rw [run_sliceAt_slice w 22 _ _ _ _ (by kernel_rfl), run_slice_l w 22 a n c (by kernel_rfl) _ _ (by omega) (by omega), e, size21]
  simp only [Result.andThen_ok, Int.toNat_natCast, sliced, Nat.mul_one, backA]
theorem Rns.front {N : Nat} {w : World} {a : Option Addr} {n c k : Nat} {l : List Int} (h : Rns N w (.slice a n c) l) (hk : k ≤ l.length) : Rns N w (.slice a k k) (l.take k) := by
  have hlen : (l.take k).length = k := by rw [List.length_take]; omega
  obtain ⟨a', c', e, _, h3⟩ := h
  simp only [Value.slice.injEq] at e
  obtain ⟨rfl, rfl, rfl⟩ := e
  refine ⟨a, k, by rw [hlen], by omega, ?_⟩
  rcases h3 with rfl | ⟨b, o, h5, h6, h7⟩
  · exact .inl (by simp)
  · refine .inr ⟨b, o, h5, h6, fun j hj => ?_⟩
    rw [hlen] at hj
    rw [h7 j (by omega)]
    simp [List.getElem?_take_of_lt hj]
theorem Rns.back {N : Nat} {w : World} {a : Option Addr} {n c k : Nat} {l : List Int} (h : Rns N w (.slice a n c) l) (hk : k ≤ l.length) : Rns N w (.slice (backA a c k) (n - k) (c - k)) (l.drop k) := by
  have hlen : (l.drop k).length = l.length - k := List.length_drop
  obtain ⟨a', c', e, hc, h3⟩ := h
  simp only [Value.slice.injEq] at e
  obtain ⟨rfl, rfl, rfl⟩ := e
  refine ⟨_, _, by rw [hlen], by omega, ?_⟩
  rcases h3 with rfl | ⟨b, o, rfl, h6, h7⟩
  · exact .inl (by simp)
  · by_cases hck : c = k
    · exact .inl (List.eq_nil_of_length_eq_zero (by rw [hlen]; omega))
    · refine .inr ⟨b, o + k, ?_, h6, fun j hj => ?_⟩
      · unfold backA; rw [if_neg hck, Option.map_some, Addr.add_mid]
      · rw [hlen] at hj
        rw [Nat.add_assoc, h7 (k + j) (by omega)]
        simp
end Go.Proofs.Ytmflhcbojgaekaa
