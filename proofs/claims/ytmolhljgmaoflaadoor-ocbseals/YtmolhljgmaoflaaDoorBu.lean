/- A Cipher, built of a pointer and of round keys. -/
import Derived.Test.YtmolhljgmaoflaaDoorRx
namespace Go.Proofs.YtmolhljgmaoflaaDoor
open Go.RowKit

theorem fold_get (off : Nat) (c : List Value) : ∀ (s : Nat) (z : Array Value) (j : Nat), ((c.zipIdx s).foldl (fun cs (p : Value × Nat) => cs.setIfInBounds (off + p.2) p.1) z)[j]? = if off + s ≤ j ∧ j < off + s + c.length ∧ j < z.size then c[j - (off + s)]? else z[j]? := by
  induction c with
  | nil => intro s z j; rw [if_neg (by simp; omega)]; rfl
  | cons x c ih =>
    intro s z j
    rw [List.zipIdx_cons, List.foldl_cons, ih (s + 1)]
    simp only [Array.size_setIfInBounds, List.length_cons]
    by_cases h1 : off + (s + 1) ≤ j ∧ j < off + (s + 1) + c.length ∧ j < z.size
    · rw [if_pos h1, if_pos (by omega)]
      have e : j - (off + s) = (j - (off + (s + 1))) + 1 := by omega
      rw [e, List.getElem?_cons_succ]
    · rw [if_neg h1]
      by_cases h2 : j = off + s
      · subst h2
        by_cases h3 : off + s < z.size
        · rw [if_pos (by omega), Array.getElem?_setIfInBounds_self_of_lt h3, Nat.sub_self, List.getElem?_cons_zero]
        · rw [if_neg (by omega), Array.getElem?_eq_none (by simp; omega), Array.getElem?_eq_none (by omega)]
      · rw [Array.getElem?_setIfInBounds_ne (by omega), if_neg (by omega)]

def cip (a : Value) (K : List UInt8) : Array Value := #[a] ++ ag K
theorem cip_size (a : Value) (K : List UInt8) : (cip a K).size = K.length + 1 := by rw [cip, Array.size_append, ag_size, Nat.add_comm]; rfl
theorem Tryd.zero52 : (Tryd.prog.info? 52).map (fun i => (i.zero, i.size)) = some (some (.agg (cip (.pointer none) (Gf.zeros 176))), 177) := by kernel_rfl
theorem Tryd.info52 : (Tryd.prog.info? 52).map (·.size) = some 177 := by kernel_rfl

theorem run_sizeOf {P : Program} (w : World) (t : TypeId) (n : Nat) (h : (P.info? t).map (·.size) = some n) : (sizeOf t).run P w = .ok n w := by
  cases hq : P.info? t with
  | none => simp [hq] at h
  | some i => simp [hq] at h; simp [sizeOf, typeInfo, hq, h]
theorem run_build46 (w : World) (a : Option Addr) (K : List UInt8) (hK : K.length = 176) : (Instr.build 52 #[(0, .pointer a), (1, .agg (ag K))]).run Tryd.prog w = .ok (.agg (cip (.pointer a) K)) w := by
  have hz := (zero_of_info Tryd.zero52).1
  have hs39 : ∀ w, (sizeOf 49).run Tryd.prog w = .ok 1 w := fun w => run_sizeOf w 49 1 (by kernel_rfl)
  have hs28 : ∀ w, (sizeOf 50).run Tryd.prog w = .ok 176 w := fun w => run_sizeOf w 50 176 Tryd.info50
  have hlen : (Gf.zeros 176).length = 176 := List.length_replicate
  have hf : Instr.fill (fun x => ([(0, 1), (1, 176)] : List (Nat × Nat))[x]?) (Value.agg (cip (.pointer none) (Gf.zeros 176))).cells [(0, Value.pointer a), (1, Value.agg (ag K))] = some (cip (.pointer a) K) := by
    have hc : (ag K).size = 176 := by rw [ag_size, hK]
    have hzs : (cip (.pointer none) (Gf.zeros 176)).size = 177 := by rw [cip_size, hlen]
    simp only [Instr.fill, Value.cells, List.getElem?_cons_zero, List.getElem?_cons_succ, hc, hzs]
    simp [hzs]
    apply Array.ext_getElem?
    intro j
    have e : Array.foldl (fun cs (x : Value × Nat) => cs.setIfInBounds (1 + x.snd) x.fst) ((cip (Value.pointer none) (Gf.zeros 176)).setIfInBounds 0 (Value.pointer a)) (ag K).zipIdx 0 (ag K).size = ((K.map B).zipIdx 0).foldl (fun cs (p : Value × Nat) => cs.setIfInBounds (1 + p.2) p.1) ((cip (Value.pointer none) (Gf.zeros 176)).setIfInBounds 0 (Value.pointer a)) := by
      unfold ag
      simp
    rw [e, fold_get]
    simp only [Array.size_setIfInBounds, hzs, List.length_map, hK]
    by_cases h0 : j = 0
    · subst h0
      rw [if_neg (by omega), Array.getElem?_setIfInBounds_self_of_lt (by omega)]
      rw [cip, Array.getElem?_append_left (by simp)]; rfl
    · by_cases h1 : j < 177
      · rw [if_pos (by omega)]
        simp only [cip, ag]
        rw [Array.getElem?_append_right (by simp; omega)]
        simp
      · rw [if_neg (by omega), Array.getElem?_eq_none (by simp; omega), Array.getElem?_eq_none (by rw [cip_size]; omega)]
  unfold Instr.build
  simp only [Sem.run_bind, hz, Result.andThen_ok, run_underlying Tryd.underlying52]
  simp [hs39, hs28, hf]
theorem wpList_run {P : Program} {ops : Array Oper} {rest : List Oper} {op : Oper} {a : Act} {w : World} {Q : Exit → Act → World → Prop} (hgd : op.guard = none) (v : Value) (hrun : (execOp a.eval op).run P w = .ok (.value v) w)
    (h : wpList P ops Q rest (a.put op.dst v) w) : wpList P ops Q (op :: rest) a w :=
  wpList_plain hgd fun K hK => by unfold Oper.wp; rw [hrun]; exact hK _ _ h
theorem build_op {P : Program} {op : Oper} {a : Act} (t : TypeId) (parts : Array (Nat × Operand)) (vals : Array (Nat × Value)) (ho : op.op = .build t parts) (hp : parts.map (fun (i, x) => (i, a.eval x)) = vals) (v : Value) (w : World) (h : (Instr.build t vals).run P w = .ok v w) :
    (execOp a.eval op).run P w = .ok (.value v) w := by
  unfold execOp
  simp only [ho, hp, Sem.run_bind, h, Result.andThen_ok, Sem.run_pure]
end Go.Proofs.YtmolhljgmaoflaaDoor
