/- Arrays of bytes cut into slices. -/
import Derived.Test.YtmolhljgmaoflaaDoorG
import Derived.Test.YtmolhljgmaoflaaDoorM
import Derived.Laws.CopyOwn
namespace Go.Proofs.YtmolhljgmaoflaaDoor
variable {P : Program}
theorem run_slice_arr (w : World) (t e : TypeId) (n : Nat) (hu : P.underlying t = some (.array n e)) (hs : (P.info? e).map (·.size) = some 1) (b o l h : Nat) (hl : l ≤ h) (hh : h ≤ n) (hn : l < n) :
    (Instr.sliceAt t (.pointer (some ⟨b, o, none⟩)) (some (.int .i64 (l : Int))) (some (.int .i64 (h : Int))) none).run P w = .ok (.slice (some ⟨b, o + l, none⟩) (h - l) (n - l)) w := by
  have hsz : ∀ w, (sizeOf e).run P w = .ok 1 w := by
    intro w
    cases hq : P.info? e with
    | none => simp [hq] at hs
    | some i => simp [hq] at hs; simp [sizeOf, typeInfo, hq, hs]
  have h1 : (0 : Int) ≤ (h : Int) ∧ (h : Int) ≤ (n : Int) := by omega
  have h3 : ¬ n = l := by omega
  simp [Instr.sliceAt, run_underlying hu, Instr.sureAddr, Instr.sliceBounds, go_sem, hsz, h1, h3, Addr.add]
  rw [if_pos hl]
  by_cases h0 : l = 0
  · subst h0; simp
  · simp [h0]
theorem run_slice_from (w : World) (t e : TypeId) (n : Nat) (hu : P.underlying t = some (.array n e)) (hs : (P.info? e).map (·.size) = some 1) (b o l : Nat) (hn : l < n) :
    (Instr.sliceAt t (.pointer (some ⟨b, o, none⟩)) (some (.int .i64 (l : Int))) none none).run P w = .ok (.slice (some ⟨b, o + l, none⟩) (n - l) (n - l)) w := by
  have hsz : ∀ w, (sizeOf e).run P w = .ok 1 w := by
    intro w
    cases hq : P.info? e with
    | none => simp [hq] at hs
    | some i => simp [hq] at hs; simp [sizeOf, typeInfo, hq, hs]
  have h3 : ¬ n = l := by omega
  simp [Instr.sliceAt, run_underlying hu, Instr.sureAddr, Instr.sliceBounds, go_sem, hsz, h3, Addr.add]
  rw [if_pos (by omega)]
  by_cases h0 : l = 0
  · subst h0; simp
  · simp [h0]
theorem slice_op {op : Oper} {a : Act} (t : TypeId) (x : Operand) (lo hi mx : Option Operand) (ho : op.op = .slice t x lo hi mx) (v : Value) (w : World) (h : (Instr.sliceAt t (a.eval x) (lo.map a.eval) (hi.map a.eval) (mx.map a.eval)).run P w = .ok v w) :
    (execOp a.eval op).run P w = .ok (.value v) w := by
  unfold execOp
  simp only [ho, Sem.run_bind, h, Result.andThen_ok, Sem.run_pure]

def splice (l : List UInt8) (off : Nat) (cs : List UInt8) : List UInt8 := l.take off ++ (cs ++ l.drop (off + cs.length))
theorem splice_len (l : List UInt8) (off : Nat) (cs : List UInt8) (h : off + cs.length ≤ l.length) : (splice l off cs).length = l.length := by
  simp [splice]; omega

/-- The built-in copy, from a row of bytes into a row of bytes. -/
theorem wpList_copy_bytes {w : World} {ops : Array Oper} {rest : List Oper} {o : Oper} {a : Act} {Q : Exit → Act → World → Prop} (hgd : o.guard = none) (d s : Operand) (dT sT : TypeId)
    (ho : o.op = .call { callee := .builtin .copy, args := #[d, s], argTypes := #[dT, sT] }) (elem : TypeId) (hu : P.underlying dT = some (.slice elem)) (hsz : (P.info? elem).map (·.size) = some 1)
    (g off dLen dCap b so sLen sCap : Nat) (hd : a.eval d = .slice (some ⟨g, off, none⟩) dLen dCap) (hs : a.eval s = .slice (some ⟨b, so, none⟩) sLen sCap)
    (l sl : List UInt8) (t t' : TypeId) (hg : Row w g t (ag l)) (hb : Row w b t' (ag sl)) (n : Nat) (hn : n = Nat.min sLen dLen) (hfit : off + n ≤ l.length) (hsrc : so + n ≤ sl.length)
    (h : wpList P ops Q rest (a.put o.dst (goInt n)) (w.setRow g (ag (splice l off ((sl.drop so).take n))))) : wpList P ops Q (o :: rest) a w := by
  have hlen : ((sl.drop so).take n).length = n := by simp; omega
  have hr := hb.range so n
  refine wpList_copy_own hgd d s dT sT ho elem hu hsz g off dLen dCap ⟨b, so, none⟩ sLen sCap hd hs (ag l) t hg (((sl.drop so).take n).map B) (by rw [List.length_map, hlen]; exact hn)
    (fun j v hv => by rw [Addr.add_mid]; exact hr j v hv) (by rw [List.length_map, hlen, ag_size]; exact hfit) ?_ ?_
  · intro v hv
    obtain ⟨x, _, rfl⟩ := List.mem_map.1 hv
    rfl
  · have e : ((ag l).toList.take off ++ ((((sl.drop so).take n).map B) ++ (ag l).toList.drop (off + (((sl.drop so).take n).map B).length))).toArray = ag (splice l off ((sl.drop so).take n)) := by
      unfold ag splice
      simp [List.map_take, List.map_drop]
    rw [e, List.length_map, hlen]
    exact h

theorem fill_splice (z : List UInt8) (f : Nat → UInt8) (m : Nat) (h : m + 4 ≤ z.length) (cs : List UInt8) (hc : cs = [f m, f (m + 1), f (m + 2), f (m + 3)]) : splice (Gf.fill z f m) m cs = Gf.fill z f (m + 4) := by
  subst hc
  apply List.ext_getElem?
  intro j
  have hl := Gf.fill_len z f m
  unfold splice
  rcases Nat.lt_or_ge j m with h1 | h1
  · rw [List.getElem?_append_left (by simp; omega), List.getElem?_take_of_lt h1, Gf.fill_at z f m j h1 (by omega), Gf.fill_at z f (m + 4) j (by omega) (by omega)]
  · rcases Nat.lt_or_ge j (m + 4) with h2 | h2
    · rw [List.getElem?_append_right (by simp; omega), Gf.fill_at z f (m + 4) j h2 (by omega)]
      have hlt : (List.take m (Gf.fill z f m)).length = m := by simp; omega
      rw [hlt]
      have hc : j = m ∨ j = m + 1 ∨ j = m + 2 ∨ j = m + 3 := by omega
      rcases hc with rfl | rfl | rfl | rfl <;> simp [Nat.add_sub_cancel_left]
    · have hz : ∀ (n : Nat), n ≤ j → (Gf.fill z f n)[j]? = z[j]? := by
        intro n hn
        induction n with
        | zero => rfl
        | succ n ih => rw [Gf.fill, List.getElem?_set_ne (by omega)]; exact ih (by omega)
      rw [hz (m + 4) h2, List.getElem?_append_right (by simp; omega), List.getElem?_append_right (by simp; omega), List.getElem?_drop, ← hz m (by omega)]
      congr 1
      simp; omega
end Go.Proofs.YtmolhljgmaoflaaDoor
