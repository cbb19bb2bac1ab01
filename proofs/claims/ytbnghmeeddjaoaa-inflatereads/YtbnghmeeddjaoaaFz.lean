/- The deferred closure of blocks. What all blocks tell: places rise, errors are no nought. -/
import Derived.Test.YtbnghmeeddjaoaaFx
import Derived.Defers
import Derived.Recover
import Derived.Laws.Pointers
namespace Go.Proofs.Ytbnghmeeddjaoaa
open Go.RowKit Go.BigFrame Gt

set_option maxRecDepth 100000 in
set_option maxHeartbeats 2000000 in
theorem catch_flt (rb : Nat) (x y : Int) (w : World) (hlt : rb < w.heap.size) (hc : w.cell? ⟨rb, 0, none⟩ = some (.int .i64 y)) (hz : w.frozen? ⟨rb, 0, none⟩ = false) :
    CallsD Try.prog 27 #[.pointer (some ⟨rb, 0, none⟩)] (.panicking [{ v := .iface 60 (.agg #[.int .i64 x]), recovered := false }]) w fun e u' w' =>
      e = .returned (.tuple #[]) ∧ u' = .panicking [{ v := .iface 60 (.agg #[.int .i64 x]), recovered := true }] ∧ w' = (w.setCell ⟨rb, 0, none⟩ (.int .i64 x)).alloc (.cells #[.int .i64 x] 60) := by
  have hne : rb ≠ w.heap.size := by omega
  have hc1 : (w.alloc (.cells #[.int .i64 x] 60)).cell? ⟨rb, 0, none⟩ = some (.int .i64 y) := by
    simp only [World.cell?, Below.heap_alloc _ _ _ hlt] at hc ⊢; exact hc
  have hz1 : (w.alloc (.cells #[.int .i64 x] 60)).frozen? ⟨rb, 0, none⟩ = false := by
    simp only [World.frozen?, Below.heap_alloc _ _ _ hlt] at hz ⊢; exact hz
  refine callsD_of_wpS Try.func27 rfl fun c₀ cs hu => ?_
  apply wpS_seq
  apply wpS_region
  simp [wpOpsS, go_sem, recoverD, hu, Try.ntmps27, Exit.thenS]
  refine wpS_of_wp ?_
  have hta : ∀ w, (Instr.typeAssert (.iface 60 (.agg #[.int .i64 x])) 20 60 true).run Try.prog w = .ok (.tuple #[.agg #[.int .i64 x], .bool true]) w := fun w => by
    simp [Instr.typeAssert, go_sem]
  have e12 : #[Value.pointer (some ⟨rb, 0, none⟩)] ++ (Array.replicate 11 undef).setIfInBounds 3 (Value.iface 60 (Value.agg #[Value.int IntKind.i64 x])) = #[.pointer (some ⟨rb, 0, none⟩), undef, undef, undef, .iface 60 (.agg #[.int .i64 x]), undef, undef, undef, undef, undef, undef, undef] := rfl
  rw [e12]
  go_wp2_with fail
  simp [bodyPostS, results, Try.results27]
set_option maxRecDepth 100000 in
set_option maxHeartbeats 2000000 in
theorem catch_idle (p : Addr) (w : World) :
    CallsD Try.prog 27 #[.pointer (some p)] .returning w fun e u' w' => e = .returned (.tuple #[]) ∧ u' = .returning ∧ w' = w := by
  refine callsD_of_wpS Try.func27 rfl fun c₀ cs hu => ?_
  apply wpS_seq
  apply wpS_region
  simp [wpOpsS, go_sem, recoverD, hu, Try.ntmps27, Exit.thenS]
  refine wpS_of_wp ?_
  have e12 : #[Value.pointer (some p)] ++ (Array.replicate 11 undef).setIfInBounds 3 Value.nilIface = #[.pointer (some p), undef, undef, undef, .nilIface, undef, undef, undef, undef, undef, undef, undef] := rfl
  rw [e12]
  go_wp2_with fail
  cases c₀
  simp_all [bodyPostS, results, Try.results27]
end Go.Proofs.Ytbnghmeeddjaoaa
namespace Go.Proofs.Ytbnghmeeddjaoaa
open Go.RowKit Go.BigFrame Gt

def blocksF (b : List UInt8) (most : Nat) : Nat → Nat → List UInt8 → Except Int (Nat × List UInt8)
  | 0, _, _ => .error 7
  | f + 1, p, out => if p + 1 ≤ 8 * b.length then
      match blockF b most (p + 1) out with
      | .error x => .error x
      | .ok (q, o) => if nbr b p 1 = 1 then .ok (q, o) else blocksF b most f q o
    else .error 7

/-- The place is no lower, or the error is no nought. -/
def Up {α : Type} (p : Nat) (r : Except Int (Nat × α)) : Prop := match r with
  | .ok (q, _) => p ≤ q
  | .error x => x ≠ 0
theorem Up.le {α : Type} {p p' : Nat} {r : Except Int (Nat × α)} (h : Up p r) (hp : p' ≤ p) : Up p' r := by
  cases r with
  | error x => exact h
  | ok q => have : p ≤ q.1 := h; exact (Nat.le_trans hp this : p' ≤ q.1)
theorem up_puts (b : List UInt8) (most : Nat) : ∀ k p out, Up p (putsF b most k p out)
  | 0, p, out => Nat.le_refl p
  | k + 1, p, out => by
    rw [putsF]
    split
    · split
      · exact (by decide : (4 : Int) ≠ 0)
      · exact (up_puts b most k (p + 8) _).le (by omega)
    · exact (by decide : (7 : Int) ≠ 0)
theorem up_stored (b : List UInt8) (most p : Nat) (out : List UInt8) : Up p (storedF b most p out) := by
  unfold storedF
  split
  · split
    · split
      · exact (up_puts b most _ _ out).le (by omega)
      · exact (by decide : (8 : Int) ≠ 0)
    · exact (by decide : (7 : Int) ≠ 0)
  · exact (by decide : (7 : Int) ≠ 0)
/-- A symbol's place is higher, or the error is no nought. -/
theorem up_rd (l : List Int) (b : List UInt8) (p : Nat) : match rdF l b p with
    | .ok (_, q) => p < q
    | .error x => x ≠ 0 := by
  cases h : rdF l b p with
  | ok sq => exact rdF_gt h
  | error x =>
    unfold rdF at h
    split at h
    · cases h
    · cases h; assumption
theorem up_mea (T : Int × Int × Int) (b : List UInt8) (p : Nat) : match meaF T b p with
    | .ok (_, q) => p ≤ q
    | .error x => x ≠ 0 := by
  cases h : meaF T b p with
  | ok lq =>
    unfold meaF at h
    split at h
    · split at h
      · cases h; exact Nat.le_add_right _ _
      · cases h
    · cases h
  | error x =>
    unfold meaF at h
    split at h
    · split at h
      · cases h
      · cases h; exact (by decide : (7 : Int) ≠ 0)
    · cases h; exact (by decide : (8 : Int) ≠ 0)
theorem up_tell (most dist : Nat) : ∀ k out x, tellF most dist k out = .error x → x ≠ 0
  | 0, out, x, h => by cases h
  | k + 1, out, x, h => by
    rw [tell_step] at h
    split at h
    · cases h; decide
    · exact up_tell most dist k _ x h
theorem up_again (most p len dist : Nat) (out : List UInt8) : Up p (againF most p len dist out) := by
  unfold againF
  split
  · exact (by decide : (8 : Int) ≠ 0)
  · cases h : tellF most dist len out with
    | error x => exact up_tell most dist len out x h
    | ok o => show p ≤ p; exact Nat.le_refl p
theorem told_zero (l1 l2 : List Int) (b : List UInt8) (most p : Nat) (out : List UInt8) : toldF l1 l2 b most 0 p out = .error 7 := rfl
set_option maxRecDepth 100000 in
set_option maxHeartbeats 4000000 in
theorem told_step (l1 l2 : List Int) (b : List UInt8) (most f p : Nat) (out : List UInt8) : Box' (toldF l1 l2 b most (f + 1) p out = match rdF l1 b p with
    | .error x => .error x
    | .ok (s, q) =>
      if s = 256 then .ok (q, out)
      else if s < 256 then (if out.length = most then .error 4 else toldF l1 l2 b most f q (out ++ [UInt8.ofNat s]))
      else match meaF (Gf.lenT s) b q with
        | .error x => .error x
        | .ok (len, q1) => match rdF l2 b q1 with
          | .error x => .error x
          | .ok (d, q2) => match meaF (Gf.disT d) b q2 with
            | .error x => .error x
            | .ok (dist, q3) => match againF most q3 len dist out with
              | .error x => .error x
              | .ok (p', out') => toldF l1 l2 b most f p' out') := ⟨rfl⟩
set_option maxRecDepth 100000 in
set_option maxHeartbeats 1000000 in
theorem up_told (l1 l2 : List Int) (b : List UInt8) (most : Nat) : ∀ f p out, Up p (toldF l1 l2 b most f p out) := by
  intro f
  induction f with
  | zero =>
    intro p out
    rw [told_zero]
    exact (by decide : (7 : Int) ≠ 0)
  | succ f ih =>
    intro p out
    rw [(told_step l1 l2 b most f p out).out]
    have h1 := up_rd l1 b p
    cases hr : rdF l1 b p with
    | error x => rw [hr] at h1; exact h1
    | ok sq =>
      obtain ⟨s, q⟩ := sq
      rw [hr] at h1
      have h1 : p < q := h1
      simp only
      split
      · exact Nat.le_of_lt h1
      split
      · split
        · exact (by decide : (4 : Int) ≠ 0)
        · exact (ih q _).le (by omega)
      · have h2 := up_mea (Gf.lenT s) b q
        cases hm : meaF (Gf.lenT s) b q with
        | error x => rw [hm] at h2; exact h2
        | ok lq =>
          obtain ⟨len, q1⟩ := lq
          rw [hm] at h2
          have h2 : q ≤ q1 := h2
          simp only
          have h3 := up_rd l2 b q1
          cases hd : rdF l2 b q1 with
          | error x => rw [hd] at h3; exact h3
          | ok dq =>
            obtain ⟨d, q2⟩ := dq
            rw [hd] at h3
            have h3 : q1 < q2 := h3
            simp only
            have h4 := up_mea (Gf.disT d) b q2
            cases he : meaF (Gf.disT d) b q2 with
            | error x => rw [he] at h4; exact h4
            | ok eq =>
              obtain ⟨dist, q3⟩ := eq
              rw [he] at h4
              have h4 : q2 ≤ q3 := h4
              simp only
              have h5 := up_again most q3 len dist out
              cases ha : againF most q3 len dist out with
              | error x => rw [ha] at h5; exact h5
              | ok po =>
                obtain ⟨p', out'⟩ := po
                rw [ha] at h5
                have h5 : q3 ≤ p' := h5
                exact (ih p' out').le (by omega)
theorem up_row (lk : List Int) (b : List UInt8) (count : Nat) : ∀ f p row, Up p (rowF lk b count f p row)
  | 0, p, row => Nat.le_refl p
  | f + 1, p, row => by
    rw [rowF]
    split
    · have h1 := up_rd lk b p
      cases hr : rdF lk b p with
      | error x => rw [hr] at h1; exact h1
      | ok sq =>
        obtain ⟨s, q⟩ := sq
        rw [hr] at h1
        have h1 : p < q := h1
        simp only
        split
        · exact (by decide : (8 : Int) ≠ 0)
        split
        · split
          · exact (up_row lk b count f _ _).le (by omega)
          · exact (by decide : (8 : Int) ≠ 0)
        · exact (by decide : (7 : Int) ≠ 0)
    · exact Nat.le_refl p
theorem up_dyn (b : List UInt8) (p : Nat) : Up p (dynF b p) := by
  unfold dynF
  split
  case isFalse => exact (by decide : (7 : Int) ≠ 0)
  split
  case isFalse => exact (by decide : (8 : Int) ≠ 0)
  split
  case isFalse => exact (by decide : (7 : Int) ≠ 0)
  split
  case isFalse => exact (by decide : (8 : Int) ≠ 0)
  split
  case isFalse => exact (by decide : (7 : Int) ≠ 0)
  split
  case isFalse => exact (by decide : (7 : Int) ≠ 0)
  split
  case isFalse => exact (by decide : (8 : Int) ≠ 0)
  have h := up_row (kindL b (p + 5 + 5 + 4) (nbr b (p + 5 + 5) 4 + 4)) b (nbr b p 5 + 257 + (nbr b (p + 5) 5 + 1)) (nbr b p 5 + 257 + (nbr b (p + 5) 5 + 1) + 1) (p + 5 + 5 + 4 + 3 * (nbr b (p + 5 + 5) 4 + 4)) []
  split
  · rename_i x hx; rw [hx] at h; exact h
  · rename_i q row hx
    rw [hx] at h
    have h : p + 5 + 5 + 4 + 3 * (nbr b (p + 5 + 5) 4 + 4) ≤ q := h
    split
    · exact (by decide : (8 : Int) ≠ 0)
    split
    · show p ≤ q; omega
    · exact (by decide : (8 : Int) ≠ 0)
set_option maxRecDepth 100000 in
theorem up_block (b : List UInt8) (most p : Nat) (out : List UInt8) : Up p (blockF b most p out) := by
  unfold blockF
  split
  case isFalse => exact (by decide : (7 : Int) ≠ 0)
  split
  · exact (up_stored b most (p + 2) out).le (by omega)
  split
  · exact (up_told fixS fixD b most (8 * b.length + 1) (p + 2) out).le (by omega)
  split
  · have h := up_dyn b (p + 2)
    split
    · rename_i x hx; rw [hx] at h; exact h
    · rename_i q l1 l2 hx
      rw [hx] at h
      have h : p + 2 ≤ q := h
      exact (up_told l1 l2 b most (8 * b.length + 1) q out).le (by omega)
  · exact (by decide : (8 : Int) ≠ 0)
set_option maxRecDepth 100000 in
theorem up_blocks (b : List UInt8) (most : Nat) : ∀ f p out, Up p (blocksF b most f p out) := by
  intro f
  induction f with
  | zero =>
    intro p out
    rw [blocksF]
    exact (by decide : (7 : Int) ≠ 0)
  | succ f ih =>
    intro p out
    rw [blocksF]
    split
    case isFalse => exact (by decide : (7 : Int) ≠ 0)
    have h := up_block b most (p + 1) out
    split
    · rename_i x hx; rw [hx] at h; exact h
    · rename_i q o hx
      rw [hx] at h
      have h : p + 1 ≤ q := h
      split
      · show p ≤ q; omega
      · exact (ih q o).le (by omega)
end Go.Proofs.Ytbnghmeeddjaoaa
