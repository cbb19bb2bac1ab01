/- What stands of bytes that are cleaned; the bytes of an event, of events. -/
import Derived.Test.YtepepoabbbjmgaaO
namespace Go.Proofs.Ytepepoabbbjmgaa
open Go.RowKit Go.BigFrame

/-- What stands of one byte. -/
def clB (x : UInt8) : List UInt8 := if x = 27 ∨ x = 155 then [] else if x = 10 then [13] else [x]
def clean (l : List UInt8) : List UInt8 := (l.map clB).flatten
theorem clean_step (l : List UInt8) (k : Nat) (h : k < l.length) : clean (l.take (k + 1)) = clean (l.take k) ++ clB (l.getD k 0) := by
  rw [List.take_add_one, List.getElem?_eq_getElem h, show l.getD k 0 = l[k] by simp [h]]
  simp only [clean, Option.toList, List.map_append, List.map_cons, List.map_nil, List.flatten_append, List.flatten_cons, List.flatten_nil, List.append_nil]
theorem clB_len (x : UInt8) : (clB x).length ≤ 1 := by
  unfold clB; (repeat' split) <;> simp
theorem clean_len (l : List UInt8) : (clean l).length ≤ l.length := by
  induction l with
  | nil => simp [clean]
  | cons x r ih =>
    have := clB_len x
    simp only [clean, List.map_cons, List.flatten_cons, List.length_append, List.length_cons] at ih ⊢
    omega
theorem clean_take (l : List UInt8) (k : Nat) : (clean (l.take k)).length ≤ l.length := by
  have := clean_len (l.take k)
  simp only [List.length_take] at this
  omega
theorem clean_all (l : List UInt8) (k : Nat) (h : k = l.length) : clean (l.take k) = clean l := by rw [h, List.take_length]
theorem clean_27 (l : List UInt8) : (27 : UInt8) ∉ clean l := by
  induction l with
  | nil => simp [clean]
  | cons x r ih =>
    simp only [clean, List.map_cons, List.flatten_cons, List.mem_append, not_or] at ih ⊢
    refine ⟨?_, ih⟩
    unfold clB
    split
    · simp
    · split
      · simp
      · rename_i h1 h2
        simp only [List.mem_cons, List.not_mem_nil, or_false]
        intro e; exact h1 (.inl e.symm)
/-- The marks ahead of a paste, behind it. -/
def mkA : List UInt8 := [27, 91, 50, 48, 48, 126]
def mkZ : List UInt8 := [27, 91, 50, 48, 49, 126]
/-- The bytes of an event that may be. -/
def encF (x : Ev) (ar pa : Bool) : List UInt8 :=
  if x.kind.toNat = 1 then x.byt else if x.kind.toNat = 3 then (if pa = true then mkA ++ clean x.byt ++ mkZ else clean x.byt) else if x.kind.toNat = 4 then [27, if ar = true then 79 else 91, x.arr] else []
/-- What Encode answers. -/
def ansF (x : Ev) (ar pa : Bool) : List UInt8 × Int := if x.may = true then (encF x ar pa, 0) else ([], 2)
theorem may_len {x : Ev} (h : x.may = true) : x.byt.length ≤ 4096 := by
  unfold Ev.may mayN at h
  by_cases h1 : x.kind.toNat = 1
  · rw [if_pos h1, decide_eq_true_eq] at h; omega
  rw [if_neg h1] at h
  by_cases h2 : x.kind.toNat = 2
  · rw [if_pos h2, decide_eq_true_eq] at h; omega
  rw [if_neg h2] at h
  by_cases h3 : x.kind.toNat = 3
  · rw [if_pos h3, decide_eq_true_eq] at h; omega
  rw [if_neg h3] at h
  by_cases h4 : x.kind.toNat = 4
  · rw [if_pos h4, decide_eq_true_eq] at h; omega
  rw [if_neg h4] at h
  cases h
theorem encF_len {x : Ev} (h : x.may = true) (ar pa : Bool) : (encF x ar pa).length ≤ 4108 := by
  have h1 := may_len h
  have h2 := clean_len x.byt
  unfold encF
  (repeat' split) <;> simp [mkA, mkZ] <;> omega
/-- The bytes of the first k events. -/
def allK (l : List Ev) (ar pa : Bool) (k : Nat) : List UInt8 := ((l.take k).map fun x => encF x ar pa).flatten
theorem allK_step (l : List Ev) (ar pa : Bool) (k : Nat) (h : k < l.length) : allK l ar pa (k + 1) = allK l ar pa k ++ encF (l.getD k Ev.none) ar pa := by
  unfold allK
  rw [List.take_add_one, List.getElem?_eq_getElem h, show l.getD k Ev.none = l[k] by simp [h]]
  simp only [Option.toList, List.map_append, List.map_cons, List.map_nil, List.flatten_append, List.flatten_cons, List.flatten_nil, List.append_nil]
/-- What All answers, of a screen that may be. -/
def allF (l : List Ev) (ar pa : Bool) : List UInt8 × Int := if badE l = true then ([], 2) else (allK l ar pa l.length, 0)
theorem allK_len (l : List Ev) (ar pa : Bool) (k : Nat) (hk : k ≤ l.length) (h : ∀ j, j < k → (l.getD j Ev.none).may = true) : (allK l ar pa k).length ≤ 4108 * k := by
  induction k with
  | zero => simp [allK]
  | succ k ih =>
    rw [allK_step l ar pa k hk, List.length_append]
    have h1 := ih (by omega) (fun j hj => h j (by omega))
    have h2 := encF_len (h k (by omega)) ar pa
    omega
theorem allK_app (l : List Ev) (ar pa : Bool) (k : Nat) : allK (l.take k) ar pa (l.take k).length ++ allK (l.drop k) ar pa (l.drop k).length = allK l ar pa l.length := by
  unfold allK
  rw [List.take_length, List.take_length, List.take_length, ← List.flatten_append, ← List.map_append, List.take_append_drop]
end Go.Proofs.Ytepepoabbbjmgaa
