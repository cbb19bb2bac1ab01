/- The walk of the reference's event. -/
import Derived.Test.YtpgljhgfoihnjaaY
import Derived.Test.YtpgljhgfoihnjaaEc
import Derived.Test.YtpgljhgfoihnjaaU
import Derived.Test.YtpgljhgfoihnjaaO
import Derived.Test.YtpgljhgfoihnjaaE
import Derived.Test.YtpgljhgfoihnjaaFa
import Derived.Test.YtpgljhgfoihnjaaH
import Derived.Test.YtpgljhgfoihnjaaN
import Derived.Test.YtpgljhgfoihnjaaOz
import Derived.Test.YtpgljhgfoihnjaaR
import Derived.Test.YtpgljhgfoihnjaaS
import Derived.Test.YtpgljhgfoihnjaaT
import Derived.Test.YtpgljhgfoihnjaaEd
import Derived.Test.YtpgljhgfoihnjaaEa
import Derived.Test.YtpgljhgfoihnjaaEb
namespace Go.Proofs.Ytpgljhgfoihnjaa
open Go.RowKit Go.BigFrame
set_option maxRecDepth 100000
set_option linter.unusedSimpArgs false

theorem may_one {k : UInt8} {y : List UInt8} (hk : k.toNat = 1) : Ev.may ⟨k, y, 0, 0, 0⟩ = decide (1 ≤ y.length ∧ y.length ≤ 4096) := by
  unfold Ev.may mayN
  simp [hk]
theorem may_three {k : UInt8} {y : List UInt8} (hk : k.toNat = 3) : Ev.may ⟨k, y, 0, 0, 0⟩ = decide (y.length ≤ 4096) := by
  unfold Ev.may mayN
  simp [hk]
theorem ev_1 {k : UInt8} {t : List UInt8} (hk : k.toNat = 1) : evR (k :: t) = match rawF 1 4096 t with | .error x => .error x | .ok (y, t') => .ok (⟨k, y, 0, 0, 0⟩, t') := by
  unfold evR
  rw [preR_cons, if_pos (.inl hk)]
  unfold bytF rawF
  cases hn : numF t with
  | error x => rfl
  | ok p =>
    obtain ⟨n, l1⟩ := p
    simp only
    by_cases h1 : 4096 < n
    · rw [if_pos h1, if_pos (.inr h1)]
    · rw [if_neg h1]
      by_cases h0 : n < 1
      · rw [if_pos (.inl h0)]
        have : n = 0 := by omega
        subst this
        simp [pieF, may_one hk]
      · rw [if_neg (by omega)]
        cases hp : pieF n l1 with
        | error x => rfl
        | ok q =>
          obtain ⟨y, t'⟩ := q
          obtain ⟨_, e2⟩ := pieF_form hp
          simp only
          rw [may_one hk, if_pos (by simp; omega)]
theorem ev_3 {k : UInt8} {t : List UInt8} (hk : k.toNat = 3) : evR (k :: t) = match rawF 0 4096 t with | .error x => .error x | .ok (y, t') => .ok (⟨k, y, 0, 0, 0⟩, t') := by
  unfold evR
  rw [preR_cons, if_pos (.inr hk), rawF_bytF]
  cases hn : bytF 4096 t with
  | error x => rfl
  | ok p =>
    obtain ⟨y, t'⟩ := p
    obtain ⟨_, e2⟩ := bytF_form hn
    simp only
    rw [may_three hk, if_pos (by simp; omega)]
theorem ev_2 {k : UInt8} {t : List UInt8} (hk : k.toNat = 2) : evR (k :: t) = match numS (numS (.ok t)) with | .error x => .error x | .ok t2 => if numV (.ok t) < 1 ∨ 512 < numV (.ok t) ∨ numV (numS (.ok t)) < 1 ∨ 512 < numV (numS (.ok t)) then .error 8 else .ok (⟨k, [], (numV (.ok t) : Int), (numV (numS (.ok t)) : Int), 0⟩, t2) := by
  unfold evR
  rw [preR_cons, if_neg (by omega), if_pos hk]
  unfold sidF
  cases h1 : numF t with
  | error x => simp [numS, h1]
  | ok p1 =>
    obtain ⟨c, t1⟩ := p1
    simp only
    cases h2 : numF t1 with
    | error x => simp [numS, h1, h2]
    | ok p2 =>
      obtain ⟨r, t2⟩ := p2
      simp only [numS, numV, h1, h2]
      have hm : Ev.may ⟨k, [], ((min c 513 : Nat) : Int), ((min r 513 : Nat) : Int), 0⟩ = decide (1 ≤ c ∧ c ≤ 512 ∧ 1 ≤ r ∧ r ≤ 512) := by
        unfold Ev.may mayN
        rw [if_neg (by simp only; omega), if_pos hk, decide_eq_decide]
        simp only [List.length_nil]
        constructor
        · rintro ⟨_, _, q1, q2, q3, q4⟩; omega
        · rintro ⟨q1, q2, q3, q4⟩; exact ⟨by simp, by simp, by omega, by omega, by omega, by omega⟩
      rw [hm]
      by_cases hb : 1 ≤ c ∧ c ≤ 512 ∧ 1 ≤ r ∧ r ≤ 512
      · rw [if_pos (by simpa using hb), if_neg (by omega), Nat.min_eq_left (by omega), Nat.min_eq_left (by omega)]
      · rw [if_neg (by simpa using hb), if_pos (by omega)]
theorem ev_4n {k : UInt8} (hk : k.toNat = 4) : evR [k] = .error 7 := by
  unfold evR
  rw [preR_cons, if_neg (by omega), if_neg (by omega), if_pos hk]
theorem ev_4 {k a : UInt8} {t : List UInt8} (hk : k.toNat = 4) : evR (k :: a :: t) = if Ev.may ⟨k, [], 0, 0, a⟩ = true then .ok (⟨k, [], 0, 0, a⟩, t) else .error 8 := by
  unfold evR
  rw [preR_cons, if_neg (by omega), if_neg (by omega), if_pos hk]
theorem ev_0 {k : UInt8} {t : List UInt8} (h : k.toNat ≠ 1 ∧ k.toNat ≠ 2 ∧ k.toNat ≠ 3 ∧ k.toNat ≠ 4) : evR (k :: t) = .error 8 := by
  unfold evR
  rw [preR_cons, if_neg (by omega), if_neg (by omega), if_neg (by omega)]
  simp only
  rw [if_neg]
  unfold Ev.may mayN
  simp [h.1, h.2.1, h.2.2.1, h.2.2.2]

/-- What stands while what the reference read is put into the block pb. -/
structure LocR (rb : Nat) (w0 w : World) (N : Nat) (st : Except Int (List UInt8)) (pb : Nat) (v : Value) (d : List UInt8) : Prop where
  gb : Gb rb w0 w
  rst : RSt N w rb st
  row : ∃ c, Row w pb 48 c
  own : OwnB w0.heap.size w v d
  n1 : pb ≠ rb
  n3 : N ≤ pb
  n4 : w0.heap.size ≤ pb
theorem LocR.set {rb : Nat} {w0 w : World} {N : Nat} {st : Except Int (List UInt8)} {pb : Nat} {v : Value} {d : List UInt8} (h : LocR rb w0 w N st pb v d) (o : Nat) (u : Value) : LocR rb w0 (w.setCell ⟨pb, o, none⟩ u) N st pb v d := by
  obtain ⟨c, hr⟩ := h.row
  exact ⟨h.gb.setNew pb o u h.n4, h.rst.other pb o u h.n1 h.n3, ⟨_, hr.setCell o u⟩, h.own.other hr (by decide) o u, h.n1, h.n3, h.n4⟩
/-- How the reference's event ends. -/
def VEnd (N rb : Nat) (w : World) (R : Except Int (Ev × List UInt8)) (e : Ending) (w' : World) : Prop :=
  ∃ x vb, e = .returned (Ev.val x vb) ∧ OwnB w.heap.size w' vb x.byt ∧ RSt N w' rb (stOf R) ∧ (∀ y l, R = .ok (y, l) → y = x) ∧ Gb rb w w'

end Go.Proofs.Ytpgljhgfoihnjaa
