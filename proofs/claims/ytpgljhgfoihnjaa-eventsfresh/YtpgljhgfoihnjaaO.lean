/- Events behind a slice; the walks of IndexFunc, ContainsFunc and WriteEvents. -/
import Derived.Test.YtpgljhgfoihnjaaK
namespace Go.Proofs.Ytpgljhgfoihnjaa
open Go.RowKit Go.BigFrame
set_option linter.unusedSimpArgs false

def Ev.none : Ev := ⟨0, [], 0, 0, 0⟩
/-- The cells of an event from a place on. -/
def EvAt (N : Nat) (w : World) (b o : Nat) (x : Ev) : Prop :=
  ∃ vb, w.cell? ⟨b, o, Option.none⟩ = some (.int .u8 (x.kind.toNat : Int)) ∧ w.cell? ⟨b, o + 1, Option.none⟩ = some vb ∧ w.cell? ⟨b, o + 2, Option.none⟩ = some (.int .i64 x.cols) ∧ w.cell? ⟨b, o + 3, Option.none⟩ = some (.int .i64 x.rows) ∧ w.cell? ⟨b, o + 4, Option.none⟩ = some (.int .u8 (x.arr.toNat : Int)) ∧ InE N w vb x.byt
/-- The slice v has the events l, in blocks below N. -/
def Evs (N : Nat) (w : World) (v : Value) (l : List Ev) : Prop :=
  ∃ a c, v = .slice a l.length c ∧ l.length ≤ c ∧ ∀ k, k < l.length → ∃ b o, a = some ⟨b, o, Option.none⟩ ∧ b < N ∧ EvAt N w b (o + k * 5) (l.getD k Ev.none)
theorem EvAt.below {N M : Nat} {w w' : World} {b o : Nat} {x : Ev} (h : EvAt N w b o x) (hb : Below M w w') (hN : N ≤ M) (hbN : b < N) : EvAt N w' b o x := by
  obtain ⟨vb, h1, h2, h3, h4, h5, h6⟩ := h
  have e : ∀ q, w'.cell? ⟨b, q, Option.none⟩ = w.cell? ⟨b, q, Option.none⟩ := fun q => hb.cell (p := ⟨b, q, Option.none⟩) (by show b < M; omega)
  exact ⟨vb, by rw [e]; exact h1, by rw [e]; exact h2, by rw [e]; exact h3, by rw [e]; exact h4, by rw [e]; exact h5, h6.below hb hN⟩
theorem Evs.below {N M : Nat} {w w' : World} {v : Value} {l : List Ev} (h : Evs N w v l) (hb : Below M w w') (hN : N ≤ M) : Evs N w' v l := by
  obtain ⟨a, c, h1, h2, h3⟩ := h
  refine ⟨a, c, h1, h2, fun k hk => ?_⟩
  obtain ⟨b, o, e, hbN, h4⟩ := h3 k hk
  exact ⟨b, o, e, hbN, h4.below hb hN hbN⟩
theorem Evs.up {N M : Nat} {w : World} {v : Value} {l : List Ev} (h : Evs N w v l) (hN : N ≤ M) : Evs M w v l := by
  obtain ⟨a, c, h1, h2, h3⟩ := h
  refine ⟨a, c, h1, h2, fun k hk => ?_⟩
  obtain ⟨b, o, e, hbN, vb, q1, q2, q3, q4, q5, q6⟩ := h3 k hk
  exact ⟨b, o, e, by omega, vb, q1, q2, q3, q4, q5, q6.up hN⟩

/-- May not all of them be? -/
def badE (l : List Ev) : Bool := l.any fun x => !x.may
theorem badE_at {l : List Ev} {k : Nat} (hk : k < l.length) (h : (l.getD k Ev.none).may = false) : badE l = true := by
  unfold badE
  rw [List.any_eq_true]
  exact ⟨l[k], List.getElem_mem hk, by simpa [hk] using h⟩
theorem badE_none {l : List Ev} (h : ∀ k, k < l.length → (l.getD k Ev.none).may = true) : badE l = false := by
  unfold badE
  rw [List.any_eq_false]
  intro x hx
  obtain ⟨k, hk, rfl⟩ := List.getElem_of_mem hx
  have := h k hk
  simp [hk] at this
  simp [this]
theorem badE_get {l : List Ev} (h : badE l = false) {k : Nat} (hk : k < l.length) : (l.getD k Ev.none).may = true := by
  unfold badE at h
  rw [List.any_eq_false] at h
  have := h l[k] (List.getElem_mem hk)
  simpa [hk] using this

end Go.Proofs.Ytpgljhgfoihnjaa
