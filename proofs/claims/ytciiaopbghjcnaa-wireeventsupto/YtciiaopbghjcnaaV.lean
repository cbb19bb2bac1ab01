/- What stands while the reference reads; the walks of its num, raw and end. -/
import Derived.Test.YtciiaopbghjcnaaU
namespace Go.Proofs.Ytciiaopbghjcnaa
open Go.RowKit Go.BigFrame
set_option linter.unusedSimpArgs false

/-- The reference's reader stands in the block rb: bytes that are left, or an error. -/
def RSt (N : Nat) (w : World) (rb : Nat) (st : Except Int (List UInt8)) : Prop := N ≤ rb ∧ rb < w.heap.size ∧ match st with
  | .ok l => ∃ v, Row w rb 72 #[v, .int .i64 0] ∧ InB N w v l ∧ l.length ≤ 140737488351232
  | .error x => x ≠ 0 ∧ ∃ v, Row w rb 72 #[v, .int .i64 x]
theorem RSt.below {N : Nat} {w w' : World} {rb : Nat} {st : Except Int (List UInt8)} (h : RSt N w rb st) (hb : Below w.heap.size w w') : RSt N w' rb st := by
  obtain ⟨h1, h2, h3⟩ := h
  refine ⟨h1, Nat.lt_of_lt_of_le h2 hb.size, ?_⟩
  cases st with
  | ok l => obtain ⟨v, r, i, q⟩ := h3; exact ⟨v, r.below hb r.lt, i.below hb (by omega), q⟩
  | error x => obtain ⟨q, v, r⟩ := h3; exact ⟨q, v, r.below hb r.lt⟩
theorem RSt.err {N : Nat} {w : World} {rb : Nat} {v : Value} {y : Int} (h1 : N ≤ rb) (r : Row w rb 72 #[v, .int .i64 y]) (x : Int) (hx : x ≠ 0) : RSt N (w.setCell ⟨rb, 1, none⟩ (.int .i64 x)) rb (.error x) :=
  ⟨h1, by simpa using r.lt, hx, v, r.setCell 1 _⟩
theorem RSt.turn {N : Nat} {w : World} {rb : Nat} {v : Value} (h1 : N ≤ rb) (r : Row w rb 72 #[v, .int .i64 0]) (v' : Value) (l' : List UInt8) (hi : InB N w v' l') (hl : l'.length ≤ 140737488351232) : RSt N (w.setCell ⟨rb, 0, none⟩ v') rb (.ok l') :=
  ⟨h1, by simpa using r.lt, v', r.setCell 0 _, hi.below (M := N) ((Below.refl _ _).setCell (p := ⟨rb, 0, none⟩) h1 v') (Nat.le_refl _), hl⟩
def numS (st : Except Int (List UInt8)) : Except Int (List UInt8) := match st with
  | .error x => .error x
  | .ok l => match numF l with
    | .ok (_, l') => .ok l'
    | .error x => .error x
def numV (st : Except Int (List UInt8)) : Nat := match st with
  | .error _ => 0
  | .ok l => match numF l with
    | .ok (n, _) => n
    | .error _ => 0
set_option maxRecDepth 100000 in
set_option maxHeartbeats 4000000 in
theorem refNum_any (N : Nat) (w : World) (rb : Nat) (st : Except Int (List UInt8)) (h : RSt N w rb st) :
    Calls Try.prog 38 #[.pointer (some ⟨rb, 0, none⟩)] w fun e w' => e = .returned (.int .u64 (numV st : Int)) ∧ RSt N w' rb (numS st) ∧ Gb rb w w' := by
  cases st with
  | error x =>
    have H := Box'.mk h
    obtain ⟨h1, h2, hx, v, r⟩ := h
    have c1 : w.cell? ⟨rb, 1, none⟩ = some (.int .i64 x) := by rw [r.cell]; rfl
    have hx' : (x != 0) = true := by simpa using hx
    show Calls Try.prog 38 #[.pointer (some ⟨rb, 0, none⟩)] w fun e w' => e = .returned (.int .u64 0) ∧ RSt N w' rb (.error x) ∧ Gb rb w w'
    clear r h1 h2 hx
    go_enter Try.func38, Try.ntmps38
    go_wp2_with fail
    go_ret
    exact ⟨rfl, H.out, Gb.refl _ _⟩
  | ok l =>
    obtain ⟨h1, h2, v, r, hi, hl⟩ := h
    have ru := refReadUint_any N w v l hi (by omega) (by omega)
    have c0 : w.cell? ⟨rb, 0, none⟩ = some v := by rw [r.cell]; rfl
    have c1 : w.cell? ⟨rb, 1, none⟩ = some (.int .i64 0) := by rw [r.cell]; rfl
    have HS : Box' (numS (.ok l) = match numF l with | .ok (_, l') => .ok l' | .error x => .error x) := ⟨rfl⟩
    have HV : Box' (numV (.ok l) = match numF l with | .ok (n, _) => n | .error _ => 0) := ⟨rfl⟩
    have HN := Box'.mk (numF.eq_1 l)
    have HU : Box' ((rdU l).2.2 = 0 → 0 < (rdU l).2.1 ∧ (rdU l).2.1 ≤ l.length) := ⟨fun e => by
      have := rdU_form (b := l) (n := (rdU l).1) (s := (rdU l).2.1) (by rw [← e])
      exact ⟨this.2.2.2, this.2.1⟩⟩
    generalize numS (.ok l) = RS at *
    generalize numV (.ok l) = RV at *
    generalize numF l = R at *
    generalize rdU l = U at *
    obtain ⟨n, s, e⟩ := U
    simp only at ru HN HU
    by_cases he : e = 0
    · subst he
      obtain ⟨hs0, hsl⟩ := HU.out rfl
      have e1 := HN.out
      rw [if_pos rfl] at e1
      subst e1
      have e2 : RS = .ok (l.drop s) := HS.out
      have e3 : RV = n := HV.out
      subst e2 e3
      have RS2 : Box' (∀ w1, Below w.heap.size w w1 → ∃ b o c, v = .slice (some ⟨b, o, none⟩) l.length c ∧ l.length ≤ c ∧ w1.cell? ⟨rb, 0, none⟩ = some v ∧ w1.frozen? ⟨rb, 0, none⟩ = false ∧ (c ≠ s → RSt N (w1.setCell ⟨rb, 0, none⟩ (.slice (some ⟨b, o + s, none⟩) (l.length - s) (c - s))) rb (.ok (l.drop s))) ∧ (c = s → RSt N (w1.setCell ⟨rb, 0, none⟩ (.slice (some ⟨b, o, none⟩) 0 0)) rb (.ok (l.drop s)))) := ⟨fun w1 b1 => by
        have r1 := r.below b1 r.lt
        rcases inB_cut (hi.below b1 (by omega)) hsl with ⟨rfl, rfl⟩ | ⟨b, o, c, e, q1, q2, q3, -⟩
        · simp at hsl; omega
        · exact ⟨b, o, c, e, q1, by rw [r1.cell]; rfl, r1.frozen 0, fun h => RSt.turn h1 r1 _ _ (q2 h) (by rw [List.length_drop]; omega), fun h => RSt.turn h1 r1 _ _ (q3 h) (by rw [List.length_drop]; omega)⟩⟩
      obtain ⟨av, cv, rfl, _⟩ := hi.slice
      clear HN HS HV HU r hi
      generalize l.drop s = L' at *
      generalize l.length = ln at *
      go_enter Try.func38, Try.ntmps38
      go_wp2_with fail
      refine ru.mono ?_
      rintro e w1 ⟨rfl, b1⟩
      obtain ⟨b, o, c, e, q1, q2, q3, q4, q5⟩ := RS2.out w1 b1
      injection e with e4 _ e5
      subst e4 e5
      have B1 := Box'.mk b1
      have HG : Box' (∀ v, Gb rb w (w1.setCell ⟨rb, 0, none⟩ v)) := ⟨fun v => (Gb.below B1.out).setCell 0 v⟩
      have Q4 := Box'.mk q4
      have Q5 := Box'.mk q5
      clear ru RS2 b1 c0 c1 q4 q5
      by_cases hcs : cv = s
      · subst hcs
        have ht := Box'.mk (Q5.out rfl)
        clear Q4 Q5
        go_wp2_with fail
        go_ret
        exact ⟨rfl, ht.out, HG.out _⟩
      · have ht := Box'.mk (Q4.out hcs)
        clear Q4 Q5
        go_wp2_with fail
        go_ret
        exact ⟨rfl, ht.out, HG.out _⟩
    · have e1 := HN.out
      rw [if_neg he] at e1
      subst e1
      have e2 : RS = .error e := HS.out
      have e3 : RV = 0 := HV.out
      subst e2 e3
      have he' : (e != 0) = true := by simpa using he
      have RS2 : Box' (∀ w1, Below w.heap.size w w1 → w1.cell? ⟨rb, 1, none⟩ = some (.int .i64 0) ∧ w1.frozen? ⟨rb, 1, none⟩ = false ∧ RSt N (w1.setCell ⟨rb, 1, none⟩ (.int .i64 e)) rb (.error e) ∧ Gb rb w (w1.setCell ⟨rb, 1, none⟩ (.int .i64 e))) := ⟨fun w1 b1 => by
        have r1 := r.below b1 r.lt
        exact ⟨by rw [r1.cell]; rfl, r1.frozen 1, RSt.err h1 r1 e he, (Gb.below b1).setCell 1 _⟩⟩
      obtain ⟨av, cv, rfl, _⟩ := hi.slice
      clear HN HS HV HU r hi he
      generalize l.length = ln at *
      go_enter Try.func38, Try.ntmps38
      go_wp2_with fail
      refine ru.mono ?_
      rintro e2 w1 ⟨rfl, b1⟩
      obtain ⟨q1, q2, q3, q4⟩ := RS2.out w1 b1
      have Q3 := Box'.mk q3
      have Q4 := Box'.mk q4
      clear ru RS2 b1 c0 c1 q3 q4
      go_wp2_with fail
      go_ret
      exact ⟨rfl, Q3.out, Q4.out⟩
end Go.Proofs.Ytciiaopbghjcnaa
