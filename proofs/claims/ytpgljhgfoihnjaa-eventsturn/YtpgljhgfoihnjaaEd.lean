/- What is read is what was written, and the other way round: the mathematics. -/
import Derived.Test.YtpgljhgfoihnjaaT
import Derived.Test.YtpgljhgfoihnjaaU
import Derived.Test.YtpgljhgfoihnjaaO
import Derived.Test.YtpgljhgfoihnjaaE
import Derived.Test.YtpgljhgfoihnjaaFa
import Derived.Test.YtpgljhgfoihnjaaH
import Derived.Test.YtpgljhgfoihnjaaN
import Derived.Test.YtpgljhgfoihnjaaOz
import Derived.Test.YtpgljhgfoihnjaaR
import Derived.Test.YtpgljhgfoihnjaaS
namespace Go.Proofs.Ytpgljhgfoihnjaa

/-- An event as it is read, ahead of the question whether it may be. -/
def preR (l : List UInt8) : Except Int (Ev × List UInt8) := match l with
  | [] => .error 7
  | k :: t =>
    if k.toNat = 1 ∨ k.toNat = 3 then match bytF 4096 t with
      | .error x => .error x
      | .ok (y, t) => .ok (⟨k, y, 0, 0, 0⟩, t)
    else if k.toNat = 2 then match sidF t with
      | .error x => .error x
      | .ok (c, t) => match sidF t with
        | .error x => .error x
        | .ok (r, t) => .ok (⟨k, [], c, r, 0⟩, t)
    else if k.toNat = 4 then match t with
      | [] => .error 7
      | a :: t => .ok (⟨k, [], 0, 0, a⟩, t)
    else .ok (⟨k, [], 0, 0, 0⟩, t)
theorem preR_cons (k : UInt8) (t : List UInt8) : preR (k :: t) = if k.toNat = 1 ∨ k.toNat = 3 then match bytF 4096 t with
      | .error x => .error x
      | .ok (y, t) => .ok (⟨k, y, 0, 0, 0⟩, t)
    else if k.toNat = 2 then match sidF t with
      | .error x => .error x
      | .ok (c, t) => match sidF t with
        | .error x => .error x
        | .ok (r, t) => .ok (⟨k, [], c, r, 0⟩, t)
    else if k.toNat = 4 then match t with
      | [] => .error 7
      | a :: t => .ok (⟨k, [], 0, 0, a⟩, t)
    else .ok (⟨k, [], 0, 0, 0⟩, t) := rfl
/-- The next event, and what is left. -/
def evR (l : List UInt8) : Except Int (Ev × List UInt8) := match preR l with
  | .error x => .error x
  | .ok (x, l) => if x.may = true then .ok (x, l) else .error 8
/-- So many events, and what is left. -/
def evlR : Nat → List UInt8 → Except Int (List Ev × List UInt8)
  | 0, l => .ok ([], l)
  | n + 1, l => match evR l with
    | .error x => .error x
    | .ok (x, l) => match evlR n l with
      | .error x => .error x
      | .ok (xs, l) => .ok (x :: xs, l)
/-- Events that say how many they are, and what is left. -/
def evsR (l : List UInt8) : Except Int (List Ev × List UInt8) := match numF l with
  | .error x => .error x
  | .ok (n, l) => if 4096 < n then .error 8 else evlR n l
/-- What ReadEvents answers. -/
def rdE (l : List UInt8) : List Ev × Int := if 65536 < l.length then ([], 4) else match evsR l with
  | .error x => ([], x)
  | .ok (xs, []) => (xs, 0)
  | .ok (_, _ :: _) => ([], 8)

theorem numF_back {n : Nat} (h : n < 18446744073709551616) (r : List UInt8) : numF (uf n ++ r) = .ok (n, r) := by
  unfold numF
  rw [rdU_back h r]
  simp
theorem numF_form {l r : List UInt8} {n : Nat} (h : numF l = .ok (n, r)) : l = uf n ++ r ∧ n < 18446744073709551616 := by
  unfold numF at h
  split at h
  · rename_i h0
    injection h with h
    injection h with h1 h2
    have hf := rdU_form (b := l) (n := (rdU l).1) (s := (rdU l).2.1) (by rw [← h0])
    rw [h1] at hf
    refine ⟨?_, hf.2.2.1⟩
    rw [hf.1, ← h2, List.take_append_drop]
  · cases h
theorem pieF_back (x r : List UInt8) : pieF x.length (x ++ r) = .ok (x, r) := by
  unfold pieF
  rw [if_neg (by rw [List.length_append]; omega)]
  simp
theorem pieF_form {n : Nat} {l x r : List UInt8} (h : pieF n l = .ok (x, r)) : l = x ++ r ∧ x.length = n := by
  unfold pieF at h
  split at h
  · cases h
  · injection h with h
    injection h with h1 h2
    rw [← h1, ← h2]
    exact ⟨(List.take_append_drop n l).symm, by rw [List.length_take]; omega⟩
theorem bytF_back {m : Nat} (hm : m ≤ 65536) {x : List UInt8} (hx : x.length ≤ m) (r : List UInt8) : bytF m (tx x ++ r) = .ok (x, r) := by
  unfold bytF tx
  rw [List.append_assoc, numF_back (by omega)]
  simp only
  rw [if_neg (by omega), pieF_back]
theorem bytF_form {m : Nat} {l x r : List UInt8} (h : bytF m l = .ok (x, r)) : l = tx x ++ r ∧ x.length ≤ m := by
  unfold bytF at h
  cases hn : numF l with
  | error e => rw [hn] at h; cases h
  | ok p =>
    obtain ⟨n, l1⟩ := p
    rw [hn] at h
    simp only at h
    split at h
    · cases h
    · obtain ⟨e1, e2⟩ := pieF_form h
      obtain ⟨e3, _⟩ := numF_form hn
      subst e1 e2
      exact ⟨by rw [e3, tx, List.append_assoc], by omega⟩
theorem sidF_back {n : Nat} (h : n ≤ 512) (r : List UInt8) : sidF (uf n ++ r) = .ok (n, r) := by
  unfold sidF
  rw [numF_back (by omega)]
  simp only
  rw [Nat.min_eq_left (by omega)]
theorem sidF_form {l r : List UInt8} {n : Nat} (h : sidF l = .ok (n, r)) (hn : n ≤ 512) : l = uf n ++ r := by
  unfold sidF at h
  cases hq : numF l with
  | error e => rw [hq] at h; cases h
  | ok p =>
    obtain ⟨m, l1⟩ := p
    rw [hq] at h
    injection h with h
    injection h with h1 h2
    obtain ⟨e3, _⟩ := numF_form hq
    have : m = n := by omega
    subst this h2
    exact e3
/-- What is known of an event that may be. -/
theorem may_cases {x : Ev} (h : x.may = true) : ((x.kind.toNat = 1 ∨ x.kind.toNat = 3) ∧ x.byt.length ≤ 4096 ∧ x.cols = 0 ∧ x.rows = 0 ∧ x.arr = 0) ∨ (x.kind.toNat = 2 ∧ x.byt = [] ∧ x.arr = 0 ∧ 1 ≤ x.cols ∧ x.cols ≤ 512 ∧ 1 ≤ x.rows ∧ x.rows ≤ 512) ∨ (x.kind.toNat = 4 ∧ x.byt = [] ∧ x.cols = 0 ∧ x.rows = 0) := by
  have z : x.arr.toNat = 0 → x.arr = 0 := fun h => UInt8.toNat_inj.1 (by simpa using h)
  have zl : x.byt.length = 0 → x.byt = [] := fun h => List.eq_nil_of_length_eq_zero h
  unfold Ev.may mayN at h
  split at h
  · rename_i h1; simp only [decide_eq_true_eq] at h; exact .inl ⟨.inl h1, by omega, h.2.2.1, h.2.2.2.1, z h.2.2.2.2⟩
  · split at h
    · rename_i h1; simp only [decide_eq_true_eq] at h; exact .inr (.inl ⟨h1, zl h.1, z h.2.1, h.2.2.1, h.2.2.2.1, h.2.2.2.2.1, h.2.2.2.2.2⟩)
    · split at h
      · rename_i h1; simp only [decide_eq_true_eq] at h; exact .inl ⟨.inr h1, by omega, h.2.1, h.2.2.1, z h.2.2.2⟩
      · split at h
        · rename_i h1; simp only [decide_eq_true_eq] at h; exact .inr (.inr ⟨h1, zl h.1, h.2.1, h.2.2.1⟩)
        · cases h
theorem evR_back {x : Ev} (h : x.may = true) (r : List UInt8) : evR (evF x ++ r) = .ok (x, r) := by
  have hp : preR (evF x ++ r) = .ok (x, r) := by
    obtain ⟨k, y, c, rw_, a⟩ := x
    rcases may_cases h with ⟨h1, h2, h3, h4, h5⟩ | ⟨h1, h2, h3, h4, h5, h6, h7⟩ | ⟨h1, h2, h3, h4⟩
    · simp only at h1 h2 h3 h4 h5
      subst h3 h4 h5
      unfold evF
      simp only
      rw [if_neg (by omega), if_neg (by omega), List.cons_append, preR_cons, if_pos h1, bytF_back (by decide) h2]
    · simp only at h1 h2 h3 h4 h5 h6 h7
      subst h2 h3
      unfold evF
      simp only
      rw [if_pos h1, List.cons_append, preR_cons, if_neg (by omega), if_pos h1, List.append_assoc, sidF_back (by omega)]
      simp only
      rw [sidF_back (by omega)]
      simp only
      rw [Int.toNat_of_nonneg (by omega), Int.toNat_of_nonneg (by omega)]
    · simp only at h1 h2 h3 h4
      subst h2 h3 h4
      unfold evF
      simp only
      rw [if_neg (by omega), if_pos h1, List.cons_append, preR_cons, if_neg (by omega), if_neg (by omega), if_pos h1]
      rfl
  unfold evR
  rw [hp]
  simp only
  rw [if_pos h]
theorem evR_form {l r : List UInt8} {x : Ev} (h : evR l = .ok (x, r)) : l = evF x ++ r ∧ x.may = true := by
  unfold evR at h
  cases hp : preR l with
  | error e => rw [hp] at h; cases h
  | ok p =>
    obtain ⟨y, t⟩ := p
    rw [hp] at h
    simp only at h
    split at h
    · rename_i hm
      injection h with h
      injection h with e1 e2
      subst e1 e2
      refine ⟨?_, hm⟩
      cases l with
      | nil => cases hp
      | cons k u =>
        rw [preR_cons] at hp
        split at hp
        · rename_i h13
          cases hb : bytF 4096 u with
          | error e => rw [hb] at hp; cases hp
          | ok q =>
            obtain ⟨yy, tt⟩ := q
            rw [hb] at hp
            simp only at hp
            injection hp with hp
            injection hp with e1 e2
            subst e1 e2
            obtain ⟨e3, _⟩ := bytF_form hb
            unfold evF
            simp only
            rw [if_neg (by omega), if_neg (by omega), List.cons_append, e3]
        · rename_i n13
          split at hp
          · rename_i h2
            cases hc : sidF u with
            | error e => rw [hc] at hp; cases hp
            | ok q =>
              obtain ⟨cc, tt⟩ := q
              rw [hc] at hp
              simp only at hp
              cases hr : sidF tt with
              | error e => rw [hr] at hp; cases hp
              | ok q =>
                obtain ⟨rr, uu⟩ := q
                rw [hr] at hp
                simp only at hp
                injection hp with hp
                injection hp with e1 e2
                subst e1 e2
                rcases may_cases hm with ⟨g1, _⟩ | ⟨g1, g2, g3, g4, g5, g6, g7⟩ | ⟨g1, _⟩
                · simp only at g1; omega
                · simp only at g4 g5 g6 g7
                  have e3 := sidF_form hc (by omega)
                  have e4 := sidF_form hr (by omega)
                  unfold evF
                  simp only
                  rw [if_pos h2, List.cons_append, e3, e4, List.append_assoc, Int.toNat_natCast, Int.toNat_natCast]
                · simp only at g1; omega
          · split at hp
            · rename_i h2 h4
              cases u with
              | nil => cases hp
              | cons a u =>
                simp only at hp
                injection hp with hp
                injection hp with e1 e2
                subst e1 e2
                unfold evF
                simp only
                rw [if_neg h2, if_pos h4]
                rfl
            · rename_i h2 h4
              injection hp with hp
              injection hp with e1 e2
              subst e1 e2
              rcases may_cases hm with ⟨g1, _⟩ | ⟨g1, _⟩ | ⟨g1, _⟩
              · exact absurd g1 n13
              · exact absurd g1 h2
              · exact absurd g1 h4
    · cases h
theorem evlR_back {xs : List Ev} (h : ∀ x ∈ xs, x.may = true) (r : List UInt8) : evlR xs.length ((xs.map evF).flatten ++ r) = .ok (xs, r) := by
  induction xs with
  | nil => rfl
  | cons x xs ih =>
    rw [List.length_cons, evlR, List.map_cons, List.flatten_cons, List.append_assoc, evR_back (h x (by simp))]
    simp only
    rw [ih (fun y hy => h y (by simp [hy]))]
theorem evlR_form {n : Nat} {l r : List UInt8} {xs : List Ev} (h : evlR n l = .ok (xs, r)) : l = (xs.map evF).flatten ++ r ∧ xs.length = n ∧ ∀ x ∈ xs, x.may = true := by
  induction n generalizing l xs with
  | zero =>
    rw [evlR] at h
    injection h with h
    injection h with e1 e2
    subst e1 e2
    exact ⟨by simp, rfl, by simp⟩
  | succ n ih =>
    rw [evlR] at h
    cases he : evR l with
    | error e => rw [he] at h; cases h
    | ok p =>
      obtain ⟨x, l1⟩ := p
      rw [he] at h
      simp only at h
      cases hl : evlR n l1 with
      | error e => rw [hl] at h; cases h
      | ok q =>
        obtain ⟨ys, l2⟩ := q
        rw [hl] at h
        simp only at h
        injection h with h
        injection h with e1 e2
        subst e1 e2
        obtain ⟨a1, a2⟩ := evR_form he
        obtain ⟨b1, b2, b3⟩ := ih hl
        refine ⟨by rw [a1, b1]; simp, by simp [b2], fun y hy => ?_⟩
        rcases List.mem_cons.1 hy with rfl | hy
        · exact a2
        · exact b3 y hy
theorem badE_all {l : List Ev} : badE l = false ↔ ∀ x ∈ l, x.may = true := by
  unfold badE
  rw [List.any_eq_false]
  constructor
  · intro h x hx
    have := h x hx
    simpa using this
  · intro h x hx
    simp [h x hx]
/-- Events that are written are read as they were. -/
theorem rdE_back {l : List Ev} {b : List UInt8} (h : wevF l = (b, 0)) : rdE b = (l, 0) := by
  unfold wevF at h
  split at h
  · simp at h
  · rename_i hb
    split at h
    · simp at h
    · rename_i hl
      injection h with h _
      subst h
      have hm := badE_all.1 (Bool.eq_false_iff.2 hb)
      unfold rdE
      rw [if_neg (by omega)]
      have e : evsR (preE l l.length) = .ok (l, []) := by
        unfold evsR preE
        rw [List.take_length, numF_back (by omega)]
        simp only
        rw [if_neg (by omega)]
        have := evlR_back hm []
        rwa [List.append_nil] at this
      rw [e]
end Go.Proofs.Ytpgljhgfoihnjaa
