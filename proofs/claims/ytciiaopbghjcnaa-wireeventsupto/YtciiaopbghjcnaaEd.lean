/- What is read is what was written, and the other way round: the mathematics. -/
import Derived.Test.YtciiaopbghjcnaaT
namespace Go.Proofs.Ytciiaopbghjcnaa

/-- An event as it is read, ahead of the question whether it may be. -/
def preR (l : List UInt8) : Except Int (Ev × List UInt8) := match l with
  | [] => .error 7
  | k :: t =>
    if k.toNat = 1 ∨ k.toNat = 3 then match bytF 4096 t with
      | .error x => .error x
      | .ok (y, t) => .ok (⟨k, y, 0, 0, 0⟩, t)
    else if k.toNat = 2 then match sidF t with
      | .error x => .error x
      | .ok (c, t) => match sidF t with
        | .error x => .error x
        | .ok (r, t) => .ok (⟨k, [], c, r, 0⟩, t)
    else if k.toNat = 4 then match t with
      | [] => .error 7
      | a :: t => .ok (⟨k, [], 0, 0, a⟩, t)
    else .ok (⟨k, [], 0, 0, 0⟩, t)
theorem preR_cons (k : UInt8) (t : List UInt8) : preR (k :: t) = if k.toNat = 1 ∨ k.toNat = 3 then match bytF 4096 t with
      | .error x => .error x
      | .ok (y, t) => .ok (⟨k, y, 0, 0, 0⟩, t)
    else if k.toNat = 2 then match sidF t with
      | .error x => .error x
      | .ok (c, t) => match sidF t with
        | .error x => .error x
        | .ok (r, t) => .ok (⟨k, [], c, r, 0⟩, t)
    else if k.toNat = 4 then match t with
      | [] => .error 7
      | a :: t => .ok (⟨k, [], 0, 0, a⟩, t)
    else .ok (⟨k, [], 0, 0, 0⟩, t) := rfl
/-- The next event, and what is left. -/
def evR (l : List UInt8) : Except Int (Ev × List UInt8) := match preR l with
  | .error x => .error x
  | .ok (x, l) => if x.may = true then .ok (x, l) else .error 8
/-- So many events, and what is left. -/
def evlR : Nat → List UInt8 → Except Int (List Ev × List UInt8)
  | 0, l => .ok ([], l)
  | n + 1, l => match evR l with
    | .error x => .error x
    | .ok (x, l) => match evlR n l with
      | .error x => .error x
      | .ok (xs, l) => .ok (x :: xs, l)
/-- Events that say how many they are, and what is left. -/
def evsR (l : List UInt8) : Except Int (List Ev × List UInt8) := match numF l with
  | .error x => .error x
  | .ok (n, l) => if 4096 < n then .error 8 else evlR n l
/-- What ReadEvents answers. -/
def rdE (l : List UInt8) : List Ev × Int := if 65536 < l.length then ([], 4) else match evsR l with
  | .error x => ([], x)
  | .ok (xs, []) => (xs, 0)
  | .ok (_, _ :: _) => ([], 8)

theorem numF_back {n : Nat} (h : n < 18446744073709551616) (r : List UInt8) : numF (uf n ++ r) = .ok (n, r) := by
  unfold numF
  rw [rdU_back h r]
  simp
theorem numF_form {l r : List UInt8} {n : Nat} (h : numF l = .ok (n, r)) : l = uf n ++ r ∧ n < 18446744073709551616 := by
  unfold numF at h
  split at h
  · rename_i h0
    injection h with h
    injection h with h1 h2
    have hf := rdU_form (b := l) (n := (rdU l).1) (s := (rdU l).2.1) (by rw [← h0])
    rw [h1] at hf
    refine ⟨?_, hf.2.2.1⟩
    rw [hf.1, ← h2, List.take_append_drop]
  · cases h
theorem pieF_back (x r : List UInt8) : pieF x.length (x ++ r) = .ok (x, r) := by
  unfold pieF
  rw [if_neg (by rw [List.length_append]; omega)]
  simp
theorem pieF_form {n : Nat} {l x r : List UInt8} (h : pieF n l = .ok (x, r)) : l = x ++ r ∧ x.length = n := by
  unfold pieF at h
  split at h
  · cases h
  · injection h with h
    injection h with h1 h2
    rw [← h1, ← h2]
    exact ⟨(List.take_append_drop n l).symm, by rw [List.length_take]; omega⟩
theorem bytF_back {m : Nat} (hm : m ≤ 65536) {x : List UInt8} (hx : x.length ≤ m) (r : List UInt8) : bytF m (tx x ++ r) = .ok (x, r) := by
  unfold bytF tx
  rw [List.append_assoc, numF_back (by omega)]
  simp only
  rw [if_neg (by omega), pieF_back]
theorem bytF_form {m : Nat} {l x r : List UInt8} (h : bytF m l = .ok (x, r)) : l = tx x ++ r ∧ x.length ≤ m := by
  unfold bytF at h
  cases hn : numF l with
  | error e => rw [hn] at h; cases h
  | ok p =>
    obtain ⟨n, l1⟩ := p
    rw [hn] at h
    simp only at h
    split at h
    · cases h
    · obtain ⟨e1, e2⟩ := pieF_form h
      obtain ⟨e3, _⟩ := numF_form hn
      subst e1 e2
      exact ⟨by rw [e3, tx, List.append_assoc], by omega⟩
theorem sidF_back {n : Nat} (h : n ≤ 512) (r : List UInt8) : sidF (uf n ++ r) = .ok (n, r) := by
  unfold sidF
  rw [numF_back (by omega)]
  simp only
  rw [Nat.min_eq_left (by omega)]
theorem sidF_form {l r : List UInt8} {n : Nat} (h : sidF l = .ok (n, r)) (hn : n ≤ 512) : l = uf n ++ r := by
  unfold sidF at h
  cases hq : numF l with
  | error e => rw [hq] at h; cases h
  | ok p =>
    obtain ⟨m, l1⟩ := p
    rw [hq] at h
    injection h with h
    injection h with h1 h2
    obtain ⟨e3, _⟩ := numF_form hq
    have : m = n := by omega
    subst this h2
    exact e3
theorem insR_back {x : Ins} (h : x.ok) (hd : x.dif.length ≤ 65536) (r : List UInt8) : insR (insF x ++ r) = .ok (x, r) := by
  unfold insR insF
  simp only [List.append_assoc]
  rw [numF_back h.old]
  simp only
  rw [numF_back h.new]
  simp only
  rw [numF_back h.ack]
  simp only
  rw [numF_back h.thr]
  simp only
  rw [bytF_back (by decide) hd]
theorem insR_form {l r : List UInt8} {x : Ins} (h : insR l = .ok (x, r)) : l = insF x ++ r ∧ x.ok ∧ x.dif.length ≤ 65536 := by
  unfold insR at h
  cases h1 : numF l with
  | error e => rw [h1] at h; cases h
  | ok p1 =>
    obtain ⟨a, l1⟩ := p1
    rw [h1] at h
    simp only at h
    cases h2 : numF l1 with
    | error e => rw [h2] at h; cases h
    | ok p2 =>
      obtain ⟨b, l2⟩ := p2
      rw [h2] at h
      simp only at h
      cases h3 : numF l2 with
      | error e => rw [h3] at h; cases h
      | ok p3 =>
        obtain ⟨c, l3⟩ := p3
        rw [h3] at h
        simp only at h
        cases h4 : numF l3 with
        | error e => rw [h4] at h; cases h
        | ok p4 =>
          obtain ⟨d, l4⟩ := p4
          rw [h4] at h
          simp only at h
          cases h5 : bytF 65536 l4 with
          | error e => rw [h5] at h; cases h
          | ok p5 =>
            obtain ⟨y, l5⟩ := p5
            rw [h5] at h
            simp only at h
            injection h with h
            injection h with e1 e2
            subst e1 e2
            obtain ⟨q1, k1⟩ := numF_form h1
            obtain ⟨q2, k2⟩ := numF_form h2
            obtain ⟨q3, k3⟩ := numF_form h3
            obtain ⟨q4, k4⟩ := numF_form h4
            obtain ⟨q5, k5⟩ := bytF_form h5
            refine ⟨?_, ⟨k1, k2, k3, k4⟩, k5⟩
            rw [q1, q2, q3, q4, q5]
            simp [insF]
theorem numF_err {l : List UInt8} {x : Int} (h : numF l = .error x) : x ≠ 0 := by
  unfold numF at h
  split at h
  · cases h
  · injection h with h; rw [← h]; assumption
theorem bytF_err {m : Nat} {l : List UInt8} {x : Int} (h : bytF m l = .error x) : x ≠ 0 := by
  unfold bytF at h
  cases hn : numF l with
  | error y => rw [hn] at h; injection h with h; rw [← h]; exact numF_err hn
  | ok p =>
    rw [hn] at h
    simp only at h
    split at h
    · injection h with h; rw [← h]; decide
    · unfold pieF at h
      split at h
      · injection h with h; rw [← h]; decide
      · cases h
theorem insR_ne (b : List UInt8) : insR b ≠ .error 0 := by
  intro h
  unfold insR at h
  cases h1 : numF b with
  | error e => rw [h1] at h; injection h with h; exact numF_err h1 h
  | ok p1 =>
    rw [h1] at h
    simp only at h
    cases h2 : numF p1.2 with
    | error e => rw [h2] at h; injection h with h; exact numF_err h2 h
    | ok p2 =>
      rw [h2] at h
      simp only at h
      cases h3 : numF p2.2 with
      | error e => rw [h3] at h; injection h with h; exact numF_err h3 h
      | ok p3 =>
        rw [h3] at h
        simp only at h
        cases h4 : numF p3.2 with
        | error e => rw [h4] at h; injection h with h; exact numF_err h4 h
        | ok p4 =>
          rw [h4] at h
          simp only at h
          cases h5 : bytF 65536 p4.2 with
          | error e => rw [h5] at h; injection h with h; exact bytF_err h5 h
          | ok p5 => rw [h5] at h; cases h
theorem rdI_back {x : Ins} (h : x.ok) {b : List UInt8} (hw : wrF x = (b, 0)) : rdI b = (x, 0) := by
  unfold wrF at hw
  split at hw
  · simp at hw
  · injection hw with hw _
    have := insR_back h (by omega) []
    rw [List.append_nil, hw] at this
    unfold rdI
    rw [this]
theorem rdI_form {x : Ins} {b : List UInt8} (h : rdI b = (x, 0)) : wrF x = (b, 0) ∧ x.ok := by
  unfold rdI at h
  cases hi : insR b with
  | error e =>
    rw [hi] at h
    injection h with h1 h2
    exfalso
    revert hi
    subst h2
    intro hi
    exact absurd hi (insR_ne b)
  | ok p =>
    obtain ⟨y, r⟩ := p
    rw [hi] at h
    cases r with
    | cons c t => simp at h
    | nil =>
      simp only at h
      injection h with h1 _
      subst h1
      obtain ⟨e1, e2, e3⟩ := insR_form hi
      refine ⟨?_, e2⟩
      unfold wrF
      rw [if_neg (by omega), e1, List.append_nil]
/-- What is known of an event that may be. -/
theorem may_cases {x : Ev} (h : x.may = true) : ((x.kind.toNat = 1 ∨ x.kind.toNat = 3) ∧ x.byt.length ≤ 4096 ∧ x.cols = 0 ∧ x.rows = 0 ∧ x.arr = 0) ∨ (x.kind.toNat = 2 ∧ x.byt = [] ∧ x.arr = 0 ∧ 1 ≤ x.cols ∧ x.cols ≤ 512 ∧ 1 ≤ x.rows ∧ x.rows ≤ 512) ∨ (x.kind.toNat = 4 ∧ x.byt = [] ∧ x.cols = 0 ∧ x.rows = 0) := by
  have z : x.arr.toNat = 0 → x.arr = 0 := fun h => UInt8.toNat_inj.1 (by simpa using h)
  have zl : x.byt.length = 0 → x.byt = [] := fun h => List.eq_nil_of_length_eq_zero h
  unfold Ev.may mayN at h
  split at h
  · rename_i h1; simp only [decide_eq_true_eq] at h; exact .inl ⟨.inl h1, by omega, h.2.2.1, h.2.2.2.1, z h.2.2.2.2⟩
  · split at h
    · rename_i h1; simp only [decide_eq_true_eq] at h; exact .inr (.inl ⟨h1, zl h.1, z h.2.1, h.2.2.1, h.2.2.2.1, h.2.2.2.2.1, h.2.2.2.2.2⟩)
    · split at h
      · rename_i h1; simp only [decide_eq_true_eq] at h; exact .inl ⟨.inr h1, by omega, h.2.1, h.2.2.1, z h.2.2.2⟩
      · split at h
        · rename_i h1; simp only [decide_eq_true_eq] at h; exact .inr (.inr ⟨h1, zl h.1, h.2.1, h.2.2.1⟩)
        · cases h
theorem evR_back {x : Ev} (h : x.may = true) (r : List UInt8) : evR (evF x ++ r) = .ok (x, r) := by
  have hp : preR (evF x ++ r) = .ok (x, r) := by
    obtain ⟨k, y, c, rw_, a⟩ := x
    rcases may_cases h with ⟨h1, h2, h3, h4, h5⟩ | ⟨h1, h2, h3, h4, h5, h6, h7⟩ | ⟨h1, h2, h3, h4⟩
    · simp only at h1 h2 h3 h4 h5
      subst h3 h4 h5
      unfold evF
      simp only
      rw [if_neg (by omega), if_neg (by omega), List.cons_append, preR_cons, if_pos h1, bytF_back (by decide) h2]
    · simp only at h1 h2 h3 h4 h5 h6 h7
      subst h2 h3
      unfold evF
      simp only
      rw [if_pos h1, List.cons_append, preR_cons, if_neg (by omega), if_pos h1, List.append_assoc, sidF_back (by omega)]
      simp only
      rw [sidF_back (by omega)]
      simp only
      rw [Int.toNat_of_nonneg (by omega), Int.toNat_of_nonneg (by omega)]
    · simp only at h1 h2 h3 h4
      subst h2 h3 h4
      unfold evF
      simp only
      rw [if_neg (by omega), if_pos h1, List.cons_append, preR_cons, if_neg (by omega), if_neg (by omega), if_pos h1]
      rfl
  unfold evR
  rw [hp]
  simp only
  rw [if_pos h]
theorem evR_form {l r : List UInt8} {x : Ev} (h : evR l = .ok (x, r)) : l = evF x ++ r ∧ x.may = true := by
  unfold evR at h
  cases hp : preR l with
  | error e => rw [hp] at h; cases h
  | ok p =>
    obtain ⟨y, t⟩ := p
    rw [hp] at h
    simp only at h
    split at h
    · rename_i hm
      injection h with h
      injection h with e1 e2
      subst e1 e2
      refine ⟨?_, hm⟩
      cases l with
      | nil => cases hp
      | cons k u =>
        rw [preR_cons] at hp
        split at hp
        · rename_i h13
          cases hb : bytF 4096 u with
          | error e => rw [hb] at hp; cases hp
          | ok q =>
            obtain ⟨yy, tt⟩ := q
            rw [hb] at hp
            simp only at hp
            injection hp with hp
            injection hp with e1 e2
            subst e1 e2
            obtain ⟨e3, _⟩ := bytF_form hb
            unfold evF
            simp only
            rw [if_neg (by omega), if_neg (by omega), List.cons_append, e3]
        · rename_i n13
          split at hp
          · rename_i h2
            cases hc : sidF u with
            | error e => rw [hc] at hp; cases hp
            | ok q =>
              obtain ⟨cc, tt⟩ := q
              rw [hc] at hp
              simp only at hp
              cases hr : sidF tt with
              | error e => rw [hr] at hp; cases hp
              | ok q =>
                obtain ⟨rr, uu⟩ := q
                rw [hr] at hp
                simp only at hp
                injection hp with hp
                injection hp with e1 e2
                subst e1 e2
                rcases may_cases hm with ⟨g1, _⟩ | ⟨g1, g2, g3, g4, g5, g6, g7⟩ | ⟨g1, _⟩
                · simp only at g1; omega
                · simp only at g4 g5 g6 g7
                  have e3 := sidF_form hc (by omega)
                  have e4 := sidF_form hr (by omega)
                  unfold evF
                  simp only
                  rw [if_pos h2, List.cons_append, e3, e4, List.append_assoc, Int.toNat_natCast, Int.toNat_natCast]
                · simp only at g1; omega
          · split at hp
            · rename_i h2 h4
              cases u with
              | nil => cases hp
              | cons a u =>
                simp only at hp
                injection hp with hp
                injection hp with e1 e2
                subst e1 e2
                unfold evF
                simp only
                rw [if_neg h2, if_pos h4]
                rfl
            · rename_i h2 h4
              injection hp with hp
              injection hp with e1 e2
              subst e1 e2
              rcases may_cases hm with ⟨g1, _⟩ | ⟨g1, _⟩ | ⟨g1, _⟩
              · exact absurd g1 n13
              · exact absurd g1 h2
              · exact absurd g1 h4
    · cases h
theorem evlR_back {xs : List Ev} (h : ∀ x ∈ xs, x.may = true) (r : List UInt8) : evlR xs.length ((xs.map evF).flatten ++ r) = .ok (xs, r) := by
  induction xs with
  | nil => rfl
  | cons x xs ih =>
    rw [List.length_cons, evlR, List.map_cons, List.flatten_cons, List.append_assoc, evR_back (h x (by simp))]
    simp only
    rw [ih (fun y hy => h y (by simp [hy]))]
theorem evlR_form {n : Nat} {l r : List UInt8} {xs : List Ev} (h : evlR n l = .ok (xs, r)) : l = (xs.map evF).flatten ++ r ∧ xs.length = n ∧ ∀ x ∈ xs, x.may = true := by
  induction n generalizing l xs with
  | zero =>
    rw [evlR] at h
    injection h with h
    injection h with e1 e2
    subst e1 e2
    exact ⟨by simp, rfl, by simp⟩
  | succ n ih =>
    rw [evlR] at h
    cases he : evR l with
    | error e => rw [he] at h; cases h
    | ok p =>
      obtain ⟨x, l1⟩ := p
      rw [he] at h
      simp only at h
      cases hl : evlR n l1 with
      | error e => rw [hl] at h; cases h
      | ok q =>
        obtain ⟨ys, l2⟩ := q
        rw [hl] at h
        simp only at h
        injection h with h
        injection h with e1 e2
        subst e1 e2
        obtain ⟨a1, a2⟩ := evR_form he
        obtain ⟨b1, b2, b3⟩ := ih hl
        refine ⟨by rw [a1, b1]; simp, by simp [b2], fun y hy => ?_⟩
        rcases List.mem_cons.1 hy with rfl | hy
        · exact a2
        · exact b3 y hy
theorem badE_all {l : List Ev} : badE l = false ↔ ∀ x ∈ l, x.may = true := by
  unfold badE
  rw [List.any_eq_false]
  constructor
  · intro h x hx
    have := h x hx
    simpa using this
  · intro h x hx
    simp [h x hx]
/-- Events that are written are read as they were. -/
theorem rdE_back {l : List Ev} {b : List UInt8} (h : wevF l = (b, 0)) : rdE b = (l, 0) := by
  unfold wevF at h
  split at h
  · simp at h
  · rename_i hb
    split at h
    · simp at h
    · rename_i hl
      injection h with h _
      subst h
      have hm := badE_all.1 (Bool.eq_false_iff.2 hb)
      unfold rdE
      rw [if_neg (by omega)]
      have e : evsR (preE l l.length) = .ok (l, []) := by
        unfold evsR preE
        rw [List.take_length, numF_back (by omega)]
        simp only
        rw [if_neg (by omega)]
        have := evlR_back hm []
        rwa [List.append_nil] at this
      rw [e]
theorem evR_err {l : List UInt8} {x : Int} (h : evR l = .error x) : x ≠ 0 := by
  unfold evR at h
  cases hp : preR l with
  | ok p =>
    rw [hp] at h
    simp only at h
    split at h
    · cases h
    · injection h with h; rw [← h]; decide
  | error e =>
    rw [hp] at h
    injection h with h
    subst h
    cases l with
    | nil => injection hp with hp; rw [← hp]; decide
    | cons k t =>
      rw [preR_cons] at hp
      split at hp
      · cases hb : bytF 4096 t with
        | error y => rw [hb] at hp; injection hp with hp; rw [← hp]; exact bytF_err hb
        | ok q => rw [hb] at hp; cases hp
      · split at hp
        · have hs : ∀ {u : List UInt8} {y : Int}, sidF u = .error y → y ≠ 0 := fun {u y} h => by
            unfold sidF at h
            cases hn : numF u with
            | error z => rw [hn] at h; injection h with h; rw [← h]; exact numF_err hn
            | ok q => rw [hn] at h; cases h
          cases hc : sidF t with
          | error y => rw [hc] at hp; injection hp with hp; rw [← hp]; exact hs hc
          | ok q =>
            rw [hc] at hp
            simp only at hp
            cases hr : sidF q.2 with
            | error y => rw [hr] at hp; injection hp with hp; rw [← hp]; exact hs hr
            | ok q => rw [hr] at hp; cases hp
        · split at hp
          · cases t with
            | nil => injection hp with hp; rw [← hp]; decide
            | cons a u => cases hp
          · cases hp
theorem evlR_err {n : Nat} {l : List UInt8} {x : Int} (h : evlR n l = .error x) : x ≠ 0 := by
  induction n generalizing l x with
  | zero => cases h
  | succ n ih =>
    rw [evlR] at h
    cases he : evR l with
    | error e => rw [he] at h; injection h with h; rw [← h]; exact evR_err he
    | ok p =>
      rw [he] at h
      simp only at h
      cases hl : evlR n p.2 with
      | error e => rw [hl] at h; injection h with h; rw [← h]; exact ih hl
      | ok q => rw [hl] at h; cases h
theorem evsR_err {l : List UInt8} {x : Int} (h : evsR l = .error x) : x ≠ 0 := by
  unfold evsR at h
  cases hn : numF l with
  | error e => rw [hn] at h; injection h with h; rw [← h]; exact numF_err hn
  | ok p =>
    rw [hn] at h
    simp only at h
    split at h
    · injection h with h; rw [← h]; decide
    · exact evlR_err h
/-- Events that are read are written as the bytes that were read. -/
theorem rdE_form {b : List UInt8} {l : List Ev} (h : rdE b = (l, 0)) : wevF l = (b, 0) := by
  unfold rdE at h
  split at h
  · simp at h
  · rename_i hb
    cases he : evsR b with
    | error e =>
      rw [he] at h
      injection h with _ h
      exact absurd h (evsR_err he)
    | ok p =>
      obtain ⟨xs, r⟩ := p
      rw [he] at h
      cases r with
      | cons c t => simp at h
      | nil =>
        simp only at h
        injection h with h _
        subst h
        unfold evsR at he
        cases hn : numF b with
        | error e => rw [hn] at he; cases he
        | ok q =>
          obtain ⟨n, l1⟩ := q
          rw [hn] at he
          simp only at he
          split at he
          · cases he
          · obtain ⟨e1, e2, e3⟩ := evlR_form he
            obtain ⟨e4, _⟩ := numF_form hn
            have ep : preE xs xs.length = b := by
              unfold preE
              rw [List.take_length, e4, e1, e2, List.append_nil]
            unfold wevF
            rw [if_neg (by rw [badE_all.2 e3]; decide), if_neg (by rw [ep]; omega), ep]
end Go.Proofs.Ytciiaopbghjcnaa
