/- The mathematics of estimates: what a sample makes of them; that they stay; that they settle. -/
namespace Go.Proofs.Ytmafghbhbahhcaa
namespace Gf
def mayB (a : Bool) (m s : Int) : Bool := decide (0 ≤ m ∧ m ≤ 524280 ∧ 0 ≤ s ∧ s ≤ 262140 ∧ (a = true ∨ (m = 0 ∧ s = 0)))
def absI (d : Int) : Int := if d < 0 then -d else d
def smA (a : Bool) (m s : Int) : Bool := mayB a m s
def smM (a : Bool) (m s x : Int) : Int := if mayB a m s = true then (if a = true then m + (x - m / 8) else 8 * x) else 0
def smS (a : Bool) (m s x : Int) : Int := if mayB a m s = true then (if a = true then s + absI (x - m / 8) - s / 4 else 2 * x) else 0
def erE (a : Bool) (m s : Int) : Int := if mayB a m s = true then 0 else 2
def wi (n lo hi : Int) : Int := max lo (min n hi)
def tmO (a : Bool) (m s : Int) : Int := if mayB a m s = true then (if a = true then wi (m / 8 + s) 50 1000 else 1000) else 0
def paO (a : Bool) (m s : Int) : Int := if mayB a m s = true then (if a = true then wi (m / 8 / 2) 20 250 else 250) else 0
def sinI (x y : Int) : Int := if x < y then x - y + 65536 else x - y

theorem may_of {a : Bool} {m s : Int} (h : mayB a m s = true) : 0 ≤ m ∧ m ≤ 524280 ∧ 0 ≤ s ∧ s ≤ 262140 ∧ (a = true ∨ (m = 0 ∧ s = 0)) := of_decide_eq_true h
theorem may_mk {m s : Int} (h : 0 ≤ m ∧ m ≤ 524280 ∧ 0 ≤ s ∧ s ≤ 262140) : mayB true m s = true := decide_eq_true ⟨h.1, h.2.1, h.2.2.1, h.2.2.2, .inl rfl⟩
theorem may_start : mayB false 0 0 = true := by decide
theorem abs_bd {x m : Int} (hx : 0 ≤ x) (hx' : x ≤ 65535) (hm : 0 ≤ m) (hm' : m ≤ 524280) : 0 ≤ absI (x - m / 8) ∧ absI (x - m / 8) ≤ 65535 := by
  unfold absI; split <;> omega
theorem stays {a : Bool} {m s x : Int} (h : mayB a m s = true) (hx : 0 ≤ x) (hx' : x ≤ 65535) : mayB true (smM a m s x) (smS a m s x) = true := by
  obtain ⟨h1, h2, h3, h4, h5⟩ := may_of h
  have hb := abs_bd hx hx' h1 h2
  unfold smM smS
  rw [if_pos h, if_pos h]
  cases a with
  | false => rw [if_neg (by decide), if_neg (by decide)]; exact may_mk (by omega)
  | true => rw [if_pos rfl, if_pos rfl]; exact may_mk (by omega)

/-- An estimate behind many samples of one kind. -/
structure St where
  a : Bool
  m : Int
  s : Int
def step (x : Int) (r : St) : St := ⟨smA r.a r.m r.s, smM r.a r.m r.s x, smS r.a r.m r.s x⟩
def ok (r : St) : Prop := mayB r.a r.m r.s = true
theorem step_ok {x : Int} (hx : 0 ≤ x) (hx' : x ≤ 65535) {r : St} (h : ok r) : ok (step x r) ∧ (step x r).a = true := by
  have e : (step x r).a = true := h
  refine ⟨?_, e⟩
  unfold ok
  rw [e]
  exact stays h hx hx'
def run (x : Int) : Nat → St → St
  | 0, r => r
  | n + 1, r => run x n (step x r)
theorem run_snoc (x : Int) (n : Nat) (r : St) : run x (n + 1) r = step x (run x n r) := by
  induction n generalizing r with
  | zero => rfl
  | succ n ih => rw [run, ih]; rfl
theorem run_add (x : Int) (n k : Nat) (r : St) : run x (n + k) r = run x k (run x n r) := by
  induction n generalizing r with
  | zero => rw [Nat.zero_add]; rfl
  | succ n ih => rw [Nat.succ_add, run, ih]; rfl
theorem run_ok {x : Int} (hx : 0 ≤ x) (hx' : x ≤ 65535) (n : Nat) {r : St} (h : ok r) : ok (run x n r) := by
  induction n generalizing r with
  | zero => exact h
  | succ n ih => exact ih (step_ok hx hx' h).1
theorem run_any {x : Int} (hx : 0 ≤ x) (hx' : x ≤ 65535) (n : Nat) {r : St} (h : ok r) (ha : r.a = true) : (run x n r).a = true := by
  induction n generalizing r with
  | zero => exact ha
  | succ n ih => exact ih (step_ok hx hx' h).1 (step_ok hx hx' h).2
theorem step_m {x : Int} {r : St} (h : ok r) (ha : r.a = true) : (step x r).m = r.m + (x - r.m / 8) := by
  have h' : mayB r.a r.m r.s = true := h
  show smM _ _ _ _ = _
  unfold smM; rw [if_pos h', if_pos ha]
theorem step_s {x : Int} {r : St} (h : ok r) (ha : r.a = true) : (step x r).s = r.s + absI (x - r.m / 8) - r.s / 4 := by
  have h' : mayB r.a r.m r.s = true := h
  show smS _ _ _ _ = _
  unfold smS; rw [if_pos h', if_pos ha]

/-- How far above, how far below, how wide. -/
def up (n : Nat) : Nat := n - n / 8
def dn (n : Nat) : Nat := n - (n + 7) / 8
def nar (n : Nat) : Nat := n - n / 4
def it (f : Nat → Nat) : Nat → Nat → Nat
  | 0, n => n
  | k + 1, n => it f k (f n)
theorem it_mono {f : Nat → Nat} (hf : ∀ a b, a ≤ b → f a ≤ f b) (k : Nat) : ∀ a b, a ≤ b → it f k a ≤ it f k b := by
  induction k with
  | zero => exact fun _ _ h => h
  | succ k ih => exact fun a b h => ih _ _ (hf a b h)
theorem it_up : it up 200 524280 ≤ 7 := by decide +kernel
theorem it_dn : it dn 200 524280 = 0 := by decide +kernel
theorem it_nar : it nar 200 262140 ≤ 3 := by decide +kernel
theorem above {x : Int} (hx : 0 ≤ x) (hx' : x ≤ 65535) (n k : Nat) {r : St} (h : ok r) (ha : r.a = true) (h0 : 8 * x ≤ r.m) (h1 : r.m ≤ 8 * x + k) : 8 * x ≤ (run x n r).m ∧ (run x n r).m ≤ 8 * x + it up n k := by
  induction n generalizing r k with
  | zero => exact ⟨h0, h1⟩
  | succ n ih =>
    have e := step_m (x := x) h ha
    refine ih (up k) (step_ok hx hx' h).1 (step_ok hx hx' h).2 ?_ ?_
    · rw [e]; omega
    · rw [e]; unfold up; omega
theorem below {x : Int} (hx : 0 ≤ x) (hx' : x ≤ 65535) (n k : Nat) {r : St} (h : ok r) (ha : r.a = true) (h0 : r.m ≤ 8 * x) (h1 : 8 * x ≤ r.m + k) : (run x n r).m ≤ 8 * x ∧ 8 * x ≤ (run x n r).m + it dn n k := by
  induction n generalizing r k with
  | zero => exact ⟨h0, h1⟩
  | succ n ih =>
    have e := step_m (x := x) h ha
    refine ih (dn k) (step_ok hx hx' h).1 (step_ok hx hx' h).2 ?_ ?_
    · rw [e]; omega
    · rw [e]; unfold dn; omega
theorem near {x : Int} (hx : 0 ≤ x) (hx' : x ≤ 65535) {r : St} (h : ok r) (ha : r.a = true) : 8 * x ≤ (run x 200 r).m ∧ (run x 200 r).m ≤ 8 * x + 7 := by
  obtain ⟨h1, h2, _⟩ := may_of h
  by_cases hc : 8 * x ≤ r.m
  · have := above hx hx' 200 524280 h ha hc (by omega)
    have := it_up
    omega
  · have := below hx hx' 200 524280 h ha (by omega) (by omega)
    rw [it_dn] at this
    omega
theorem narrows {x : Int} (hx : 0 ≤ x) (hx' : x ≤ 65535) (n k : Nat) {r : St} (h : ok r) (ha : r.a = true) (h0 : 8 * x ≤ r.m) (h1 : r.m ≤ 8 * x + 7) (h2 : r.s ≤ k) : 8 * x ≤ (run x n r).m ∧ (run x n r).m ≤ 8 * x + 7 ∧ (run x n r).s ≤ it nar n k := by
  induction n generalizing r k with
  | zero => exact ⟨h0, h1, h2⟩
  | succ n ih =>
    have e := step_m (x := x) h ha
    have e2 := step_s (x := x) h ha
    have ed : x - r.m / 8 = 0 := by omega
    rw [ed] at e e2
    have h3 := (may_of h).2.2.1
    refine ih (nar k) (step_ok hx hx' h).1 (step_ok hx hx' h).2 ?_ ?_ ?_
    · rw [e]; omega
    · rw [e]; omega
    · rw [e2]; simp only [absI, nar]; rw [if_neg (by decide)]; omega
theorem settled {x : Int} (hx : 0 ≤ x) (hx' : x ≤ 65535) {r : St} (h : ok r) : (run x 400 r).a = true ∧ (run x 400 r).m / 8 = x ∧ 0 ≤ (run x 400 r).s ∧ (run x 400 r).s ≤ 3 ∧ ok (run x 400 r) := by
  have e0 : run x 400 r = run x 200 (run x 199 (step x r)) := by
    show run x (1 + 199 + 200) r = _
    rw [run_add, run_add]; rfl
  have h1 := step_ok hx hx' h
  have h2 := run_ok hx hx' 199 h1.1
  have a2 := run_any hx hx' 199 h1.1 h1.2
  have hn : 8 * x ≤ (run x 199 (step x r)).m ∧ (run x 199 (step x r)).m ≤ 8 * x + 7 := by
    obtain ⟨g1, g2, _⟩ := may_of h1.1
    have i1 : it up 199 524280 ≤ 7 := by decide +kernel
    have i2 : it dn 199 524280 = 0 := by decide +kernel
    by_cases hc : 8 * x ≤ (step x r).m
    · have := above hx hx' 199 524280 h1.1 h1.2 hc (by omega)
      omega
    · have := below hx hx' 199 524280 h1.1 h1.2 (by omega) (by omega)
      rw [i2] at this
      omega
  have h3 := narrows hx hx' 200 262140 h2 a2 hn.1 hn.2 (may_of h2).2.2.2.1
  have h4 := run_ok hx hx' 200 h2
  have a4 := run_any hx hx' 200 h2 a2
  rw [← e0] at h3 h4 a4
  have := it_nar
  exact ⟨a4, by omega, (may_of h4).2.2.1, by omega, h4⟩
end Gf
end Go.Proofs.Ytmafghbhbahhcaa
