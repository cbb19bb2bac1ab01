/- The parts of bytes, in whatever order, come to them: the mathematics. -/
import Derived.Test.YthmcmdojnnbefaaSb
namespace Go.Proofs.Ythmcmdojnnbefaa
open Go.RowKit Go.BigFrame
set_option linter.unusedVariables false
set_option linter.unusedSimpArgs false

/-- What a joiner keeps of the part i. -/
def pcB (z : Nat) (b : List UInt8) (i : Nat) : Pc := ⟨i, decide (i + 1 = spN b.length z), (b.drop (i * z)).take z⟩
theorem whG_all {L : List Pc} {z : Nat} {b : List UInt8} (h : ∀ k, k < spN b.length z → get L k = some (pcB z b k)) : ∀ (f n : Nat), n < spN b.length z → spN b.length z ≤ n + f → whG L f n = some (spN b.length z) := by
  intro f
  induction f with
  | zero => intro n h1 h2; omega
  | succ f ih =>
    intro n h1 h2
    rw [whG, h n h1]
    show (if (pcB z b n).last = true then some (n + 1) else whG L f (n + 1)) = _
    by_cases hl : n + 1 = spN b.length z
    · have hp : (pcB z b n).last = true := decide_eq_true hl
      rw [if_pos hp, hl]
    · have hp : ¬ (pcB z b n).last = true := fun h => hl (of_decide_eq_true h)
      rw [if_neg hp]
      exact ih (n + 1) (by omega) (by omega)
theorem whG_miss {L : List Pc} {z : Nat} {b : List UInt8} (h : ∀ k, k < spN b.length z → get L k = none ∨ get L k = some (pcB z b k)) {k0 : Nat} (hk0 : k0 < spN b.length z) (hm : get L k0 = none) : ∀ (f n : Nat), n ≤ k0 → whG L f n = none := by
  intro f
  induction f with
  | zero => intro n _; rfl
  | succ f ih =>
    intro n h1
    rw [whG]
    rcases h n (by omega) with e | e
    · rw [e]
    · have hne : n ≠ k0 := fun e2 => by rw [e2, hm] at e; cases e
      rw [e]
      show (if (pcB z b n).last = true then some (n + 1) else whG L f (n + 1)) = _
      have hp : ¬ (pcB z b n).last = true := fun h => absurd (of_decide_eq_true h : n + 1 = spN b.length z) (by omega)
      rw [if_neg hp]
      exact ih (n + 1) (by omega)
theorem tog_take {L : List Pc} {z : Nat} {b : List UInt8} {c : Nat} (h : ∀ k, k < c → get L k = some (pcB z b k)) : ∀ k, k ≤ c → tog L k = b.take (k * z) := by
  intro k
  induction k with
  | zero => intro _; simp [tog]
  | succ k ih =>
    intro hk
    rw [tog, ih (by omega), h k (by omega), Nat.succ_mul, List.take_add]
    rfl
theorem spN_whole (z : Nat) (b : List UInt8) (hz : 1 ≤ z) : b.length ≤ spN b.length z * z := by
  have h := @spN_more b.length z (spN b.length z - 1) hz
  have hp := spN_pos b.length z
  rw [show spN b.length z - 1 + 1 = spN b.length z by omega] at h
  have h2 : ¬ (spN b.length z < spN b.length z) := Nat.lt_irrefl _
  rw [h] at h2
  omega
theorem spN_le {z : Nat} {b : List UInt8} (hz : 1 ≤ z) (hl : b.length ≤ 256 * z) : spN b.length z ≤ 256 := by
  rcases Nat.lt_or_ge 256 (spN b.length z) with h | h
  · exfalso
    have := (@spN_more b.length z 255 hz).1 (by omega)
    omega
  · exact h
theorem spP_may {z : Nat} {b : List UInt8} (id : Nat) (hz : 1 ≤ z) (hz2 : z ≤ 1024) (hl : b.length ≤ 256 * z) {i : Nat} (hi : i < spN b.length z) : (spP id z b i).may = true := by
  have hc := spN_le hz hl
  unfold Prt.may spP mayN
  rw [decide_eq_true_eq]
  refine ⟨by simp, by simp only; omega, by simp only [List.length_take]; omega, ?_⟩
  by_cases hl : i + 1 = spN b.length z
  · exact .inl (decide_eq_true hl)
  · right
    have h2 := (spN_more (len := b.length) (size := z) (k := i) hz).1 (by omega)
    rw [Nat.succ_mul] at h2
    simp only [List.length_take, List.length_drop]
    omega
/-- How many below c are not there. -/
def nmis (T : Nat → Bool) : Nat → Nat
  | 0 => 0
  | c + 1 => nmis T c + (if T c then 0 else 1)
def updT (T : Nat → Bool) (n : Nat) : Nat → Bool := fun k => if k = n then true else T k
theorem nmis_zero {T : Nat → Bool} {c : Nat} : nmis T c = 0 ↔ ∀ k, k < c → T k = true := by
  induction c with
  | zero => exact ⟨fun _ k hk => absurd hk (Nat.not_lt_zero _), fun _ => rfl⟩
  | succ c ih =>
    rw [nmis]
    constructor
    · intro h k hk
      by_cases e : k = c
      · rw [e]
        cases hT : T c with
        | true => rfl
        | false => rw [hT] at h; simp at h
      · exact ih.1 (by omega) k (by omega)
    · intro h
      rw [ih.2 fun k hk => h k (by omega), h c (by omega)]
      rfl
theorem nmis_le (T : Nat → Bool) (c : Nat) : nmis T c ≤ c := by
  induction c with
  | zero => exact Nat.le_refl _
  | succ c ih => rw [nmis]; split <;> omega
theorem nmis_same {T : Nat → Bool} {n c : Nat} (h : c ≤ n) : nmis (updT T n) c = nmis T c := by
  induction c with
  | zero => rfl
  | succ c ih =>
    have e : updT T n c = T c := by unfold updT; rw [if_neg (by omega)]
    rw [nmis, nmis, ih (by omega), e]
theorem nmis_upd {T : Nat → Bool} {n c : Nat} (h : n < c) (hT : T n = false) : nmis T c = nmis (updT T n) c + 1 := by
  induction c with
  | zero => omega
  | succ c ih =>
    rw [nmis, nmis]
    by_cases e : n = c
    · subst e
      rw [nmis_same (Nat.le_refl _), hT]
      unfold updT
      simp
    · rw [ih (by omega)]
      have : updT T n c = T c := by unfold updT; rw [if_neg (by omega)]
      rw [this]
      omega
theorem updT_same {T : Nat → Bool} {n : Nat} (h : T n = true) : updT T n = T := by
  funext k
  unfold updT
  split
  · rename_i e; rw [e, h]
  · rfl
/-- What stands while the parts come. -/
def BI (z : Nat) (b : List UInt8) (s : Jn) (T : Nat → Bool) (came : Nat) : Prop :=
  (came = 0 ∧ s.ended = false ∧ (s.id = 9 ∨ (s.id = 0 ∧ s.L = [])) ∧ JOk s ∧ (∀ k, k < spN b.length z → get s.L k = if T k then some (pcB z b k) else none) ∧ (∃ k, k < spN b.length z ∧ T k = false)) ∨
  (came = 1 ∧ s = ⟨9, true, []⟩ ∧ ∀ k, k < spN b.length z → T k = true)
theorem BI.ok {z : Nat} {b : List UInt8} {s : Jn} {T : Nat → Bool} {came : Nat} (h : BI z b s T came) : JOk s := by
  rcases h with ⟨_, _, _, h, _⟩ | ⟨_, rfl, _⟩
  · exact h
  · exact JOk.new 9 (by omega) true
theorem BI.start (z : Nat) (b : List UInt8) (h : 1 ≤ spN b.length z) : BI z b ⟨0, false, []⟩ (fun _ => false) 0 :=
  .inl ⟨rfl, rfl, .inr ⟨rfl, rfl⟩, JOk.new 0 (by omega) false, fun k hk => rfl, 0, by omega, rfl⟩
theorem BI.came_le {z : Nat} {b : List UInt8} {s : Jn} {T : Nat → Bool} {came : Nat} (h : BI z b s T came) : came ≤ 1 := by
  rcases h with ⟨rfl, _⟩ | ⟨rfl, _⟩ <;> omega
theorem tkF_id {s : Jn} {p : Prt} (hm : p.may = true) (h : s.id = p.id ∨ (s.id < p.id ∧ s = ⟨s.id, false, []⟩)) : tkF s p = tkR ⟨p.id, s.ended, s.L⟩ p := by
  unfold tkF
  rw [hm]
  simp only [Bool.true_eq_false, if_false]
  rcases h with h | ⟨h, e⟩
  · rw [if_neg (by omega), if_neg (by omega), ← h]
  · rw [if_neg (by omega), if_pos h, e]
set_option maxHeartbeats 1000000 in
/-- One part more. -/
theorem BI.step {z : Nat} {b : List UInt8} {s : Jn} {T : Nat → Bool} {came : Nat} (h : BI z b s T came) (hz : 1 ≤ z) (hz2 : z ≤ 1024) (hl : b.length ≤ 256 * z) {n : Nat} (hn : n < spN b.length z) :
    ∃ s' bs done, tkF s (spP 9 z b n) = (s', bs, done, 0) ∧ s'.id = 9 ∧ done = decide (nmis (updT T n) (spN b.length z) = 0 ∧ came = 0) ∧ (done = true → bs = b) ∧ BI z b s' (updT T n) (if done then came + 1 else came) := by
  have hm := spP_may 9 hz hz2 hl hn
  have hc := spN_le hz hl
  have hpn : (spP 9 z b n).n.toNat = n := by simp [spP]
  rcases h with ⟨rfl, he, hi, ho, hg, k0, hk0, hTk0⟩ | ⟨rfl, rfl, hT⟩
  · have e1 : tkF s (spP 9 z b n) = tkR ⟨9, s.ended, s.L⟩ (spP 9 z b n) := tkF_id hm (by
      rcases hi with hi | ⟨hi, hL⟩
      · exact .inl hi
      · refine .inr ⟨by rw [hi]; show 0 < 9; omega, ?_⟩
        cases s
        simp only at hL he
        rw [hL, he])
    rw [e1]
    unfold tkR
    simp only [he, Bool.false_eq_true, if_false, hpn]
    have hpd : (⟨n, (spP 9 z b n).last, (spP 9 z b n).d⟩ : Pc) = pcB z b n := rfl
    rw [hpd]
    have ok9 : JOk ⟨9, s.ended, s.L⟩ := ⟨by show (9 : Nat) < 18446744073709551616; omega, ho.n, ho.len, ho.nod⟩
    cases hTn : T n with
    | true =>
      rw [hg n hn, hTn]
      simp only [if_true]
      have hu := updT_same hTn
      refine ⟨⟨9, s.ended, s.L⟩, [], false, by rw [he], rfl, ?_, (fun h => by cases h), ?_⟩
      · rw [hu]
        symm
        rw [decide_eq_false_iff_not]
        rintro ⟨h1, _⟩
        rw [nmis_zero.1 h1 k0 hk0] at hTk0
        cases hTk0
      · rw [hu]
        exact .inl ⟨rfl, he, .inl rfl, ok9, hg, k0, hk0, hTk0⟩
    | false =>
      rw [hg n hn, hTn]
      simp only [Bool.false_eq_true, if_false]
      have hgn : get s.L n = none := by rw [hg n hn, hTn]; rfl
      have hg2 : ∀ k, k < spN b.length z → get (s.L ++ [pcB z b n]) k = if updT T n k then some (pcB z b k) else none := by
        intro k hk
        rw [get_append, hg k hk]
        unfold updT
        by_cases e : k = n
        · subst e
          rw [hTn]
          simp [pcB]
        · rw [if_neg e]
          cases T k with
          | true => rfl
          | false => simp only [Bool.false_eq_true, if_false]; rw [if_neg (fun e2 => e (by rw [← e2]; rfl))]
      by_cases hall : ∀ k, k < spN b.length z → updT T n k = true
      · have hga : ∀ k, k < spN b.length z → get (s.L ++ [pcB z b n]) k = some (pcB z b k) := fun k hk => by rw [hg2 k hk, hall k hk]; rfl
        have hw : whF (s.L ++ [pcB z b n]) = some (spN b.length z) := whG_all hga 256 0 (by omega) (by omega)
        rw [hw]
        refine ⟨⟨9, true, []⟩, tog (s.L ++ [pcB z b n]) (spN b.length z), true, rfl, rfl, ?_, fun _ => ?_, .inr ⟨rfl, rfl, hall⟩⟩
        · symm
          rw [decide_eq_true_eq]
          exact ⟨nmis_zero.2 hall, by first | rfl | trivial⟩
        · rw [tog_take hga _ (Nat.le_refl _), List.take_of_length_le (spN_whole z b hz)]
      · obtain ⟨k1, hk1, hT1⟩ : ∃ k, k < spN b.length z ∧ updT T n k = false := by
          refine Classical.byContradiction fun hno => hall fun k hk => ?_
          cases hT : updT T n k with
          | true => rfl
          | false => exact absurd ⟨k, hk, hT⟩ hno
        have hw : whF (s.L ++ [pcB z b n]) = none := whG_miss (fun k hk => by
          rw [hg2 k hk]
          cases updT T n k with
          | true => exact .inr rfl
          | false => exact .inl rfl) hk1 (by rw [hg2 k1 hk1, hT1]; rfl) 256 0 (Nat.zero_le _)
        rw [hw]
        refine ⟨⟨9, s.ended, s.L ++ [pcB z b n]⟩, [], false, by rw [he], rfl, ?_, (fun h => by cases h), .inl ⟨rfl, he, .inl rfl, ?_, hg2, k1, hk1, hT1⟩⟩
        · symm
          rw [decide_eq_false_iff_not]
          rintro ⟨h1, _⟩
          rw [nmis_zero.1 h1 k1 hk1] at hT1
          cases hT1
        · exact ok9.put n _ _ (by omega) (by simp only [List.length_take]; omega) hgn _
  · have e1 : tkF ⟨9, true, []⟩ (spP 9 z b n) = tkR ⟨9, true, []⟩ (spP 9 z b n) := tkF_id hm (.inl rfl)
    rw [e1]
    have hu := updT_same (hT n hn)
    refine ⟨⟨9, true, []⟩, [], false, rfl, rfl, ?_, (fun h => by cases h), ?_⟩
    · symm
      rw [decide_eq_false_iff_not]
      rintro ⟨_, h1⟩
      cases h1
    · rw [hu]
      exact .inr ⟨rfl, rfl, hT⟩
theorem BI.end {z : Nat} {b : List UInt8} {s : Jn} {T : Nat → Bool} {came : Nat} (h : BI z b s T came) (hT : ∀ k, k < spN b.length z → T k = true) : came = 1 := by
  rcases h with ⟨_, _, _, _, _, k, hk, hf⟩ | ⟨h, _⟩
  · rw [hT k hk] at hf; cases hf
  · exact h
end Go.Proofs.Ythmcmdojnnbefaa
