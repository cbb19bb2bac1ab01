/- The plain mathematics of codes: where each one stands, that they leave no gap, and that none begins another. -/
import Derived.Test.YtcjfaahlchbcmaaZ01
import Derived.Test.YtcjfaahlchbcmaaZ05
import Derived.Test.YtcjfaahlchbcmaaZ02
import Derived.Deep.QuietTactic
import Derived.BigQuiet
namespace Go.Proofs.Ytcjfaahlchbcmaa.Gf

/-- What the codes of lengths below n take. -/
def low (l : List Int) (n : Nat) : Nat := wgt (l.filter fun x => decide (x < (n : Int)))
/-- What the codes of the length n among the first k symbols take. -/
def eqk (l : List Int) (n k : Nat) : Nat := wgt ((l.take k).filter fun x => x == (n : Int))
/-- Where the next code of the length n stands behind k symbols. -/
def nxt (l : List Int) (n k : Nat) : Nat := low l n + eqk l n k
def ln (l : List Int) (i : Nat) : Nat := (l.getD i 0).toNat
def cod (l : List Int) (i : Nat) : Nat := nxt l (ln l i) i / 2 ^ (15 - ln l i)

theorem low_succ (l : List Int) (n : Nat) : low l (n + 1) = low l n + eqk l n l.length := by
  unfold low eqk
  rw [List.take_length]
  induction l with
  | nil => simp [wgt]
  | cons x r ih =>
    simp only [List.filter_cons]
    by_cases h1 : x < (n : Int)
    · have h2 : x < ((n + 1 : Nat) : Int) := by omega
      have h3 : (x == (n : Int)) = false := by rw [beq_eq_false_iff_ne]; omega
      simp only [h1, h2, h3, decide_true, if_true, wgt]
      simp only [Bool.false_eq_true, if_false]
      omega
    · by_cases h4 : x = (n : Int)
      · subst h4
        have h2 : (n : Int) < ((n + 1 : Nat) : Int) := by omega
        simp only [h2, decide_true, if_true, wgt, Int.lt_irrefl, decide_false, beq_self_eq_true, Bool.false_eq_true, if_false]
        omega
      · have h2 : ¬ x < ((n + 1 : Nat) : Int) := by omega
        have h3 : (x == (n : Int)) = false := by rw [beq_eq_false_iff_ne]; exact h4
        simp only [h1, h2, h3, decide_false, Bool.false_eq_true, if_false]
        exact ih
theorem eqk_zero (l : List Int) (n : Nat) : eqk l n 0 = 0 := by simp [eqk, wgt]
theorem eqk_succ (l : List Int) (n k : Nat) (h : k < l.length) : eqk l n (k + 1) = eqk l n k + if l.getD k 0 = (n : Int) then shr (n : Int) else 0 := by
  unfold eqk
  have e : l.getD k 0 = l[k] := by simp [h]
  rw [List.take_succ_eq_append_getElem h, List.filter_append, wgt_app, e]
  congr 1
  by_cases h1 : l[k] = (n : Int)
  · simp [h1, wgt]
  · have h2 : (l[k] == (n : Int)) = false := by rw [beq_eq_false_iff_ne]; exact h1
    simp [h1, wgt]
theorem eqk_mono (l : List Int) (n : Nat) {j k : Nat} (h : j ≤ k) (hk : k ≤ l.length) : eqk l n j ≤ eqk l n k := by
  induction k with
  | zero => have : j = 0 := by omega
            subst this; exact Nat.le_refl _
  | succ k ih =>
    by_cases h1 : j = k + 1
    · subst h1; exact Nat.le_refl _
    · have := ih (by omega) (by omega)
      rw [eqk_succ l n k (by omega)]
      omega
theorem low_mono (l : List Int) {m n : Nat} (h : m ≤ n) : low l m ≤ low l n := by
  induction n with
  | zero => have : m = 0 := by omega
            subst this; exact Nat.le_refl _
  | succ n ih =>
    by_cases h1 : m = n + 1
    · subst h1; exact Nat.le_refl _
    · have := ih (by omega)
      rw [low_succ]
      omega
theorem wgt_eq_zero (l : List Int) (h : ∀ x ∈ l, x = 0) : wgt l = 0 := by
  induction l with
  | nil => rfl
  | cons x r ih =>
    rw [wgt, ih fun y hy => h y (List.mem_cons_of_mem _ hy), h x List.mem_cons_self]; rfl
theorem low_zero (l : List Int) (h : l.all lenB = true) : low l 0 = 0 := by
  unfold low
  apply wgt_eq_zero
  intro x hx
  rw [List.mem_filter] at hx
  have h1 := List.all_eq_true.1 h x hx.1
  have h2 := of_decide_eq_true h1
  have h3 : x < ((0 : Nat) : Int) := of_decide_eq_true hx.2
  omega
theorem low_one (l : List Int) (h : l.all lenB = true) : low l 1 = 0 := by
  rw [low_succ, low_zero l h]
  unfold eqk
  rw [Nat.zero_add]
  apply wgt_eq_zero
  intro x hx
  rw [List.mem_filter] at hx
  simpa using hx.2
theorem low_all (l : List Int) (h : l.all lenB = true) : low l 16 = wgt l := by
  unfold low
  congr 1
  rw [List.filter_eq_self]
  intro x hx
  have h1 := List.all_eq_true.1 h x hx
  have h2 := of_decide_eq_true h1
  exact decide_eq_true (by omega)
theorem low_le (l : List Int) (h : l.all lenB = true) (n : Nat) (hn : n ≤ 16) : low l n ≤ wgt l := by rw [← low_all l h]; exact low_mono l hn
theorem nxt_le (l : List Int) (h : l.all lenB = true) (n k : Nat) (hn : n ≤ 15) (hk : k ≤ l.length) : nxt l n k ≤ wgt l := by
  have h1 := low_le l h (n + 1) (by omega)
  rw [low_succ] at h1
  have h2 := eqk_mono l n hk (Nat.le_refl _)
  unfold nxt; omega
theorem dvd_wgt (d : Nat) (l : List Int) (h : ∀ x ∈ l, d ∣ shr x) : d ∣ wgt l := by
  induction l with
  | nil => exact Nat.dvd_zero _
  | cons x r ih => exact Nat.dvd_add (h x List.mem_cons_self) (ih fun y hy => h y (List.mem_cons_of_mem _ hy))
theorem dvd_shr (n : Nat) (x : Int) (h : x ≤ (n : Int)) (_ : 0 ≤ x) : 2 ^ (15 - n) ∣ shr x := by
  unfold shr
  split
  · exact Nat.dvd_zero _
  · exact Nat.pow_dvd_pow 2 (by omega)
theorem dvd_nxt (l : List Int) (h : l.all lenB = true) (n k : Nat) : 2 ^ (15 - n) ∣ nxt l n k := by
  unfold nxt low eqk
  apply Nat.dvd_add
  · apply dvd_wgt
    intro x hx
    rw [List.mem_filter] at hx
    have h1 := of_decide_eq_true (List.all_eq_true.1 h x hx.1)
    have h2 := of_decide_eq_true hx.2
    exact dvd_shr n x (by omega) h1.1
  · apply dvd_wgt
    intro x hx
    rw [List.mem_filter] at hx
    have h2 : x = (n : Int) := by simpa using hx.2
    exact dvd_shr n x (by omega) (by omega)
theorem ln_le (l : List Int) (h : l.all lenB = true) (i : Nat) : ln l i ≤ 15 ∧ (l.getD i 0) = (ln l i : Int) := by
  unfold ln
  by_cases hi : i < l.length
  · have := of_decide_eq_true (all_get lenB l h i hi)
    omega
  · have e : l.getD i 0 = 0 := by rw [List.getD_eq_getElem?_getD, List.getElem?_eq_none (by omega)]; rfl
    rw [e]; exact ⟨by decide, rfl⟩
theorem shr_pos (n : Nat) (h : n ≠ 0) (_ : n ≤ 15) : shr (n : Int) = 2 ^ (15 - n) := by
  unfold shr; rw [if_neg (by omega), Int.toNat_natCast]
/-- The next place behind the code of i. -/
theorem nxt_succ (l : List Int) (h : l.all lenB = true) (i : Nat) (hi : i < l.length) (h0 : ln l i ≠ 0) : nxt l (ln l i) (i + 1) = nxt l (ln l i) i + 2 ^ (15 - ln l i) := by
  unfold nxt
  rw [eqk_succ l _ i hi, if_pos (ln_le l h i).2, shr_pos _ h0 (ln_le l h i).1]
  omega
theorem nxt_other (l : List Int) (n k : Nat) (h : k < l.length) (hn : l.getD k 0 ≠ (n : Int)) : nxt l n (k + 1) = nxt l n k := by
  unfold nxt; rw [eqk_succ l n k h, if_neg hn]; omega
theorem end_le (l : List Int) (h : l.all lenB = true) (i : Nat) (hi : i < l.length) (h0 : ln l i ≠ 0) : nxt l (ln l i) i + 2 ^ (15 - ln l i) ≤ wgt l := by
  rw [← nxt_succ l h i hi h0]
  exact nxt_le l h _ _ (ln_le l h i).1 hi
/-- One of two codes lies wholly ahead of the other. -/
theorem apart (l : List Int) (h : l.all lenB = true) (i j : Nat) (hi : i < l.length) (hj : j < l.length) (hij : i ≠ j) (h0 : ln l i ≠ 0) (k0 : ln l j ≠ 0) :
    nxt l (ln l i) i + 2 ^ (15 - ln l i) ≤ nxt l (ln l j) j ∨ nxt l (ln l j) j + 2 ^ (15 - ln l j) ≤ nxt l (ln l i) i := by
  have key : ∀ i j, i < l.length → j < l.length → ln l i ≠ 0 → (ln l i < ln l j ∨ (ln l i = ln l j ∧ i < j)) → nxt l (ln l i) i + 2 ^ (15 - ln l i) ≤ nxt l (ln l j) j := by
    intro i j hi hj h0 hlt
    rw [← nxt_succ l h i hi h0]
    rcases hlt with h1 | ⟨h1, h2⟩
    · have a1 := eqk_mono l (ln l i) (show i + 1 ≤ l.length from hi) (Nat.le_refl _)
      have a2 := low_succ l (ln l i)
      have a3 := low_mono l (show ln l i + 1 ≤ ln l j from h1)
      unfold nxt; omega
    · rw [h1]
      have a1 := eqk_mono l (ln l j) (show i + 1 ≤ j from h2) (by omega)
      unfold nxt; omega
  rcases Nat.lt_trichotomy (ln l i) (ln l j) with h1 | h1 | h1
  · exact .inl (key i j hi hj h0 (.inl h1))
  · rcases Nat.lt_or_gt_of_ne hij with h2 | h2
    · exact .inl (key i j hi hj h0 (.inr ⟨h1, h2⟩))
    · exact .inr (key j i hj hi k0 (.inr ⟨h1.symm, h2⟩))
  · exact .inr (key j i hj hi k0 (.inl h1))
theorem step_find (f : Nat → Nat) (v : Nat) : ∀ b a, a ≤ b → f a ≤ v → v < f b → ∃ n, a ≤ n ∧ n < b ∧ f n ≤ v ∧ v < f (n + 1)
  | 0, a, hab, h1, h2 => by
    have : a = 0 := by omega
    subst this; omega
  | b + 1, a, hab, h1, h2 => by
    by_cases h3 : a = b + 1
    · subst h3; omega
    · by_cases h4 : v < f b
      · obtain ⟨n, p1, p2, p3⟩ := step_find f v b a (by omega) h1 h4
        exact ⟨n, p1, by omega, p3⟩
      · exact ⟨b, by omega, by omega, by omega, h2⟩
/-- The codes leave no gap below the weight. -/
theorem cover (l : List Int) (h : l.all lenB = true) (v : Nat) (hv : v < wgt l) : ∃ i, i < l.length ∧ ln l i ≠ 0 ∧ nxt l (ln l i) i ≤ v ∧ v < nxt l (ln l i) i + 2 ^ (15 - ln l i) := by
  obtain ⟨n, h1, h2, h3, h4⟩ := step_find (low l) v 16 1 (by decide) (by rw [low_one l h]; omega) (by rw [low_all l h]; exact hv)
  obtain ⟨k, g1, g2, g3, g4⟩ := step_find (nxt l n) v l.length 0 (Nat.zero_le _) (by unfold nxt; rw [eqk_zero]; omega) (by unfold nxt; rw [← low_succ]; exact h4)
  have hk : l.getD k 0 = (n : Int) := Classical.byContradiction fun hn => by rw [nxt_other l n k g2 hn] at g4; omega
  have hl : ln l k = n := by unfold ln; rw [hk]; rfl
  have h0 : ln l k ≠ 0 := by omega
  refine ⟨k, g2, h0, by rw [hl]; exact g3, ?_⟩
  rw [← nxt_succ l h k g2 h0, hl]; exact g4
theorem cod_mul (l : List Int) (h : l.all lenB = true) (i : Nat) : cod l i * 2 ^ (15 - ln l i) = nxt l (ln l i) i := by
  unfold cod; exact Nat.div_mul_cancel (dvd_nxt l h _ _)
theorem cod_lt (l : List Int) (h : l.all lenB = true) (hw : wgt l ≤ 32768) (i : Nat) (hi : i < l.length) : cod l i < 2 ^ ln l i := by
  by_cases h0 : ln l i = 0
  · have : cod l i = 0 := by
      unfold cod
      rw [h0]
      have h1 : nxt l 0 i ≤ low l 1 := by
        rw [low_succ]; unfold nxt
        have := eqk_mono l 0 (show i ≤ l.length by omega) (Nat.le_refl _)
        omega
      rw [low_one l h] at h1
      have : nxt l 0 i = 0 := by omega
      rw [this, Nat.zero_div]
    rw [this]; exact Nat.two_pow_pos _
  · have h1 := end_le l h i hi h0
    have h2 := cod_mul l h i
    have h3 := (ln_le l h i).1
    have h4 : 2 ^ ln l i * 2 ^ (15 - ln l i) = 32768 := by rw [← Nat.pow_add, show ln l i + (15 - ln l i) = 15 by omega]
    apply Nat.lt_of_mul_lt_mul_right (a := 2 ^ (15 - ln l i))
    rw [h2, h4]
    have := Nat.two_pow_pos (15 - ln l i)
    omega
theorem cod_zero (l : List Int) (h : l.all lenB = true) (hw : wgt l ≤ 32768) (i : Nat) (hi : i < l.length) (h0 : ln l i = 0) : cod l i = 0 := by
  have := cod_lt l h hw i hi
  rw [h0] at this; omega
/-- The bits c, s of them, begin with the code of i if and only if they stand within its share. -/
theorem begins (l : List Int) (h : l.all lenB = true) (i s c : Nat) (hs : s ≤ 15) (hi : ln l i ≤ s) : c / 2 ^ (s - ln l i) = cod l i ↔ nxt l (ln l i) i ≤ c * 2 ^ (15 - s) ∧ c * 2 ^ (15 - s) < nxt l (ln l i) i + 2 ^ (15 - ln l i) := by
  rw [← cod_mul l h i]
  have e : 2 ^ (15 - ln l i) = 2 ^ (s - ln l i) * 2 ^ (15 - s) := by rw [← Nat.pow_add]; congr 1; omega
  rw [e, ← Nat.mul_assoc, ← Nat.add_mul]
  have p1 := Nat.two_pow_pos (15 - s)
  have p2 := Nat.two_pow_pos (s - ln l i)
  rw [Nat.mul_le_mul_right_iff p1, Nat.mul_lt_mul_right p1, Nat.div_eq_iff p2]
  constructor
  · rintro ⟨h1, h2⟩; exact ⟨h1, by omega⟩
  · rintro ⟨h1, h2⟩; exact ⟨h1, by omega⟩
/-- No code begins another one. -/
theorem free (l : List Int) (h : l.all lenB = true) (i j : Nat) (hi : i < l.length) (hj : j < l.length) (hij : i ≠ j) (h0 : ln l i ≠ 0) (hl : ln l i ≤ ln l j) : cod l j / 2 ^ (ln l j - ln l i) ≠ cod l i := by
  intro he
  have h15 := (ln_le l h j).1
  have hb := (begins l h i (ln l j) (cod l j) h15 hl).1 he
  rw [cod_mul l h j] at hb
  have ha := apart l h i j hi hj hij h0 (by omega)
  have := Nat.two_pow_pos (15 - ln l j)
  omega
theorem cod_inj (l : List Int) (h : l.all lenB = true) (i j : Nat) (hi : i < l.length) (hj : j < l.length) (h0 : ln l i ≠ 0) (hl : ln l i = ln l j) (hc : cod l i = cod l j) : i = j :=
  Classical.byContradiction fun hij => free l h i j hi hj hij h0 (by omega) (by rw [hl, Nat.sub_self, Nat.pow_zero, Nat.div_one, hc])
end Go.Proofs.Ytcjfaahlchbcmaa.Gf

/- The walks of isSize, lowest, bytesFor, mayBe and the reference's May. -/
namespace Go.Proofs.Ytcjfaahlchbcmaa
open Go.RowKit Go.BigFrame

theorem ret_int {k : IntKind} {a b : Int} (h : a = b) : Ending.returned (.int k a) = .returned (.int k b) := by rw [h]
theorem wrap_nat (n : Nat) : IntKind.u64.wrap ((n : Nat) : Int) = ((n % 18446744073709551616 : Nat) : Int) := by
  simp [IntKind.wrap, IntKind.bits, IntKind.signed]

def sizeB (s : Int) : Bool := decide (0 ≤ s ∧ s ≤ 64)
theorem isSize_any (s : Int) (w : World) : Calls Try.prog 87 #[.int .i64 s] w fun e w' => e = .returned (.bool (sizeB s)) ∧ w' = w := by
  unfold sizeB
  by_cases h1 : 0 ≤ s
  · by_cases h2 : s ≤ 64
    · rw [decide_eq_true (⟨h1, h2⟩ : 0 ≤ s ∧ s ≤ 64)]
      go_enter Try.func87, Try.ntmps87
      go_wp2
      go_ret
      exact ⟨rfl, rfl⟩
    · rw [decide_eq_false (fun h => h2 h.2 : ¬ (0 ≤ s ∧ s ≤ 64))]
      go_enter Try.func87, Try.ntmps87
      go_wp2
      go_ret
      exact ⟨rfl, rfl⟩
  · rw [decide_eq_false (fun h => h1 h.1 : ¬ (0 ≤ s ∧ s ≤ 64))]
    go_enter Try.func87, Try.ntmps87
    go_wp2
    go_ret
    exact ⟨rfl, rfl⟩

theorem low_int' : ∀ s : Nat, s < 65 → IntKind.u64.wrap (IntKind.u64.wrap (2 ^ s) - 1) = ((2 ^ s - 1 : Nat) : Int) := by decide +kernel
def lowN (s : Nat) : Nat := 2 ^ s - 1
theorem low_int (s : Nat) (h : s ≤ 64) : IntKind.u64.wrap (IntKind.u64.wrap (2 ^ s) - 1) = ((lowN s : Nat) : Int) := low_int' s (by omega)
set_option maxHeartbeats 400000 in
theorem lowest_any (s : Nat) (hs : s ≤ 64) (w : World) : Calls Try.prog 88 #[.int .i64 (s : Int)] w fun e w' => e = .returned (.int .u64 ((lowN s : Nat) : Int)) ∧ w' = w := by
  go_enter Try.func88, Try.ntmps88
  go_wp2
  go_ret
  exact ⟨ret_int (low_int s hs), rfl⟩
theorem bytesFor_any (s : Nat) (hs : s ≤ 9007199254740992) (w : World) : Calls Try.prog 65 #[.int .i64 (s : Int)] w fun e w' => e = .returned (.int .i64 (((s + 7) / 8 : Nat) : Int)) ∧ w' = w := by
  go_enter Try.func65, Try.ntmps65
  go_wp2
  go_ret
  exact ⟨ret_int (by omega), rfl⟩

set_option maxHeartbeats 1000000 in
theorem bitsMayBe_any (v : Nat) (s : Int) (w : World) : Calls Try.prog 78 #[.agg #[.int .u64 (v : Int), .int .i64 s]] w fun e w' => e = .returned (.bool (Gf.may (v, s))) ∧ Below w.heap.size w w' := by
  by_cases hs : 0 ≤ s ∧ s ≤ 64
  · obtain ⟨n, rfl⟩ : ∃ n : Nat, s = (n : Int) := ⟨s.toNat, by omega⟩
    have hn : n ≤ 64 := by omega
    have hB : sizeB (n : Int) = true := decide_eq_true hs
    have hM : Gf.may (v, (n : Int)) = decide (v ≤ lowN n) := by
      unfold Gf.may lowN
      have := Nat.two_pow_pos n
      rw [decide_eq_decide]
      simp only [Int.toNat_natCast]
      omega
    have h1 := fun w => isSize_any (n : Int) w
    rw [hB] at h1
    have h2 := fun w => lowest_any n hn w
    rw [hM]
    generalize lowN n = L at *
    clear hs hB hM
    go_enter Try.func78, Try.ntmps78
    go_wp2
    go_quiet ((first | (go_at_call 87; exact Calls.quiet_of_same (h1 _)) | (go_at_call 88; exact Calls.quiet_of_same (h2 _))))
    go_wp2
    go_ret
    exact ⟨rfl, Below.drewN ((Below.refl _ _).alloc (Nat.le_refl _) _) nq⟩
  · have hM : Gf.may (v, s) = false := decide_eq_false fun h => hs ⟨h.1, h.2.1⟩
    have h1 := fun w => isSize_any s w
    rw [show sizeB s = false from decide_eq_false hs] at h1
    rw [hM]
    clear hs hM
    go_enter Try.func78, Try.ntmps78
    go_wp2
    go_quiet ((go_at_call 87; exact Calls.quiet_of_same (h1 _)))
    go_wp2
    go_ret
    exact ⟨rfl, Below.drewN ((Below.refl _ _).alloc (Nat.le_refl _) _) nq⟩

theorem may_shr (v n : Nat) : Gf.may (v, (n : Int)) = (decide (n ≤ 64) && decide (v / 2 ^ n = 0)) := by
  unfold Gf.may
  rw [Bool.eq_iff_iff]
  simp only [Int.toNat_natCast, decide_eq_true_eq, Bool.and_eq_true]
  rw [Nat.div_eq_zero_iff_lt (Nat.two_pow_pos n)]
  omega
theorem shr_zero (v n : Nat) : ((v : Int) / 2 ^ n == 0) = decide (v / 2 ^ n = 0) := by
  have e : (v : Int) / 2 ^ n = ((v / 2 ^ n : Nat) : Int) := by simp
  rw [e, Bool.eq_iff_iff, beq_iff_eq, decide_eq_true_eq]
  omega
end Go.Proofs.Ytcjfaahlchbcmaa

/- Numbers that lie behind a slice; the walks of isLength, share, weigh, check and of the counts. -/
namespace Go.Proofs.Ytcjfaahlchbcmaa
open Go.RowKit Go.BigFrame

/-- The slice v has the numbers l, in a block below N. -/
def Ints (N : Nat) (w : World) (v : Value) (l : List Int) : Prop :=
  ∃ a c, v = .slice a l.length c ∧ l.length ≤ c ∧ (l = [] ∨ ∃ b o, a = some ⟨b, o, none⟩ ∧ b < N ∧ ∀ k, k < l.length → w.cell? ⟨b, o + k, none⟩ = some (.int .i64 (l.getD k 0)))
theorem Ints.below {N M : Nat} {w w' : World} {v : Value} {l : List Int} (h : Ints N w v l) (hb : Below M w w') (hN : N ≤ M) : Ints N w' v l := by
  obtain ⟨a, c, h1, h2, h4⟩ := h
  refine ⟨a, c, h1, h2, ?_⟩
  rcases h4 with h4 | ⟨b, o, h5, h6, h7⟩
  · exact .inl h4
  · refine .inr ⟨b, o, h5, h6, fun k hk => ?_⟩
    rw [hb.cell (p := ⟨b, o + k, none⟩) (by show b < M; omega)]
    exact h7 k hk
theorem Ints.up {N M : Nat} {w : World} {v : Value} {l : List Int} (h : Ints N w v l) (hN : N ≤ M) : Ints M w v l := by
  obtain ⟨a, c, h1, h2, h4⟩ := h
  refine ⟨a, c, h1, h2, ?_⟩
  rcases h4 with h4 | ⟨b, o, h5, h6, h7⟩
  · exact .inl h4
  · exact .inr ⟨b, o, h5, by omega, h7⟩
theorem Ints.on {w w' : World} {v : Value} {l : List Int} (h : Ints w.heap.size w v l) (hb : Below w.heap.size w w') : Ints w'.heap.size w' v l :=
  (h.below hb (Nat.le_refl _)).up hb.size
theorem Ints.cells {N : Nat} {w : World} {a : Option Addr} {l : List Int} (h3 : l = [] ∨ ∃ b o, a = some ⟨b, o, none⟩ ∧ b < N ∧ ∀ k, k < l.length → w.cell? ⟨b, o + k, none⟩ = some (.int .i64 (l.getD k 0))) :
    ∀ k, k < l.length → ∃ b o, a = some ⟨b, o, none⟩ ∧ b < N ∧ w.cell? ⟨b, o + k, none⟩ = some (.int .i64 (l.getD k 0)) := by
  intro k hk
  rcases h3 with rfl | ⟨b, o, rfl, h5, h6⟩
  · simp at hk
  exact ⟨b, o, rfl, h5, h6 k hk⟩

theorem isLength_any (s : Int) (w : World) : Calls Try.prog 80 #[.int .i64 s] w fun e w' => e = .returned (.bool (Gf.lenB s)) ∧ w' = w := by
  unfold Gf.lenB
  by_cases h1 : 0 ≤ s
  · by_cases h2 : s ≤ 15
    · rw [decide_eq_true (⟨h1, h2⟩ : 0 ≤ s ∧ s ≤ 15)]
      go_enter Try.func80, Try.ntmps80
      go_wp2
      go_ret
      exact ⟨rfl, rfl⟩
    · rw [decide_eq_false (fun h => h2 h.2 : ¬ (0 ≤ s ∧ s ≤ 15))]
      go_enter Try.func80, Try.ntmps80
      go_wp2
      go_ret
      exact ⟨rfl, rfl⟩
  · rw [decide_eq_false (fun h => h1 h.1 : ¬ (0 ≤ s ∧ s ≤ 15))]
    go_enter Try.func80, Try.ntmps80
    go_wp2
    go_ret
    exact ⟨rfl, rfl⟩

theorem shl_shr' : ∀ n : Nat, n < 16 → n ≠ 0 → wrap64 (2 ^ (15 - n)) = ((Gf.shr (n : Int) : Nat) : Int) := by decide +kernel
theorem shl_shr (n : Nat) (h : n ≤ 15) (h0 : n ≠ 0) : wrap64 (2 ^ (15 - n)) = ((Gf.shr (n : Int) : Nat) : Int) := shl_shr' n (by omega) h0
theorem share_any (s : Int) (hs : Gf.lenB s = true) (w : World) : Calls Try.prog 81 #[.int .i64 s] w fun e w' => e = .returned (.int .i64 ((Gf.shr s : Nat) : Int)) ∧ w' = w := by
  have hs' := of_decide_eq_true hs
  obtain ⟨n, rfl⟩ : ∃ n : Nat, s = (n : Int) := ⟨s.toNat, by omega⟩
  have hn : n ≤ 15 := by omega
  clear hs hs'
  by_cases h0 : n = 0
  · subst h0
    go_enter Try.func81, Try.ntmps81
    go_wp2
    go_ret
    exact ⟨rfl, rfl⟩
  · have i0 : ((n : Int) == 0) = false := by rw [beq_eq_false_iff_ne]; omega
    go_enter Try.func81, Try.ntmps81
    go_wp2
    go_ret
    exact ⟨ret_int (shl_shr n hn h0), rfl⟩

set_option maxHeartbeats 1000000 in
theorem check_any (v : Value) (l : List Int) (hl : l.length ≤ 17592186044416) (w : World) (h : Ints w.heap.size w v l) :
    Calls Try.prog 69 #[v] w fun e w' => e = .returned (.int .i64 (Gf.chkE l)) ∧ w' = w := by
  obtain ⟨a, c, rfl, hc, h3⟩ := h
  have HCL := Box'.mk (Ints.cells h3)
  have TT := Box'.mk (Gf.wgt_take l)
  have TL := Box'.mk (Gf.wgt_take_le l)
  have AT := Box'.mk (Gf.all_take Gf.lenB l)
  have AN := Box'.mk (Gf.all_not Gf.lenB l)
  have CC := Box'.mk (Gf.chkE_cases l)
  have BAD : Box' (l.all Gf.lenB = false ∨ 32768 < Gf.wgt l → Gf.chkE l = 2) := ⟨fun h => if_pos h⟩
  have LE : Box' (l.take l.length = l) := ⟨List.take_length⟩
  generalize hn : l.length = n at *
  clear h3 hn
  go_enter Try.func69, Try.ntmps69
  go_wp2_with fail
  go_loop [3, 8] (fun t i => ∃ k m : Nat, k ≤ n ∧ i = .int .i64 (k : Int) ∧ t = .int .i64 (32768 - (m : Int)) ∧ m ≤ 32768 ∧ Box' (m = Gf.wgt (l.take k)) ∧ Box' ((l.take k).all Gf.lenB = true)) (fun _ i => n - (intOf i).toNat)
  case atStart => exact ⟨0, 0, by omega, rfl, rfl, by omega, ⟨by simp [Gf.wgt]⟩, ⟨by simp⟩⟩
  case round =>
    obtain ⟨k, m, hk, rfl, rfl, hm, HM, HA⟩ := hrel
    by_cases hlt : k < n
    · obtain ⟨b, o, rfl, hbw, c0⟩ := HCL.out k hlt
      have TK := Box'.mk (TT.out k hlt)
      have AK := Box'.mk (AT.out k hlt HA.out)
      have NK := Box'.mk (AN.out k hlt)
      have T1 := Box'.mk (TL.out (k + 1))
      have hi := fun w => isLength_any (l.getD k 0) w
      have hs := fun h w => share_any (l.getD k 0) h w
      have hsl := Gf.shr_le (l.getD k 0)
      generalize l.getD k 0 = x at *
      cases hx : Gf.lenB x with
      | false =>
        rw [hx] at hi
        have e2 := Box'.mk (BAD.out (.inl (NK.out hx)))
        clear HCL TT AT AN NK AK TL T1 CC BAD hs
        go_wp2_with (go_at_call 80; refine (hi _).mono ?_; rintro e w' ⟨rfl, rfl⟩)
        go_ret
        exact ⟨by rw [e2.out]; rfl, rfl⟩
      | true =>
        rw [hx] at hi
        have hs := hs hx
        have AK := Box'.mk (AK.out hx)
        generalize Gf.shr x = y at *
        clear hx
        by_cases hneg : m + y ≤ 32768
        · have i1 : ¬ (32768 : Int) - (m : Int) - (y : Int) < 0 := by omega
          clear HCL TT AT AN NK TL T1 CC BAD
          go_wp2_with (first | (go_at_call 80; refine (hi _).mono ?_; rintro e w' ⟨rfl, rfl⟩) | (go_at_call 81; refine (hs _).mono ?_; rintro e w' ⟨rfl, rfl⟩) | fail)
          refine ⟨⟨k + 1, m + y, by omega, by go_num, by go_num, by omega, ⟨by rw [TK.out, HM.out]⟩, ⟨AK.out⟩⟩, by simp [intOf]; omega⟩
        · have i1 : (32768 : Int) - (m : Int) - (y : Int) < 0 := by omega
          have e2 := Box'.mk (BAD.out (.inr (by have := T1.out; have := TK.out; have := HM.out; omega)))
          clear HCL TT AT AN NK TL T1 CC BAD
          go_wp2_with (first | (go_at_call 80; refine (hi _).mono ?_; rintro e w' ⟨rfl, rfl⟩) | (go_at_call 81; refine (hs _).mono ?_; rintro e w' ⟨rfl, rfl⟩) | fail)
          go_ret
          exact ⟨by rw [e2.out]; rfl, rfl⟩
    · obtain rfl : k = n := by omega
      have h1 := HM.out
      have hA := HA.out
      rw [LE.out] at h1 hA
      rcases CC.out with ⟨e1, _, _, e3⟩ | ⟨e1, _, _, e3⟩ | ⟨e1, e2⟩
      · have e5 := Box'.mk e1
        have e6 : ¬ (512 : Int) < (k : Int) := by omega
        clear h1 hA HCL TT AT AN TL CC BAD HM HA e1
        go_wp2_with fail
        go_ret
        exact ⟨by rw [e5.out]; rfl, rfl⟩
      · have e5 := Box'.mk e1
        have e6 : (512 : Int) < (k : Int) := by omega
        clear h1 hA HCL TT AT AN TL CC BAD HM HA e1
        go_wp2_with fail
        go_ret
        exact ⟨by rw [e5.out]; rfl, rfl⟩
      · exact absurd e2 (by rw [hA]; simp; omega)

end Go.Proofs.Ytcjfaahlchbcmaa
