/- Which symbol stands for a number: the walk of nth. -/
import Derived.Test.YtcjfaahlchbcmaaK17
import Derived.Test.YtcjfaahlchbcmaaK16
namespace Go.Proofs.Ytcjfaahlchbcmaa
open Go.RowKit Go.BigFrame
def szF (row n : Nat) : Nat → Nat → Nat
  | 0, k => k
  | f + 1, k => if n / 2 ^ k < 2 * row then k else szF row n f (k + 1)
theorem sz_step (row n f k : Nat) (h : ¬ n / 2 ^ k < 2 * row) : szF row n (f + 1) k = szF row n f (k + 1) := by rw [szF, if_neg h]
theorem sz_done (row n f k : Nat) (h : n / 2 ^ k < 2 * row) : szF row n f k = k := by
  cases f with
  | zero => rfl
  | succ f => rw [szF, if_pos h]
set_option maxRecDepth 100000 in
set_option maxHeartbeats 1000000 in
theorem nth_any (row n : Nat) (hr1 : 1 ≤ row) (hr : row ≤ 4) (hn : n < 32768) (w : World) :
    Calls Try.prog 72 #[.int .i64 (n : Int), .int .i64 (row : Int)] w fun e w' => ∃ s, s = szF row n 16 0 ∧ e = .returned (.tuple #[.int .i64 ((row * s + n / 2 ^ s : Nat) : Int), .agg #[.int .u64 ((n - n / 2 ^ s * 2 ^ s : Nat) : Int), .int .i64 (s : Int)]]) ∧ Below w.heap.size w w' := by
  obtain ⟨S, hS⟩ : ∃ S, S = szF row n 16 0 := ⟨_, rfl⟩
  rw [← hS]
  have HS := Box'.mk hS
  have ZS := Box'.mk (sz_step row n)
  have ZD := Box'.mk (sz_done row n)
  obtain ⟨w0, hw0⟩ : ∃ w0, w0 = w.alloc (.cells #[.int .u64 0, .int .i64 0] 73) := ⟨_, rfl⟩
  have q1 : Row w0 w.heap.size 73 #[.int .u64 0, .int .i64 0] := by rw [hw0]; exact Row.new _ _ _
  have bl : Below w.heap.size w w0 := by rw [hw0]; exact (Below.refl _ _).alloc (Nat.le_refl _) _
  have Q1 := Box'.mk q1
  have BL := Box'.mk bl
  have HW0 := Box'.mk hw0
  clear hS q1 bl hw0
  go_enter Try.func72, Try.ntmps72
  go_wp2_with fail
  rw [← HW0.out]
  go_loopw [6] (fun i wr => ∃ k : Nat, k ≤ 15 ∧ i = .int .i64 (k : Int) ∧ Box' (S = szF row n (16 - k) k) ∧ Box' (wr = w0)) (fun i _ => 16 - (intOf i).toNat)
  case atStart => exact ⟨0, by omega, rfl, HS, ⟨rfl⟩⟩
  case round =>
    obtain ⟨k, hk, rfl, HE, HWR⟩ := hrel
    obtain rfl := HWR.out
    have hdv : (n : Int) / 2 ^ k = ((n / 2 ^ k : Nat) : Int) := by simp
    have hml : ((n / 2 ^ k : Nat) : Int) * 2 ^ k = ((n / 2 ^ k * 2 ^ k : Nat) : Int) := by simp
    have hMn : n / 2 ^ k * 2 ^ k ≤ n := Nat.div_mul_le_self _ _
    have hDn : n / 2 ^ k ≤ n := Nat.div_le_self _ _
    have h15 : k = 15 → n / 2 ^ k < 2 * row := by rintro rfl; rw [Nat.div_eq_of_lt (by omega)]; omega
    by_cases hlt : n / 2 ^ k < 2 * row
    case neg =>
      have HE2 : Box' (S = szF row n (16 - (k + 1)) (k + 1)) := ⟨by rw [HE.out, show 16 - k = (16 - (k + 1)) + 1 by omega, ZS.out _ _ hlt]⟩
      have hk15 : k < 15 := by
        rcases Nat.lt_or_ge k 15 with h | h
        · exact h
        · exact absurd (h15 (by omega)) hlt
      clear HE HWR h15
      generalize n / 2 ^ k * 2 ^ k = M at *
      generalize n / 2 ^ k = D at *
      have hd : decide (2 * (row : Int) ≤ (D : Int)) = true := decide_eq_true (by omega)
      go_wp2_with fail
      exact ⟨⟨k + 1, by omega, by go_num, HE2, ⟨by trivial⟩⟩, by simp [intOf]; omega⟩
    case pos =>
      have hSk : S = k := by rw [HE.out, ZD.out _ _ hlt]
      subst hSk
      have c0 : wr.cell? ⟨w.heap.size, 0, none⟩ = some (.int .u64 0) := by rw [Q1.out.cell]; rfl
      have c1 : wr.cell? ⟨w.heap.size, 1, none⟩ = some (.int .i64 0) := by rw [Q1.out.cell]; rfl
      have f0 := Q1.out.frozen 0
      have f1 := Q1.out.frozen 1
      have hRK : row * S ≤ 60 := Nat.le_trans (Nat.mul_le_mul hr hk) (by decide)
      have hrk : (row : Int) * (S : Int) = ((row * S : Nat) : Int) := by simp
      clear HE HWR h15 ZS ZD HW0
      generalize hM : n / 2 ^ S * 2 ^ S = M at *
      generalize hD : n / 2 ^ S = D at *
      generalize hK : row * S = RK at *
      have HM := Box'.mk hM
      have HD := Box'.mk hD
      have HK := Box'.mk hK
      clear hM hD hK
      have hd : decide (2 * (row : Int) ≤ (D : Int)) = false := decide_eq_false (by omega)
      have hw1 : RowKit.wrap64 ((RK : Int) + (D : Int)) = ((RK + D : Nat) : Int) := by unfold RowKit.wrap64; omega
      go_wp2_with fail
      refine bodyPost_ret (results_slot_row rfl _ _ rfl _ rfl _ _ ((Q1.out.setCell 0 _).setCell 1 _) _ Try.underlying73 rfl 2 Try.info73 rfl) rfl ⟨_, rfl, ?_, (BL.out.setCell (by simp) _).setCell (by simp) _⟩
      show Ending.returned (.tuple #[.int .i64 ((RK : Int) + (D : Int)), .agg #[.int .u64 ((n : Int) - (M : Int)), .int .i64 (S : Int)]]) = _
      rw [HK.out, HD.out, HM.out, Int.natCast_add, Int.ofNat_sub hMn]
def nthF (row n : Nat) : Nat × Nat × Nat := (row * szF row n 16 0 + n / 2 ^ szF row n 16 0, n - n / 2 ^ szF row n 16 0 * 2 ^ szF row n 16 0, szF row n 16 0)
theorem sz_le (row n : Nat) : ∀ f k, szF row n f k ≤ k + f
  | 0, k => Nat.le_refl k
  | f + 1, k => by
    rw [szF]
    split
    · omega
    · have := sz_le row n f (k + 1)
      omega
theorem nthF_any (row n : Nat) (hr1 : 1 ≤ row) (hr : row ≤ 4) (hn : n < 32768) (w : World) :
    Calls Try.prog 72 #[.int .i64 (n : Int), .int .i64 (row : Int)] w fun e w' => e = .returned (.tuple #[.int .i64 ((nthF row n).1 : Int), .agg #[.int .u64 ((nthF row n).2.1 : Int), .int .i64 ((nthF row n).2.2 : Int)]]) ∧ Below w.heap.size w w' :=
  (nth_any row n hr1 hr hn w).mono fun e w' ⟨s, h1, h2, h3⟩ => ⟨by subst h1; exact h2, h3⟩
theorem nthF_lt (row n : Nat) (hr : row ≤ 4) (hn : n < 32768) : (nthF row n).1 < 40000 ∧ (nthF row n).2.1 < 32768 ∧ (nthF row n).2.2 ≤ 16 := by
  unfold nthF
  have h1 := sz_le row n 16 0
  generalize szF row n 16 0 = s at *
  have h2 : row * s ≤ 4 * 16 := Nat.mul_le_mul hr (by omega)
  have h3 := Nat.div_le_self n (2 ^ s)
  refine ⟨?_, ?_, ?_⟩ <;> simp only <;> omega
set_option maxRecDepth 100000 in
set_option maxHeartbeats 1000000 in
theorem distanceSymbol_any (d : Nat) (h1 : 1 ≤ d) (h2 : d ≤ 32768) (w : World) :
    Calls Try.prog 57 #[.int .i64 (d : Int)] w fun e w' => e = .returned (.tuple #[.int .i64 ((nthF 2 (d - 1)).1 : Int), .agg #[.int .u64 ((nthF 2 (d - 1)).2.1 : Int), .int .i64 ((nthF 2 (d - 1)).2.2 : Int)]]) ∧ Below w.heap.size w w' := by
  obtain ⟨w0, hw0⟩ : ∃ w0, w0 = w.alloc (.cells #[.int .u64 0, .int .i64 0] 73) := ⟨_, rfl⟩
  have q1 : Row w0 w.heap.size 73 #[.int .u64 0, .int .i64 0] := by rw [hw0]; exact Row.new _ _ _
  have bl : Below w.heap.size w w0 := by rw [hw0]; exact (Below.refl _ _).alloc (Nat.le_refl _) _
  have hc := nthF_any 2 (d - 1) (by decide) (by decide) (by omega) w0
  have hlt := nthF_lt 2 (d - 1) (by decide) (by omega)
  rw [show ((d - 1 : Nat) : Int) = (d : Int) - 1 by omega] at hc
  have Q1 := Box'.mk q1
  have BL := Box'.mk bl
  generalize nthF 2 (d - 1) = X at *
  obtain ⟨x1, x2, x3⟩ := X
  simp only at hc hlt ⊢
  obtain ⟨hl1, hl2, hl3⟩ := hlt
  rw [hw0] at hc
  have HW0 := Box'.mk hw0
  clear q1 bl hw0
  go_enter Try.func57, Try.ntmps57
  go_wp2_with fail
  refine hc.mono ?_
  clear hc
  rintro e w1 ⟨rfl, b1⟩
  rw [← HW0.out] at b1
  have r1 := Q1.out.below b1 Q1.out.lt
  have c0 : w1.cell? ⟨w.heap.size, 0, none⟩ = some (.int .u64 0) := by rw [r1.cell]; rfl
  have c1 : w1.cell? ⟨w.heap.size, 1, none⟩ = some (.int .i64 0) := by rw [r1.cell]; rfl
  have f0 := r1.frozen 0
  have f1 := r1.frozen 1
  have R1 := Box'.mk r1
  have B1 := Box'.mk (BL.out.trans (b1.mono BL.out.size))
  clear r1 b1 Q1 BL HW0
  go_wp2_with fail
  exact bodyPost_ret (results_slot_row rfl _ _ rfl _ rfl _ _ ((R1.out.setCell 0 _).setCell 1 _) _ Try.underlying73 rfl 2 Try.info73 rfl) rfl ⟨rfl, (B1.out.setCell (Nat.le_refl _) _).setCell (Nat.le_refl _) _⟩
def lenS (l : Nat) : Nat × Nat × Nat := if l = 258 then (285, 0, 0) else (257 + (nthF 4 (l - 3)).1, (nthF 4 (l - 3)).2.1, (nthF 4 (l - 3)).2.2)
set_option maxRecDepth 100000 in
set_option maxHeartbeats 1000000 in
theorem lengthSymbol_any (l : Nat) (h1 : 3 ≤ l) (h2 : l ≤ 258) (w : World) :
    Calls Try.prog 56 #[.int .i64 (l : Int)] w fun e w' => e = .returned (.tuple #[.int .i64 ((lenS l).1 : Int), .agg #[.int .u64 ((lenS l).2.1 : Int), .int .i64 ((lenS l).2.2 : Int)]]) ∧ Below w.heap.size w w' := by
  obtain ⟨w0, hw0⟩ : ∃ w0, w0 = w.alloc (.cells #[.int .u64 0, .int .i64 0] 73) := ⟨_, rfl⟩
  have q1 : Row w0 w.heap.size 73 #[.int .u64 0, .int .i64 0] := by rw [hw0]; exact Row.new _ _ _
  have bl : Below w.heap.size w w0 := by rw [hw0]; exact (Below.refl _ _).alloc (Nat.le_refl _) _
  have Q1 := Box'.mk q1
  have BL := Box'.mk bl
  have HW0 := Box'.mk hw0
  by_cases h : l = 258
  · subst h
    rw [show lenS 258 = (285, 0, 0) from rfl]
    have c0 : w0.cell? ⟨w.heap.size, 0, none⟩ = some (.int .u64 0) := by rw [q1.cell]; rfl
    have c1 : w0.cell? ⟨w.heap.size, 1, none⟩ = some (.int .i64 0) := by rw [q1.cell]; rfl
    have f0 := q1.frozen 0
    have f1 := q1.frozen 1
    rw [hw0] at c0 c1 f0 f1
    clear q1 bl hw0
    go_enter Try.func56, Try.ntmps56
    go_wp2_with fail
    rw [← HW0.out]
    exact bodyPost_ret (results_slot_row rfl _ _ rfl _ rfl _ _ Q1.out _ Try.underlying73 rfl 2 Try.info73 rfl) rfl ⟨rfl, BL.out⟩
  · have hle : lenS l = (257 + (nthF 4 (l - 3)).1, (nthF 4 (l - 3)).2.1, (nthF 4 (l - 3)).2.2) := if_neg h
    rw [hle]
    have hc := nthF_any 4 (l - 3) (by decide) (by decide) (by omega) w0
    have hlt := nthF_lt 4 (l - 3) (by decide) (by omega)
    rw [show ((l - 3 : Nat) : Int) = (l : Int) - 3 by omega] at hc
    generalize nthF 4 (l - 3) = X at *
    obtain ⟨x1, x2, x3⟩ := X
    simp only at hc hlt ⊢
    obtain ⟨hl1, hl2, hl3⟩ := hlt
    rw [hw0] at hc
    have hne : ((l : Int) == 258) = false := by rw [beq_eq_false_iff_ne]; omega
    clear q1 bl hw0 hle
    go_enter Try.func56, Try.ntmps56
    go_wp2_with fail
    refine hc.mono ?_
    clear hc
    rintro e w1 ⟨rfl, b1⟩
    rw [← HW0.out] at b1
    have r1 := Q1.out.below b1 Q1.out.lt
    have hz1 : w.heap.size < w1.heap.size := r1.lt
    obtain ⟨w2, hw2⟩ : ∃ w2, w2 = w1.alloc (.cells #[.int .u64 (x2 : Int), .int .i64 (x3 : Int)] 73) := ⟨_, rfl⟩
    have r2 : Row w2 w.heap.size 73 #[.int .u64 0, .int .i64 0] := by rw [hw2]; exact r1.alloc _
    have s2 : Row w2 w1.heap.size 73 #[.int .u64 (x2 : Int), .int .i64 (x3 : Int)] := by rw [hw2]; exact Row.new _ _ _
    have B2 := Box'.mk ((BL.out.trans (b1.mono BL.out.size)).alloc (Nat.le_of_lt hz1) (.cells #[.int .u64 (x2 : Int), .int .i64 (x3 : Int)] 73))
    rw [← hw2] at B2
    have R2 := Box'.mk r2
    have HW2 := Box'.mk hw2
    have HZ := Box'.mk hz1
    have c0 : w2.cell? ⟨w1.heap.size, 0, none⟩ = some (.int .u64 (x2 : Int)) := by rw [s2.cell]; rfl
    have c1 : w2.cell? ⟨w1.heap.size, 1, none⟩ = some (.int .i64 (x3 : Int)) := by rw [s2.cell]; rfl
    have d0 : w2.cell? ⟨w.heap.size, 0, none⟩ = some (.int .u64 0) := by rw [r2.cell]; rfl
    have d1 : w2.cell? ⟨w.heap.size, 1, none⟩ = some (.int .i64 0) := by rw [r2.cell]; rfl
    have f0 := r2.frozen 0
    have f1 := r2.frozen 1
    clear r1 b1 Q1 BL HW0 r2 s2 hw2 hz1
    go_wp2_with fail
    rw [← HW2.out]
    go_region
    all_goals go_wp2_with fail
    all_goals exact bodyPost_ret (results_slot_row rfl _ _ rfl _ rfl _ _ ((R2.out.setCell 0 _).setCell 1 _).drew _ Try.underlying73 rfl 2 Try.info73 rfl) rfl ⟨by rw [Int.natCast_add]; rfl, ((B2.out.setCell (Nat.le_refl _) _).setCell (Nat.le_refl _) _).drew⟩
set_option linter.unusedVariables false
def allP (f : Nat → Bool) : Nat → Nat → Bool
  | 0, lo => f lo
  | k + 1, lo => allP f k lo && allP f k (lo + 2 ^ k)
theorem allP_get {f : Nat → Bool} : ∀ (k lo : Nat), allP f k lo = true → ∀ n, lo ≤ n → n < lo + 2 ^ k → f n = true := by
  intro k
  induction k with
  | zero => intro lo h n h1 h2; have : n = lo := by simp at h2; omega
            subst this; exact h
  | succ k ih =>
    intro lo h n h1 h2
    rw [allP, Bool.and_eq_true] at h
    by_cases h3 : n < lo + 2 ^ k
    · exact ih lo h.1 n h1 h3
    · exact ih _ h.2 n (by omega) (by rw [Nat.pow_succ] at h2; omega)
theorem sz_spec (n : Nat) : ∀ (f k : Nat), n < 2 ^ (k + f + 2) → k ≤ szF 2 n f k ∧ n / 2 ^ szF 2 n f k < 4 ∧ (szF 2 n f k = k ∨ 4 * 2 ^ (szF 2 n f k - 1) ≤ n) := by
  intro f
  induction f with
  | zero =>
    intro k h
    have hp : 0 < 2 ^ k := Nat.two_pow_pos k
    refine ⟨Nat.le_refl _, ?_, .inl rfl⟩
    show n / 2 ^ k < 4
    rw [Nat.div_lt_iff_lt_mul hp]
    rw [Nat.add_zero, Nat.pow_add] at h
    omega
  | succ f ih =>
    intro k h
    have hp : 0 < 2 ^ k := Nat.two_pow_pos k
    by_cases hc : n / 2 ^ k < 2 * 2
    · rw [sz_done 2 n (f + 1) k hc]
      exact ⟨Nat.le_refl _, hc, .inl rfl⟩
    · rw [sz_step 2 n f k hc]
      obtain ⟨h1, h2, h3⟩ := ih (k + 1) (by rw [show k + 1 + f + 2 = k + (f + 1) + 2 by omega]; exact h)
      refine ⟨by omega, h2, .inr ?_⟩
      rcases h3 with h3 | h3
      · rw [h3, Nat.add_sub_cancel]
        have := (Nat.le_div_iff_mul_le hp).1 (Nat.not_lt.1 hc)
        omega
      · exact h3
theorem nth2_lt {d : Nat} (h : d < 32768) : (nthF 2 d).1 < 30 ∧ (nthF 2 d).2.2 ≤ 13 := by
  obtain ⟨_, h2, h3⟩ := sz_spec d 16 0 (by show d < 262144; omega)
  unfold nthF
  show 2 * szF 2 d 16 0 + d / 2 ^ szF 2 d 16 0 < 30 ∧ szF 2 d 16 0 ≤ 13
  have hs : szF 2 d 16 0 ≤ 13 := by
    rcases h3 with h3 | h3
    · omega
    · rcases Nat.lt_or_ge 13 (szF 2 d 16 0) with hl | hl
      · have : 2 ^ 13 ≤ 2 ^ (szF 2 d 16 0 - 1) := Nat.pow_le_pow_right (by decide) (by omega)
        have e : (2 : Nat) ^ 13 = 8192 := rfl
        omega
      · exact hl
  omega
theorem lenS_all : allP (fun d => decide (3 ≤ d → d ≤ 258 → 257 ≤ (lenS d).1 ∧ (lenS d).1 ≤ 285 ∧ (lenS d).2.2 ≤ 5)) 9 0 = true := by decide +kernel
theorem lenS_lt {d : Nat} (h1 : 3 ≤ d) (h : d ≤ 258) : 257 ≤ (lenS d).1 ∧ (lenS d).1 ≤ 285 ∧ (lenS d).2.2 ≤ 5 := by
  have := allP_get 9 0 lenS_all d (by omega) (by omega)
  exact of_decide_eq_true this h1 h
def TokOk (t : Tok) : Prop := (t.2.1 = 0 ∧ t.2.2 = 0) ∨ (t.1 = 0 ∧ 3 ≤ t.2.1 ∧ t.2.1 ≤ 258 ∧ 1 ≤ t.2.2 ∧ t.2.2 ≤ 32768)
theorem matG_ok (l : List UInt8) : ∀ (f a : Nat) (t : Tok), t ∈ matG l f a → TokOk t := by
  intro f
  induction f with
  | zero => intro a t h; simp [matG] at h
  | succ f ih =>
    intro a t h
    rw [matG] at h
    split at h
    · split at h
      · rcases List.mem_cons.1 h with rfl | h
        · exact .inl ⟨rfl, rfl⟩
        · exact ih _ t h
      · rename_i hc
        rcases List.mem_cons.1 h with rfl | h
        · have h0 : (lngF l a).1 ≠ 0 := fun e => hc (.inl e)
          have hp : Piece l a (lngF l a).1 (lngF l a).2 := (lngF_no l a).resolve_left (fun e => h0 (by rw [e]))
          have := hp.len1; have := hp.len2; have := hp.dis1; have := hp.dis2
          exact .inr ⟨rfl, by show (3 : Int) ≤ ((lngF l a).1 : Int); omega, by show ((lngF l a).1 : Int) ≤ 258; omega, by show (1 : Int) ≤ ((lngF l a).2 : Int); omega, by show ((lngF l a).2 : Int) ≤ 32768; omega⟩
        · exact ih _ t h
    · cases h
theorem matG_len (l : List UInt8) : ∀ (f a : Nat), (matG l f a).length ≤ f := by
  intro f
  induction f with
  | zero => intro a; exact Nat.le_refl _
  | succ f ih =>
    intro a
    rw [matG]
    split
    · split
      · have := ih (a + 1); simp; omega
      · have := ih (a + (lngF l a).1); simp; omega
    · simp
def inc (l : List Int) (k : Nat) : List Int := l.set k (l.getD k 0 + 1)
theorem inc_len (l : List Int) (k : Nat) : (inc l k).length = l.length := by simp [inc]
def cnt1 (s : List Int × List Int) (t : Tok) : List Int × List Int := if t.2.1 = 0 then (inc s.1 t.1.toNat, s.2) else (inc s.1 (lenS t.2.1.toNat).1, inc s.2 (nthF 2 (t.2.2.toNat - 1)).1)
def cntS (T : List Tok) : List Int × List Int := T.foldl cnt1 (List.replicate 286 0, List.replicate 30 0)
def cntF (T : List Tok) : List Int × List Int := (inc (cntS T).1 256, (cntS T).2)
theorem cntS_snoc (T : List Tok) (t : Tok) : cntS (T ++ [t]) = cnt1 (cntS T) t := by unfold cntS; rw [List.foldl_append]; rfl
theorem cntS_len (T : List Tok) : (cntS T).1.length = 286 ∧ (cntS T).2.length = 30 := by
  have key : ∀ (T : List Tok) (s : List Int × List Int), (T.foldl cnt1 s).1.length = s.1.length ∧ (T.foldl cnt1 s).2.length = s.2.length := by
    intro T
    induction T with
    | nil => intro s; exact ⟨rfl, rfl⟩
    | cons t r ih =>
      intro s
      obtain ⟨h1, h2⟩ := ih (cnt1 s t)
      rw [List.foldl_cons, h1, h2]
      unfold cnt1
      split
      · exact ⟨inc_len _ _, rfl⟩
      · exact ⟨inc_len _ _, inc_len _ _⟩
  have h := key T (List.replicate 286 0, List.replicate 30 0)
  rw [List.length_replicate, List.length_replicate] at h
  exact h
theorem inc_bd {l : List Int} {n : Int} (h : ∀ k, 0 ≤ l.getD k 0 ∧ l.getD k 0 ≤ n) (j : Nat) : ∀ k, 0 ≤ (inc l j).getD k 0 ∧ (inc l j).getD k 0 ≤ n + 1 := by
  intro k
  have hk := h k
  have hj := h j
  unfold inc
  rw [List.getD_eq_getElem?_getD, List.getElem?_set]
  by_cases e : j = k
  · subst e
    by_cases hl : j < l.length
    · simp [hl]; simp [List.getD_eq_getElem?_getD, List.getElem?_eq_getElem hl] at hj ⊢; omega
    · simp [hl]; simp [List.getD_eq_getElem?_getD, List.getElem?_eq_none (show l.length ≤ j by omega)] at hj; omega
  · simp only [if_neg e]
    rw [← List.getD_eq_getElem?_getD]
    omega
theorem cntS_bd (T : List Tok) : (∀ k, 0 ≤ (cntS T).1.getD k 0 ∧ (cntS T).1.getD k 0 ≤ (T.length : Int)) ∧ (∀ k, 0 ≤ (cntS T).2.getD k 0 ∧ (cntS T).2.getD k 0 ≤ (T.length : Int)) := by
  have key : ∀ (T : List Tok) (s : List Int × List Int) (n : Int), (∀ k, 0 ≤ s.1.getD k 0 ∧ s.1.getD k 0 ≤ n) → (∀ k, 0 ≤ s.2.getD k 0 ∧ s.2.getD k 0 ≤ n) → (∀ k, 0 ≤ (T.foldl cnt1 s).1.getD k 0 ∧ (T.foldl cnt1 s).1.getD k 0 ≤ n + (T.length : Int)) ∧ (∀ k, 0 ≤ (T.foldl cnt1 s).2.getD k 0 ∧ (T.foldl cnt1 s).2.getD k 0 ≤ n + (T.length : Int)) := by
    intro T
    induction T with
    | nil => intro s n h1 h2; simpa using ⟨h1, h2⟩
    | cons t r ih =>
      intro s n h1 h2
      have e : n + ((t :: r).length : Int) = (n + 1) + (r.length : Int) := by simp; omega
      rw [List.foldl_cons, e]
      have h2' : ∀ k, 0 ≤ s.2.getD k 0 ∧ s.2.getD k 0 ≤ n + 1 := fun k => ⟨(h2 k).1, by have := (h2 k).2; omega⟩
      refine ih (cnt1 s t) (n + 1) ?_ ?_
      · unfold cnt1
        split
        · exact inc_bd h1 _
        · exact inc_bd h1 _
      · unfold cnt1
        split
        · exact h2'
        · exact inc_bd h2 _
  have z : ∀ (n k : Nat), 0 ≤ (List.replicate n (0 : Int)).getD k 0 ∧ (List.replicate n (0 : Int)).getD k 0 ≤ 0 := by
    intro n k
    rw [List.getD_eq_getElem?_getD, List.getElem?_replicate]
    split <;> simp
  have h := key T (List.replicate 286 0, List.replicate 30 0) 0 (z 286) (z 30)
  rw [Int.zero_add] at h
  exact h
end Go.Proofs.Ytcjfaahlchbcmaa
