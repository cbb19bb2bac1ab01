/- The tables of lengths and distances, the program's and the reference's. -/
import Derived.Test.YtbnghmeeddjaoaaZb
namespace Go.Proofs.Ytbnghmeeddjaoaa
open Go.RowKit Go.BigFrame

/-- Base and extra bits, step by step: row symbols have one number of extra bits; base begins at b. -/
def Gf.stp (b row : Nat) : Nat → Nat × Nat
  | 0 => (b, 0)
  | k + 1 => ((Gf.stp b row k).1 + 2 ^ (Gf.stp b row k).2, if 2 * row ≤ k + 1 ∧ (k + 1) % row = 0 then (Gf.stp b row k).2 + 1 else (Gf.stp b row k).2)
def Gf.lenT (z : Int) : Int × Int × Int := if z < 257 ∨ 285 < z then (0, 0, 2) else if z = 285 then (258, 0, 0) else (((Gf.stp 3 4 (z - 257).toNat).1 : Int), ((Gf.stp 3 4 (z - 257).toNat).2 : Int), 0)
def Gf.disT (z : Int) : Int × Int × Int := if z < 0 ∨ 29 < z then (0, 0, 2) else (((Gf.stp 1 2 z.toNat).1 : Int), ((Gf.stp 1 2 z.toNat).2 : Int), 0)
def tv (R : Int × Int × Int) : Value := .tuple #[.int .i64 R.1, .int .i64 R.2.1, .int .i64 R.2.2]

theorem stp_small : ∀ row : Nat, row < 5 → row = 4 ∨ row = 2 → ∀ n : Nat, n < 30 → n < row → Gf.stp 0 row n = (n, 0) := by decide +kernel
theorem stp_great : ∀ row : Nat, row < 5 → row = 4 ∨ row = 2 → ∀ n : Nat, n < 30 → ¬ n < row → wrap64 (((row : Int) + (n : Int) % (row : Int)) * 2 ^ (n / row - 1)) = ((Gf.stp 0 row n).1 : Int) ∧ (n : Int) / (row : Int) - 1 = ((Gf.stp 0 row n).2 : Int) := by decide +kernel
set_option maxHeartbeats 1000000 in
theorem step_any (n row : Nat) (hr : row = 4 ∨ row = 2) (hn : n < 30) (w : World) :
    Calls Try.prog 25 #[.int .i64 (n : Int), .int .i64 (row : Int)] w fun e w' => e = .returned (.tuple #[.int .i64 ((Gf.stp 0 row n).1 : Int), .int .i64 ((Gf.stp 0 row n).2 : Int)]) ∧ w' = w := by
  have hr4 : row < 5 := by omega
  have hr0 : ¬ (row : Int) = 0 := by omega
  have hr1 : 0 < row := by omega
  by_cases h : n < row
  · have E := Box'.mk (stp_small row hr4 hr n hn h)
    clear hr
    go_enter Try.func25, Try.ntmps25
    go_wp2_with fail
    go_ret2
    exact ⟨by rw [E.out]; rfl, rfl⟩
  · have h1 : 1 ≤ n / row := (Nat.le_div_iff_mul_le hr1).2 (by omega)
    have h2 : n / row < 30 := Nat.lt_of_le_of_lt (Nat.div_le_self _ _) hn
    have h3 : n % row < row := Nat.mod_lt _ hr1
    have E := Box'.mk (stp_great row hr4 hr n hn h)
    clear hr
    go_enter Try.func25, Try.ntmps25
    go_wp2_with fail
    go_ret2
    exact ⟨by rw [← E.out.1, ← E.out.2]; rfl, rfl⟩
theorem stp_up : ∀ n, n < 30 → (3 + (Gf.stp 0 4 n).1 = (Gf.stp 3 4 n).1 ∧ (Gf.stp 0 4 n).2 = (Gf.stp 3 4 n).2 ∧ (Gf.stp 0 4 n).1 < 100000) ∧ (1 + (Gf.stp 0 2 n).1 = (Gf.stp 1 2 n).1 ∧ (Gf.stp 0 2 n).2 = (Gf.stp 1 2 n).2 ∧ (Gf.stp 0 2 n).1 < 100000) := by decide +kernel
theorem lenT_in (n : Nat) (h : n < 28) : Gf.lenT (n + 257 : Int) = (((Gf.stp 3 4 n).1 : Int), ((Gf.stp 3 4 n).2 : Int), 0) := by
  unfold Gf.lenT
  rw [if_neg (by omega), if_neg (by omega), show ((n : Int) + 257 - 257).toNat = n by omega]
theorem disT_in (n : Nat) (h : n < 30) : Gf.disT (n : Int) = (((Gf.stp 1 2 n).1 : Int), ((Gf.stp 1 2 n).2 : Int), 0) := by
  unfold Gf.disT
  rw [if_neg (by omega), Int.toNat_natCast]
set_option maxHeartbeats 1000000 in
theorem length_any (z : Int) (w : World) : Calls Try.prog 10 #[.int .i64 z] w fun e w' => e = .returned (tv (Gf.lenT z)) ∧ w' = w := by
  by_cases h1 : z < 257
  · rw [show Gf.lenT z = (0, 0, 2) from if_pos (.inl h1)]
    go_enter Try.func10, Try.ntmps10
    go_wp2_with fail
    go_ret3
    exact ⟨rfl, rfl⟩
  by_cases h2 : 285 < z
  · rw [show Gf.lenT z = (0, 0, 2) from if_pos (.inr h2)]
    go_enter Try.func10, Try.ntmps10
    go_wp2_with fail
    go_ret3
    exact ⟨rfl, rfl⟩
  by_cases h3 : z = 285
  · subst h3
    rw [show Gf.lenT 285 = (258, 0, 0) from rfl]
    clear h1 h2
    go_enter Try.func10, Try.ntmps10
    go_wp2_with fail
    go_ret3
    exact ⟨rfl, rfl⟩
  · obtain ⟨n, rfl⟩ : ∃ n : Nat, z = (n : Int) + 257 := ⟨(z - 257).toNat, by omega⟩
    have hn : n < 28 := by omega
    rw [lenT_in n hn]
    have hs := fun w => step_any n 4 (.inl rfl) (by omega) w
    obtain ⟨⟨e1, e2, e3⟩, -⟩ := stp_up n (by omega)
    have h4 : ((n : Int) + 257 == 285) = false := by rw [beq_eq_false_iff_ne]; exact h3
    generalize Gf.stp 0 4 n = p at *
    have E1 := Box'.mk e1
    have E2 := Box'.mk e2
    clear e1 e2 h3
    go_enter Try.func10, Try.ntmps10
    go_wp2_with (go_at_call 25; refine (hs _).mono ?_; rintro e w' ⟨rfl, hw'⟩; rw [hw'])
    go_ret3
    exact ⟨by rw [← E1.out, ← E2.out, Int.natCast_add]; rfl, rfl⟩
set_option maxHeartbeats 1000000 in
theorem distance_any (z : Int) (w : World) : Calls Try.prog 12 #[.int .i64 z] w fun e w' => e = .returned (tv (Gf.disT z)) ∧ w' = w := by
  by_cases h1 : z < 0
  · rw [show Gf.disT z = (0, 0, 2) from if_pos (.inl h1)]
    go_enter Try.func12, Try.ntmps12
    go_wp2_with fail
    go_ret3
    exact ⟨rfl, rfl⟩
  by_cases h2 : 29 < z
  · rw [show Gf.disT z = (0, 0, 2) from if_pos (.inr h2)]
    go_enter Try.func12, Try.ntmps12
    go_wp2_with fail
    go_ret3
    exact ⟨rfl, rfl⟩
  · obtain ⟨n, rfl⟩ : ∃ n : Nat, z = (n : Int) := ⟨z.toNat, by omega⟩
    have hn : n < 30 := by omega
    rw [disT_in n hn]
    have hs := fun w => step_any n 2 (.inr rfl) (by omega) w
    obtain ⟨-, e1, e2, e3⟩ := stp_up n (by omega)
    generalize Gf.stp 0 2 n = p at *
    have E1 := Box'.mk e1
    have E2 := Box'.mk e2
    clear e1 e2
    go_enter Try.func12, Try.ntmps12
    go_wp2_with (go_at_call 25; refine (hs _).mono ?_; rintro e w' ⟨rfl, hw'⟩; rw [hw'])
    go_ret3
    exact ⟨by rw [← E1.out, ← E2.out, Int.natCast_add]; rfl, rfl⟩
theorem stp_bound : ∀ n, n < 31 → ((Gf.stp 3 4 n).1 < 100000 ∧ (Gf.stp 3 4 n).2 < 16) ∧ ((Gf.stp 1 2 n).1 < 100000 ∧ (Gf.stp 1 2 n).2 < 16) := by decide +kernel
theorem pow_wrap' : ∀ m : Nat, m < 16 → wrap64 (2 ^ m) = ((2 ^ m : Nat) : Int) := by decide +kernel
theorem stp_succ (b row k : Nat) : Gf.stp b row (k + 1) = ((Gf.stp b row k).1 + 2 ^ (Gf.stp b row k).2, if 2 * row ≤ k + 1 ∧ (k + 1) % row = 0 then (Gf.stp b row k).2 + 1 else (Gf.stp b row k).2) := rfl
set_option maxRecDepth 100000 in
set_option maxHeartbeats 1000000 in
theorem refLength_any (z : Int) (w : World) : Calls Try.prog 11 #[.int .i64 z] w fun e w' => e = .returned (tv (Gf.lenT z)) ∧ w' = w := by
  by_cases h1 : z < 257
  · rw [show Gf.lenT z = (0, 0, 2) from if_pos (.inl h1)]
    go_enter Try.func11, Try.ntmps11
    go_wp2_with fail
    go_ret3
    exact ⟨rfl, rfl⟩
  by_cases h2 : 285 < z
  · rw [show Gf.lenT z = (0, 0, 2) from if_pos (.inr h2)]
    go_enter Try.func11, Try.ntmps11
    go_wp2_with fail
    go_ret3
    exact ⟨rfl, rfl⟩
  by_cases h3 : z = 285
  · subst h3
    rw [show Gf.lenT 285 = (258, 0, 0) from rfl]
    clear h1 h2
    go_enter Try.func11, Try.ntmps11
    go_wp2_with fail
    go_ret3
    exact ⟨rfl, rfl⟩
  · obtain ⟨n, rfl⟩ : ∃ n : Nat, z = (n : Int) + 257 := ⟨(z - 257).toNat, by omega⟩
    have hn : n < 28 := by omega
    rw [lenT_in n hn]
    have h4 : ((n : Int) + 257 == 285) = false := by rw [beq_eq_false_iff_ne]; exact h3
    have hd1 : decide ((n : Int) + 257 < 257) = false := decide_eq_false h1
    have hd2 : decide (285 < (n : Int) + 257) = false := decide_eq_false h2
    have BD := Box'.mk stp_bound
    have SU := Box'.mk (stp_succ 3 4)
    have PW := Box'.mk pow_wrap'
    clear h3
    go_enter Try.func11, Try.ntmps11
    go_wp2_with fail
    go_loop [5, 6, 7] (fun t u i => ∃ k : Nat, k ≤ n ∧ t = .int .i64 ((Gf.stp 3 4 k).1 : Int) ∧ u = .int .i64 ((Gf.stp 3 4 k).2 : Int) ∧ i = .int .i64 ((k : Int) + 257)) (fun _ _ i => n + 257 - (intOf i).toNat)
    case atStart => exact ⟨0, by omega, rfl, rfl, rfl⟩
    case round =>
      obtain ⟨k, hk, rfl, rfl, rfl⟩ := hrel
      by_cases hlt : k < n
      · obtain ⟨⟨b1, b2⟩, -⟩ := BD.out k (by omega)
        have su := SU.out k
        have PE := Box'.mk (PW.out _ b2)
        have hp : (2 : Nat) ^ (Gf.stp 3 4 k).2 ≤ 32768 := Nat.le_trans (Nat.pow_le_pow_right (by decide) (show (Gf.stp 3 4 k).2 ≤ 15 by omega)) (by decide)
        generalize Gf.stp 3 4 k = p at *
        obtain ⟨x, y⟩ := p
        simp only at b1 b2 su PE hp ⊢
        have e1 : (wrap64 (2 ^ y) : Int) ≤ 32768 := by rw [PE.out]; omega
        have e2 : 0 ≤ (wrap64 (2 ^ y) : Int) := by rw [PE.out]; exact Int.natCast_nonneg _
        have S := Box'.mk su
        have hkb : k < 28 := by omega
        clear su hp h4 hd1 hd2 h1 h2
        clear BD SU PW
        go_wp2_with fail
        · rename_i q1 q2
          have q3 := eq_of_beq q2
          exact ⟨⟨k + 1, by omega, by rw [S.out, PE.out, Int.natCast_add], by rw [S.out, if_pos (by omega)]; go_num, by go_num⟩, by simp [intOf]; omega⟩
        · rename_i q1 q2
          have q3 := ne_of_beq_false q2
          exact ⟨⟨k + 1, by omega, by rw [S.out, PE.out, Int.natCast_add], by rw [S.out, if_neg (by omega)], by go_num⟩, by simp [intOf]; omega⟩
        · exact ⟨⟨k + 1, by omega, by rw [S.out, PE.out, Int.natCast_add], by rw [S.out, if_neg (by omega)], by go_num⟩, by simp [intOf]; omega⟩
      · obtain rfl : k = n := by omega
        clear BD SU PW
        go_wp2_with fail
        go_ret3
        exact ⟨rfl, rfl⟩
set_option maxRecDepth 100000 in
set_option maxHeartbeats 1000000 in
theorem refDistance_any (z : Int) (w : World) : Calls Try.prog 13 #[.int .i64 z] w fun e w' => e = .returned (tv (Gf.disT z)) ∧ w' = w := by
  by_cases h1 : z < 0
  · rw [show Gf.disT z = (0, 0, 2) from if_pos (.inl h1)]
    go_enter Try.func13, Try.ntmps13
    go_wp2_with fail
    go_ret3
    exact ⟨rfl, rfl⟩
  by_cases h2 : 29 < z
  · rw [show Gf.disT z = (0, 0, 2) from if_pos (.inr h2)]
    go_enter Try.func13, Try.ntmps13
    go_wp2_with fail
    go_ret3
    exact ⟨rfl, rfl⟩
  · obtain ⟨n, rfl⟩ : ∃ n : Nat, z = (n : Int) := ⟨z.toNat, by omega⟩
    have hn : n < 30 := by omega
    rw [disT_in n hn]
    have hd1 : decide ((n : Int) < 0) = false := decide_eq_false h1
    have hd2 : decide (29 < (n : Int)) = false := decide_eq_false h2
    have BD := Box'.mk stp_bound
    have SU := Box'.mk (stp_succ 1 2)
    have PW := Box'.mk pow_wrap'
    go_enter Try.func13, Try.ntmps13
    go_wp2_with fail
    go_loop [5, 6, 7] (fun t u i => ∃ k : Nat, k ≤ n ∧ t = .int .i64 ((Gf.stp 1 2 k).1 : Int) ∧ u = .int .i64 ((Gf.stp 1 2 k).2 : Int) ∧ i = .int .i64 (k : Int)) (fun _ _ i => n - (intOf i).toNat)
    case atStart => exact ⟨0, by omega, rfl, rfl, rfl⟩
    case round =>
      obtain ⟨k, hk, rfl, rfl, rfl⟩ := hrel
      by_cases hlt : k < n
      · obtain ⟨-, b1, b2⟩ := BD.out k (by omega)
        have su := SU.out k
        have PE := Box'.mk (PW.out _ b2)
        have hp : (2 : Nat) ^ (Gf.stp 1 2 k).2 ≤ 32768 := Nat.le_trans (Nat.pow_le_pow_right (by decide) (show (Gf.stp 1 2 k).2 ≤ 15 by omega)) (by decide)
        generalize Gf.stp 1 2 k = p at *
        obtain ⟨x, y⟩ := p
        simp only at b1 b2 su PE hp ⊢
        have e1 : (wrap64 (2 ^ y) : Int) ≤ 32768 := by rw [PE.out]; omega
        have e2 : 0 ≤ (wrap64 (2 ^ y) : Int) := by rw [PE.out]; exact Int.natCast_nonneg _
        have S := Box'.mk su
        have hkb : k < 30 := by omega
        clear su hp hd1 hd2 h1 h2
        clear BD SU PW
        go_wp2_with fail
        · rename_i q1 q2
          have q3 := eq_of_beq q2
          exact ⟨⟨k + 1, by omega, by rw [S.out, PE.out, Int.natCast_add], by rw [S.out, if_pos (by omega)]; go_num, by go_num⟩, by simp [intOf]; omega⟩
        · rename_i q1 q2
          have q3 := ne_of_beq_false q2
          exact ⟨⟨k + 1, by omega, by rw [S.out, PE.out, Int.natCast_add], by rw [S.out, if_neg (by omega)], by go_num⟩, by simp [intOf]; omega⟩
        · exact ⟨⟨k + 1, by omega, by rw [S.out, PE.out, Int.natCast_add], by rw [S.out, if_neg (by omega)], by go_num⟩, by simp [intOf]; omega⟩
      · obtain rfl : k = n := by omega
        clear BD SU PW
        go_wp2_with fail
        go_ret3
        exact ⟨rfl, rfl⟩
end Go.Proofs.Ytbnghmeeddjaoaa
