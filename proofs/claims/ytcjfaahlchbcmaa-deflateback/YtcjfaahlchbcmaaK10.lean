/- How many lengths from a place of a row on are the same: the walk of run. -/
import Derived.Test.YtcjfaahlchbcmaaK09
import Derived.BigQuiet
import Derived.Laws.Small
import Derived.BigRegion
namespace Go.Proofs.Ytcjfaahlchbcmaa
open Go.RowKit Go.BigFrame
def endF (l : List Int) (v : Int) : Nat → Nat → Nat
  | 0, k => k
  | f + 1, k => if l.getD k 0 = v then endF l v f (k + 1) else k
theorem end_ge (l : List Int) (v : Int) (f k : Nat) : k ≤ endF l v f k ∧ endF l v f k ≤ k + f ∧ ∀ j, k ≤ j → j < endF l v f k → l.getD j 0 = v := by
  induction f generalizing k with
  | zero => exact ⟨Nat.le_refl _, Nat.le_refl _, fun j h1 h2 => by simp only [endF] at h2; omega⟩
  | succ f ih =>
    rw [endF]
    split
    · rename_i he
      obtain ⟨h1, h2, h3⟩ := ih (k + 1)
      refine ⟨by omega, by omega, fun j h4 h5 => ?_⟩
      rcases Nat.lt_or_ge k j with q | q
      · exact h3 j q h5
      · rw [show j = k by omega]; exact he
    · exact ⟨Nat.le_refl _, by omega, fun j h1 h2 => by omega⟩
theorem end_step {l : List Int} {v : Int} {f k : Nat} (h : l.getD k 0 = v) : endF l v (f + 1) k = endF l v f (k + 1) := by rw [endF, if_pos h]
theorem end_done {l : List Int} {v : Int} {f k : Nat} (h : ¬ l.getD k 0 = v) : endF l v f k = k := by
  cases f with
  | zero => rfl
  | succ f => rw [endF, if_neg h]
set_option maxRecDepth 100000 in
set_option maxHeartbeats 1000000 in
theorem run_any (w : World) (v : Value) (l : List Int) (a : Nat) (hl : l.length ≤ 1024) (ha : a < l.length) (h : Ints w.heap.size w v l) :
    Calls Try.prog 77 #[v, .int .i64 (a : Int)] w fun e w' => e = .returned (.int .i64 ((endF l (l.getD a 0) (l.length - a) a : Nat) - (a : Nat) : Int)) ∧ Below w.heap.size w w' := by
  obtain ⟨ad, c, rfl, hc, h3⟩ := h
  obtain ⟨b, o, rfl, hbN, hb⟩ : ∃ b o, ad = some ⟨b, o, none⟩ ∧ b < w.heap.size ∧ ∀ k, k < l.length → w.cell? ⟨b, o + k, none⟩ = some (.int .i64 (l.getD k 0)) := by
    rcases h3 with h3 | h3
    · subst h3; cases ha
    · exact h3
  have HB := Box'.mk hb
  obtain ⟨S, hS⟩ : ∃ S, S = endF l (l.getD a 0) (l.length - a) a := ⟨_, rfl⟩
  rw [← hS]
  have HS := Box'.mk hS
  have SA : Box' (a ≤ S ∧ S ≤ l.length) := ⟨by rw [hS]; have := end_ge l (l.getD a 0) (l.length - a) a; exact ⟨this.1, by omega⟩⟩
  have va : Box' (∃ x, x = l.getD a 0) := ⟨_, rfl⟩
  obtain ⟨x, hx⟩ := va.out
  rw [← hx] at HS
  have HX := Box'.mk hx
  generalize hn : l.length = n at *
  clear hb hS h3 hbN va hx hn
  go_enter Try.func77, Try.ntmps77
  go_wp2_with fail
  go_loopw [5] (fun i wr => ∃ k : Nat, a ≤ k ∧ k ≤ n ∧ i = .int .i64 (k : Int) ∧ Box' (S = endF l x (n - k) k) ∧ Box' (Below w.heap.size w wr ∧ ∀ d : Addr, wr.cell? d = w.cell? d))
    (fun i _ => n - (intOf i).toNat)
  case atStart => exact ⟨a, by omega, by omega, rfl, HS, ⟨Below.refl _ _, fun _ => rfl⟩⟩
  case round =>
    obtain ⟨k, hk3, hkm, rfl, HE, BB⟩ := hrel
    by_cases hlt : k < n
    · have d1 : decide ((k : Int) < (n : Int)) = true := decide_eq_true (by omega)
      have c1 : wr.cell? ⟨b, o + k, none⟩ = some (.int .i64 (l.getD k 0)) := by rw [BB.out.2]; exact HB.out _ (by omega)
      have c2 : wr.cell? ⟨b, o + a, none⟩ = some (.int .i64 x) := by rw [BB.out.2, HX.out]; exact HB.out _ (by omega)
      by_cases he : l.getD k 0 = x
      · have HE2 : Box' (S = endF l x (n - (k + 1)) (k + 1)) := ⟨by rw [HE.out, show n - k = (n - (k + 1)) + 1 by omega, end_step he]⟩
        rw [he] at c1
        clear HE he
        go_wp2_with fail
        go_quiet (fail)
        go_wp2_with fail
        exact ⟨⟨k + 1, by omega, by omega, by go_num, HE2, ⟨Below.drewN BB.out.1 nq, BB.out.2⟩⟩, by simp [intOf]; omega⟩
      · have HE2 : S = k := by rw [HE.out, end_done he]
        have hne : (l.getD k 0 == x) = false := by rw [beq_eq_false_iff_ne]; exact he
        subst HE2
        clear HE he
        generalize l.getD S 0 = y at *
        go_wp2_with fail
        go_quiet (fail)
        go_wp2_with fail
        go_ret
        exact ⟨rfl, Below.drewN BB.out.1 nq⟩
    · obtain rfl : k = n := by omega
      have HE2 : S = k := by rw [HE.out, Nat.sub_self]; rfl
      subst HE2
      clear HE
      go_wp2_with fail
      go_quiet (fail)
      go_wp2_with fail
      go_ret
      exact ⟨rfl, Below.drewN BB.out.1 nq⟩
def trmF (l : List Int) (few : Nat) : Nat → Nat
  | 0 => 0
  | k + 1 => if few < k + 1 ∧ l.getD k 0 = 0 then trmF l few k else k + 1
theorem trm_ge (l : List Int) (few k : Nat) (h : few ≤ k) : few ≤ trmF l few k ∧ trmF l few k ≤ k ∧ ∀ j, trmF l few k ≤ j → j < k → l.getD j 0 = 0 := by
  induction k with
  | zero => exact ⟨h, Nat.le_refl _, fun j h1 h2 => by omega⟩
  | succ k ih =>
    rw [trmF]
    split
    · rename_i hk
      obtain ⟨h1, h2, h3⟩ := ih (by omega)
      refine ⟨h1, by omega, fun j h4 h5 => ?_⟩
      rcases Nat.lt_or_ge j k with q | q
      · exact h3 j h4 q
      · rw [show j = k by omega]; exact hk.2
    · exact ⟨h, Nat.le_refl _, fun j h1 h2 => by omega⟩
theorem trm_step {l : List Int} {few k : Nat} (h1 : few < k + 1) (h : l.getD k 0 = 0) : trmF l few (k + 1) = trmF l few k := by rw [trmF, if_pos ⟨h1, h⟩]
theorem trm_done {l : List Int} {few k : Nat} (h : ¬ l.getD k 0 = 0) : trmF l few (k + 1) = k + 1 := by rw [trmF, if_neg (fun q => h q.2)]
theorem trm_few {l : List Int} {k : Nat} : trmF l k k = k := by
  cases k with
  | zero => rfl
  | succ k => rw [trmF, if_neg (fun q => Nat.lt_irrefl _ q.1)]
set_option maxRecDepth 100000 in
set_option maxHeartbeats 1000000 in
theorem trimmed_any (w : World) (b o n c : Nat) (l : List Int) (few : Nat) (hn : l.length = n) (hc : n ≤ c) (hcm : c ≤ 9223372036854775807) (hf1 : 1 ≤ few) (hf : few ≤ n)
    (hb : ∀ k, k < n → w.cell? ⟨b, o + k, none⟩ = some (.int .i64 (l.getD k 0))) :
    Calls Try.prog 37 #[.slice (some ⟨b, o, none⟩) n c, .int .i64 (few : Int)] w fun e w' => e = .returned (.slice (some ⟨b, o, none⟩) (trmF l few l.length) c) ∧ Below w.heap.size w w' := by
  rw [hn]
  have HB := Box'.mk hb
  obtain ⟨S, hS⟩ : ∃ S, S = trmF l few n := ⟨_, rfl⟩
  rw [← hS]
  have HS := Box'.mk hS
  clear hb hS hn
  go_enter Try.func37, Try.ntmps37
  go_wp2_with fail
  go_loopw [5] (fun i wr => ∃ k : Nat, few ≤ k ∧ k ≤ n ∧ i = .int .i64 (k : Int) ∧ Box' (S = trmF l few k) ∧ Box' (Below w.heap.size w wr ∧ ∀ d : Addr, wr.cell? d = w.cell? d))
    (fun i _ => (intOf i).toNat)
  case atStart => exact ⟨n, by omega, by omega, rfl, HS, ⟨Below.refl _ _, fun _ => rfl⟩⟩
  case round =>
    obtain ⟨k, hk3, hkm, rfl, HE, BB⟩ := hrel
    by_cases hlt : few < k
    · obtain ⟨q, rfl⟩ : ∃ q, k = q + 1 := ⟨k - 1, by omega⟩
      have c1 : wr.cell? ⟨b, o + q, none⟩ = some (.int .i64 (l.getD q 0)) := by rw [BB.out.2]; exact HB.out _ (by omega)
      by_cases he : l.getD q 0 = 0
      · have HE2 : Box' (S = trmF l few q) := ⟨by rw [HE.out, trm_step hlt he]⟩
        rw [he] at c1
        clear HE he
        go_wp2_with fail
        exact ⟨⟨q, by omega, by omega, by go_num, HE2, BB⟩, by simp [intOf]⟩
      · have HE2 : S = q + 1 := by rw [HE.out, trm_done he]
        have hne : (l.getD q 0 == 0) = false := by rw [beq_eq_false_iff_ne]; exact he
        subst HE2
        clear HE he
        generalize l.getD q 0 = y at *
        go_wp2_with fail
        go_ret
        exact ⟨rfl, BB.out.1⟩
    · obtain rfl : k = few := by omega
      have HE2 : S = k := by rw [HE.out, trm_few]
      subst HE2
      clear HE
      go_wp2_with fail
      go_ret
      exact ⟨rfl, BB.out.1⟩
set_option maxRecDepth 100000 in
set_option maxHeartbeats 1000000 in
theorem nextWord_18 (w : World) (b o n c a s : Nat) (ha : a < n) (hsn : a + s ≤ n) (hbN : b < w.heap.size)
    (hrun : ∀ w1, Below w.heap.size w w1 → Calls Try.prog 77 #[.slice (some ⟨b, o, none⟩) n c, .int .i64 (a : Int)] w1 fun e w' => e = .returned (.int .i64 (s : Int)) ∧ Below w1.heap.size w1 w')
    (hb0 : w.cell? ⟨b, o + a, none⟩ = some (.int .i64 0)) (h11 : 11 ≤ s) :
    Calls Try.prog 63 #[.slice (some ⟨b, o, none⟩) n c, .int .i64 (a : Int)] w fun e w' => e = .returned (.tuple #[.agg #[.int .i64 18, .int .u64 ((min s 138 - 11 : Nat) : Int), .int .i64 7], .int .i64 ((min s 138 : Nat) : Int)]) ∧ Below w.heap.size w w' := by
  have bl : Below w.heap.size w (w.alloc (.cells #[.int .i64 0, .int .u64 0, .int .i64 0] 110)) := (Below.refl _ _).alloc (Nat.le_refl _) _
  have hr := hrun _ bl
  have R0 := Box'.mk (Row.new w 110 #[.int .i64 0, .int .u64 0, .int .i64 0])
  have BL := Box'.mk bl
  clear hrun bl
  generalize hM : min s 138 = M at *
  have hm1 : 11 ≤ M := by omega
  have hm2 : M ≤ 138 := by omega
  have d11 : decide ((11 : Int) ≤ (s : Int)) = true := decide_eq_true (by omega)
  go_enter Try.func63, Try.ntmps63
  go_wp2_with fail
  refine hr.mono ?_
  rintro e w1 ⟨rfl, b1⟩
  have q1 := R0.out.below b1 R0.out.lt
  have B1 := Box'.mk (BL.out.trans (b1.mono BL.out.size))
  have c0 : w1.cell? ⟨b, o + a, none⟩ = some (.int .i64 0) := by rw [← hb0]; exact B1.out.cell (p := ⟨b, o + a, none⟩) hbN
  have k0 : w1.cell? ⟨w.heap.size, 0, none⟩ = some (.int .i64 0) := by rw [q1.cell]; rfl
  have k1 : w1.cell? ⟨w.heap.size, 1, none⟩ = some (.int .u64 0) := by rw [q1.cell]; rfl
  have k2 : w1.cell? ⟨w.heap.size, 2, none⟩ = some (.int .i64 0) := by rw [q1.cell]; rfl
  have f0 := q1.frozen 0
  have f1 := q1.frozen 1
  have f2 := q1.frozen 2
  have Q1 := Box'.mk q1
  clear hr b1 q1 R0 BL hb0 hbN
  go_wp2_with fail
  all_goals (refine bodyPost_ret (results_row_slot rfl _ _ rfl _ rfl _ _ (((Q1.out.setCell 0 _).setCell 1 _).setCell 2 _) _ Try.underlying110 rfl 3 rfl rfl) rfl ⟨?_, ((B1.out.setCell (by simp) _).setCell (by simp) _).setCell (by simp) _⟩)
  all_goals first | (obtain rfl : M = s := by omega
                     rw [Int.ofNat_sub (by omega)]; rfl) | (obtain rfl : M = 138 := by omega
                                                            rfl)
set_option maxRecDepth 100000 in
set_option maxHeartbeats 1000000 in
theorem nextWord_17 (w : World) (b o n c a s : Nat) (ha : a < n) (hbN : b < w.heap.size)
    (hrun : ∀ w1, Below w.heap.size w w1 → Calls Try.prog 77 #[.slice (some ⟨b, o, none⟩) n c, .int .i64 (a : Int)] w1 fun e w' => e = .returned (.int .i64 (s : Int)) ∧ Below w1.heap.size w1 w')
    (hb0 : w.cell? ⟨b, o + a, none⟩ = some (.int .i64 0)) (h3 : 3 ≤ s) (h11 : s < 11) :
    Calls Try.prog 63 #[.slice (some ⟨b, o, none⟩) n c, .int .i64 (a : Int)] w fun e w' => e = .returned (.tuple #[.agg #[.int .i64 17, .int .u64 ((s - 3 : Nat) : Int), .int .i64 3], .int .i64 (s : Int)]) ∧ Below w.heap.size w w' := by
  have bl : Below w.heap.size w (w.alloc (.cells #[.int .i64 0, .int .u64 0, .int .i64 0] 110)) := (Below.refl _ _).alloc (Nat.le_refl _) _
  have hr := hrun _ bl
  have R0 := Box'.mk (Row.new w 110 #[.int .i64 0, .int .u64 0, .int .i64 0])
  have BL := Box'.mk bl
  clear hrun bl
  have d11 : decide ((11 : Int) ≤ (s : Int)) = false := decide_eq_false (by omega)
  have d3 : decide ((3 : Int) ≤ (s : Int)) = true := decide_eq_true (by omega)
  go_enter Try.func63, Try.ntmps63
  go_wp2_with fail
  refine hr.mono ?_
  rintro e w1 ⟨rfl, b1⟩
  have q1 := R0.out.below b1 R0.out.lt
  have B1 := Box'.mk (BL.out.trans (b1.mono BL.out.size))
  have c0 : w1.cell? ⟨b, o + a, none⟩ = some (.int .i64 0) := by rw [← hb0]; exact B1.out.cell (p := ⟨b, o + a, none⟩) hbN
  have k0 : w1.cell? ⟨w.heap.size, 0, none⟩ = some (.int .i64 0) := by rw [q1.cell]; rfl
  have k1 : w1.cell? ⟨w.heap.size, 1, none⟩ = some (.int .u64 0) := by rw [q1.cell]; rfl
  have k2 : w1.cell? ⟨w.heap.size, 2, none⟩ = some (.int .i64 0) := by rw [q1.cell]; rfl
  have f0 := q1.frozen 0
  have f1 := q1.frozen 1
  have f2 := q1.frozen 2
  have Q1 := Box'.mk q1
  clear hr b1 q1 R0 BL hb0 hbN
  go_wp2_with fail
  all_goals (refine bodyPost_ret (results_row_slot rfl _ _ rfl _ rfl _ _ (((Q1.out.setCell 0 _).setCell 1 _).setCell 2 _) _ Try.underlying110 rfl 3 rfl rfl) rfl ⟨?_, ((B1.out.setCell (by simp) _).setCell (by simp) _).setCell (by simp) _⟩)
  all_goals (rw [Int.ofNat_sub (by omega)]; rfl)
end Go.Proofs.Ytcjfaahlchbcmaa
