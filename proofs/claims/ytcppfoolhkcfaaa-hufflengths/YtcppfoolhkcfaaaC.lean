/- The walks of Reverse, the program's and the reference's. -/
import Derived.Test.YtcppfoolhkcfaaaA
namespace Go.Proofs.Ytcppfoolhkcfaaa
open Go.RowKit Go.BigFrame

theorem Try.info51 : (Try.prog.info? 51).map (·.size) = some 2 := by kernel_rfl
def bts2 (v : Nat) (s : Int) : Array Value := #[.int .u64 (v : Int), .int .i64 s]
def revE (x : Nat × Int) : Int := if Gf.may x = true then 0 else 2
def revV (x : Nat × Int) : Nat × Int := if Gf.may x = true then (Gf.rev x.1 x.2.toNat, x.2) else (0, 0)
theorem and1_u64 (n : Nat) (h : n < 18446744073709551616) : bits .and .u64 (n : Int) 1 = ((n % 2 : Nat) : Int) := by
  have := u64_and_nat n 1 h (by decide)
  rw [Nat.and_one_is_mod] at this; exact this
theorem rev_step (v k : Nat) (hv : v < 18446744073709551616) (hk : k < 64) : bits .or .u64 (IntKind.u64.wrap (((Gf.rev v k : Nat) : Int) * 2)) (bits .and .u64 ((v : Int) / 2 ^ k) 1) = ((Gf.rev v (k + 1) : Nat) : Int) := by
  have hr := Gf.rev_lt v k
  have hp : 2 ^ k ≤ 2 ^ 63 := Nat.pow_le_pow_right (by decide) (by omega)
  have e1 : ((Gf.rev v k : Nat) : Int) * 2 = ((Gf.rev v k * 2 : Nat) : Int) := by simp
  have e2 : (v : Int) / 2 ^ k = ((v / 2 ^ k : Nat) : Int) := by simp
  have hd : v / 2 ^ k < 18446744073709551616 := Nat.lt_of_le_of_lt (Nat.div_le_self _ _) hv
  rw [e1, e2, wrap_nat, and1_u64 _ hd, Nat.mod_eq_of_lt (by omega), u64_or_nat _ _ (by omega) (by omega)]
  have h3 := Nat.shiftLeft_add_eq_or_of_lt (i := 1) (show v / 2 ^ k % 2 < 2 ^ 1 by omega) (Gf.rev v k)
  rw [Nat.shiftLeft_eq] at h3
  rw [Gf.rev, Nat.mul_comm 2]
  have h4 : Gf.rev v k * 2 = Gf.rev v k * 2 ^ 1 := rfl
  rw [h4, ← h3]

set_option maxHeartbeats 1000000 in
theorem reverse_any (v : Nat) (hv : v < 18446744073709551616) (s : Int) (w : World) :
    Calls Try.prog 24 #[.agg (bts2 v s)] w fun e w' => e = .returned (.tuple #[.agg (bts2 (revV (v, s)).1 (revV (v, s)).2), .int .i64 (revE (v, s))]) ∧ Below w.heap.size w w' := by
  have hm := fun w => mayBe_any v s w
  unfold bts2
  by_cases h : Gf.may (v, s) = true
  · rw [show revV (v, s) = (Gf.rev v s.toNat, s) from if_pos h, show revE (v, s) = 0 from if_pos h]
    rw [h] at hm
    have hs : 0 ≤ s ∧ s ≤ 64 := by unfold Gf.may at h; have := of_decide_eq_true h; exact ⟨this.1, this.2.1⟩
    obtain ⟨n, rfl⟩ : ∃ n : Nat, s = (n : Int) := ⟨s.toNat, by omega⟩
    rw [Int.toNat_natCast]
    have hn : n ≤ 64 := by omega
    clear h hs
    go_enter Try.func24, Try.ntmps24
    go_wp2_with fail
    refine (hm _).mono ?_
    rintro e w1 ⟨rfl, hb⟩
    have r1 : Row w1 w.heap.size 51 #[.int .u64 (v : Int), .int .i64 (n : Int)] := ((Row.new _ _ _).alloc _).below hb (by simp; omega)
    have q1 : Row w1 (w.heap.size + 1) 51 #[.int .u64 0, .int .i64 0] := (Row.made _ _ _ _ _ rfl (by simp)).below hb (by simp)
    have d0 : w1.cell? ⟨w.heap.size + 1, 0, none⟩ = some (.int .u64 0) := by rw [q1.cell]; rfl
    have d1 : w1.cell? ⟨w.heap.size + 1, 1, none⟩ = some (.int .i64 0) := by rw [q1.cell]; rfl
    have f0 := q1.frozen 0
    have f1 := q1.frozen 1
    have bl : Below w.heap.size w w1 := (((Below.refl _ _).alloc (Nat.le_refl _) _).alloc (by simp) _).trans (hb.mono (by simp; omega))
    have c0 : w1.cell? ⟨w.heap.size, 0, none⟩ = some (.int .u64 (v : Int)) := by rw [r1.cell]; rfl
    have c1 : w1.cell? ⟨w.heap.size, 1, none⟩ = some (.int .i64 (n : Int)) := by rw [r1.cell]; rfl
    clear hb hm r1
    go_wp2_with fail
    go_loop [4, 12] (fun t i => ∃ k : Nat, k ≤ n ∧ i = .int .i64 k ∧ t = .int .u64 ((Gf.rev v k : Nat) : Int)) (fun _ i => n - (intOf i).toNat)
    case atStart => exact ⟨0, by omega, rfl, rfl⟩
    case round =>
      obtain ⟨k, hk, rfl, rfl⟩ := hrel
      by_cases hlt : k < n
      · have E := Box'.mk (rev_step v k hv (by omega))
        go_wp2_with fail
        exact ⟨⟨k + 1, by omega, by go_num, by rw [E.out]⟩, by simp [intOf]; omega⟩
      · have hkn : k = n := by omega
        subst hkn
        go_wp2_with fail
        exact bodyPost_ret (results_row_slot rfl _ _ rfl _ rfl _ _ ((q1.setCell 0 _).setCell 1 _) _ Try.underlying51 rfl 2 Try.info51 rfl) rfl ⟨rfl, (bl.setCell (by simp) _).setCell (by simp) _⟩
  · rw [show revV (v, s) = (0, 0) from if_neg h, show revE (v, s) = 2 from if_neg h]
    rw [show Gf.may (v, s) = false by simpa using h] at hm
    clear h
    go_enter Try.func24, Try.ntmps24
    go_wp2_with fail
    refine (hm _).mono ?_
    rintro e w1 ⟨rfl, hb⟩
    have q1 : Row w1 (w.heap.size + 1) 51 #[.int .u64 0, .int .i64 0] := (Row.made _ _ _ _ _ rfl (by simp)).below hb (by simp)
    have d0 : w1.cell? ⟨w.heap.size + 1, 0, none⟩ = some (.int .u64 0) := by rw [q1.cell]; rfl
    have d1 : w1.cell? ⟨w.heap.size + 1, 1, none⟩ = some (.int .i64 0) := by rw [q1.cell]; rfl
    have f0 := q1.frozen 0
    have f1 := q1.frozen 1
    have bl : Below w.heap.size w w1 := (((Below.refl _ _).alloc (Nat.le_refl _) _).alloc (by simp) _).trans (hb.mono (by simp; omega))
    clear hb hm
    go_wp2_with fail
    exact bodyPost_ret (results_row_slot rfl _ _ rfl _ rfl _ _ ((q1.setCell 0 _).setCell 1 _) _ Try.underlying51 rfl 2 Try.info51 rfl) rfl ⟨rfl, (bl.setCell (by simp) _).setCell (by simp) _⟩

set_option maxHeartbeats 1000000 in
theorem refReverse_any (v : Nat) (hv : v < 18446744073709551616) (s : Int) (w : World) :
    Calls Try.prog 26 #[.agg (bts2 v s)] w fun e w' => e = .returned (.tuple #[.agg (bts2 (revV (v, s)).1 (revV (v, s)).2), .int .i64 (revE (v, s))]) ∧ Below w.heap.size w w' := by
  have hm := fun w => refMay_any v hv s w
  unfold bts2
  by_cases h : Gf.may (v, s) = true
  · rw [show revV (v, s) = (Gf.rev v s.toNat, s) from if_pos h, show revE (v, s) = 0 from if_pos h]
    rw [h] at hm
    have hs : 0 ≤ s ∧ s ≤ 64 := by unfold Gf.may at h; have := of_decide_eq_true h; exact ⟨this.1, this.2.1⟩
    obtain ⟨n, rfl⟩ : ∃ n : Nat, s = (n : Int) := ⟨s.toNat, by omega⟩
    rw [Int.toNat_natCast]
    have hn : n ≤ 64 := by omega
    clear h hs
    go_enter Try.func26, Try.ntmps26
    go_wp2_with fail
    refine (hm _).mono ?_
    rintro e w1 ⟨rfl, hb⟩
    have r1 : Row w1 w.heap.size 51 #[.int .u64 (v : Int), .int .i64 (n : Int)] := ((Row.new _ _ _).alloc _).below hb (by simp; omega)
    have q1 : Row w1 (w.heap.size + 1) 51 #[.int .u64 0, .int .i64 0] := (Row.made _ _ _ _ _ rfl (by simp)).below hb (by simp)
    have d0 : w1.cell? ⟨w.heap.size + 1, 0, none⟩ = some (.int .u64 0) := by rw [q1.cell]; rfl
    have d1 : w1.cell? ⟨w.heap.size + 1, 1, none⟩ = some (.int .i64 0) := by rw [q1.cell]; rfl
    have f0 := q1.frozen 0
    have f1 := q1.frozen 1
    have bl : Below w.heap.size w w1 := (((Below.refl _ _).alloc (Nat.le_refl _) _).alloc (by simp) _).trans (hb.mono (by simp; omega))
    have c0 : w1.cell? ⟨w.heap.size, 0, none⟩ = some (.int .u64 (v : Int)) := by rw [r1.cell]; rfl
    have c1 : w1.cell? ⟨w.heap.size, 1, none⟩ = some (.int .i64 (n : Int)) := by rw [r1.cell]; rfl
    clear hb hm r1
    go_wp2_with fail
    go_loop [4, 5] (fun t i => ∃ k : Nat, k ≤ n ∧ i = .int .i64 k ∧ t = .int .u64 ((Gf.rev v k : Nat) : Int)) (fun _ i => n - (intOf i).toNat)
    case atStart => exact ⟨0, by omega, rfl, rfl⟩
    case round =>
      obtain ⟨k, hk, rfl, rfl⟩ := hrel
      by_cases hlt : k < n
      · have E := Box'.mk (rev_step v k hv (by omega))
        go_wp2_with fail
        exact ⟨⟨k + 1, by omega, by go_num, by rw [E.out]⟩, by simp [intOf]; omega⟩
      · have hkn : k = n := by omega
        subst hkn
        go_wp2_with fail
        exact bodyPost_ret (results_row_slot rfl _ _ rfl _ rfl _ _ ((q1.setCell 0 _).setCell 1 _) _ Try.underlying51 rfl 2 Try.info51 rfl) rfl ⟨rfl, (bl.setCell (by simp) _).setCell (by simp) _⟩
  · rw [show revV (v, s) = (0, 0) from if_neg h, show revE (v, s) = 2 from if_neg h]
    rw [show Gf.may (v, s) = false by simpa using h] at hm
    clear h
    go_enter Try.func26, Try.ntmps26
    go_wp2_with fail
    refine (hm _).mono ?_
    rintro e w1 ⟨rfl, hb⟩
    have q1 : Row w1 (w.heap.size + 1) 51 #[.int .u64 0, .int .i64 0] := (Row.made _ _ _ _ _ rfl (by simp)).below hb (by simp)
    have d0 : w1.cell? ⟨w.heap.size + 1, 0, none⟩ = some (.int .u64 0) := by rw [q1.cell]; rfl
    have d1 : w1.cell? ⟨w.heap.size + 1, 1, none⟩ = some (.int .i64 0) := by rw [q1.cell]; rfl
    have f0 := q1.frozen 0
    have f1 := q1.frozen 1
    have bl : Below w.heap.size w w1 := (((Below.refl _ _).alloc (Nat.le_refl _) _).alloc (by simp) _).trans (hb.mono (by simp; omega))
    clear hb hm
    go_wp2_with fail
    exact bodyPost_ret (results_row_slot rfl _ _ rfl _ rfl _ _ ((q1.setCell 0 _).setCell 1 _) _ Try.underlying51 rfl 2 Try.info51 rfl) rfl ⟨rfl, (bl.setCell (by simp) _).setCell (by simp) _⟩

end Go.Proofs.Ytcppfoolhkcfaaa
