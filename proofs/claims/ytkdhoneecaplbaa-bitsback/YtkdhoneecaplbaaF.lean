/- The walk of lay. -/
import Derived.Test.YtkdhoneecaplbaaE
namespace Go.Proofs.Ytkdhoneecaplbaa
open Go.RowKit Go.BigFrame

/-- Nothing has turned but the block g. -/
structure Chg (g : Nat) (w w' : World) : Prop where
  bel : ∀ N w0, N ≤ g → Below N w0 w → Below N w0 w'
  size : w'.heap.size = w.heap.size
  block : ∀ k, k ≠ g → w'.heap[k]? = w.heap[k]?
theorem Chg.refl (g : Nat) (w : World) : Chg g w w := ⟨fun _ _ _ h => h, rfl, fun _ _ => rfl⟩
theorem Chg.setCell {g : Nat} {w w' : World} (h : Chg g w w') (k : Nat) (v : Value) : Chg g w (w'.setCell ⟨g, k, none⟩ v) :=
  ⟨fun N w0 hN hb => (h.bel N w0 hN hb).setCell hN _, by rw [← h.size]; simp, fun j hj => by rw [Below.heap_setCell _ _ _ _ hj]; exact h.block j hj⟩
theorem Chg.drewN {g : Nat} {w w' : World} (h : Chg g w w') (n : Nat) : Chg g w (w'.drewN n) :=
  ⟨fun N w0 hN hb => Below.drewN (h.bel N w0 hN hb) n, h.size, h.block⟩
theorem Chg.drew {g : Nat} {w w' : World} (h : Chg g w w') : Chg g w w'.drew :=
  ⟨fun N w0 hN hb => (h.bel N w0 hN hb).drew, h.size, h.block⟩

theorem or_u8 (x y : UInt8) : bits .or .u8 (x.toNat : Int) (y.toNat : Int) = (((x ||| y).toNat : Nat) : Int) := by
  rw [u8_or_nat _ _ x.toNat_lt y.toNat_lt]; simp
/-- what the byte becomes -/
theorem lay_byte (x : UInt8) (u r : Nat) (hr : r < 8) : bits .or .u8 (x.toNat : Int) (IntKind.u64.wrap ((u : Int) * 2 ^ r) % 256) = (((x ||| UInt8.ofNat (u % 2 ^ (8 - r) * 2 ^ r)).toNat : Nat) : Int) := by
  rw [← or_u8]
  congr 1
  have e1 : (u : Int) * 2 ^ r = ((u * 2 ^ r : Nat) : Int) := by simp
  have e2 : u % 2 ^ (8 - r) * 2 ^ r = u * 2 ^ r % 256 := by
    rw [← Nat.mul_mod_mul_right, ← Nat.pow_add, show 8 - r + r = 8 by omega]
  rw [e1, wrap_nat, e2, UInt8.toNat_ofNat']
  omega
theorem lay_next (Y u p r : Nat) (hY : Y < 2 ^ p) :
    Y + u % 2 ^ (8 - r) * 2 ^ p < 2 ^ (p + (8 - r)) ∧ Y + u % 2 ^ (8 - r) * 2 ^ p + u / 2 ^ (8 - r) * 2 ^ (p + (8 - r)) = Y + u * 2 ^ p := by
  have hc : u % 2 ^ (8 - r) < 2 ^ (8 - r) := Nat.mod_lt _ (Nat.two_pow_pos _)
  have hd := Nat.div_add_mod u (2 ^ (8 - r))
  constructor
  · have h1 : (u % 2 ^ (8 - r) + 1) * 2 ^ p ≤ 2 ^ (8 - r) * 2 ^ p := Nat.mul_le_mul_right _ hc
    rw [Nat.add_mul] at h1
    rw [Nat.pow_add, Nat.mul_comm (2 ^ p)]
    omega
  · have h2 : u * 2 ^ p = (2 ^ (8 - r) * (u / 2 ^ (8 - r)) + u % 2 ^ (8 - r)) * 2 ^ p := by rw [hd]
    rw [h2, Nat.add_mul, Nat.pow_add, Nat.mul_comm (2 ^ (8 - r)), Nat.mul_comm (2 ^ p), Nat.mul_assoc]
    omega
theorem lay_room (Y u p n : Nat) (hu : u ≠ 0) (h : Y + u * 2 ^ p < 2 ^ (8 * n)) : p < 8 * n := by
  have h1 : 1 * 2 ^ p ≤ u * 2 ^ p := Nat.mul_le_mul_right _ (by omega)
  have h2 : 2 ^ p < 2 ^ (8 * n) := by omega
  exact (Nat.pow_lt_pow_iff_right (by decide)).1 h2
theorem results17 (T : Array Value) (w : World) : (results Try.f17 T).run Try.prog w = .ok (.tuple #[]) w := by
  unfold results
  simp [go_sem]

set_option maxHeartbeats 1000000 in
theorem lay_any (g n X p0 v : Nat) (hn : n ≤ 65536) (hp : p0 ≤ 8 * n) (hv : v < 18446744073709551616) (hX : X < 2 ^ p0) (hZ : X + v * 2 ^ p0 < 2 ^ (8 * n)) (w : World) (hr : Row w g 5 (ag (Gf.byt n X))) :
    Calls Try.prog 17 #[.slice (some ⟨g, 0, none⟩) n n, .int .i64 (p0 : Int), .int .u64 (v : Int)] w fun e w' => e = .returned (.tuple #[]) ∧ Row w' g 5 (ag (Gf.byt n (X + v * 2 ^ p0))) ∧ Chg g w w' := by
  obtain ⟨Z, hZe⟩ : ∃ Z, Z = X + v * 2 ^ p0 := ⟨_, rfl⟩
  rw [← hZe] at hZ ⊢
  have HZ := Box'.mk hZ
  have H0 := Box'.mk (And.intro hX hZe)
  clear hZ hX hZe
  go_enter Try.func17, Try.ntmps17
  go_wp2_with fail
  go_loopw [1, 2] (fun a u wr => ∃ p m Y : Nat, p ≤ 8 * n ∧ a = .int .i64 (p : Int) ∧ u = .int .u64 (m : Int) ∧ m < 18446744073709551616 ∧ Box' (Y < 2 ^ p ∧ Z = Y + m * 2 ^ p) ∧ Row wr g 5 (ag (Gf.byt n Y)) ∧ Chg g w wr) (fun _ u _ => (intOf u).toNat)
  case atStart => exact ⟨p0, v, X, hp, rfl, rfl, hv, H0, hr, Chg.refl _ _⟩
  case round =>
    obtain ⟨p, m, Y, hp1, rfl, rfl, hm, HY, h1, hch⟩ := hrel
    by_cases h0 : m = 0
    · subst h0
      obtain rfl : Z = Y := by have := HY.out.2; omega
      go_wp2_with fail
      exact ⟨rfl, _, results17 _ _, rfl, h1, hch⟩
    · have i0 : ((m : Int) == 0) = false := by rw [beq_eq_false_iff_ne]; omega
      have hpn : p < 8 * n := lay_room Y m p n h0 (by have := HY.out.2; have := HZ.out; omega)
      have c1 := h1.byte (k := p / 8) (by rw [Gf.byt_len]; omega)
      have f1 := h1.frozen (p / 8)
      have E := Box'.mk (Gf.byt_or n Y p (m % 2 ^ (8 - p % 8)) HY.out.1 (by omega) (Nat.mod_lt _ (Nat.two_pow_pos _)))
      have NX := Box'.mk (lay_next Y m p (p % 8) HY.out.1)
      have hS := fun x => h1.setByte (p / 8) x
      have HS := Box'.mk hS
      have hLB := fun x => lay_byte x m (p % 8) (Nat.mod_lt _ (by decide))
      have LB := Box'.mk hLB
      generalize (Gf.byt n Y).getD (p / 8) 0 = x at *
      have hx := x.toNat_lt
      clear hS hLB
      go_wp2_with fail
      rw [LB.out x]
      have hr8 : p % 8 < 8 := Nat.mod_lt _ (by decide)
      have em : (m : Int) / 2 ^ (8 - p % 8) = ((m / 2 ^ (8 - p % 8) : Nat) : Int) := by simp
      have hlt : m / 2 ^ (8 - p % 8) < m := Nat.div_lt_self (by omega) (Nat.one_lt_two_pow (by omega))
      refine ⟨⟨p + (8 - p % 8), m / 2 ^ (8 - p % 8), Y + m % 2 ^ (8 - p % 8) * 2 ^ p, by omega, ?_, by rw [em], by omega, ⟨NX.out.1, by rw [NX.out.2]; exact HY.out.2⟩, ?_, hch.setCell _ _⟩, ?_⟩
      · congr 1; omega
      · rw [← E.out]; exact HS.out _
      · rw [em]; simp only [intOf]; omega
end Go.Proofs.Ytkdhoneecaplbaa
