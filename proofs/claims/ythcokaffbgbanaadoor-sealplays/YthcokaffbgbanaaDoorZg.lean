/- The walks of the reference's side and head. -/
import Derived.Test.YthcokaffbgbanaaDoorXi
import Derived.Test.YthcokaffbgbanaaDoorXm
namespace Go.Proofs.YthcokaffbgbanaaDoor
open Go.RowKit Go.BigFrame

theorem refSide_any (f : Nat) (w : World) : Calls Tryd.prog 34 #[.int .u8 (f : Int)] w fun e w' => e = .returned (.bool (decide (f = 1 ∨ f = 2))) ∧ w' = w := by
  by_cases h1 : f = 1
  · subst h1
    go_enter Tryd.func34, Tryd.ntmps34
    go_wp2
    go_ret
    exact ⟨rfl, rfl⟩
  · by_cases h2 : f = 2
    · subst h2
      go_enter Tryd.func34, Tryd.ntmps34
      go_wp2
      go_ret
      exact ⟨rfl, rfl⟩
    · have e1 : ((f : Int) == 1) = false := by rw [beq_eq_false_iff_ne]; omega
      have e2 : ((f : Int) == 2) = false := by rw [beq_eq_false_iff_ne]; omega
      have e3 : decide (f = 1 ∨ f = 2) = false := decide_eq_false (by omega)
      rw [e3]
      go_enter Tryd.func34, Tryd.ntmps34
      go_wp2
      go_ret
      exact ⟨rfl, rfl⟩
set_option maxRecDepth 100000 in
set_option maxHeartbeats 2000000 in
theorem refHead_any (f q : Nat) (hq : q < 4611686018427387904) (w : World) : Calls Tryd.prog 35 #[.int .u8 (f : Int), .int .u64 (q : Int)] w fun e w' => ∃ v', e = .returned v' ∧ Own w.heap.size w' v' (Gf.be8 (Gf.hdN f q)) ∧ Below w.heap.size w w' := by
  have HB : Box' (Gf.beTo (Gf.hdN f q) 8 = Gf.be8 (Gf.hdN f q)) := ⟨rfl⟩
  have HL : Box' (∀ h k : Nat, k < 8 → (h : Int) / 2 ^ (8 * (7 - k)) % 256 = (((UInt8.ofNat (h / 2 ^ (56 - 8 * k))).toNat : Nat) : Int)) := ⟨fun h k hk => by rw [shr_byte, show 8 * (7 - k) = 56 - 8 * k by omega]⟩
  generalize Gf.be8 (Gf.hdN f q) = E at *
  by_cases h2 : f = 2
  · have e2 : ((f : Int) == 2) = true := by rw [beq_iff_eq]; omega
    have eh : Gf.hdN f q = q + 9223372036854775808 := if_pos h2
    clear h2
    go_enter Tryd.func35, Tryd.ntmps35
    go_wp2_with fail
    obtain ⟨H, hH⟩ : ∃ H : Nat, H = q + 9223372036854775808 := ⟨_, rfl⟩
    have hI : (q : Int) + 9223372036854775808 = (H : Int) := by omega
    rw [eh, ← hH] at HB
    rw [hI]
    clear hI hH eh
    go_loopw [6, 7] (fun u i wr => ∃ k : Nat, k ≤ 8 ∧ i = .int .i64 (7 - (k : Int)) ∧ Box' (Own w.heap.size wr u (Gf.beTo H k)) ∧ Fr w.heap.size w wr) (fun _ i _ => (intOf i + 1).toNat)
    case atStart => exact ⟨0, by omega, rfl, ⟨Own.nil _ _⟩, Fr.refl _ _⟩
    case round =>
      obtain ⟨k, hk, rfl, HO, hf⟩ := hrel
      have HDL : Box' ((Gf.beTo H k).length + 1 ≤ 140737488355328) := ⟨by rw [Gf.beTo_len]; omega⟩
      obtain ⟨a1, c1, rfl⟩ := HO.out.slice
      have hwN : w.heap.size ≤ wr.heap.size := by have := hf.size; omega
      by_cases hlt : k < 8
      · have EB := Box'.mk (HL.out H k hlt)
        have e8 : (8 : Int) * (7 - (k : Int)) = ((8 * (7 - k) : Nat) : Int) := by omega
        have ES : Box' (Gf.beTo H k ++ [UInt8.ofNat (H / 2 ^ (56 - 8 * k))] = Gf.beTo H (k + 1)) := ⟨rfl⟩
        have hd7 : decide ((k : Int) ≤ 7) = true := decide_eq_true (by omega)
        generalize UInt8.ofNat (H / 2 ^ (56 - 8 * k)) = x at *
        generalize Gf.beTo H k = D1 at *
        go_wp2_with (first | (refine wpList_app rfl (.tmp 17) (.tmp 24) rfl w.heap.size _ (Nat.le_trans hwN (by simp)) _ D1 rfl (HO.out.alloc _) _ [x] rfl (by rw [EB.out]; exact one_in wr x) HDL.out ?_; intro v2 w2 o2 f2) | fail)
        rw [ES.out] at o2
        go_roundw
        case rel => exact ⟨k + 1, by omega, by go_num, ⟨o2⟩, (hf.alloc _).trans f2⟩
        case measure => simp [intOf]; omega
      · obtain rfl : k = 8 := by omega
        have hd7 : decide ((0 : Int) ≤ 7 - ((8 : Nat) : Int)) = false := by decide
        go_wp2_with fail
        go_ret
        rw [← HB.out]
        exact ⟨_, rfl, HO.out, hf.below (Nat.le_refl _)⟩
  · have e2 : ((f : Int) == 2) = false := by rw [beq_eq_false_iff_ne]; omega
    have eh : Gf.hdN f q = q := if_neg h2
    clear h2
    rw [eh] at HB
    obtain ⟨H, hH⟩ : ∃ H : Nat, q = H := ⟨_, rfl⟩
    subst hH
    go_enter Tryd.func35, Tryd.ntmps35
    go_wp2_with fail
    go_loopw [6, 7] (fun u i wr => ∃ k : Nat, k ≤ 8 ∧ i = .int .i64 (7 - (k : Int)) ∧ Box' (Own w.heap.size wr u (Gf.beTo q k)) ∧ Fr w.heap.size w wr) (fun _ i _ => (intOf i + 1).toNat)
    case atStart => exact ⟨0, by omega, rfl, ⟨Own.nil _ _⟩, Fr.refl _ _⟩
    case round =>
      obtain ⟨k, hk, rfl, HO, hf⟩ := hrel
      have HDL : Box' ((Gf.beTo q k).length + 1 ≤ 140737488355328) := ⟨by rw [Gf.beTo_len]; omega⟩
      obtain ⟨a1, c1, rfl⟩ := HO.out.slice
      have hwN : w.heap.size ≤ wr.heap.size := by have := hf.size; omega
      by_cases hlt : k < 8
      · have EB := Box'.mk (HL.out q k hlt)
        have e8 : (8 : Int) * (7 - (k : Int)) = ((8 * (7 - k) : Nat) : Int) := by omega
        have ES : Box' (Gf.beTo q k ++ [UInt8.ofNat (q / 2 ^ (56 - 8 * k))] = Gf.beTo q (k + 1)) := ⟨rfl⟩
        have hd7 : decide ((k : Int) ≤ 7) = true := decide_eq_true (by omega)
        generalize UInt8.ofNat (q / 2 ^ (56 - 8 * k)) = x at *
        generalize Gf.beTo q k = D1 at *
        go_wp2_with (first | (refine wpList_app rfl (.tmp 17) (.tmp 24) rfl w.heap.size _ (Nat.le_trans hwN (by simp)) _ D1 rfl (HO.out.alloc _) _ [x] rfl (by rw [EB.out]; exact one_in wr x) HDL.out ?_; intro v2 w2 o2 f2) | fail)
        rw [ES.out] at o2
        go_roundw
        case rel => exact ⟨k + 1, by omega, by go_num, ⟨o2⟩, (hf.alloc _).trans f2⟩
        case measure => simp [intOf]; omega
      · obtain rfl : k = 8 := by omega
        have hd7 : decide ((0 : Int) ≤ 7 - ((8 : Nat) : Int)) = false := by decide
        go_wp2_with fail
        go_ret
        rw [← HB.out]
        exact ⟨_, rfl, HO.out, hf.below (Nat.le_refl _)⟩
end Go.Proofs.YthcokaffbgbanaaDoor
