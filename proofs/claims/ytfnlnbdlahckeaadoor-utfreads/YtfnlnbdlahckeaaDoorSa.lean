/- appendForm, Encode. -/
import Derived.Test.YtfnlnbdlahckeaaDoorRd
namespace Go.Proofs.YtfnlnbdlahckeaaDoor
open Go.RowKit Go.BigFrame
set_option linter.unusedVariables false
set_option linter.unusedSimpArgs false

theorem row_in (w : World) (cs : Array Value) (l : List UInt8) (n : Nat) (hn : l.length = n) (h : cs = ag l) : InB (w.alloc (.cells cs 5)).heap.size (w.alloc (.cells cs 5)) (.slice (some ⟨w.heap.size, 0, none⟩) n n) l := by
  subst h; exact (Row.new w 5 (ag l)).inB hn
theorem low_div (c : Nat) (hc : c ≤ 1114111) (k : Nat) (hk : 0 < k) (w : World) : Calls Tryd.prog 34 #[.int .i32 ((c : Int) / (k : Int))] w fun e w' => e = .returned (.int .u8 (((UInt8.ofNat (128 + c / k % 64)).toNat : Nat) : Int)) ∧ w' = w := by
  have h := lowest_any (c / k) (by have := Nat.div_le_self c k; omega) w
  rw [Int.natCast_ediv] at h
  exact h
set_option maxRecDepth 100000 in
set_option maxHeartbeats 4000000 in
theorem appendForm_any (N : Nat) (c : Nat) (hc : c ≤ 1114111) (w : World) (v : Value) (d : List UInt8) (ho : OwnB N w v d) (hN : N ≤ w.heap.size) (hd : d.length ≤ 140737488351232) :
    Calls Tryd.prog 26 #[v, .int .i32 (c : Int)] w fun e w' => ∃ v', e = .returned v' ∧ OwnB N w' v' (d ++ frm c) ∧ Fr N w w' := by
  have HO := Box'.mk ho
  have HN := Box'.mk hN
  have HD := Box'.mk hd
  obtain ⟨a1, c1, hv⟩ := ho.slice
  subst hv
  clear ho hN hd
  generalize hdl : d.length = dl at *
  have HDL := Box'.mk hdl
  clear hdl
  have LW := Box'.mk (fun x hx w => lowest_any x hx w)
  by_cases h1 : c < 128
  · have HF : Box' (frm c = [UInt8.ofNat c]) := ⟨by unfold frm; rw [if_pos h1]⟩
    have EB : Box' ((c : Int) % 256 = (((UInt8.ofNat c).toNat : Nat) : Int)) := ⟨by rw [u8n (by omega)]; omega⟩
    have EC : Box' ((c : Int) = (((UInt8.ofNat c).toNat : Nat) : Int)) := ⟨by rw [u8n (by omega)]⟩
    generalize UInt8.ofNat c = x at *
    go_enter Tryd.func26, Tryd.ntmps26
    go_wp2_with (refine wpList_app rfl (.tmp 8) (.tmp 11) rfl N _ (Nat.le_trans HN.out (by simp)) _ d rfl (HO.out.alloc _) _ [x] rfl (by first | (rw [EB.out]; exact one_in w x) | (rw [EC.out]; exact one_in w x)) (by rw [HDL.out]; have := HD.out; simp; omega) ?_; intro v2 w2 o2 f2)
    have F2 : Fr N w w2 := ((Fr.refl N w).alloc _).trans f2
    rw [← HF.out] at o2
    go_wp2_with fail
    go_ret
    exact ⟨_, rfl, o2, F2⟩
  · by_cases h2 : c < 2048
    · have HF : Box' (frm c = [UInt8.ofNat (192 + c / 64), UInt8.ofNat (128 + c % 64)]) := ⟨by unfold frm; rw [if_neg h1, if_pos h2]⟩
      have EX : Box' (192 + (c : Int) / 64 = (((UInt8.ofNat (192 + c / 64)).toNat : Nat) : Int)) := ⟨by rw [u8n (by omega)]; omega⟩
      have L0 := Box'.mk (fun w => lowest_any c (by omega) w)
      unfold B at L0
      generalize UInt8.ofNat (192 + c / 64) = x at *
      generalize UInt8.ofNat (128 + c % 64) = y at *
      clear LW
      go_enter Tryd.func26, Tryd.ntmps26
      go_wp2_with fail
      refine (L0.out w).mono ?_
      rintro e w' ⟨rfl, hw⟩
      obtain rfl := hw.symm
      clear L0
      go_wp2_with (refine wpList_app rfl _ _ rfl N _ (Nat.le_trans HN.out (by simp)) _ d rfl (HO.out.alloc _) _ [x, y] rfl (row_in _ _ [x, y] 2 rfl (by rw [EX.out]; rfl)) (by rw [HDL.out]; have := HD.out; simp; omega) ?_; intro v2 w2 o2 f2)
      have F2 := ((Fr.refl N _).alloc _).trans f2
      rw [← HF.out] at o2
      go_wp2_with fail
      go_ret
      exact ⟨_, rfl, o2, F2⟩
    · by_cases h3 : c < 65536
      · have HF : Box' (frm c = [UInt8.ofNat (224 + c / 4096), UInt8.ofNat (128 + c / 64 % 64), UInt8.ofNat (128 + c % 64)]) := ⟨by unfold frm; rw [if_neg h1, if_neg h2, if_pos h3]⟩
        have EX : Box' (224 + (c : Int) / 4096 = (((UInt8.ofNat (224 + c / 4096)).toNat : Nat) : Int)) := ⟨by rw [u8n (by omega)]; omega⟩
        have L0 := Box'.mk (fun w => low_div c hc 64 (by decide) w)
        have L1 := Box'.mk (fun w => lowest_any c (by omega) w)
        unfold B at L1
        generalize UInt8.ofNat (224 + c / 4096) = x at *
        generalize UInt8.ofNat (128 + c / 64 % 64) = y at *
        generalize UInt8.ofNat (128 + c % 64) = z at *
        have i1 : ¬ ((c : Int) < 128) := by omega
        have i2 : ¬ ((c : Int) < 2048) := by omega
        have i3 : (c : Int) < 65536 := by omega
        have i0 : (0 : Int) ≤ (c : Int) := by omega
        generalize (c : Int) = C at *
        clear h1 h2 h3 hc
        clear LW
        go_enter Tryd.func26, Tryd.ntmps26
        go_wp2_with fail
        refine (L0.out w).mono ?_
        rintro e w' ⟨rfl, hw⟩
        obtain rfl := hw.symm
        clear L0
        go_wp2_with fail
        refine (L1.out w).mono ?_
        rintro e w' ⟨rfl, hw⟩
        obtain rfl := hw.symm
        clear L1
        go_wp2_with (refine wpList_app rfl _ _ rfl N _ (Nat.le_trans HN.out (by simp)) _ d rfl (HO.out.alloc _) _ [x, y, z] rfl (row_in _ _ [x, y, z] 3 rfl (by rw [EX.out]; rfl)) (by rw [HDL.out]; have := HD.out; simp; omega) ?_; intro v2 w2 o2 f2)
        have F2 := ((Fr.refl N _).alloc _).trans f2
        rw [← HF.out] at o2
        go_wp2_with fail
        go_ret
        exact ⟨_, rfl, o2, F2⟩
      · have HF : Box' (frm c = [UInt8.ofNat (240 + c / 262144), UInt8.ofNat (128 + c / 4096 % 64), UInt8.ofNat (128 + c / 64 % 64), UInt8.ofNat (128 + c % 64)]) := ⟨by unfold frm; rw [if_neg h1, if_neg h2, if_neg h3]⟩
        have EX : Box' (240 + (c : Int) / 262144 = (((UInt8.ofNat (240 + c / 262144)).toNat : Nat) : Int)) := ⟨by rw [u8n (by omega)]; omega⟩
        have L0 := Box'.mk (fun w => low_div c hc 4096 (by decide) w)
        have L1 := Box'.mk (fun w => low_div c hc 64 (by decide) w)
        have L2 := Box'.mk (fun w => lowest_any c (by omega) w)
        unfold B at L2
        generalize UInt8.ofNat (240 + c / 262144) = x at *
        generalize UInt8.ofNat (128 + c / 4096 % 64) = y at *
        generalize UInt8.ofNat (128 + c / 64 % 64) = z at *
        generalize UInt8.ofNat (128 + c % 64) = q at *
        have i1 : ¬ ((c : Int) < 128) := by omega
        have i2 : ¬ ((c : Int) < 2048) := by omega
        have i3 : ¬ ((c : Int) < 65536) := by omega
        have i4 : (c : Int) ≤ 1114111 := by omega
        have i0 : (0 : Int) ≤ (c : Int) := by omega
        generalize (c : Int) = C at *
        clear h1 h2 h3 hc
        clear LW
        go_enter Tryd.func26, Tryd.ntmps26
        go_wp2_with fail
        refine (L0.out w).mono ?_
        rintro e w' ⟨rfl, hw⟩
        obtain rfl := hw.symm
        clear L0
        go_wp2_with fail
        refine (L1.out w).mono ?_
        rintro e w' ⟨rfl, hw⟩
        obtain rfl := hw.symm
        clear L1
        go_wp2_with fail
        refine (L2.out w).mono ?_
        rintro e w' ⟨rfl, hw⟩
        obtain rfl := hw.symm
        clear L2
        go_wp2_with (refine wpList_app rfl _ _ rfl N _ (Nat.le_trans HN.out (by simp)) _ d rfl (HO.out.alloc _) _ [x, y, z, q] rfl (row_in _ _ [x, y, z, q] 4 rfl (by rw [EX.out]; rfl)) (by rw [HDL.out]; have := HD.out; simp; omega) ?_; intro v2 w2 o2 f2)
        have F2 := ((Fr.refl N _).alloc _).trans f2
        rw [← HF.out] at o2
        go_wp2_with fail
        go_ret
        exact ⟨_, rfl, o2, F2⟩
end Go.Proofs.YtfnlnbdlahckeaaDoor
