/- The walk of the reference's Next. -/
import Derived.Test.YthcokaffbgbanaaDoorYo
namespace Go.Proofs.YthcokaffbgbanaaDoor
open Go.RowKit Go.BigFrame
set_option linter.unusedVariables false

set_option maxRecDepth 100000 in
set_option maxHeartbeats 2000000 in
theorem rnext_bad (p : Nat) (key : List UInt8) (hk : key.length = 16) (f n : Nat) (hn : n ≤ 4611686018427387904) (s e : Nat) (a : Option Addr) (m c : Nat) (w : World) (h : Row w p 72 (slO key f n)) (hE : Gf.nxE n m ≠ 0) :
    Calls Tryd.prog 22 #[.pointer (some ⟨p, 0, none⟩), .int .u16 (s : Int), .int .u16 (e : Int), .slice a m c] w fun r w' => r = .returned (.tuple #[.slice none 0 0, .int .i64 (Gf.nxE n m)]) ∧ w' = w := by
  have c17 : w.cell? ⟨p, 17, none⟩ = some (.int .u64 (n : Int)) := by rw [h.cell]; exact slO_17 hk f n
  clear h
  by_cases h1 : 65000 < m
  · have e0 : Gf.nxE n m = 2 := if_pos h1
    rw [e0]
    have d1 : decide ((65000 : Int) < (m : Int)) = true := decide_eq_true (by omega)
    clear e0 hE h1 hn
    go_enter Tryd.func22, Tryd.ntmps22
    go_wp2_with fail
    go_ret2
    exact ⟨rfl, rfl⟩
  · by_cases h2 : 4611686018427387904 ≤ n
    · have e0 : Gf.nxE n m = 80 := by unfold Gf.nxE; rw [if_neg h1, if_pos h2]
      rw [e0]
      have d1 : decide ((65000 : Int) < (m : Int)) = false := decide_eq_false (by omega)
      have d2 : ((n : Int) == 4611686018427387904) = true := by rw [beq_iff_eq]; omega
      clear e0 hE h1 h2 hn
      go_enter Tryd.func22, Tryd.ntmps22
      go_wp2_with fail
      go_ret2
      exact ⟨rfl, rfl⟩
    · exact absurd (by unfold Gf.nxE; rw [if_neg h1, if_neg h2]) hE
set_option maxRecDepth 100000 in
set_option maxHeartbeats 2000000 in
theorem rnext_ok (p M : Nat) (key : List UInt8) (hk : key.length = 16) (f n : Nat) (hf : f = 1 ∨ f = 2) (hn : n < 4611686018427387904) (s e : Nat) (hs : s < 65536) (he : e < 65536) (vb : Value) (l : List UInt8) (hl : l.length ≤ 65000) (w : World) (hMp : M ≤ p) (h : Row w p 72 (slO key f n)) (hb : InE M w vb l) :
    Calls Tryd.prog 22 #[.pointer (some ⟨p, 0, none⟩), .int .u16 (s : Int), .int .u16 (e : Int), vb] w fun r w' => ∃ u, r = .returned (.tuple #[u, .int .i64 0]) ∧ Own w.heap.size w' u (Gf.dgB key f n s e l) ∧ Row w' p 72 (slO key f (n + 1)) ∧ Bt p w w' := by
  have c17 : w.cell? ⟨p, 17, none⟩ = some (.int .u64 (n : Int)) := by rw [h.cell]; exact slO_17 hk f n
  have f17 := h.frozen 17
  have d1 : decide ((65000 : Int) < (l.length : Int)) = false := decide_eq_false (by omega)
  have d2 : ((n : Int) == 4611686018427387904) = false := by rw [beq_eq_false_iff_ne]; omega
  obtain ⟨a, c, rfl, hc⟩ := hb.slice
  have hplt := h.lt
  have e1 : ((n : Int) + 1) = ((n + 1 : Nat) : Int) := by omega
  obtain ⟨W, hW⟩ : ∃ W, w.setCell ⟨p, 17, none⟩ (.int .u64 ((n : Int) + 1)) = W := ⟨_, rfl⟩
  have hr : Row W p 72 (slO key f (n + 1)) := by
    rw [← hW, e1, ← slO_next hk f n (n + 1)]; exact h.setCell 17 _
  have hbt : Bt p w W := by rw [← hW]; exact (Bt.of (Below.refl _ _)).setCell 17 _
  have hbl : Below M w W := hbt.below hMp (by omega)
  have hBY := fun (w1 : World) (hw : Below W.heap.size W w1) => refBytes_ok key hk f n s e hs he (.slice a l.length c) l w1 (((hb.below hbl (Nat.le_refl _)).below hw (Nat.le_trans (Nat.le_trans hMp (Nat.le_of_lt hplt)) hbt.size)).up (Nat.le_trans (Nat.le_trans (Nat.le_trans hMp (Nat.le_of_lt hplt)) hbt.size) hw.size)) hf hn hl
  have HBY := Box'.mk hBY
  have HR := Box'.mk hr
  have HT := Box'.mk hbt
  have HW := Box'.mk hW
  clear hBY hr hbt hbl hb h e1 hW
  go_enter Tryd.func22, Tryd.ntmps22
  go_upto_region 6 with fail
  rw [HW.out]
  refine wp_mono (rnextReg key (Gf.dgB key f n s e l) hk p f n s e W.heap.size hn a l.length c W _ _ _ _ _ _ _ _ _ _ _ _ _ _ _ _ _ _ _ _ _ _ _ _ _ _ _ _ _ _ _ _ _ _ _ _ _ _ _ _ _ _ (Nat.le_refl _) (Below.refl _ _) HR.out HBY.out) ?_
  rintro r a' w2 ⟨rfl, v8, v9, v25, v26, v27, v28, v29, v30, v31, v32, v33, v34, v35, v36, v37, v38, v39, v40, v41, v42, v43, v44, rfl, o2, rfl, b2⟩
  clear HBY c17 f17
  have HO := Box'.mk (o2.less HT.out.size)
  have HB := Box'.mk b2
  clear o2 b2
  go_wp2_with fail
  go_ret2
  exact ⟨_, rfl, HO.out, HR.out.below HB.out HR.out.lt, HT.out.trans (Bt.of HB.out)⟩
theorem rnext_any (p M : Nat) (key : List UInt8) (hk : key.length = 16) (f n : Nat) (hf : f = 1 ∨ f = 2) (hn : n ≤ 4611686018427387904) (s e : Nat) (hs : s < 65536) (he : e < 65536) (vb : Value) (l : List UInt8) (w : World) (hMp : M ≤ p) (h : Row w p 72 (slO key f n)) (hb : InE M w vb l) :
    Calls Tryd.prog 22 #[.pointer (some ⟨p, 0, none⟩), .int .u16 (s : Int), .int .u16 (e : Int), vb] w fun r w' => ∃ u, r = .returned (.tuple #[u, .int .i64 (Gf.nxE n l.length)]) ∧ Own w.heap.size w' u (Gf.nxL key f n s e l) ∧ Row w' p 72 (slO key f (Gf.nxN n l.length)) ∧ Bt p w w' := by
  by_cases hE : Gf.nxE n l.length = 0
  · have e1 : Gf.nxL key f n s e l = Gf.dgB key f n s e l := if_pos hE
    have e2 : Gf.nxN n l.length = n + 1 := if_pos hE
    obtain ⟨h1, h2⟩ : l.length ≤ 65000 ∧ n < 4611686018427387904 := by
      unfold Gf.nxE at hE
      split at hE
      · omega
      · split at hE
        · omega
        · omega
    rw [hE, e1, e2]
    exact rnext_ok p M key hk f n hf h2 s e hs he vb l h1 w hMp h hb
  · have e1 : Gf.nxL key f n s e l = [] := if_neg hE
    have e2 : Gf.nxN n l.length = n := if_neg hE
    rw [e1, e2]
    obtain ⟨a, c, rfl, hc⟩ := hb.slice
    refine (rnext_bad p key hk f n hn s e a l.length c w h hE).mono ?_
    rintro r w' ⟨rfl, rfl⟩
    exact ⟨_, rfl, Own.nil _ _, h, Bt.of (Below.refl _ _)⟩
end Go.Proofs.YthcokaffbgbanaaDoor
