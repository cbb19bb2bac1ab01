/- The walk of the reference's Bytes. -/
import Derived.Test.YthcokaffbgbanaaDoorYb
import Derived.Test.YthcokaffbgbanaaDoorXm
namespace Go.Proofs.YthcokaffbgbanaaDoor
open Go.RowKit Go.BigFrame
set_option linter.unusedVariables false

set_option maxRecDepth 100000 in
set_option maxHeartbeats 2000000 in
theorem refBytes_bad (key : List UInt8) (f q s e : Nat) (vb : Value) (l : List UInt8) (w : World) (hb : InE w.heap.size w vb l) (hbad : ¬ ((f = 1 ∨ f = 2) ∧ q < 4611686018427387904 ∧ l.length ≤ 65000)) :
    Calls Tryd.prog 12 #[.agg (ag key), .int .u8 (f : Int), .agg (dgv q s e vb)] w fun r w' => r = .returned (.tuple #[.slice none 0 0, .int .i64 2]) ∧ Below w.heap.size w w' := by
  obtain ⟨a, c, rfl, hc⟩ := hb.slice
  clear hb
  generalize l.length = n at *
  have hS := fun w => refSide_any f w
  have hB : Box' (Below w.heap.size w ((w.alloc (.cells (ag key) 23)).alloc (.cells #[.int .u64 (q : Int), .int .u16 (s : Int), .int .u16 (e : Int), .slice a n c] 28))) := ⟨((Below.refl _ _).alloc (Nat.le_refl _) _).alloc (by simp) _⟩
  unfold dgv
  by_cases h1 : f = 1 ∨ f = 2
  · rw [decide_eq_true h1] at hS
    by_cases h2 : q < 4611686018427387904
    · have h3 : 65000 < n := by omega
      have h4 : decide ((4611686018427387904 : Int) ≤ (q : Int)) = false := decide_eq_false (by omega)
      have h6 : decide ((65000 : Int) < (n : Int)) = true := decide_eq_true (by omega)
      clear hbad h1 h2
      go_enter Tryd.func12, Tryd.ntmps12
      go_wp2_with (first | (go_at_call 34; refine (hS _).mono ?_; rintro e1 w1 ⟨rfl, rfl⟩) | fail)
      go_ret2
      exact ⟨rfl, hB.out⟩
    · have h4 : decide ((4611686018427387904 : Int) ≤ (q : Int)) = true := decide_eq_true (by omega)
      clear hbad h1 h2
      go_enter Tryd.func12, Tryd.ntmps12
      go_wp2_with (first | (go_at_call 34; refine (hS _).mono ?_; rintro e1 w1 ⟨rfl, rfl⟩) | fail)
      go_ret2
      exact ⟨rfl, hB.out⟩
  · rw [decide_eq_false h1] at hS
    clear h1 hbad
    go_enter Tryd.func12, Tryd.ntmps12
    go_wp2_with (first | (go_at_call 34; refine (hS _).mono ?_; rintro e1 w1 ⟨rfl, rfl⟩) | fail)
    go_ret2
    exact ⟨rfl, hB.out⟩

set_option maxRecDepth 100000 in
set_option maxHeartbeats 2000000 in
theorem refBytes_ok (key : List UInt8) (hkey : key.length = 16) (f q s e : Nat) (hs : s < 65536) (he : e < 65536) (vb : Value) (l : List UInt8) (w : World) (hb : InE w.heap.size w vb l) (h1 : f = 1 ∨ f = 2) (h2 : q < 4611686018427387904) (h3 : l.length ≤ 65000) :
    Calls Tryd.prog 12 #[.agg (ag key), .int .u8 (f : Int), .agg (dgv q s e vb)] w fun r w' => ∃ u, r = .returned (.tuple #[u, .int .i64 0]) ∧ Own w.heap.size w' u (Gf.dgB key f q s e l) ∧ Below w.heap.size w w' := by
  have hS := fun w => refSide_any f w
  rw [decide_eq_true h1] at hS
  have hH := fun w => refHead_any f q h2 w
  obtain ⟨a, c, rfl, hc⟩ := hb.slice
  have hB : Box' (Below w.heap.size w ((w.alloc (.cells (ag key) 23)).alloc (.cells #[.int .u64 (q : Int), .int .u16 (s : Int), .int .u16 (e : Int), .slice a l.length c] 28))) := ⟨((Below.refl _ _).alloc (Nat.le_refl _) _).alloc (by simp) _⟩
  have R0 : Box' (Row ((w.alloc (.cells (ag key) 23)).alloc (.cells #[.int .u64 (q : Int), .int .u16 (s : Int), .int .u16 (e : Int), .slice a l.length c] 28)) w.heap.size 23 (ag key)) := ⟨(Row.new _ _ _).alloc _⟩
  have R1 : Box' (Row ((w.alloc (.cells (ag key) 23)).alloc (.cells #[.int .u64 (q : Int), .int .u16 (s : Int), .int .u16 (e : Int), .slice a l.length c] 28)) (w.heap.size + 1) 28 #[.int .u64 (q : Int), .int .u16 (s : Int), .int .u16 (e : Int), .slice a l.length c]) := ⟨Row.made _ _ _ _ _ rfl (by simp)⟩
  unfold dgv
  have h4 : decide ((4611686018427387904 : Int) ≤ (q : Int)) = false := decide_eq_false (by omega)
  have h5 : decide ((65000 : Int) < (l.length : Int)) = false := decide_eq_false (by omega)
  have H2 := Box'.mk h2
  have H3 := Box'.mk h3
  have HB := Box'.mk hb
  have HH := Box'.mk hH
  clear h2 hb hH h1
  obtain ⟨n, hn⟩ : ∃ n, l.length = n := ⟨_, rfl⟩
  have HN := Box'.mk hn
  rw [hn] at h3 h5 hB R0 R1 HB hc ⊢
  clear hn
  go_enter Tryd.func12, Tryd.ntmps12
  go_upto_region 3 with (first | (go_at_call 34; refine (hS _).mono ?_; rintro e1 w1 ⟨rfl, rfl⟩) | fail)
  have hz0 : ((w.alloc (.cells (ag key) 23)).alloc (.cells #[.int .u64 (q : Int), .int .u16 (s : Int), .int .u16 (e : Int), .slice a n c] 28)).heap.size = w.heap.size + 1 + 1 := by simp
  obtain ⟨W0, hW0⟩ : ∃ W0, (w.alloc (.cells (ag key) 23)).alloc (.cells #[.int .u64 (q : Int), .int .u16 (s : Int), .int .u16 (e : Int), .slice a n c] 28) = W0 := ⟨_, rfl⟩
  rw [hW0] at hB R0 R1 hz0 ⊢
  clear hW0 hS h4 h5
  have cq : W0.cell? ⟨w.heap.size + 1, 0, none⟩ = some (.int .u64 (q : Int)) := R1.out.cell 0
  go_wp2_with fail
  refine (HH.out _).mono ?_
  rintro r w1 ⟨vh, rfl, o1, b1⟩
  clear HH cq
  have HD : Box' (Gf.dgB key f q s e l = Gf.be8 (Gf.hdN f q) ++ Gf.sealed key (Gf.nnc (Gf.hdN f q)) [] (Gf.tms s e ++ l)) := ⟨rfl⟩
  generalize Gf.hdN f q = H at *
  have r1 := R1.out.below b1 (by omega)
  have cs : w1.cell? ⟨w.heap.size + 1, 1, none⟩ = some (.int .u16 (s : Int)) := r1.cell 1
  have ce : w1.cell? ⟨w.heap.size + 1, 2, none⟩ = some (.int .u16 (e : Int)) := r1.cell 2
  have cb : w1.cell? ⟨w.heap.size + 1, 3, none⟩ = some (.slice a n c) := r1.cell 3
  have eT : (#[.int .u8 ((s : Int) / 256), .int .u8 ((s : Int) % 256), .int .u8 ((e : Int) / 256), .int .u8 ((e : Int) % 256)] : Array Value) = ag (Gf.tms s e) := by
    unfold Gf.tms ag B
    simp only [List.map_cons, List.map_nil, UInt8.toNat_ofNat']
    have a1 : (s : Int) / 256 = ((s / 256 % 2 ^ 8 : Nat) : Int) := by omega
    have a2 : (s : Int) % 256 = ((s % 2 ^ 8 : Nat) : Int) := by omega
    have a3 : (e : Int) / 256 = ((e / 256 % 2 ^ 8 : Nat) : Int) := by omega
    have a4 : (e : Int) % 256 = ((e % 2 ^ 8 : Nat) : Int) := by omega
    rw [a1, a2, a3, a4]
  have ET := Box'.mk eT
  have b2 : Below w1.heap.size w1 (w1.alloc (.cells #[.int .u8 ((s : Int) / 256), .int .u8 ((s : Int) % 256), .int .u8 ((e : Int) / 256), .int .u8 ((e : Int) % 256)] 5)) := (Below.refl _ _).alloc (Nat.le_refl _) _
  have o2 : Own w1.heap.size (w1.alloc (.cells #[.int .u8 ((s : Int) / 256), .int .u8 ((s : Int) % 256), .int .u8 ((e : Int) / 256), .int .u8 ((e : Int) % 256)] 5)) (.slice (some ⟨w1.heap.size, 0, none⟩) 4 4) (Gf.tms s e) := by
    rw [ET.out]
    exact ⟨rfl, .inr ⟨w1.heap.size, 4, ag (Gf.tms s e), rfl, Nat.le_refl _, Row.new _ _ _, Nat.le_refl _, by unfold maxLen; omega, rfl, rfl⟩⟩
  have B1 := hB.out.trans (b1.mono (by omega))
  have HI := Box'.mk (HB.out.below (B1.trans (b2.mono B1.size)) (Nat.le_refl _))
  have HM : Box' ((Gf.tms s e).length + l.length ≤ 140737488355328) := ⟨by rw [Gf.tms_len, HN.out]; omega⟩
  have hN2 : w1.heap.size ≤ (w1.alloc (.cells #[.int .u8 ((s : Int) / 256), .int .u8 ((s : Int) % 256), .int .u8 ((e : Int) / 256), .int .u8 ((e : Int) % 256)] 5)).heap.size := b2.size
  have HO := Box'.mk o2
  have o1' := o1.below b2
  have cb2 : (w1.alloc (.cells #[.int .u8 ((s : Int) / 256), .int .u8 ((s : Int) % 256), .int .u8 ((e : Int) / 256), .int .u8 ((e : Int) % 256)] 5)).cell? ⟨w.heap.size + 1, 3, none⟩ = some (.slice a n c) := (r1.below b2 r1.lt).cell 3
  clear eT o2 cb r1
  go_upto_region 5 with (first | (refine wpList_appE rfl (.tmp 44) (.tmp 46) rfl w1.heap.size w.heap.size hN2 _ (Gf.tms s e) rfl HO.out _ l rfl HI.out HM.out ?_; intro v3 w3 o3 f3) | fail)
  have b13 : Below w1.heap.size w1 w3 := b2.trans (f3.below hN2)
  have B3 : Below W0.heap.size W0 w3 := b1.trans (b13.mono b1.size)
  have oh3 : Own W0.heap.size w3 vh (Gf.be8 H) := o1.below b13
  have op3 : Own W0.heap.size w3 v3 (Gf.tms s e ++ l) := o3.less b1.size
  have hpl : (Gf.tms s e ++ l).length = n + 4 := by rw [List.length_append, Gf.tms_len, HN.out]; omega
  have k3 := R0.out.below B3 (by omega)
  clear o1 o1' b1 b2 B1 HI HM HO f3 o3 b13 cs ce cb2 ET
  generalize Gf.tms s e ++ l = P at *
  refine wp_mono (rsealReg key P hkey (by omega) H w.heap.size W0.heap.size W0 v3 vh _ _ _ _ _ _ _ _ _ _ _ _ _ _ _ _ _ _ _ _ _ _ _ _ _ _ _ _ _ _ _ _ _ _ _ _ _ _ _ _ _ _ _ _ _ _ _ _ _ _ _ _ _ _ _ _ _ _ (Nat.le_refl _) B3 op3 oh3 k3) ?_
  rintro r a' w6 ⟨rfl, v10, v11, v48, v49, v50, v51, v52, v53, v54, v55, v56, rfl, o6, oh6, b6⟩
  have HI := Box'.mk (o6.inB.inE)
  have HO := Box'.mk oh6
  have HM : Box' ((Gf.be8 H).length + (Gf.sealed key (Gf.nnc H) [] P).length ≤ 140737488355328) := ⟨by rw [Gf.be8_len, Gf.sealed_len]; omega⟩
  have hN6 := b6.size
  clear op3 oh3 k3 o6 oh6 B3
  go_wp2_with (first | (refine wpList_appE rfl (.tmp 57) (.tmp 58) rfl W0.heap.size _ hN6 _ (Gf.be8 H) rfl HO.out _ (Gf.sealed key (Gf.nnc H) [] P) rfl HI.out HM.out ?_; intro v8 w8 o8 f8) | fail)
  go_ret2
  refine ⟨_, rfl, ?_, ?_⟩
  · rw [HD.out]
    exact o8.less (by omega)
  · exact hB.out.trans ((b6.trans (f8.below hN6)).mono (by omega))
theorem refBytes_any (key : List UInt8) (hkey : key.length = 16) (f q s e : Nat) (hs : s < 65536) (he : e < 65536) (vb : Value) (l : List UInt8) (w : World) (hb : InE w.heap.size w vb l) :
    Calls Tryd.prog 12 #[.agg (ag key), .int .u8 (f : Int), .agg (dgv q s e vb)] w fun r w' => ∃ u, r = .returned (.tuple #[u, .int .i64 (Gf.byE f q l.length)]) ∧ Own w.heap.size w' u (Gf.byL key f q s e l) ∧ Below w.heap.size w w' := by
  by_cases h : (f = 1 ∨ f = 2) ∧ q < 4611686018427387904 ∧ l.length ≤ 65000
  · have e0 : Gf.byE f q l.length = 0 := if_pos h
    have e1 : Gf.byL key f q s e l = Gf.dgB key f q s e l := if_pos e0
    rw [e0, e1]
    exact refBytes_ok key hkey f q s e hs he vb l w hb h.1 h.2.1 h.2.2
  · have e0 : Gf.byE f q l.length = 2 := if_neg h
    have e1 : Gf.byL key f q s e l = [] := if_neg (by rw [e0]; decide)
    rw [e0, e1]
    exact (refBytes_bad key f q s e vb l w hb h).mono fun r w' h => ⟨_, h.1, Own.nil _ _, h.2⟩
end Go.Proofs.YthcokaffbgbanaaDoor
