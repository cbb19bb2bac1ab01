/- The walk of Encode. -/
import Derived.Test.YtepepoabbbjmgaaZb
namespace Go.Proofs.Ytepepoabbbjmgaa
open Go.RowKit Go.BigFrame
set_option linter.unusedSimpArgs false
set_option linter.unusedVariables false

theorem Bss.of (w : World) (vs : List Value) (ps : List (List UInt8)) (n : Nat) (h1 : vs.length = n) (h2 : ps.length = n) (h : ∀ k, k < n → InE w.heap.size w (vs.getD k undef) (ps.getD k [])) :
    Bss (w.heap.size + 1) (w.alloc (.cells vs.toArray 23)) (.slice (some ⟨w.heap.size, 0, none⟩) n n) ps := by
  refine ⟨_, n, by rw [h2], by omega, fun k hk => ⟨_, _, vs.getD k undef, rfl, Nat.lt_succ_self _, ?_, ?_⟩⟩
  · rw [Nat.zero_add, (Row.new w 23 vs.toArray).cell]
    simp [show k < vs.length by omega]
  · exact ((h k (by omega)).below ((Below.refl _ _).alloc (Nat.le_refl _) _) (Nat.le_refl _)).up (Nat.le_succ _)
theorem Bss.one (w : World) (v : Value) (p : List UInt8) (h : InE w.heap.size w v p) : Bss (w.heap.size + 1) (w.alloc (.cells #[v] 23)) (.slice (some ⟨w.heap.size, 0, none⟩) 1 1) [p] :=
  Bss.of w [v] [p] 1 rfl rfl fun k hk => by obtain rfl : k = 0 := by omega
                                            exact h
theorem Bss.three (w : World) (v1 v2 v3 : Value) (p1 p2 p3 : List UInt8) (h1 : InE w.heap.size w v1 p1) (h2 : InE w.heap.size w v2 p2) (h3 : InE w.heap.size w v3 p3) :
    Bss (w.heap.size + 1) (w.alloc (.cells #[v1, v2, v3] 23)) (.slice (some ⟨w.heap.size, 0, none⟩) 3 3) [p1, p2, p3] :=
  Bss.of w [v1, v2, v3] [p1, p2, p3] 3 rfl rfl fun k hk => by
    rcases (show k = 0 ∨ k = 1 ∨ k = 2 by omega) with rfl | rfl | rfl
    · exact h1
    · exact h2
    · exact h3

set_option maxRecDepth 100000 in
theorem arrow_any (a : UInt8) (ar : Bool) (w : World) : Calls Try.prog 16 #[.int .u8 (a.toNat : Int), .bool ar] w fun e w' => ∃ u, e = .returned u ∧ FrB w' u [27, if ar = true then 79 else 91, a] ∧ Below w.heap.size w w' := by
  have OA : Box' (∀ q : UInt8, FrB (w.alloc (.cells #[.int .u8 27, .int .u8 (q.toNat : Int), .int .u8 (a.toNat : Int)] 5)) (.slice (some ⟨w.heap.size, 0, none⟩) 3 3) [27, q, a]) := ⟨fun q => ((Row.new w 5 (ag [27, q, a])).ownB (l := [27, q, a]) rfl (Nat.le_refl _) (by simp)).frB⟩
  have BA : Box' (∀ o, Below w.heap.size w (w.alloc o)) := ⟨fun o => (Below.refl _ _).alloc (Nat.le_refl _) o⟩
  cases ar with
  | true =>
    have o2 := Box'.mk (OA.out 79)
    clear OA
    go_enter Try.func16, Try.ntmps16
    go_wp2_with fail
    go_ret
    exact ⟨_, rfl, o2.out, BA.out _⟩
  | false =>
    have o2 := Box'.mk (OA.out 91)
    clear OA
    go_enter Try.func16, Try.ntmps16
    go_wp2_with fail
    go_ret
    exact ⟨_, rfl, o2.out, BA.out _⟩

set_option maxRecDepth 100000 in
set_option maxHeartbeats 2000000 in
theorem paste_any (N : Nat) (w : World) (vb : Value) (l : List UInt8) (pa : Bool) (hN : N ≤ w.heap.size) (hi : InE N w vb l) (hl : l.length ≤ 65536) :
    Calls Try.prog 17 #[vb, .bool pa] w fun e w' => ∃ u, e = .returned u ∧ FrB w' u (if pa = true then mkA ++ clean l ++ mkZ else clean l) ∧ Below w.heap.size w w' := by
  obtain ⟨a, c, rfl, _⟩ := hi.slice
  cases pa with
  | false =>
    have cl := clean_F N w _ l hN hi (by omega)
    clear hi
    go_enter Try.func17, Try.ntmps17
    go_wp2_with fail
    refine cl.mono ?_
    rintro e w2 ⟨v2, rfl, o2, b2⟩
    have O2 := Box'.mk o2
    have B2 := Box'.mk b2
    clear cl o2 b2
    go_wp2_with fail
    go_ret
    exact ⟨_, rfl, O2.out, B2.out⟩
  | true =>
    have kv := fun (w : World) (C : Array Value) (n c : Nat) => Go.Lib.run_convert_bytes_const (P := Try.prog) w 23 5 C n c Try.underlying23 Try.underlying5
    have AL : Box' (∀ (w : World) (o : Obj), Below w.heap.size w (w.alloc o) ∧ w.heap.size + 1 ≤ (w.alloc o).heap.size) := ⟨fun w o => ⟨(Below.refl _ _).alloc (Nat.le_refl _) _, by simp⟩⟩
    have b1 := (AL.out w (.cells (ag mkA) 5 (6, 7))).1
    have z1 := (AL.out w (.cells (ag mkA) 5 (6, 7))).2
    have cl := clean_F N _ _ l (by omega) (hi.below b1 hN) (by omega)
    have B1 := Box'.mk b1
    have Z1 := Box'.mk z1
    have I1 := Box'.mk ((mark_in w mkA 6 rfl (6, 7)).up z1)
    have CL : Box' ((clean l).length ≤ 65536) := ⟨by have := clean_len l; omega⟩
    have J := Box'.mk joined_any
    have MI := Box'.mk mark_in
    have BT := Box'.mk Bss.three
    have hA : ag mkA = #[.int .u8 27, .int .u8 91, .int .u8 50, .int .u8 48, .int .u8 48, .int .u8 126] := rfl
    rw [hA] at cl B1 I1 Z1
    clear hi b1 z1 hA
    generalize hD : clean l = D at *
    clear hD
    go_enter Try.func17, Try.ntmps17
    go_wp2_with fail
    refine cl.mono ?_
    rintro e w2 ⟨v2, rfl, o2, b2⟩
    have i1 := (I1.out.below b2 (Nat.le_refl _)).up b2.size
    have i2 := o2.inB
    obtain ⟨a2, c2, rfl, _⟩ := i2.slice
    have B2 := Box'.mk (B1.out.trans (b2.mono (by have := Z1.out; omega)))
    clear cl o2 b2 I1 B1 Z1
    have b3 := (AL.out w2 (.cells (ag mkZ) 5 (6, 7))).1
    have z3 := (AL.out w2 (.cells (ag mkZ) 5 (6, 7))).2
    have j1 := (i1.below b3 (Nat.le_refl _)).up b3.size
    have j2 := (i2.below b3 (Nat.le_refl _)).up b3.size
    have j3 := (MI.out w2 mkZ 6 rfl (6, 7)).up z3
    have bs := BT.out _ _ _ _ _ _ _ j1.inE j2.inE j3.inE
    have z4 := (AL.out (w2.alloc (.cells (ag mkZ) 5 (6, 7))) (.cells #[.slice (some ⟨w.heap.size, 0, none⟩) 6 6, .slice a2 D.length c2, .slice (some ⟨w2.heap.size, 0, none⟩) 6 6] 23)).2
    have b4 := (AL.out (w2.alloc (.cells (ag mkZ) 5 (6, 7))) (.cells #[.slice (some ⟨w.heap.size, 0, none⟩) 6 6, .slice a2 D.length c2, .slice (some ⟨w2.heap.size, 0, none⟩) 6 6] 23)).1
    have jj := J.out _ _ _ _ z4 bs (by simp) (by have := CL.out; simp [mkA, mkZ]; omega)
    have B4 := Box'.mk ((B2.out.trans (b3.mono B2.out.size)).trans (b4.mono (Nat.le_trans B2.out.size b3.size)))
    have hZ : ag mkZ = #[.int .u8 27, .int .u8 91, .int .u8 50, .int .u8 48, .int .u8 49, .int .u8 126] := rfl
    have hf : [mkA, D, mkZ].flatten = mkA ++ D ++ mkZ := by simp
    rw [hf] at jj
    rw [show (w2.alloc (.cells (ag mkZ) 5 (6, 7))).heap.size = w2.heap.size + 1 by simp] at jj
    rw [hZ] at jj B4
    clear b3 z3 b4 z4 j1 j2 j3 bs i1 i2 hZ hf B2
    go_wp2_with fail
    refine jj.mono ?_
    rintro e w5 ⟨v5, rfl, o5, b5⟩
    have O5 := Box'.mk o5.frB
    have B5 := Box'.mk (B4.out.trans (b5.mono B4.out.size))
    clear jj o5 b5
    go_wp2_with fail
    go_ret
    exact ⟨_, rfl, O5.out, B5.out⟩
/-- What is asked of a function that encodes: that its answer lies at the head of a row. -/
def EncF (f : Nat) : Prop := ∀ (N : Nat) (w : World) (vb : Value) (x : Ev) (ar pa : Bool), N ≤ w.heap.size → InE N w vb x.byt →
  Calls Try.prog f #[x.val vb, .bool ar, .bool pa] w fun e w' => ∃ u, e = .returned (.tuple #[u, .int .i64 (ansF x ar pa).2]) ∧ FrB w' u (ansF x ar pa).1 ∧ Below w.heap.size w w'

set_option maxRecDepth 100000 in
set_option maxHeartbeats 4000000 in
theorem encode_F : EncF 6 := by
  intro N w vb x ar pa hN hi
  have HA := Box'.mk (ansF.eq_1 x ar pa)
  have HE := Box'.mk (encF.eq_1 x ar pa)
  have ML := Box'.mk (may_len (x := x))
  generalize ansF x ar pa = R at *
  generalize hF : encF x ar pa = F at *
  obtain ⟨k, l, c, r, a⟩ := x
  unfold Ev.val
  simp only at hi HE ML ⊢
  obtain ⟨w0, hw0⟩ : ∃ w0, w0 = w.alloc (.cells #[.int .u8 (k.toNat : Int), vb, .int .i64 c, .int .i64 r, .int .u8 (a.toNat : Int)] 25) := ⟨_, rfl⟩
  have r0 : Row w0 w.heap.size 25 #[.int .u8 (k.toNat : Int), vb, .int .i64 c, .int .i64 r, .int .u8 (a.toNat : Int)] := by rw [hw0]; exact Row.new _ _ _
  have b0 : Below w.heap.size w w0 := by rw [hw0]; exact (Below.refl _ _).alloc (Nat.le_refl _) _
  have i0 := hi.below b0 hN
  obtain ⟨a1, c1, rfl, _⟩ := hi.slice
  have my := may_any (· < w0.heap.size) k.toNat c r a.toNat (.slice a1 l.length c1) l w0 (fun b h => h) (i0.up (by rw [hw0]; simp; omega)).bts
  have HM : Box' (mayN k.toNat l.length c r a.toNat = (Ev.mk k l c r a).may) := ⟨rfl⟩
  rw [HM.out] at my
  generalize (Ev.mk k l c r a).may = mm at *
  have Z0 : Box' (w.heap.size < w0.heap.size) := ⟨r0.lt⟩
  have R0 := Box'.mk r0
  have B0 := Box'.mk b0
  have I0 := Box'.mk i0
  clear hi r0 b0 i0 HM
  have C0 := Box'.mk (fun w1 (b : Below w0.heap.size w0 w1) => R0.out.below b Z0.out)
  generalize hn : l.length = n at *
  have HN := Box'.mk hn
  clear hn
  have hr := R0.out
  clear R0
  rw [hw0] at my hr
  cases mm with
  | false =>
    have RE : Box' (R = ([], 2)) := ⟨by rw [HA.out]; rfl⟩
    clear HA HE ML C0 I0
    go_enter Try.func6, Try.ntmps6
    go_wp2_with (first | (refine wpList_load_row rfl 25 (.tmp 3) rfl w.heap.size rfl 25 _ hr _ Try.underlying25 rfl 5 (by kernel_rfl) rfl ?_) | fail)
    refine my.mono ?_
    rw [← hw0]
    rintro e w1 ⟨rfl, b1⟩
    have B1 := Box'.mk (B0.out.trans (b1.mono B0.out.size))
    clear my b1 hw0 hr
    go_wp2_with fail
    go_ret2
    exact ⟨_, by rw [RE.out]; rfl, by rw [RE.out]; exact FrB.nil _, B1.out⟩
  | true =>
    have RE : Box' (R = (F, 0)) := ⟨by rw [HA.out]; rfl⟩
    have ml := ML.out rfl
    clear HA ML
    go_enter Try.func6, Try.ntmps6
    go_wp2_with (first | (refine wpList_load_row rfl 25 (.tmp 3) rfl w.heap.size rfl 25 _ hr _ Try.underlying25 rfl 5 (by kernel_rfl) rfl ?_) | fail)
    refine my.mono ?_
    rw [← hw0]
    rintro e w1 ⟨rfl, b1⟩
    have B1 := Box'.mk (B0.out.trans (b1.mono B0.out.size))
    have r1 := C0.out w1 b1
    have I1 := Box'.mk (I0.out.below b1 (Nat.le_trans hN (Nat.le_of_lt Z0.out)))
    have kc : w1.cell? ⟨w.heap.size, 0, none⟩ = some (.int .u8 (k.toNat : Int)) := by rw [r1.cell]; rfl
    have Z1 : Box' (w.heap.size < w1.heap.size) := ⟨r1.lt⟩
    clear my b1 hw0 C0 I0 B0 Z0 hr
    by_cases h1 : k.toNat = 1
    · have FE : Box' (F = l) := ⟨by rw [HE.out, if_pos h1]⟩
      have k1 : w1.cell? ⟨w.heap.size, 1, none⟩ = some (.slice a1 n c1) := by rw [r1.cell]; rfl
      have g1 : ((k.toNat : Int) == 1) = true := by rw [beq_iff_eq]; omega
      have bA : Below w1.heap.size w1 (w1.alloc (.cells #[.slice a1 n c1] 23)) := (Below.refl _ _).alloc (Nat.le_refl _) _
      have jj := joined_any _ _ _ _ (by simp) (Bss.one w1 _ _ (I1.out.up (Nat.le_trans hN (Nat.le_of_lt Z1.out)))) (by simp) (by have := HN.out; simp; omega)
      have hf : [l].flatten = l := by simp
      rw [hf] at jj
      have B2 := Box'.mk (B1.out.trans (bA.mono (Nat.le_of_lt Z1.out)))
      have ME : Box' (R.1 = l) := ⟨by rw [RE.out, FE.out]⟩
      have R2 : Box' (R.2 = 0) := ⟨by rw [RE.out]⟩
      clear HE r1 bA h1 I1 B1 RE FE ml hf
      go_wp2_with fail
      refine jj.mono ?_
      rintro e w3 ⟨v3, rfl, o3, b3⟩
      have O3 := Box'.mk o3.frB
      have B3 := Box'.mk (B2.out.trans (b3.mono B2.out.size))
      clear jj o3 b3
      go_wp2_with fail
      go_ret2
      exact ⟨_, by rw [R2.out]; rfl, by rw [ME.out]; exact O3.out, B3.out⟩
    · have g1 : ((k.toNat : Int) == 1) = false := by rw [beq_eq_false_iff_ne]; omega
      by_cases h4 : k.toNat = 4
      · have g4 : ((k.toNat : Int) == 4) = true := by rw [beq_iff_eq]; omega
        have k4 : w1.cell? ⟨w.heap.size, 4, none⟩ = some (.int .u8 (a.toNat : Int)) := by rw [r1.cell]; rfl
        have ME : Box' (R = ([27, if ar = true then 79 else 91, a], 0)) := ⟨by rw [RE.out, HE.out, if_neg h1, if_neg (by omega), if_pos h4]⟩
        have jj := arrow_any a ar w1
        clear HE RE r1 h1 h4 I1 ml
        go_wp2_with fail
        refine jj.mono ?_
        rintro e w3 ⟨v3, rfl, o3, b3⟩
        have O3 := Box'.mk o3
        have B3 := Box'.mk (B1.out.trans (b3.mono B1.out.size))
        clear jj o3 b3
        go_wp2_with fail
        go_ret2
        exact ⟨_, by rw [ME.out]; rfl, by rw [ME.out]; exact O3.out, B3.out⟩
      · have g4 : ((k.toNat : Int) == 4) = false := by rw [beq_eq_false_iff_ne]; omega
        by_cases h3 : k.toNat = 3
        · have g3 : ((k.toNat : Int) == 3) = true := by rw [beq_iff_eq]; omega
          have k1 : w1.cell? ⟨w.heap.size, 1, none⟩ = some (.slice a1 n c1) := by rw [r1.cell]; rfl
          have jj := paste_any N w1 _ l pa (Nat.le_trans hN (Nat.le_of_lt Z1.out)) I1.out (by have := HN.out; omega)
          have ME : Box' (R = (if pa = true then mkA ++ clean l ++ mkZ else clean l, 0)) := ⟨by rw [RE.out, HE.out, if_neg h1, if_pos h3]⟩
          clear HE RE r1 h1 h3 h4 I1 ml
          go_wp2_with fail
          refine jj.mono ?_
          rintro e w3 ⟨v3, rfl, o3, b3⟩
          have O3 := Box'.mk o3
          have B3 := Box'.mk (B1.out.trans (b3.mono B1.out.size))
          clear jj o3 b3
          go_wp2_with fail
          go_ret2
          exact ⟨_, by rw [ME.out]; rfl, by rw [ME.out]; exact O3.out, B3.out⟩
        · have g3 : ((k.toNat : Int) == 3) = false := by rw [beq_eq_false_iff_ne]; omega
          have RR : Box' (R = ([], 0)) := ⟨by rw [RE.out, HE.out, if_neg h1, if_neg h3, if_neg h4]⟩
          clear HE RE r1 h1 h3 h4 I1 ml
          go_wp2_with fail
          go_ret2
          exact ⟨_, by rw [RR.out]; rfl, by rw [RR.out]; exact FrB.nil _, B1.out⟩
theorem encode_C : EncC 6 := fun N w vb x ar pa h1 h2 => (encode_F N w vb x ar pa h1 h2).mono fun e w' ⟨u, q1, q2, q3⟩ => ⟨u, q1, q2.inB, q3⟩
end Go.Proofs.Ytepepoabbbjmgaa
