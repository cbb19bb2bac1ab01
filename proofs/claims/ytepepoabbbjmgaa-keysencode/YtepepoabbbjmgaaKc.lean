/- The walk of the reference's Encode. -/
import Derived.Test.YtepepoabbbjmgaaKb
import Derived.Test.YtepepoabbbjmgaaKk
namespace Go.Proofs.Ytepepoabbbjmgaa
open Go.RowKit Go.BigFrame
set_option linter.unusedSimpArgs false
set_option linter.unusedVariables false

set_option maxRecDepth 100000 in
set_option maxHeartbeats 4000000 in
theorem refEnc_any (N : Nat) (w : World) (vb : Value) (x : Ev) (ar pa : Bool) (hN : N ≤ w.heap.size) (hi : InE N w vb x.byt) :
    Calls Try.prog 7 #[x.val vb, .bool ar, .bool pa] w fun e w' => ∃ u, e = .returned (.tuple #[u, .int .i64 (ansF x ar pa).2]) ∧ OwnB w.heap.size w' u (ansF x ar pa).1 ∧ Below w.heap.size w w' := by
  have HA := Box'.mk (ansF.eq_1 x ar pa)
  have HE := Box'.mk (encF.eq_1 x ar pa)
  have ML := Box'.mk (may_len (x := x))
  have EL := Box'.mk (encF_len (x := x))
  generalize ansF x ar pa = R at *
  generalize hF : encF x ar pa = F at *
  obtain ⟨k, l, c, r, a⟩ := x
  unfold Ev.val
  simp only at hi HE ML ⊢
  obtain ⟨w0, hw0⟩ : ∃ w0, w0 = w.alloc (.cells #[.int .u8 (k.toNat : Int), vb, .int .i64 c, .int .i64 r, .int .u8 (a.toNat : Int)] 25) := ⟨_, rfl⟩
  have r0 : Row w0 w.heap.size 25 #[.int .u8 (k.toNat : Int), vb, .int .i64 c, .int .i64 r, .int .u8 (a.toNat : Int)] := by rw [hw0]; exact Row.new _ _ _
  have b0 : Below w.heap.size w w0 := by rw [hw0]; exact (Below.refl _ _).alloc (Nat.le_refl _) _
  have i0 := hi.below b0 hN
  obtain ⟨a1, c1, rfl, _⟩ := hi.slice
  have my := refMay_nat k.toNat l.length a.toNat c r a1 c1 w0
  have HM : Box' (mayN k.toNat l.length c r a.toNat = (Ev.mk k l c r a).may) := ⟨rfl⟩
  rw [HM.out] at my
  generalize (Ev.mk k l c r a).may = mm at *
  have Z0 : Box' (w.heap.size < w0.heap.size) := ⟨r0.lt⟩
  have R0 := Box'.mk r0
  have B0 := Box'.mk b0
  have I0 := Box'.mk i0
  clear hi r0 b0 i0 HM
  have c0 : ∀ w1, Below w0.heap.size w0 w1 → Row w1 w.heap.size 25 #[.int .u8 (k.toNat : Int), .slice a1 l.length c1, .int .i64 c, .int .i64 r, .int .u8 (a.toNat : Int)] := fun w1 b => R0.out.below b Z0.out
  have C0 := Box'.mk c0
  clear c0 R0
  generalize hn : l.length = n at *
  have HN := Box'.mk hn
  clear hn
  rw [hw0] at my
  cases mm with
  | false =>
    have RE : Box' (R = ([], 2)) := ⟨by rw [HA.out]; rfl⟩
    clear HA HE ML EL C0 I0
    go_enter Try.func7, Try.ntmps7
    go_wp2_with fail
    refine my.mono ?_
    rw [← hw0]
    rintro e w1 ⟨rfl, b1⟩
    have B1 := Box'.mk (B0.out.trans (b1.mono B0.out.size))
    clear my b1 hw0
    go_wp2_with fail
    go_ret2
    exact ⟨_, by rw [RE.out]; rfl, by rw [RE.out]; exact OwnB.nil _ _, B1.out⟩
  | true =>
    have RE : Box' (R = (F, 0)) := ⟨by rw [HA.out]; rfl⟩
    have ml := ML.out rfl
    clear HA ML
    go_enter Try.func7, Try.ntmps7
    go_wp2_with fail
    refine my.mono ?_
    rw [← hw0]
    rintro e w1 ⟨rfl, b1⟩
    have B1 := Box'.mk (B0.out.trans (b1.mono B0.out.size))
    have r1 := C0.out w1 b1
    have I1 := Box'.mk (I0.out.below b1 (Nat.le_trans hN (Nat.le_of_lt Z0.out)))
    have kc : w1.cell? ⟨w.heap.size, 0, none⟩ = some (.int .u8 (k.toNat : Int)) := by rw [r1.cell]; rfl
    have Z1 : Box' (w.heap.size < w1.heap.size) := ⟨r1.lt⟩
    clear my b1 hw0 C0 I0 B0 Z0
    by_cases h1 : k.toNat = 1
    · have FE : Box' (F = [] ++ l) := ⟨by rw [HE.out, if_pos h1]; rfl⟩
      have k1 : w1.cell? ⟨w.heap.size, 1, none⟩ = some (.slice a1 n c1) := by rw [r1.cell]; rfl
      have g1 : ((k.toNat : Int) == 1) = true := by rw [beq_iff_eq]; omega
      have ca := fun t (q : t < w1.heap.size) j => Below.cell (w := w1) (w' := w1.alloc (.cells #[] 5)) ((Below.refl w1.heap.size w1).alloc (Nat.le_refl _) _) (p := ⟨t, j, none⟩) q
      have oA : OwnB w.heap.size (w1.alloc (.cells #[] 5)) (.slice (some ⟨w1.heap.size, 0, none⟩) 0 0) [] := (Row.new w1 5 (ag [])).ownB (l := []) rfl (Nat.le_of_lt Z1.out) (by decide)
      have bA : Below w1.heap.size w1 (w1.alloc (.cells #[] 5)) := (Below.refl _ _).alloc (Nat.le_refl _) _
      have iA := I1.out.below bA (Nat.le_trans hN (Nat.le_of_lt Z1.out))
      have k1' : (w1.alloc (.cells #[] 5)).cell? ⟨w.heap.size, 1, none⟩ = some (.slice a1 n c1) := by rw [ca _ Z1.out]; exact k1
      have hz : w.heap.size ≤ (w1.alloc (.cells #[] 5)).heap.size := Nat.le_trans (Nat.le_of_lt Z1.out) (by simp)
      have B2 := Box'.mk (B1.out.trans (bA.mono (Nat.le_of_lt Z1.out)))
      have HL : Box' (([] : List UInt8).length + l.length ≤ 140737488355328) := ⟨by have := HN.out; simp; omega⟩
      have ME : Box' (∀ u w', OwnB w.heap.size w' u ([] ++ l) → OwnB w.heap.size w' u R.1) := ⟨fun u w' h => by rw [RE.out, FE.out]; exact h⟩
      have R2 : Box' (R.2 = 0) := ⟨by rw [RE.out]⟩
      clear HE EL r1 ca bA k1 h1 I1 B1 RE FE ml
      go_wp2_with (refine wpList_appE rfl (.tmp 16) (.tmp 18) rfl w.heap.size _ hz _ [] rfl oA _ l rfl iA HL.out ?_; intro v2 w2 o2 f2; have B3 := Box'.mk (B2.out.trans ((f2.below hz).mono (Nat.le_refl _))); have O2 := Box'.mk (ME.out v2 w2 o2); clear oA iA hz o2 f2 ME k1')
      go_ret2
      exact ⟨_, by rw [R2.out]; rfl, O2.out, B3.out⟩
    · have g1 : ((k.toNat : Int) == 1) = false := by rw [beq_eq_false_iff_ne]; omega
      by_cases h3 : k.toNat = 3
      · have g3 : ((k.toNat : Int) == 3) = true := by rw [beq_iff_eq]; omega
        have k1 : w1.cell? ⟨w.heap.size, 1, none⟩ = some (.slice a1 n c1) := by rw [r1.cell]; rfl
        have cl := refClean_any N w1 _ l (Nat.le_trans hN (Nat.le_of_lt Z1.out)) I1.out (by have := HN.out; omega)
        have FE : Box' (F = if pa = true then mkA ++ clean l ++ mkZ else clean l) := ⟨by rw [HE.out, if_neg h1, if_pos h3]⟩
        have CL : Box' ((clean l).length ≤ 4096) := ⟨by have := clean_len l; have := HN.out; omega⟩
        clear HE EL r1 h1 h3 I1 ml
        go_wp2_with fail
        refine cl.mono ?_
        rintro e w2 ⟨v2, rfl, o2, b2⟩
        have B2 := Box'.mk (B1.out.trans (b2.mono (Nat.le_of_lt Z1.out)))
        have Z2 : Box' (w.heap.size ≤ w2.heap.size) := ⟨B2.out.size⟩
        have O2 := Box'.mk (o2.less (Nat.le_of_lt Z1.out))
        have I2 := Box'.mk o2.inB
        clear cl b2 o2 kc k1
        cases pa with
        | false =>
          have ME : Box' (R = (clean l, 0)) := ⟨by rw [RE.out, FE.out]; rfl⟩
          clear RE FE
          go_wp2_with fail
          go_ret2
          exact ⟨_, by rw [ME.out]; rfl, by rw [ME.out]; exact O2.out, B2.out⟩
        | true =>
          have ME : Box' (∀ u w', OwnB w.heap.size w' u ((mkA ++ clean l) ++ mkZ) → OwnB w.heap.size w' u R.1) := ⟨fun u w' h => by rw [RE.out, FE.out]; exact h⟩
          have R2 : Box' (R.2 = 0) := ⟨by rw [RE.out]⟩
          have kv := fun (w : World) (C : Array Value) (n c : Nat) => Go.Lib.run_convert_bytes_const (P := Try.prog) w 23 5 C n c Try.underlying23 Try.underlying5
          have hm := heap_alloc_last w2 (.cells #[.int .u8 27, .int .u8 91, .int .u8 50, .int .u8 48, .int .u8 48, .int .u8 126] 5 (6, 7))
          have bA : Below w2.heap.size w2 (w2.alloc (.cells #[.int .u8 27, .int .u8 91, .int .u8 50, .int .u8 48, .int .u8 48, .int .u8 126] 5 (6, 7))) := (Below.refl _ _).alloc (Nat.le_refl _) _
          have iA := I2.out.below bA (Nat.le_refl _)
          have B3 := Box'.mk (B2.out.trans (bA.mono Z2.out))
          have HL : Box' (mkA.length + (clean l).length ≤ 140737488355328) := ⟨by have := CL.out; simp [mkA]; omega⟩
          have HL2 : Box' ((mkA ++ clean l).length + mkZ.length ≤ 140737488355328) := ⟨by have := CL.out; simp [mkA, mkZ]; omega⟩
          clear RE FE I2 O2 bA B2 CL
          generalize clean l = D at *
          go_wp2_with (first
            | (refine wpList_mk1 rfl (.tmp 27) (.tmp 28) rfl w.heap.size w2.heap.size mkA rfl hm Z2.out _ D _ rfl iA HL.out ?_; intro v3 w3 o3 b3; have O3 := Box'.mk o3; have B4 := Box'.mk (B3.out.trans (b3.mono B3.out.size)); clear iA hm o3 b3 B3 HL kv)
            | (refine wpList_mk2 rfl (.tmp 29) (.const (.string { data := #[27, 91, 50, 48, 49, 126] })) rfl w.heap.size mkA D _ rfl O3.out B4.out.size mkZ rfl (by decide) HL2.out ?_; intro v4 w4 o4 f4; have O4 := Box'.mk o4; have B5 := Box'.mk (B4.out.trans (f4.below B4.out.size)); clear o4 f4 O3 B4 HL2)
            | fail)
          go_ret2
          exact ⟨_, by rw [R2.out]; rfl, ME.out _ _ O4.out, B5.out⟩
      · have g3 : ((k.toNat : Int) == 3) = false := by rw [beq_eq_false_iff_ne]; omega
        by_cases h4 : k.toNat = 4
        · have g4 : ((k.toNat : Int) == 4) = true := by rw [beq_iff_eq]; omega
          have k4 : w1.cell? ⟨w.heap.size, 4, none⟩ = some (.int .u8 (a.toNat : Int)) := by rw [r1.cell]; rfl
          have RR : Box' (R = ([27, if ar = true then 79 else 91, a], 0)) := ⟨by rw [RE.out, HE.out, if_neg h1, if_neg h3, if_pos h4]⟩
          have OA : Box' (∀ q : UInt8, OwnB w.heap.size (w1.alloc (.cells #[.int .u8 27, .int .u8 (q.toNat : Int), .int .u8 (a.toNat : Int)] 5)) (.slice (some ⟨w1.heap.size, 0, none⟩) 3 3) [27, q, a]) := ⟨fun q => (Row.new w1 5 (ag [27, q, a])).ownB (l := [27, q, a]) rfl (Nat.le_of_lt Z1.out) (by decide)⟩
          have BA : Box' (∀ o, Below w.heap.size w (w1.alloc o)) := ⟨fun o => B1.out.alloc (Nat.le_of_lt Z1.out) o⟩
          clear HE EL RE r1 h1 h3 h4 I1 ml B1
          cases ar with
          | true =>
            have o2 := Box'.mk (OA.out 79)
            clear OA
            go_wp2_with fail
            go_ret2
            exact ⟨_, by rw [RR.out]; rfl, by rw [RR.out]; exact o2.out, BA.out _⟩
          | false =>
            have o2 := Box'.mk (OA.out 91)
            clear OA
            go_wp2_with fail
            go_ret2
            exact ⟨_, by rw [RR.out]; rfl, by rw [RR.out]; exact o2.out, BA.out _⟩
        · have g4 : ((k.toNat : Int) == 4) = false := by rw [beq_eq_false_iff_ne]; omega
          have RR : Box' (R = ([], 0)) := ⟨by rw [RE.out, HE.out, if_neg h1, if_neg h3, if_neg h4]⟩
          clear HE EL RE r1 h1 h3 h4 I1 ml
          go_wp2_with fail
          go_ret2
          exact ⟨_, by rw [RR.out]; rfl, by rw [RR.out]; exact OwnB.nil _ _, B1.out⟩
end Go.Proofs.Ytepepoabbbjmgaa
