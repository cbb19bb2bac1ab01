/- The walk of Deflate. -/
import Derived.Test.YtcjfaahlchbcmaaZ51
import Derived.Test.YtcjfaahlchbcmaaZ49
import Derived.Test.YtcjfaahlchbcmaaZ18
import Derived.Test.YtcjfaahlchbcmaaZ05
namespace Go.Proofs.Ytcjfaahlchbcmaa
open Go.RowKit Go.BigFrame
set_option linter.unusedVariables false
set_option linter.unusedSimpArgs false

theorem ownB_down {N M : Nat} {w : World} {v : Value} {d : List UInt8} (h : OwnB N w v d) (hm : M ≤ N) : OwnB M w v d := by
  rcases h with ⟨h1, h2 | ⟨g, cap, cur, e1, e2, e3⟩⟩
  · exact ⟨h1, .inl h2⟩
  · exact ⟨h1, .inr ⟨g, cap, cur, e1, Nat.le_trans hm e2, e3⟩⟩
/-- A value of three slices. -/
def Way3 (u : Value) : Prop := ∃ (a0 a1 a2 : Option Addr) (n0 m0 n1 m1 n2 m2 : Nat), u = .agg #[.slice a0 n0 m0, .slice a1 n1 m1, .slice a2 n2 m2]
structure WayK (w : World) (T : List Tok) (s : Int) (D : List (Nat × Int)) (P : World → Value → Prop) : Prop where
  three : ∀ w1 u, P w1 u → Way3 u
  keep : ∀ w1 w2 u, P w1 u → Below w1.heap.size w1 w2 → P w2 u
  size : ∀ w1 u v, P w1 u → OwnT w.heap.size w1 v T → Calls Try.prog 32 #[u, v] w1 fun e w' => e = .returned (.int .i64 s) ∧ Below w1.heap.size w1 w'
  write : ∀ w1 u v, P w1 u → OwnT w.heap.size w1 v T → Calls Try.prog 23 #[u, v] w1 fun e w' => ∃ x, e = .returned (.tuple #[x, .int .i64 (Gf.cntE D)]) ∧ Wrote w1 w' D x ∧ Below w1.heap.size w1 w'
/-- What Deflate comes to. -/
def DefR (N : Nat) (w' : World) (S : List UInt8) (s : Int) (D : List (Nat × Int)) (u : Value) (E : Int) : Prop :=
  (min (S.length : Int) 65536 < s ∧ E = 0 ∧ OwnB N w' u S) ∨ (s ≤ min (S.length : Int) 65536 ∧ E = Gf.cntE D ∧ ∃ w1, N ≤ w1.heap.size ∧ Wrote w1 w' D u)
set_option maxRecDepth 100000 in
set_option maxHeartbeats 8000000 in
theorem deflate_walk (w : World) (vb : Value) (T : List Tok) (S : List UInt8) (sF sO : Int) (DF DO : List (Nat × Int)) (PF PO : World → Value → Prop) (hSl : S.length ≤ 100000)
    (hM : Calls Try.prog 14 #[vb] w fun e w' => ∃ v, e = .returned (.tuple #[v, .int .i64 0]) ∧ OwnT w.heap.size w' v T ∧ Below w.heap.size w w')
    (hS : ∀ w1, Below w.heap.size w w1 → Calls Try.prog 9 #[vb] w1 fun e w' => ∃ u, e = .returned (.tuple #[u, .int .i64 0]) ∧ OwnB w1.heap.size w' u S ∧ Below w1.heap.size w1 w')
    (hF : ∀ w1, Calls Try.prog 21 #[] w1 fun e w' => ∃ u, e = .returned u ∧ PF w' u ∧ Below w1.heap.size w1 w')
    (hO : ∀ w1 v, OwnT w.heap.size w1 v T → Calls Try.prog 22 #[v] w1 fun e w' => ∃ u, e = .returned u ∧ PO w' u ∧ Below w1.heap.size w1 w')
    (kF : WayK w T sF DF PF) (kO : WayK w T sO DO PO) :
    Calls Try.prog 13 #[vb] w fun e w' => ∃ u E, e = .returned (.tuple #[u, .int .i64 E]) ∧ DefR w.heap.size w' S (if sO < sF then sO else sF) (if sO < sF then DO else DF) u E ∧ Below w.heap.size w w' := by
  obtain ⟨s, hs⟩ : ∃ s, (if sO < sF then sO else sF) = s := ⟨_, rfl⟩
  obtain ⟨D, hD⟩ : ∃ D, (if sO < sF then DO else DF) = D := ⟨_, rfl⟩
  rw [hs, hD]
  have HSS := Box'.mk hs
  have HDD := Box'.mk hD
  clear hs hD
  have HM := Box'.mk hM
  have HS := Box'.mk hS
  have HF := Box'.mk hF
  have HO := Box'.mk hO
  have HSL := Box'.mk hSl
  clear hM hS hF hO hSl
  go_enter Try.func13, Try.ntmps13
  go_wp2_with fail
  refine HM.out.mono ?_
  rintro e w1 ⟨v, rfl, o1, b1⟩
  obtain ⟨ta, tc, rfl⟩ := o1.slice
  have O1 := Box'.mk o1
  have B1 := Box'.mk b1
  clear o1 b1 HM
  generalize T.length = tl at *
  go_wp2_with fail
  refine (HS.out w1 B1.out).mono ?_
  rintro e w2 ⟨u2, rfl, o2, b2⟩
  obtain ⟨sa, sc, rfl⟩ := o2.slice
  have B2 : Box' (Below w.heap.size w w2) := ⟨B1.out.trans (b2.mono B1.out.size)⟩
  have S2 : Box' (OwnB w.heap.size w2 (.slice sa S.length sc) S) := ⟨ownB_down o2 B1.out.size⟩
  have T2 := Box'.mk (O1.out.below b2)
  clear HS O1 B1 o2 b2
  have hSl := HSL.out
  generalize hsl : S.length = sl at *
  have HE := Box'.mk hsl
  clear hsl
  go_wp2_with fail
  refine (HF.out w2).mono ?_
  rintro e w3 ⟨uF, rfl, p3, b3⟩
  have B3 : Box' (Below w.heap.size w w3) := ⟨B2.out.trans (b3.mono B2.out.size)⟩
  have S3 := Box'.mk (S2.out.below b3)
  have T3 := Box'.mk (T2.out.below b3)
  obtain ⟨a0, a1, a2, n0, m0, n1, m1, n2, m2, rfl⟩ := kF.three w3 uF p3
  have P3 := Box'.mk p3
  clear HF B2 S2 T2 b3 p3
  go_wp2_with fail
  refine (HO.out w3 _ T3.out).mono ?_
  rintro e w4 ⟨uO, rfl, p4, b4⟩
  have B4 : Box' (Below w.heap.size w w4) := ⟨B3.out.trans (b4.mono B3.out.size)⟩
  have S4 := Box'.mk (S3.out.below b4)
  have T4 := Box'.mk (T3.out.below b4)
  have F4 := Box'.mk (kF.keep _ _ _ P3.out b4)
  obtain ⟨b0, b1, b2, k0, l0, k1, l1, k2, l2, rfl⟩ := kO.three w4 uO p4
  have P4 := Box'.mk p4
  clear HO B3 S3 T3 b4 p4 P3
  go_wp2_with fail
  obtain ⟨w5, hw5⟩ : ∃ w5, w4.alloc (.cells #[.slice b0 k0 l0, .slice b1 k1 l1, .slice b2 k2 l2] 50) = w5 := ⟨_, rfl⟩
  rw [hw5]
  have b5 : Below w4.heap.size w4 w5 := by rw [← hw5]; exact (Below.refl _ _).alloc (Nat.le_refl _) _
  have r5 : Row w5 w4.heap.size 50 #[.slice b0 k0 l0, .slice b1 k1 l1, .slice b2 k2 l2] := by rw [← hw5]; exact Row.new _ _ _
  have B5 : Box' (Below w.heap.size w w5) := ⟨B4.out.trans (b5.mono B4.out.size)⟩
  have S5 := Box'.mk (S4.out.below b5)
  have T5 := Box'.mk (T4.out.below b5)
  have F5 := Box'.mk (kF.keep _ _ _ F4.out b5)
  have O5 := Box'.mk (kO.keep _ _ _ P4.out b5)
  have SH := Box'.mk (shortest_is w5 (.slice ta tl tc) a0 a1 a2 b0 b1 b2 n0 m0 n1 m1 n2 m2 k0 l0 k1 l1 k2 l2 w4.heap.size sF sO (fun w' hb' => kF.size _ _ _ (kF.keep _ _ _ F5.out hb') (T5.out.below hb')) (fun w' hb' => kO.size _ _ _ (kO.keep _ _ _ O5.out hb') (T5.out.below hb')) (r5.cell 0) (r5.cell 1) (r5.cell 2) r5.lt)
  clear b5 r5 hw5 B4 S4 T4 F4 P4
  refine SH.out.mono ?_
  rintro e w6 ⟨rfl, b6⟩
  clear SH
  have B6 : Box' (Below w.heap.size w w6) := ⟨B5.out.trans (b6.mono B5.out.size)⟩
  have S6 := Box'.mk (S5.out.below b6)
  have T6 := Box'.mk (T5.out.below b6)
  have key : ∃ (xa ya za : Option Addr) (xn xm yn ym zn zm : Nat) (PB : World → Value → Prop), (if sO < sF then Value.agg #[.slice b0 k0 l0, .slice b1 k1 l1, .slice b2 k2 l2] else .agg #[.slice a0 n0 m0, .slice a1 n1 m1, .slice a2 n2 m2]) = .agg #[.slice xa xn xm, .slice ya yn ym, .slice za zn zm] ∧ PB w6 (.agg #[.slice xa xn xm, .slice ya yn ym, .slice za zn zm]) ∧ WayK w T (if sO < sF then sO else sF) (if sO < sF then DO else DF) PB := by
    by_cases hlt : sO < sF
    · simp only [if_pos hlt]
      exact ⟨b0, b1, b2, k0, l0, k1, l1, k2, l2, PO, rfl, kO.keep _ _ _ O5.out b6, kO⟩
    · simp only [if_neg hlt]
      exact ⟨a0, a1, a2, n0, m0, n1, m1, n2, m2, PF, rfl, kF.keep _ _ _ F5.out b6, kF⟩
  obtain ⟨xa, ya, za, xn, xm, yn, ym, zn, zm, PB, e0, pB, kB⟩ := key
  rw [HSS.out, HDD.out] at kB
  rw [e0, HSS.out]
  clear HSS HDD
  have PB6 := Box'.mk pB
  have KB := Box'.mk kB
  clear B5 S5 T5 F5 O5 b6 e0 pB kB kF kO
  obtain ⟨w7, hw7⟩ : ∃ w7, w6.alloc (.cells #[.slice xa xn xm, .slice ya yn ym, .slice za zn zm] 50) = w7 := ⟨_, rfl⟩
  have b7 : Below w6.heap.size w6 w7 := by rw [← hw7]; exact (Below.refl _ _).alloc (Nat.le_refl _) _
  have B7 : Box' (Below w.heap.size w w7) := ⟨B6.out.trans (b7.mono B6.out.size)⟩
  have S7 := Box'.mk (S6.out.below b7)
  have T7 := Box'.mk (T6.out.below b7)
  have P7 := Box'.mk (KB.out.keep _ _ _ PB6.out b7)
  have HW7 := Box'.mk hw7
  clear B6 S6 T6 PB6 b7 hw7
  by_cases hm : (sl : Int) ≤ 65536
  · by_cases hlt : (sl : Int) < s
    · have RES : Box' (DefR w.heap.size w7 S s D (.slice sa sl sc) 0) := ⟨.inl ⟨by rw [HE.out]; omega, rfl, S7.out⟩⟩
      clear S7 T7 P7 KB HE
      go_wp2_with fail
      rw [HW7.out]
      go_ret2
      exact ⟨_, _, rfl, RES.out, B7.out⟩
    · have WR := Box'.mk (KB.out.write w7 _ _ P7.out T7.out)
      have HLT : Box' (s ≤ min (S.length : Int) 65536) := ⟨by rw [HE.out]; omega⟩
      clear S7 T7 P7 KB HE
      go_wp2_with fail
      rw [HW7.out]
      refine WR.out.mono ?_
      rintro e w8 ⟨x, rfl, o8, b8⟩
      have RES : Box' (DefR w.heap.size w8 S s D x (Gf.cntE D)) := ⟨.inr ⟨HLT.out, rfl, w7, B7.out.size, o8⟩⟩
      have B8 : Box' (Below w.heap.size w w8) := ⟨B7.out.trans (b8.mono B7.out.size)⟩
      clear WR o8 b8 B7 HLT HW7
      generalize Gf.cntE D = ce at *
      go_wp2_with fail
      go_ret2
      exact ⟨_, _, rfl, RES.out, B8.out⟩
  · by_cases hlt : (65536 : Int) < s
    · have RES : Box' (DefR w.heap.size w7 S s D (.slice sa sl sc) 0) := ⟨.inl ⟨by rw [HE.out]; omega, rfl, S7.out⟩⟩
      clear S7 T7 P7 KB HE
      go_wp2_with fail
      rw [HW7.out]
      go_ret2
      exact ⟨_, _, rfl, RES.out, B7.out⟩
    · have WR := Box'.mk (KB.out.write w7 _ _ P7.out T7.out)
      have HLT : Box' (s ≤ min (S.length : Int) 65536) := ⟨by rw [HE.out]; omega⟩
      clear S7 T7 P7 KB HE
      go_wp2_with fail
      rw [HW7.out]
      refine WR.out.mono ?_
      rintro e w8 ⟨x, rfl, o8, b8⟩
      have RES : Box' (DefR w.heap.size w8 S s D x (Gf.cntE D)) := ⟨.inr ⟨HLT.out, rfl, w7, B7.out.size, o8⟩⟩
      have B8 : Box' (Below w.heap.size w w8) := ⟨B7.out.trans (b8.mono B7.out.size)⟩
      clear WR o8 b8 B7 HLT HW7
      generalize Gf.cntE D = ce at *
      go_wp2_with fail
      go_ret2
      exact ⟨_, _, rfl, RES.out, B8.out⟩
end Go.Proofs.Ytcjfaahlchbcmaa
