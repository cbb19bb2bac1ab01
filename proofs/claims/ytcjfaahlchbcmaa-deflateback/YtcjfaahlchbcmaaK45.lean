

import Derived.Test.YtcjfaahlchbcmaaK05
import Derived.Deep.RegionHeld3
namespace Go.Proofs.Ytcjfaahlchbcmaa
open Go.RowKit Go.BigFrame
set_option linter.unusedVariables false
set_option linter.unusedSimpArgs false
theorem bcellx {N : Nat} {w w' : World} (hb : Below N w w') {p o : Nat} {v : Value} (hp : p < N) (h : w.cell? ⟨p, o, none⟩ = some v) : w'.cell? ⟨p, o, none⟩ = some v := by
  rw [hb.cell (p := ⟨p, o, none⟩) hp]; exact h
theorem held3 {N : Nat} {w w' : World} (hb : Below N w w') {p : Nat} {v0 v1 v2 : Value} (hp : p < N) (h : w.cell? ⟨p, 0, none⟩ = some v0 ∧ w.cell? ⟨p, 1, none⟩ = some v1 ∧ w.cell? ⟨p, 2, none⟩ = some v2) :
    w'.cell? ⟨p, 0, none⟩ = some v0 ∧ w'.cell? ⟨p, 1, none⟩ = some v1 ∧ w'.cell? ⟨p, 2, none⟩ = some v2 :=
  ⟨bcellx hb hp h.1, bcellx hb hp h.2.1, bcellx hb hp h.2.2⟩
theorem hnew {w w' : World} {c : Array Value} (hb : Below (w.alloc (.cells c 50)).drew.heap.size (w.alloc (.cells c 50)).drew w') : Row w' w.heap.size 50 c :=
  (Row.new w 50 c).drew.below hb (by simp)
set_option maxRecDepth 100000 in
set_option maxHeartbeats 8000000 in
theorem shortest_is (w : World) (vT : Value) (a0 a1 a2 b0 b1 b2 : Option Addr) (n0 m0 n1 m1 n2 m2 k0 l0 k1 l1 k2 l2 : Nat) (g : Nat) (sF sO : Int)
   (hF : ∀ w', Below w.heap.size w w' → Calls Try.prog 32 #[.agg #[.slice a0 n0 m0, .slice a1 n1 m1, .slice a2 n2 m2], vT] w' fun e w'' => e = .returned (.int .i64 sF) ∧ Below w'.heap.size w' w'')
   (hOc : ∀ w', Below w.heap.size w w' → Calls Try.prog 32 #[.agg #[.slice b0 k0 l0, .slice b1 k1 l1, .slice b2 k2 l2], vT] w' fun e w'' => e = .returned (.int .i64 sO) ∧ Below w'.heap.size w' w'')
   (c0 : w.cell? ⟨g, 0, none⟩ = some (.slice b0 k0 l0)) (c1 : w.cell? ⟨g, 1, none⟩ = some (.slice b1 k1 l1)) (c2 : w.cell? ⟨g, 2, none⟩ = some (.slice b2 k2 l2)) (hg : g < w.heap.size) :
    Calls Try.prog 20 #[vT, .agg #[.slice a0 n0 m0, .slice a1 n1 m1, .slice a2 n2 m2], .slice (some ⟨g, 0, none⟩) 1 1] w fun e w' => e = .returned (.tuple #[if sO < sF then .agg #[.slice b0 k0 l0, .slice b1 k1 l1, .slice b2 k2 l2] else .agg #[.slice a0 n0 m0, .slice a1 n1 m1, .slice a2 n2 m2], .int .i64 (if sO < sF then sO else sF)]) ∧ Below w.heap.size w w' := by
  have HF := Box'.mk hF
  have HOC := Box'.mk hOc
  have HC0 := Box'.mk c0
  have HC1 := Box'.mk c1
  have HC2 := Box'.mk c2
  obtain ⟨RV, hRV⟩ : ∃ RV : Value, (if sO < sF then .agg #[.slice b0 k0 l0, .slice b1 k1 l1, .slice b2 k2 l2] else .agg #[.slice a0 n0 m0, .slice a1 n1 m1, .slice a2 n2 m2]) = RV := ⟨_, rfl⟩
  obtain ⟨RS, hRS⟩ : ∃ RS : Int, (if sO < sF then sO else sF) = RS := ⟨_, rfl⟩
  rw [hRV, hRS]
  have HRV := Box'.mk hRV
  have HRS := Box'.mk hRS
  clear hRV hRS hF hOc c0 c1 c2
  go_enter Try.func20, Try.ntmps20
  go_wp2_with fail
  generalize hW0 : World.alloc (World.alloc w _) _ = W0
  have hb0 : Below w.heap.size w W0 := by rw [← hW0]; exact ((Below.refl _ _).alloc (Nat.le_refl _) _).alloc (by simp) _
  have r0 : Row W0 w.heap.size 50 #[.slice a0 n0 m0, .slice a1 n1 m1, .slice a2 n2 m2] := by rw [← hW0]; exact (Row.new w 50 _).alloc _
  have r1 : Row W0 (w.heap.size + 1) 50 #[.slice none 0 0, .slice none 0 0, .slice none 0 0] := by
    rw [← hW0]
    have := Row.new (w.alloc (.cells #[.slice a0 n0 m0, .slice a1 n1 m1, .slice a2 n2 m2] 50)) 50 #[.slice none 0 0, .slice none 0 0, .slice none 0 0]
    rwa [show (w.alloc (.cells #[.slice a0 n0 m0, .slice a1 n1 m1, .slice a2 n2 m2] 50)).heap.size = w.heap.size + 1 by simp] at this
  have hl0 := r0.lt
  generalize hp : w.heap.size = p at *
  have d0 : W0.cell? ⟨p, 0, none⟩ = some (.slice a0 n0 m0) := r0.cell 0
  have d1 : W0.cell? ⟨p, 1, none⟩ = some (.slice a1 n1 m1) := r0.cell 1
  have d2 : W0.cell? ⟨p, 2, none⟩ = some (.slice a2 n2 m2) := r0.cell 2
  have HL0 := Box'.mk hl0
  have HB0 := Box'.mk hb0
  have HR1 := Box'.mk r1
  clear hW0 r0 hl0 hb0 r1
  go_region_held3 (fun w' => w'.cell? ⟨p, 0, none⟩ = some (.slice a0 n0 m0) ∧ w'.cell? ⟨p, 1, none⟩ = some (.slice a1 n1 m1) ∧ w'.cell? ⟨p, 2, none⟩ = some (.slice a2 n2 m2)) (first | go_keep | assumption | (exact ⟨by assumption, by assumption, by assumption⟩)) (first
    | (go_at_call 32; refine (HF.out _ HB0.out.drew).mono ?_; rintro e w3 ⟨rfl, b3⟩; have e3 := held3 (p := p) b3 (by exact HL0.out) (by assumption); have hn3 : p ≠ w3.heap.size := (by have h1 := b3.size; have h2 := HL0.out; simp at h1; omega); have hn3' := hn3.symm)
    | (go_at_call 32; refine (HF.out _ (HB0.out.alloc (by have h2 := HL0.out; omega) _).drew).mono ?_; rintro e w3 ⟨rfl, b3⟩; have e3 := held3 (p := p) b3 (by have := HL0.out; simp; omega) (by assumption); have hn3 : p ≠ W0.heap.size := (by have h2 := HL0.out; omega); have hn3' := hn3.symm; have n3 := Box'.mk (hnew b3); have g0 : w3.cell? ⟨W0.heap.size, 0, none⟩ = some (.slice none 0 0) := n3.out.cell 0; have g1 : w3.cell? ⟨W0.heap.size, 1, none⟩ = some (.slice none 0 0) := n3.out.cell 1; have g2 : w3.cell? ⟨W0.heap.size, 2, none⟩ = some (.slice none 0 0) := n3.out.cell 2; have f0 := n3.out.frozen 0; have f1 := n3.out.frozen 1; have f2 := n3.out.frozen 2))
  · have HB1 : Box' (Below p w (w3.alloc (.cells #[.slice a0 n0 m0, .slice a1 n1 m1, .slice a2 n2 m2] 50))) := ⟨(HB0.out.drew.trans (b3.mono (by exact Nat.le_of_lt HL0.out))).alloc (by have h1 := b3.size; have h2 := HL0.out; simp at h1; omega) _⟩
    have HQ : Box' (Row (w3.alloc (.cells #[.slice a0 n0 m0, .slice a1 n1 m1, .slice a2 n2 m2] 50)) w3.heap.size 50 #[.slice a0 n0 m0, .slice a1 n1 m1, .slice a2 n2 m2]) := ⟨Row.new _ _ _⟩
    have HR : Box' (Row (w3.alloc (.cells #[.slice a0 n0 m0, .slice a1 n1 m1, .slice a2 n2 m2] 50)) (p + 1) 50 #[.slice none 0 0, .slice none 0 0, .slice none 0 0]) := ⟨(HR1.out.drew.below b3 (by exact HR1.out.lt)).alloc _⟩
    have HE : Box' (p + 1 < w3.heap.size) := ⟨by have h1 := b3.size; have h2 := HR1.out.lt; simp at h1; omega⟩
    generalize World.alloc w3 _ = W1 at *
    generalize w3.heap.size = q at *
    clear d0 d1 d2 HL0 HB0 HR1 b3 e3 hn3 hn3' HF
    go_wp2_with fail
    go_loopw [9, 19] (fun u i wr => Box' (Below p w wr) ∧ Box' (Row wr (p + 1) 50 #[.slice none 0 0, .slice none 0 0, .slice none 0 0]) ∧ ((u = .int .i64 sF ∧ i = .int .i64 0 ∧ Box' (Row wr q 50 #[.slice a0 n0 m0, .slice a1 n1 m1, .slice a2 n2 m2])) ∨ (u = .int .i64 RS ∧ i = .int .i64 1 ∧ ∃ (xa ya za : Option Addr) (xn xm yn ym zn zm : Nat), Box' (Row wr q 50 #[.slice xa xn xm, .slice ya yn ym, .slice za zn zm]) ∧ Box' (RV = .agg #[.slice xa xn xm, .slice ya yn ym, .slice za zn zm])))) (fun _ i _ => 1 - (intOf i).toNat)
    case atStart => exact ⟨HB1, HR, .inl ⟨rfl, rfl, HQ⟩⟩
    case round =>
      obtain ⟨BB, RR, hor⟩ := hrel
      clear HB1 HR HQ
      rcases hor with ⟨rfl, rfl, QQ⟩ | ⟨rfl, rfl, xa, ya, za, xn, xm, yn, ym, zn, zm, QQ, VV⟩
      · have c0 : wr.cell? ⟨g, 0, none⟩ = some (.slice b0 k0 l0) := bcellx BB.out hg HC0.out
        have c1 : wr.cell? ⟨g, 1, none⟩ = some (.slice b1 k1 l1) := bcellx BB.out hg HC1.out
        have c2 : wr.cell? ⟨g, 2, none⟩ = some (.slice b2 k2 l2) := bcellx BB.out hg HC2.out
        go_wp2_with fail
        refine (HOC.out _ (BB.out.alloc (by have h1 := BB.out.size; omega) _)).mono ?_
        rintro e w4 ⟨rfl, b4⟩
        have hqs : q < wr.heap.size := QQ.out.lt
        have hqp : p + 1 < q := HE.out
        have B4 : Box' (Below p w w4) := ⟨(BB.out.alloc (by omega) _).trans (b4.mono (by simp; omega))⟩
        have R4 : Box' (Row w4 (p + 1) 50 #[.slice none 0 0, .slice none 0 0, .slice none 0 0]) := ⟨(RR.out.alloc _).below b4 (by simp; omega)⟩
        have Q4 : Box' (Row w4 q 50 #[.slice a0 n0 m0, .slice a1 n1 m1, .slice a2 n2 m2]) := ⟨(QQ.out.alloc _).below b4 (by simp; omega)⟩
        have N4 : Row w4 wr.heap.size 50 #[.slice b0 k0 l0, .slice b1 k1 l1, .slice b2 k2 l2] := (Row.new _ _ _).below b4 (by simp)
        have h0 : w4.cell? ⟨wr.heap.size, 0, none⟩ = some (.slice b0 k0 l0) := N4.cell 0
        have h1 : w4.cell? ⟨wr.heap.size, 1, none⟩ = some (.slice b1 k1 l1) := N4.cell 1
        have h2 : w4.cell? ⟨wr.heap.size, 2, none⟩ = some (.slice b2 k2 l2) := N4.cell 2
        have g0 : w4.cell? ⟨q, 0, none⟩ = some (.slice a0 n0 m0) := Q4.out.cell 0
        have g1 : w4.cell? ⟨q, 1, none⟩ = some (.slice a1 n1 m1) := Q4.out.cell 1
        have g2 : w4.cell? ⟨q, 2, none⟩ = some (.slice a2 n2 m2) := Q4.out.cell 2
        have f0 := Q4.out.frozen 0
        have f1 := Q4.out.frozen 1
        have f2 := Q4.out.frozen 2
        clear BB RR QQ b4 N4 c0 c1 c2
        generalize wr.heap.size = z at *
        by_cases hlt : sO < sF
        · have F := HRV.out
          rw [if_pos hlt] at F
          have F' := HRS.out
          rw [if_pos hlt] at F'
          have FB := Box'.mk F
          have FB' := Box'.mk F'
          clear F F' HRV HRS HOC HC0 HC1 HC2
          go_wp2_with fail
          refine ⟨⟨⟨((B4.out.setCell (by show p ≤ q; omega) _).setCell (by show p ≤ q; omega) _).setCell (by show p ≤ q; omega) _⟩, ⟨((R4.out.setOther _ _ (by show p + 1 ≠ q; omega)).setOther _ _ (by show p + 1 ≠ q; omega)).setOther _ _ (by show p + 1 ≠ q; omega)⟩, .inr ⟨by rw [FB'.out], rfl, b0, b1, b2, k0, l0, k1, l1, k2, l2, ⟨((Q4.out.setCell 0 _).setCell 1 _).setCell 2 _⟩, ⟨FB.out.symm⟩⟩⟩, by simp [intOf]⟩
        · have F := HRV.out
          rw [if_neg hlt] at F
          have F' := HRS.out
          rw [if_neg hlt] at F'
          have FB := Box'.mk F
          have FB' := Box'.mk F'
          clear F F' HRV HRS HOC HC0 HC1 HC2
          go_wp2_with fail
          refine ⟨⟨B4, R4, .inr ⟨by rw [FB'.out], rfl, a0, a1, a2, n0, m0, n1, m1, n2, m2, Q4, ⟨FB.out.symm⟩⟩⟩, by simp [intOf]⟩
      · have c0 : wr.cell? ⟨q, 0, none⟩ = some (.slice xa xn xm) := QQ.out.cell 0
        have c1 : wr.cell? ⟨q, 1, none⟩ = some (.slice ya yn ym) := QQ.out.cell 1
        have c2 : wr.cell? ⟨q, 2, none⟩ = some (.slice za zn zm) := QQ.out.cell 2
        have g0 : wr.cell? ⟨p + 1, 0, none⟩ = some (.slice none 0 0) := RR.out.cell 0
        have g1 : wr.cell? ⟨p + 1, 1, none⟩ = some (.slice none 0 0) := RR.out.cell 1
        have g2 : wr.cell? ⟨p + 1, 2, none⟩ = some (.slice none 0 0) := RR.out.cell 2
        have f0 := RR.out.frozen 0
        have f1 := RR.out.frozen 1
        have f2 := RR.out.frozen 2
        go_wp2_with fail
        have RES : Box' (Below w.heap.size w (((wr.setCell ⟨p + 1, 0, none⟩ (.slice xa xn xm)).setCell ⟨p + 1, 1, none⟩ (.slice ya yn ym)).setCell ⟨p + 1, 2, none⟩ (.slice za zn zm))) := ⟨by rw [hp]; exact ((BB.out.setCell (by show p ≤ p + 1; omega) _).setCell (by show p ≤ p + 1; omega) _).setCell (by show p ≤ p + 1; omega) _⟩
        exact bodyPost_ret (results_row_slot rfl _ _ rfl _ rfl _ _ (((RR.out.setCell 0 _).setCell 1 _).setCell 2 _) _ Try.underlying50 rfl 3 (by kernel_rfl) rfl) rfl ⟨by rw [VV.out]; rfl, RES.out⟩
  · have HB1 : Box' (Below p w (((w3.setCell ⟨W0.heap.size, 0, none⟩ (.slice a0 n0 m0)).setCell ⟨W0.heap.size, 1, none⟩ (.slice a1 n1 m1)).setCell ⟨W0.heap.size, 2, none⟩ (.slice a2 n2 m2))) := ⟨by
      have h2 := HL0.out
      have h3 : Below p w w3 := (HB0.out.alloc (Nat.le_of_lt h2) _).drew.trans (b3.mono (by simp; omega))
      have hl : p ≤ W0.heap.size := Nat.le_of_lt h2
      exact ((h3.setCell (by exact hl) _).setCell (by exact hl) _).setCell (by exact hl) _⟩
    have HQ : Box' (Row (((w3.setCell ⟨W0.heap.size, 0, none⟩ (.slice a0 n0 m0)).setCell ⟨W0.heap.size, 1, none⟩ (.slice a1 n1 m1)).setCell ⟨W0.heap.size, 2, none⟩ (.slice a2 n2 m2)) W0.heap.size 50 #[.slice a0 n0 m0, .slice a1 n1 m1, .slice a2 n2 m2]) := ⟨((n3.out.setCell 0 _).setCell 1 _).setCell 2 _⟩
    have HR : Box' (Row (((w3.setCell ⟨W0.heap.size, 0, none⟩ (.slice a0 n0 m0)).setCell ⟨W0.heap.size, 1, none⟩ (.slice a1 n1 m1)).setCell ⟨W0.heap.size, 2, none⟩ (.slice a2 n2 m2)) (p + 1) 50 #[.slice none 0 0, .slice none 0 0, .slice none 0 0]) := ⟨by
      have h2 := HR1.out.lt
      have hne : p + 1 ≠ W0.heap.size := by omega
      exact ((((HR1.out.alloc _).drew.below b3 (by simp; omega)).setOther _ _ hne).setOther _ _ hne).setOther _ _ hne⟩
    have HE : Box' (p + 1 < W0.heap.size) := ⟨HR1.out.lt⟩
    generalize World.setCell (World.setCell (World.setCell w3 _ _) _ _) _ _ = W1 at *
    generalize W0.heap.size = q at *
    clear d0 d1 d2 HL0 HB0 HR1 b3 e3 hn3 hn3' HF n3 g0 g1 g2 f0 f1 f2
    go_wp2_with fail
    go_loopw [9, 19] (fun u i wr => Box' (Below p w wr) ∧ Box' (Row wr (p + 1) 50 #[.slice none 0 0, .slice none 0 0, .slice none 0 0]) ∧ ((u = .int .i64 sF ∧ i = .int .i64 0 ∧ Box' (Row wr q 50 #[.slice a0 n0 m0, .slice a1 n1 m1, .slice a2 n2 m2])) ∨ (u = .int .i64 RS ∧ i = .int .i64 1 ∧ ∃ (xa ya za : Option Addr) (xn xm yn ym zn zm : Nat), Box' (Row wr q 50 #[.slice xa xn xm, .slice ya yn ym, .slice za zn zm]) ∧ Box' (RV = .agg #[.slice xa xn xm, .slice ya yn ym, .slice za zn zm])))) (fun _ i _ => 1 - (intOf i).toNat)
    case atStart => exact ⟨HB1, HR, .inl ⟨rfl, rfl, HQ⟩⟩
    case round =>
      obtain ⟨BB, RR, hor⟩ := hrel
      clear HB1 HR HQ
      rcases hor with ⟨rfl, rfl, QQ⟩ | ⟨rfl, rfl, xa, ya, za, xn, xm, yn, ym, zn, zm, QQ, VV⟩
      · have c0 : wr.cell? ⟨g, 0, none⟩ = some (.slice b0 k0 l0) := bcellx BB.out hg HC0.out
        have c1 : wr.cell? ⟨g, 1, none⟩ = some (.slice b1 k1 l1) := bcellx BB.out hg HC1.out
        have c2 : wr.cell? ⟨g, 2, none⟩ = some (.slice b2 k2 l2) := bcellx BB.out hg HC2.out
        go_wp2_with fail
        refine (HOC.out _ (BB.out.alloc (by have h1 := BB.out.size; omega) _)).mono ?_
        rintro e w4 ⟨rfl, b4⟩
        have hqs : q < wr.heap.size := QQ.out.lt
        have hqp : p + 1 < q := HE.out
        have B4 : Box' (Below p w w4) := ⟨(BB.out.alloc (by omega) _).trans (b4.mono (by simp; omega))⟩
        have R4 : Box' (Row w4 (p + 1) 50 #[.slice none 0 0, .slice none 0 0, .slice none 0 0]) := ⟨(RR.out.alloc _).below b4 (by simp; omega)⟩
        have Q4 : Box' (Row w4 q 50 #[.slice a0 n0 m0, .slice a1 n1 m1, .slice a2 n2 m2]) := ⟨(QQ.out.alloc _).below b4 (by simp; omega)⟩
        have N4 : Row w4 wr.heap.size 50 #[.slice b0 k0 l0, .slice b1 k1 l1, .slice b2 k2 l2] := (Row.new _ _ _).below b4 (by simp)
        have h0 : w4.cell? ⟨wr.heap.size, 0, none⟩ = some (.slice b0 k0 l0) := N4.cell 0
        have h1 : w4.cell? ⟨wr.heap.size, 1, none⟩ = some (.slice b1 k1 l1) := N4.cell 1
        have h2 : w4.cell? ⟨wr.heap.size, 2, none⟩ = some (.slice b2 k2 l2) := N4.cell 2
        have g0 : w4.cell? ⟨q, 0, none⟩ = some (.slice a0 n0 m0) := Q4.out.cell 0
        have g1 : w4.cell? ⟨q, 1, none⟩ = some (.slice a1 n1 m1) := Q4.out.cell 1
        have g2 : w4.cell? ⟨q, 2, none⟩ = some (.slice a2 n2 m2) := Q4.out.cell 2
        have f0 := Q4.out.frozen 0
        have f1 := Q4.out.frozen 1
        have f2 := Q4.out.frozen 2
        clear BB RR QQ b4 N4 c0 c1 c2
        generalize wr.heap.size = z at *
        by_cases hlt : sO < sF
        · have F := HRV.out
          rw [if_pos hlt] at F
          have F' := HRS.out
          rw [if_pos hlt] at F'
          have FB := Box'.mk F
          have FB' := Box'.mk F'
          clear F F' HRV HRS HOC HC0 HC1 HC2
          go_wp2_with fail
          refine ⟨⟨⟨((B4.out.setCell (by show p ≤ q; omega) _).setCell (by show p ≤ q; omega) _).setCell (by show p ≤ q; omega) _⟩, ⟨((R4.out.setOther _ _ (by show p + 1 ≠ q; omega)).setOther _ _ (by show p + 1 ≠ q; omega)).setOther _ _ (by show p + 1 ≠ q; omega)⟩, .inr ⟨by rw [FB'.out], rfl, b0, b1, b2, k0, l0, k1, l1, k2, l2, ⟨((Q4.out.setCell 0 _).setCell 1 _).setCell 2 _⟩, ⟨FB.out.symm⟩⟩⟩, by simp [intOf]⟩
        · have F := HRV.out
          rw [if_neg hlt] at F
          have F' := HRS.out
          rw [if_neg hlt] at F'
          have FB := Box'.mk F
          have FB' := Box'.mk F'
          clear F F' HRV HRS HOC HC0 HC1 HC2
          go_wp2_with fail
          refine ⟨⟨B4, R4, .inr ⟨by rw [FB'.out], rfl, a0, a1, a2, n0, m0, n1, m1, n2, m2, Q4, ⟨FB.out.symm⟩⟩⟩, by simp [intOf]⟩
      · have c0 : wr.cell? ⟨q, 0, none⟩ = some (.slice xa xn xm) := QQ.out.cell 0
        have c1 : wr.cell? ⟨q, 1, none⟩ = some (.slice ya yn ym) := QQ.out.cell 1
        have c2 : wr.cell? ⟨q, 2, none⟩ = some (.slice za zn zm) := QQ.out.cell 2
        have g0 : wr.cell? ⟨p + 1, 0, none⟩ = some (.slice none 0 0) := RR.out.cell 0
        have g1 : wr.cell? ⟨p + 1, 1, none⟩ = some (.slice none 0 0) := RR.out.cell 1
        have g2 : wr.cell? ⟨p + 1, 2, none⟩ = some (.slice none 0 0) := RR.out.cell 2
        have f0 := RR.out.frozen 0
        have f1 := RR.out.frozen 1
        have f2 := RR.out.frozen 2
        go_wp2_with fail
        have RES : Box' (Below w.heap.size w (((wr.setCell ⟨p + 1, 0, none⟩ (.slice xa xn xm)).setCell ⟨p + 1, 1, none⟩ (.slice ya yn ym)).setCell ⟨p + 1, 2, none⟩ (.slice za zn zm))) := ⟨by rw [hp]; exact ((BB.out.setCell (by show p ≤ p + 1; omega) _).setCell (by show p ≤ p + 1; omega) _).setCell (by show p ≤ p + 1; omega) _⟩
        exact bodyPost_ret (results_row_slot rfl _ _ rfl _ rfl _ _ (((RR.out.setCell 0 _).setCell 1 _).setCell 2 _) _ Try.underlying50 rfl 3 (by kernel_rfl) rfl) rfl ⟨by rw [VV.out]; rfl, RES.out⟩
end Go.Proofs.Ytcjfaahlchbcmaa
