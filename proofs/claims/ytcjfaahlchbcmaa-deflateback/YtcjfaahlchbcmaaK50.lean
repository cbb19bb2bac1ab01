/- The walk of the reference's stored. The walk of the reference's coded. -/
import Derived.Test.YtcjfaahlchbcmaaK49
import Derived.Test.YtcjfaahlchbcmaaK05
import Derived.Test.YtcjfaahlchbcmaaK01
namespace Go.Proofs.Ytcjfaahlchbcmaa
open Go.RowKit Go.BigFrame Gt
def REnds (K : Nat → Prop) (N : Nat) (w : World) (sb : Nat) (vb : Value) (b : List UInt8) (most : Nat) (r : Except Int (Nat × List UInt8)) (e : Ending) (w' : World) : Prop :=
  e = .returned (.tuple #[]) ∧ Kp K w w' ∧ ((∃ q o, r = .ok (q, o) ∧ Rs K N w' sb vb b q o most (.int .i64 0)) ∨ (∃ x q o, r = .error x ∧ x ≠ 0 ∧ Rs K N w' sb vb b q o most (.int .i64 x)))
theorem results27 (T : Array Value) (w : World) : (results Try.f27 T).run Try.prog w = .ok (.tuple #[]) w := by
  unfold results
  simp [go_sem]
theorem Rs.cell4 {K : Nat → Prop} {N : Nat} {w : World} {sb : Nat} {vb : Value} {b : List UInt8} {p : Nat} {out : List UInt8} {most : Nat} {fx : Value} (h : Rs K N w sb vb b p out most fx) : w.cell? ⟨sb, 4, none⟩ = some fx := by
  obtain ⟨vo, hr, _⟩ := h.row
  rw [hr.cell]; rfl
theorem tk_ok {b : List UInt8} {p n v q : Nat} (h : tkF b p n = .ok (v, q)) : p + n ≤ 8 * b.length ∧ v = nbr b p n ∧ q = p + n := by
  unfold tkF at h
  split at h
  · rename_i h1; cases h; exact ⟨h1, rfl, rfl⟩
  · cases h
theorem tk_err {b : List UInt8} {p n : Nat} {x : Int} (h : tkF b p n = .error x) : ¬ p + n ≤ 8 * b.length ∧ x = 7 := by
  unfold tkF at h
  split at h
  · cases h
  · rename_i h1; cases h; exact ⟨h1, rfl⟩
set_option maxRecDepth 100000 in
set_option maxHeartbeats 4000000 in
theorem rstored_any (K : Nat → Prop) (N : Nat) (w : World) (sb : Nat) (vb : Value) (b : List UInt8) (p : Nat) (out : List UInt8) (most : Nat) (h : Rs K N w sb vb b p out most (.int .i64 0)) :
    Calls Try.prog 27 #[.pointer (some ⟨sb, 0, none⟩)] w (REnds K N w sb vb b most (storedF b most p out)) := by
  have DF := Box'.mk (storedF.eq_1 b most p out)
  generalize storedF b most p out = R0 at *
  have PS := Box'.mk (puts_step b most)
  have hpl := h.pl
  have hbl := h.bl
  obtain ⟨vo, hr, ho⟩ := h.row
  have c1 : w.cell? ⟨sb, 1, none⟩ = some (.int .i64 (p : Int)) := by rw [hr.cell]; rfl
  have f1 := hr.frozen 1
  have hp0 : (((p + 7) / 8 * 8 : Nat) : Int) = ((p : Int) + 7) / 8 * 8 := by omega
  have st0 := h.at_ ((p + 7) / 8 * 8) (by omega)
  have kp0 := (Kp.refl K w).setCell sb 1 h.sbK (.int .i64 (((p + 7) / 8 * 8 : Nat) : Int))
  have tk1 := rtake_any K N _ sb vb b _ out most 16 (by decide) st0
  rw [hp0] at tk1 kp0
  have KP0 := Box'.mk kp0
  clear hr ho h st0 kp0 hp0
  generalize (p + 7) / 8 * 8 = p0 at *
  go_enter Try.func27, Try.ntmps27
  go_wp2_with fail
  refine tk1.mono ?_
  clear tk1
  rintro e w1 ⟨kp1, ⟨v1, q1, e1, rfl, st1⟩ | ⟨x, e1, hx, rfl, st1⟩⟩
  case inr =>
    obtain ⟨hs, rfl⟩ := tk_err e1
    have tk2 := rtake_err K N w1 sb vb b p0 out most 7 hx 16 st1
    have c4 := st1.cell4
    have RES : Box' (REnds K N w sb vb b most R0 (.returned (.tuple #[])) w1) := ⟨rfl, KP0.out.trans kp1, .inr ⟨7, _, _, by rw [DF.out, if_neg hs], hx, st1⟩⟩
    clear e1 hs kp1 st1 DF hx c1 f1 KP0
    go_wp2_with fail
    refine tk2.mono ?_
    clear tk2
    rintro e w2 ⟨rfl, rfl⟩
    go_wp2_with fail
    go_loopw [4] (fun i wr => i = .int .i64 0 ∧ Box' (wr = w2)) (fun _ _ => 0)
    case atStart => exact ⟨rfl, ⟨rfl⟩⟩
    case round =>
      obtain ⟨rfl, HW⟩ := hrel
      obtain rfl := HW.out
      clear HW
      go_wp2_with fail
      all_goals exact ⟨rfl, _, results27 _ _, RES.out⟩
  obtain ⟨hs1, rfl, rfl⟩ := tk_ok e1
  have KP1 := Box'.mk (KP0.out.trans kp1)
  have DF1 := DF.out
  rw [if_pos hs1] at DF1
  have DFB := Box'.mk DF1
  have hv1 : nbr b p0 16 < 65536 := nbr_lt b p0 16
  have tk2 := rtake_any K N w1 sb vb b (p0 + 16) out most 16 (by decide) st1
  clear DF DF1 e1 kp1 st1 KP0 hs1 c1 f1
  generalize nbr b p0 16 = n at *
  go_wp2_with fail
  refine tk2.mono ?_
  clear tk2
  rintro e w2 ⟨kp2, ⟨v2, q2, e2, rfl, st2⟩ | ⟨x, e2, hx, rfl, st2⟩⟩
  case inr =>
    obtain ⟨hs, rfl⟩ := tk_err e2
    have c4 := st2.cell4
    have RES : Box' (REnds K N w sb vb b most R0 (.returned (.tuple #[])) w2) := ⟨rfl, KP1.out.trans kp2, .inr ⟨7, _, _, by rw [DFB.out, if_neg (by omega)], hx, st2⟩⟩
    clear e2 hs kp2 st2 DFB hx KP1
    go_wp2_with fail
    go_loopw [4] (fun i wr => i = .int .i64 0 ∧ Box' (wr = w2)) (fun _ _ => 0)
    case atStart => exact ⟨rfl, ⟨rfl⟩⟩
    case round =>
      obtain ⟨rfl, HW⟩ := hrel
      obtain rfl := HW.out
      clear HW
      go_wp2_with fail
      all_goals exact ⟨rfl, _, results27 _ _, RES.out⟩
  obtain ⟨hs2, rfl, rfl⟩ := tk_ok e2
  have KP2 := Box'.mk (KP1.out.trans kp2)
  have DF1 := DFB.out
  rw [if_pos (by omega)] at DF1
  have DFC := Box'.mk DF1
  have hv2 : nbr b (p0 + 16) 16 < 65536 := nbr_lt b (p0 + 16) 16
  have c4 := st2.cell4
  have ST2 := Box'.mk st2
  clear DFB DF1 e2 kp2 st2 KP1 hs2
  generalize nbr b (p0 + 16) 16 = m at *
  by_cases hnm : n + m = 65535
  case neg =>
    have hnm' : ((n : Int) + (m : Int) != 65535) = true := by simp only [bne_iff_ne, ne_eq]; omega
    have hf := rfail_any K N w2 sb vb b (p0 + 16 + 16) out most 8 ST2.out
    have E0 : Box' (R0 = .error 8) := ⟨by rw [DFC.out, if_neg hnm]⟩
    clear DFC hnm ST2
    go_wp2_with fail
    refine hf.mono ?_
    clear hf
    rintro e w3 ⟨rfl, kp3, st3⟩
    have c4 := st3.cell4
    have RES : Box' (REnds K N w sb vb b most R0 (.returned (.tuple #[])) w3) := ⟨rfl, KP2.out.trans kp3, .inr ⟨8, _, _, E0.out, by decide, st3⟩⟩
    clear kp3 st3 KP2
    go_wp2_with fail
    go_loopw [4] (fun i wr => i = .int .i64 0 ∧ Box' (wr = w3)) (fun _ _ => 0)
    case atStart => exact ⟨rfl, ⟨rfl⟩⟩
    case round =>
      obtain ⟨rfl, HW⟩ := hrel
      obtain rfl := HW.out
      clear HW
      go_wp2_with fail
      all_goals exact ⟨rfl, _, results27 _ _, RES.out⟩
  case pos =>
    have E0 : Box' (R0 = putsF b most n (p0 + 16 + 16) out) := ⟨by rw [DFC.out, if_pos hnm]⟩
    have hnm' : ((n : Int) + (m : Int) != 65535) = false := by rw [bne_eq_false_iff_eq]; omega
    clear DFC hnm
    go_wp2_with fail
    go_loopw [4] (fun i wr => ∃ (k p' : Nat) (o : List UInt8) (er : Int), k ≤ n ∧ i = .int .i64 (k : Int) ∧ Box' (Rs K N wr sb vb b p' o most (.int .i64 er)) ∧ Box' (Kp K w wr) ∧ ((er = 0 ∧ Box' (R0 = putsF b most (n - k) p' o)) ∨ (er ≠ 0 ∧ Box' (R0 = .error er)))) (fun i _ => n - (intOf i).toNat)
    case atStart => exact ⟨0, _, _, 0, by omega, rfl, ST2, KP2, .inl ⟨rfl, E0⟩⟩
    case round =>
      clear ST2 KP2 E0 c4
      obtain ⟨k, p', o, er, hk, rfl, ST, KP, ⟨rfl, HE⟩ | ⟨her, HE⟩⟩ := hrel
      · have c4 := ST.out.cell4
        by_cases hlt : k < n
        · have EK := HE.out
          rw [show n - k = (n - (k + 1)) + 1 by omega, PS.out] at EK
          have EKB := Box'.mk EK
          have hkd : decide ((k : Int) < (n : Int)) = true := decide_eq_true (by omega)
          have tk := rtake_any K N wr sb vb b p' o most 8 (by decide) ST.out
          clear EK HE
          go_wp2_with fail
          refine tk.mono ?_
          clear tk
          rintro e w3 ⟨kp3, ⟨v3, q3, e3, rfl, st3⟩ | ⟨x, e3, hx, rfl, st3⟩⟩
          · obtain ⟨hs3, rfl, rfl⟩ := tk_ok e3
            have hv3 : nbr b p' 8 < 256 := nbr_lt b p' 8
            have tl := rtell_any K N w3 sb vb b (p' + 8) o most (UInt8.ofNat (nbr b p' 8)) st3
            rw [UInt8.toNat_ofNat_of_lt' (by exact hv3)] at tl
            have EK := EKB.out
            rw [if_pos hs3] at EK
            have EKC := Box'.mk EK
            have KP3 := Box'.mk (KP.out.trans kp3)
            clear EK EKB e3 kp3 st3 hs3 c4 ST KP
            generalize nbr b p' 8 = v3 at *
            go_wp2_with fail
            refine tl.mono ?_
            clear tl
            rintro e w4 ⟨rfl, kp4, ⟨h1, st4⟩ | ⟨h1, st4⟩⟩
            · have EK := EKC.out
              rw [if_neg (by omega)] at EK
              have EKD := Box'.mk EK
              have KP4 := Box'.mk (KP3.out.trans kp4)
              have ST4 := Box'.mk st4
              clear EK EKC kp4 st4 KP3
              go_wp2_with fail
              exact ⟨⟨k + 1, _, _, 0, by omega, by go_num, ST4, KP4, .inl ⟨rfl, EKD⟩⟩, by simp [intOf]; omega⟩
            · have EK := EKC.out
              rw [if_pos h1] at EK
              have EKD := Box'.mk EK
              have KP4 := Box'.mk (KP3.out.trans kp4)
              have ST4 := Box'.mk st4
              clear EK EKC kp4 st4 KP3 h1
              go_wp2_with fail
              exact ⟨⟨k + 1, _, _, 4, by omega, by go_num, ST4, KP4, .inr ⟨by decide, EKD⟩⟩, by simp [intOf]; omega⟩
          · obtain ⟨hs3, rfl⟩ := tk_err e3
            have tl := rtell_err K N w3 sb vb b p' o most 7 hx 0 st3
            have EK := EKB.out
            rw [if_neg hs3] at EK
            have EKC := Box'.mk EK
            have KP3 := Box'.mk (KP.out.trans kp3)
            have HX := Box'.mk hx
            clear EK EKB e3 kp3 st3 hs3 c4 ST KP hx
            go_wp2_with fail
            refine tl.mono ?_
            clear tl
            rintro e w4 ⟨rfl, kp4, st4⟩
            have KP4 := Box'.mk (KP3.out.trans kp4)
            have ST4 := Box'.mk st4
            clear kp4 st4 KP3
            go_wp2_with fail
            exact ⟨⟨k + 1, _, _, 7, by omega, by go_num, ST4, KP4, .inr ⟨HX.out, EKC⟩⟩, by simp [intOf]; omega⟩
        · obtain rfl : k = n := by omega
          have EK := HE.out
          rw [Nat.sub_self] at EK
          have hkd : decide ((k : Int) < (k : Int)) = false := decide_eq_false (by omega)
          have RES : Box' (REnds K N w sb vb b most R0 (.returned (.tuple #[])) wr) := ⟨rfl, KP.out, .inl ⟨_, _, EK, ST.out⟩⟩
          clear EK HE ST KP c4
          go_wp2_with fail
          exact ⟨rfl, _, results27 _ _, RES.out⟩
      · have c4 := ST.out.cell4
        have her' : (er == 0) = false := by rw [beq_eq_false_iff_ne]; exact her
        have RES : Box' (REnds K N w sb vb b most R0 (.returned (.tuple #[])) wr) := ⟨rfl, KP.out, .inr ⟨er, _, _, HE.out, her, ST.out⟩⟩
        clear HE ST KP her
        go_wp2_with fail
        all_goals exact ⟨rfl, _, results27 _ _, RES.out⟩
open Go.RowKit Go.BigFrame Gt
theorem results29 (T : Array Value) (w : World) : (results Try.f29 T).run Try.prog w = .ok (.tuple #[]) w := by
  unfold results
  simp [go_sem]
def mr (n : Nat) (w : World) (sb : Nat) : Nat := if intOf ((w.cell? ⟨sb, 4, none⟩).getD undef) = 0 then 8 * n + 2 - (intOf ((w.cell? ⟨sb, 1, none⟩).getD undef)).toNat else 0
theorem mr_ok {K : Nat → Prop} {N : Nat} {w : World} {sb : Nat} {vb : Value} {b : List UInt8} {p : Nat} {out : List UInt8} {most : Nat} (h : Rs K N w sb vb b p out most (.int .i64 0)) : mr b.length w sb = 8 * b.length + 2 - p := by
  obtain ⟨vo, hr, _⟩ := h.row
  unfold mr
  rw [hr.cell, hr.cell]
  rfl
theorem mea_tk (base extra : Nat) (e0 : Int) (b : List UInt8) (q : Nat) : meaF ((base : Int), (extra : Int), e0) b q = if e0 = 0 then (match tkF b q extra with | .ok (v, q1) => .ok (base + v, q1) | .error x => .error x) else .error 8 := by
  unfold meaF tkF
  simp only [Int.toNat_natCast]
  split
  · split <;> rfl
  · rfl
theorem mr_bad {K : Nat → Prop} {N : Nat} {w : World} {sb : Nat} {vb : Value} {b : List UInt8} {p : Nat} {out : List UInt8} {most : Nat} {x : Int} (h : Rs K N w sb vb b p out most (.int .i64 x)) (hx : x ≠ 0) : mr b.length w sb = 0 := by
  obtain ⟨vo, hr, _⟩ := h.row
  unfold mr
  rw [hr.cell, hr.cell]
  exact if_neg hx
set_option maxRecDepth 100000 in
set_option maxHeartbeats 8000000 in
theorem rcoded_any (K : Nat → Prop) (N : Nat) (w : World) (sb : Nat) (vb : Value) (b : List UInt8) (p : Nat) (out : List UInt8) (most : Nat) (v1 v2 : Value) (l1 l2 : List Int) (hc1 : Gf.chkE l1 = 0) (hc2 : Gf.chkE l2 = 0)
    (hi1 : ∀ w', Kp K w w' → Ints w'.heap.size w' v1 l1) (hi2 : ∀ w', Kp K w w' → Ints w'.heap.size w' v2 l2) (h : Rs K N w sb vb b p out most (.int .i64 0)) :
    Calls Try.prog 29 #[.pointer (some ⟨sb, 0, none⟩), v1, v2] w (REnds K N w sb vb b most (toldF l1 l2 b most (8 * b.length + 1) p out)) := by
  have h512 := (good_of hc1).2.2
  have h512' := (good_of hc2).2.2
  have SY1 : Box' (∀ w' q o, Kp K w w' → Rs K N w' sb vb b q o most (.int .i64 0) → Calls Try.prog 49 #[.pointer (some ⟨sb, 0, none⟩), v1] w' (TEnds K N w' sb vb b q o most (rdF l1 b q))) := ⟨fun w' q o kp st => rsym_any K N w' sb vb b q o most v1 l1 (by omega) hc1 (hi1 w' kp) st⟩
  have SY2 : Box' (∀ w' q o, Kp K w w' → Rs K N w' sb vb b q o most (.int .i64 0) → Calls Try.prog 49 #[.pointer (some ⟨sb, 0, none⟩), v2] w' (TEnds K N w' sb vb b q o most (rdF l2 b q))) := ⟨fun w' q o kp st => rsym_any K N w' sb vb b q o most v2 l2 (by omega) hc2 (hi2 w' kp) st⟩
  have LT1 : Box' (∀ q s q', rdF l1 b q = .ok (s, q') → s < 512 ∧ q < q') := ⟨fun q s q' hh => ⟨by have := rdF_lt hh; omega, rdF_gt hh⟩⟩
  have LT2 : Box' (∀ q s q', rdF l2 b q = .ok (s, q') → s < 512 ∧ q < q') := ⟨fun q s q' hh => ⟨by have := rdF_lt hh; omega, rdF_gt hh⟩⟩
  obtain ⟨R0, hR0⟩ : ∃ R0, R0 = toldF l1 l2 b most (8 * b.length + 1) p out := ⟨_, rfl⟩
  rw [← hR0]
  have HR0 := Box'.mk hR0
  have TS := Box'.mk (told_step l1 l2 b most)
  have ST0 := Box'.mk h
  clear hc1 hc2 hi1 hi2 h hR0 h512 h512'
  go_enter Try.func29, Try.ntmps29
  go_wp2_with fail
  go_loopw [6] (fun _ wr => ∃ (f p' : Nat) (o : List UInt8) (er : Int), Box' (Rs K N wr sb vb b p' o most (.int .i64 er)) ∧ Box' (Kp K w wr) ∧ ((er = 0 ∧ Box' (R0 = toldF l1 l2 b most f p' o ∧ 8 * b.length + 1 ≤ p' + f)) ∨ (er ≠ 0 ∧ Box' (R0 = .error er)))) (fun _ wr => mr b.length wr sb)
  case atStart => exact ⟨8 * b.length + 1, p, out, 0, ST0, ⟨Kp.refl _ _⟩, .inl ⟨rfl, ⟨HR0.out, by omega⟩⟩⟩
  case round =>
    clear HR0 ST0
    obtain ⟨f, p', o, er, ST, KP, ⟨rfl, HE⟩ | ⟨her, HE⟩⟩ := hrel
    case inr =>
      have c4 := ST.out.cell4
      have her' : (er == 0) = false := by rw [beq_eq_false_iff_ne]; exact her
      have RES : Box' (REnds K N w sb vb b most R0 (.returned (.tuple #[])) wr) := ⟨rfl, KP.out, .inr ⟨er, _, _, HE.out, her, ST.out⟩⟩
      clear HE ST KP her
      go_wp2_with fail
      exact ⟨rfl, _, results29 _ _, RES.out⟩
    case inl =>
    have hpl := ST.out.pl
    have hol := ST.out.ol
    have hml := ST.out.ml
    obtain ⟨f', rfl⟩ : ∃ f', f = f' + 1 := ⟨f - 1, by have := HE.out.2; omega⟩
    obtain ⟨wo, hwo⟩ : ∃ wo, wo = wr := ⟨_, rfl⟩
    subst hwo
    have HF : Box' (8 * b.length + 1 ≤ p' + (f' + 1)) := ⟨HE.out.2⟩
    have EK := HE.out.1
    rw [(TS.out f' p' o).out] at EK
    have EK1 := Box'.mk EK
    have HM0 : Box' (mr b.length wo sb = 8 * b.length + 2 - p') := ⟨mr_ok ST.out⟩
    have c4 := ST.out.cell4
    have sy := SY1.out wo p' o KP.out ST.out
    clear EK HE
    go_wp2_with fail
    refine sy.mono ?_
    clear sy
    rintro e w1 ⟨kp1, ⟨s, q, hrd, rfl, st1⟩ | ⟨x, hrd, hx, rfl, st1⟩⟩
    case inr =>
      have c4 := st1.cell4
      have hx' : (x != 0) = true := by simpa using hx
      have RES : Box' (REnds K N w sb vb b most R0 (.returned (.tuple #[])) w1) := ⟨rfl, KP.out.trans kp1, .inr ⟨x, _, _, by rw [EK1.out, hrd], hx, st1⟩⟩
      clear hrd hx kp1 st1 EK1
      go_wp2_with fail
      exact ⟨rfl, _, results29 _ _, RES.out⟩
    case inl =>
    obtain ⟨hs5, hqg⟩ := LT1.out _ _ _ hrd
    have EK := EK1.out
    rw [hrd] at EK
    have EK2 : Box' (R0 = if s = 256 then .ok (q, o)
        else if s < 256 then (if o.length = most then .error 4 else toldF l1 l2 b most f' q (o ++ [UInt8.ofNat s]))
        else match meaF (Gf.lenT s) b q with
        | .error x => .error x
        | .ok (len, q1) => match rdF l2 b q1 with
          | .error x => .error x
          | .ok (d, q2) => match meaF (Gf.disT d) b q2 with
            | .error x => .error x
            | .ok (dist, q3) => match againF most q3 len dist o with
              | .error x => .error x
              | .ok (p', out') => toldF l1 l2 b most f' p' out') := ⟨EK⟩
    have KP1 := Box'.mk (KP.out.trans kp1)
    have ST1 := Box'.mk st1
    have c4 := st1.cell4
    clear EK EK1 hrd kp1 st1 KP ST
    by_cases h256 : s = 256
    · subst h256
      have RES : Box' (REnds K N w sb vb b most R0 (.returned (.tuple #[])) w1) := ⟨rfl, KP1.out, .inl ⟨q, o, EK2.out, ST1.out⟩⟩
      clear EK2
      go_wp2_with fail
      exact ⟨rfl, _, results29 _ _, RES.out⟩
    have EK := EK2.out
    rw [if_neg h256] at EK
    have hb256 : ((s : Int) == 256) = false := by rw [beq_eq_false_iff_ne]; omega
    by_cases hlt : s < 256
    · rw [if_pos hlt] at EK
      have tl := rtell_any K N w1 sb vb b q o most (UInt8.ofNat s) ST1.out
      rw [UInt8.toNat_ofNat_of_lt' (by exact hlt)] at tl
      have EKB := Box'.mk EK
      clear EK EK2 h256
      go_wp2_with fail
      refine tl.mono ?_
      clear tl
      rintro e w2 ⟨rfl, kp2, ⟨h1, st2⟩ | ⟨h1, st2⟩⟩
      · have EK := EKB.out
        rw [if_neg (by omega)] at EK
        have KP2 := Box'.mk (KP1.out.trans kp2)
        have ST2 := Box'.mk st2
        have hql := st2.pl
        have EKN : Box' (R0 = toldF l1 l2 b most f' q (o ++ [UInt8.ofNat s]) ∧ 8 * b.length + 1 ≤ q + f') := ⟨EK, by have := HF.out; omega⟩
        have HMM : Box' (mr b.length w2 sb < mr b.length wo sb) := ⟨by rw [HM0.out, mr_ok st2]; omega⟩
        clear EK EKB kp2 st2
        go_wp2_with fail
        exact ⟨⟨f', q, _, 0, ST2, KP2, .inl ⟨rfl, EKN⟩⟩, HMM.out⟩
      · have EK := EKB.out
        rw [if_pos h1] at EK
        have KP2 := Box'.mk (KP1.out.trans kp2)
        have ST2 := Box'.mk st2
        have EKN := Box'.mk EK
        have HMM : Box' (mr b.length w2 sb < mr b.length wo sb) := ⟨by rw [HM0.out, mr_bad st2 (by decide)]; omega⟩
        clear EK EKB kp2 st2 h1
        go_wp2_with fail
        exact ⟨⟨0, q, _, 4, ST2, KP2, .inr ⟨by decide, EKN⟩⟩, HMM.out⟩
    rw [if_neg hlt] at EK
    have EKB := Box'.mk EK
    obtain ⟨base, extra, e0, hT, hbb, hbx⟩ := lenT_bd (s : Int)
    have hln := refLength_any (s : Int) w1
    have HME : Box' (meaF (Gf.lenT (s : Int)) b q = if e0 = 0 then (match tkF b q extra with | .ok (v, q1) => .ok (base + v, q1) | .error x => .error x) else .error 8) := ⟨by rw [hT]; exact mea_tk base extra e0 b q⟩
    rw [hT] at hln
    simp only [tv] at hln
    clear EK EK2 hT h256
    go_wp2_with fail
    refine hln.mono ?_
    rintro e w2 ⟨rfl, rfl⟩
    clear hln
    by_cases he0 : e0 = 0
    case neg =>
      have he0' : (e0 != 0) = true := by simpa using he0
      have hf := rfail_any K N w2 sb vb b q o most 8 ST1.out
      have E8 : Box' (R0 = .error 8) := ⟨by rw [EKB.out, HME.out, if_neg he0]⟩
      clear HME EKB he0 ST1
      go_wp2_with fail
      refine hf.mono ?_
      clear hf
      rintro e w3 ⟨rfl, kp3, st3⟩
      have RES : Box' (REnds K N w sb vb b most R0 (.returned (.tuple #[])) w3) := ⟨rfl, KP1.out.trans kp3, .inr ⟨8, _, _, E8.out, by decide, st3⟩⟩
      clear kp3 st3
      go_wp2_with fail
      exact ⟨rfl, _, results29 _ _, RES.out⟩
    case pos =>
    subst he0
    have tk := rtake_any K N w2 sb vb b q o most extra hbx ST1.out
    go_wp2_with fail
    refine tk.mono ?_
    clear tk
    rintro e w3 ⟨kp3, ⟨v3, q1, e3, rfl, st3⟩ | ⟨x, e3, hx, rfl, st3⟩⟩
    case inr =>
      have STX := Box'.mk st3
      have KPX := Box'.mk (KP1.out.trans kp3)
      have EX : Box' (R0 = .error x) := ⟨by rw [EKB.out, HME.out, if_pos trivial, e3]⟩
      have HX := Box'.mk hx
      have c4 := st3.cell4
      have hx0 : (x == 0) = false := by rw [beq_eq_false_iff_ne]; exact hx
      clear e3 hx kp3 st3 EKB HME KP1 ST1
      have se := rsym_err K N w3 sb vb b _ _ most x HX.out v2 STX.out
      go_wp2_with fail
      refine se.mono ?_
      clear se
      rintro e wz ⟨rfl, rfl⟩
      have de := refDistance_any 0 wz
      rw [show Gf.disT 0 = (1, 0, 0) from rfl] at de
      simp only [tv] at de
      go_wp2_with fail
      refine de.mono ?_
      clear de
      rintro e wy ⟨rfl, rfl⟩
      have te := rtake_err K N wy sb vb b _ _ most x HX.out 0 STX.out
      go_wp2_with fail
      refine te.mono ?_
      clear te
      rintro e wv ⟨rfl, rfl⟩
      have MX : Box' (mr b.length wv sb < mr b.length wo sb) := ⟨by rw [HM0.out]; rw [mr_bad STX.out HX.out]; omega⟩
      go_wp2_with fail
      go_loopw [15] (fun i wl => i = .int .i64 0 ∧ Box' (wl = wv)) (fun _ _ => 0)
      case atStart => exact ⟨rfl, ⟨rfl⟩⟩
      case round =>
        obtain ⟨rfl, HW⟩ := hrel
        obtain rfl := HW.out
        clear HW
        go_wp2_with fail
        all_goals exact ⟨⟨0, _, _, x, STX, KPX, .inr ⟨HX.out, EX⟩⟩, MX.out⟩
    case inl =>
    have hme : meaF (Gf.lenT (s : Int)) b q = .ok (base + v3, q1) := by rw [HME.out, if_pos trivial, e3]
    obtain ⟨hs3, hv3, hq1⟩ := tk_ok e3
    have hv3l : v3 < 65536 + 1 := by rw [hv3]; exact Nat.lt_of_lt_of_le (nbr_lt b q extra) (Nat.le_trans (Nat.pow_le_pow_right (by decide) hbx) (by decide))
    have EK := EKB.out
    rw [hme] at EK
    have EKC : Box' (R0 = match rdF l2 b q1 with
          | .error x => .error x
          | .ok (d, q2) => match meaF (Gf.disT d) b q2 with
            | .error x => .error x
            | .ok (dist, q3) => match againF most q3 (base + v3) dist o with
              | .error x => .error x
              | .ok (p', out') => toldF l1 l2 b most f' p' out') := ⟨EK⟩
    have KP3 := Box'.mk (KP1.out.trans kp3)
    have ST3 := Box'.mk st3
    have c4 := st3.cell4
    have hqq : q ≤ q1 := by omega
    have sy := SY2.out w3 q1 o KP3.out st3
    clear EK EKB HME e3 kp3 st3 KP1 ST1 hme hv3 hs3 hq1
    go_wp2_with fail
    refine sy.mono ?_
    clear sy
    rintro e w4 ⟨kp4, ⟨d, q2, hrd, rfl, st4⟩ | ⟨x, hrd, hx, rfl, st4⟩⟩
    case inr =>
      have STX := Box'.mk st4
      have KPX := Box'.mk (KP3.out.trans kp4)
      have EX : Box' (R0 = .error x) := ⟨by rw [EKC.out, hrd]⟩
      have HX := Box'.mk hx
      have c4 := st4.cell4
      have hx0 : (x == 0) = false := by rw [beq_eq_false_iff_ne]; exact hx
      clear hrd hx kp4 st4 EKC KP3 ST3
      have de := refDistance_any 0 w4
      rw [show Gf.disT 0 = (1, 0, 0) from rfl] at de
      simp only [tv] at de
      go_wp2_with fail
      refine de.mono ?_
      clear de
      rintro e wy ⟨rfl, rfl⟩
      have te := rtake_err K N wy sb vb b _ _ most x HX.out 0 STX.out
      go_wp2_with fail
      refine te.mono ?_
      clear te
      rintro e wv ⟨rfl, rfl⟩
      have MX : Box' (mr b.length wv sb < mr b.length wo sb) := ⟨by rw [HM0.out]; rw [mr_bad STX.out HX.out]; omega⟩
      go_wp2_with fail
      go_loopw [15] (fun i wl => i = .int .i64 0 ∧ Box' (wl = wv)) (fun _ _ => 0)
      case atStart => exact ⟨rfl, ⟨rfl⟩⟩
      case round =>
        obtain ⟨rfl, HW⟩ := hrel
        obtain rfl := HW.out
        clear HW
        go_wp2_with fail
        all_goals exact ⟨⟨0, _, _, x, STX, KPX, .inr ⟨HX.out, EX⟩⟩, MX.out⟩
    case inl =>
    obtain ⟨hd5, hqg2⟩ := LT2.out _ _ _ hrd
    have EK := EKC.out
    rw [hrd] at EK
    have EKD : Box' (R0 = match meaF (Gf.disT d) b q2 with
            | .error x => .error x
            | .ok (dist, q3) => match againF most q3 (base + v3) dist o with
              | .error x => .error x
              | .ok (p', out') => toldF l1 l2 b most f' p' out') := ⟨EK⟩
    have KP4 := Box'.mk (KP3.out.trans kp4)
    have ST4 := Box'.mk st4
    have c4 := st4.cell4
    obtain ⟨bas2, ext2, er2, hT, hbb2, hbx2, hb1⟩ := disT_bd (d : Int)
    have hds := refDistance_any (d : Int) w4
    have HME : Box' (meaF (Gf.disT (d : Int)) b q2 = if er2 = 0 then (match tkF b q2 ext2 with | .ok (v, q1) => .ok (bas2 + v, q1) | .error x => .error x) else .error 8) := ⟨by rw [hT]; exact mea_tk bas2 ext2 er2 b q2⟩
    rw [hT] at hds
    simp only [tv] at hds
    have HB1 := Box'.mk hb1
    clear EK EKC hrd kp4 st4 KP3 ST3 hT hb1
    go_wp2_with fail
    refine hds.mono ?_
    rintro e w5 ⟨rfl, rfl⟩
    clear hds
    by_cases he2 : er2 = 0
    case neg =>
      have he2' : (er2 != 0) = true := by simpa using he2
      have hf := rfail_any K N w5 sb vb b q2 o most 8 ST4.out
      have EX : Box' (R0 = .error 8) := ⟨by rw [EKD.out, HME.out, if_neg he2]⟩
      clear HME EKD he2 ST4
      go_wp2_with fail
      refine hf.mono ?_
      clear hf
      rintro e w6 ⟨rfl, kp6, st6⟩
      have STX := Box'.mk st6
      have KPX := Box'.mk (KP4.out.trans kp6)
      have HX : Box' ((8 : Int) ≠ 0) := ⟨by decide⟩
      have c4 := st6.cell4
      clear kp6 st6 KP4
      have te := rtake_err K N w6 sb vb b _ _ most 8 HX.out ext2 STX.out
      go_wp2_with fail
      refine te.mono ?_
      clear te
      rintro e wv ⟨rfl, rfl⟩
      have MX : Box' (mr b.length wv sb < mr b.length wo sb) := ⟨by rw [HM0.out]; rw [mr_bad STX.out HX.out]; omega⟩
      go_wp2_with fail
      go_loopw [15] (fun i wl => i = .int .i64 0 ∧ Box' (wl = wv)) (fun _ _ => 0)
      case atStart => exact ⟨rfl, ⟨rfl⟩⟩
      case round =>
        obtain ⟨rfl, HW⟩ := hrel
        obtain rfl := HW.out
        clear HW
        go_wp2_with fail
        all_goals exact ⟨⟨0, _, _, 8, STX, KPX, .inr ⟨HX.out, EX⟩⟩, MX.out⟩
    case pos =>
    subst he2
    have hdist := HB1.out rfl
    have tk := rtake_any K N w5 sb vb b q2 o most ext2 (by omega) ST4.out
    go_wp2_with fail
    refine tk.mono ?_
    clear tk
    rintro e w6 ⟨kp6, ⟨v6, q3, e6, rfl, st6⟩ | ⟨x, e6, hx, rfl, st6⟩⟩
    case inr =>
      have STX := Box'.mk st6
      have KPX := Box'.mk (KP4.out.trans kp6)
      have EX : Box' (R0 = .error x) := ⟨by rw [EKD.out, HME.out, if_pos trivial, e6]⟩
      have HX := Box'.mk hx
      have c4 := st6.cell4
      have hx0 : (x == 0) = false := by rw [beq_eq_false_iff_ne]; exact hx
      clear e6 hx kp6 st6 EKD HME KP4 ST4
      have MX : Box' (mr b.length w6 sb < mr b.length wo sb) := ⟨by rw [HM0.out]; rw [mr_bad STX.out HX.out]; omega⟩
      go_wp2_with fail
      go_loopw [15] (fun i wl => i = .int .i64 0 ∧ Box' (wl = w6)) (fun _ _ => 0)
      case atStart => exact ⟨rfl, ⟨rfl⟩⟩
      case round =>
        obtain ⟨rfl, HW⟩ := hrel
        obtain rfl := HW.out
        clear HW
        go_wp2_with fail
        all_goals exact ⟨⟨0, _, _, x, STX, KPX, .inr ⟨HX.out, EX⟩⟩, MX.out⟩
    case inl =>
    have hme : meaF (Gf.disT (d : Int)) b q2 = .ok (bas2 + v6, q3) := by rw [HME.out, if_pos trivial, e6]
    obtain ⟨hs6, hv6, hq3⟩ := tk_ok e6
    have hv6l : v6 < 65536 + 1 := by rw [hv6]; exact Nat.lt_of_lt_of_le (nbr_lt b q2 ext2) (Nat.le_trans (Nat.pow_le_pow_right (n := 2) (by decide) (show ext2 ≤ 16 by omega)) (by decide))
    have EK := EKD.out
    rw [hme] at EK
    have EKE : Box' (R0 = match againF most q3 (base + v3) (bas2 + v6) o with
              | .error x => .error x
              | .ok (p', out') => toldF l1 l2 b most f' p' out') := ⟨EK⟩
    have KP6 := Box'.mk (KP4.out.trans kp6)
    have ST6 := Box'.mk st6
    have c4 := st6.cell4
    obtain ⟨vo, hr6, ho6⟩ := st6.row
    have c2 : w6.cell? ⟨sb, 2, none⟩ = some vo := by rw [hr6.cell]; rfl
    obtain ⟨ao, co, rfl⟩ := ho6.slice
    have HQ : Box' (p' < q3 ∧ q3 ≤ 8 * b.length) := ⟨by omega⟩
    obtain ⟨nl, hnl⟩ : ∃ nl, nl = base + v3 := ⟨_, rfl⟩
    obtain ⟨dist, hdi⟩ : ∃ dist, dist = bas2 + v6 := ⟨_, rfl⟩
    rw [← hnl, ← hdi] at EKE
    have hn1 : (base : Int) + (v3 : Int) = (nl : Int) := by omega
    have hn2 : (bas2 : Int) + (v6 : Int) = (dist : Int) := by omega
    have hlen : nl ≤ 100000 := by omega
    have hfar1 : 1 ≤ dist := by omega
    have hfar2 : dist ≤ 100000 := by omega
    have hol6 := ST6.out.ol
    have hml6 := ST6.out.ml
    have AFE := Box'.mk (againF.eq_1 most q3 nl dist o)
    clear EK EKD HME e6 kp6 st6 KP4 ST4 hme hv6 hs6 hq3 hr6 ho6 HB1 hdist hnl hdi
    by_cases hfar : o.length < dist
    case pos =>
      have EX : Box' (R0 = .error 8) := ⟨by rw [EKE.out, AFE.out, if_pos hfar]⟩
      have hf := rfail_any K N w6 sb vb b q3 o most 8 ST6.out
      have HX : Box' ((8 : Int) ≠ 0) := ⟨by decide⟩
      clear EKE AFE ST6
      generalize o.length = L at *
      go_wp2_with fail
      refine hf.mono ?_
      clear hf
      rintro e w7 ⟨rfl, kp7, st7⟩
      have STX := Box'.mk st7
      have KPX := Box'.mk (KP6.out.trans kp7)
      have c4 := st7.cell4
      clear kp7 st7 KP6 c2
      have MX : Box' (mr b.length w7 sb < mr b.length wo sb) := ⟨by rw [HM0.out]; rw [mr_bad STX.out HX.out]; omega⟩
      go_wp2_with fail
      go_loopw [15] (fun i wl => i = .int .i64 0 ∧ Box' (wl = w7)) (fun _ _ => 0)
      case atStart => exact ⟨rfl, ⟨rfl⟩⟩
      case round =>
        obtain ⟨rfl, HW⟩ := hrel
        obtain rfl := HW.out
        clear HW
        go_wp2_with fail
        all_goals exact ⟨⟨0, _, _, 8, STX, KPX, .inr ⟨HX.out, EX⟩⟩, MX.out⟩
    case neg =>
    have HTF : Box' (R0 = match tellF most dist nl o with
        | .error x => .error x
        | .ok o' => toldF l1 l2 b most f' q3 o') := ⟨by
      rw [EKE.out, AFE.out, if_neg hfar]
      cases tellF most dist nl o <;> rfl⟩
    have HDX : Box' (dist ≤ o.length) := ⟨by omega⟩
    have HD0 := HDX
    have TSP := Box'.mk (tell_step most dist)
    obtain ⟨TF, hTF⟩ : ∃ TF, TF = tellF most dist nl o := ⟨_, rfl⟩
    rw [← hTF] at HTF
    have HTF0 := Box'.mk hTF
    have hfd : decide ((o.length : Int) < (dist : Int)) = false := decide_eq_false (by omega)
    have hfd' : decide (o.length < dist) = false := decide_eq_false (by omega)
    clear EKE AFE hfar hTF
    generalize hL0 : o.length = L0 at *
    have HDX : Box' (dist ≤ o.length) := ⟨by rw [hL0]; exact HD0.out⟩
    clear hL0
    go_wp2_with fail
    go_loopw [15] (fun i wl => ∃ (k : Nat) (oo : List UInt8) (er : Int), k ≤ nl ∧ i = .int .i64 (k : Int) ∧ Box' (Rs K N wl sb vb b q3 oo most (.int .i64 er)) ∧ Box' (Kp K w wl) ∧ ((er = 0 ∧ Box' (TF = tellF most dist (nl - k) oo ∧ dist ≤ oo.length)) ∨ (er ≠ 0 ∧ Box' (TF = .error er)))) (fun i _ => nl - (intOf i).toNat)
    case atStart => exact ⟨0, o, 0, by omega, rfl, ST6, KP6, .inl ⟨rfl, ⟨HTF0.out, HDX.out⟩⟩⟩
    case round =>
      clear ST6 KP6 c2 c4 HTF0 HD0
      obtain ⟨k, oo, er, hk, rfl, ST, KP, ⟨rfl, HE⟩ | ⟨her, HE⟩⟩ := hrel
      case inr =>
        have c4 := ST.out.cell4
        have her' : (er == 0) = false := by rw [beq_eq_false_iff_ne]; exact her
        have EX : Box' (R0 = .error er) := ⟨by rw [HTF.out, HE.out]⟩
        have HX := Box'.mk her
        have MX : Box' (mr b.length wr sb < mr b.length wo sb) := ⟨by rw [HM0.out, mr_bad ST.out her]; omega⟩
        clear HE her
        go_wp2_with fail
        all_goals exact ⟨⟨0, _, _, er, ST, KP, .inr ⟨HX.out, EX⟩⟩, MX.out⟩
      case inl =>
        have c4 := ST.out.cell4
        by_cases hlt : k < nl
        · have hp := HE.out.1
          rw [show nl - k = (nl - (k + 1)) + 1 by omega, TSP.out] at hp
          obtain ⟨vo, hr, ho⟩ := ST.out.row
          obtain ⟨go, c, rfl, hc, hcl⟩ := ho.seg (by have := HE.out.2; omega)
          have cx := hcl (oo.length - dist) (by have := HE.out.2; omega)
          have hcs : wr.cell? ⟨sb, 2, none⟩ = some (.slice (some ⟨go, 0, none⟩) oo.length c) := by rw [hr.cell]; rfl
          have hol := ST.out.ol
          have hdo := HE.out.2
          have hkd : decide ((k : Int) < (nl : Int)) = true := decide_eq_true (by omega)
          have HD2 : Box' (dist ≤ (oo ++ [oo.getD (oo.length - dist) 0]).length) := ⟨by rw [List.length_append]; omega⟩
          generalize oo.getD (oo.length - dist) 0 = x at *
          have HP2 := Box'.mk hp
          have AG0 : Box' (Rs K N wr.drew sb vb b q3 oo most (.int .i64 0) ∧ Kp K w wr.drew ∧ wr.drew.cell? ⟨sb, 2, none⟩ = some (.slice (some ⟨go, 0, none⟩) oo.length c) ∧ wr.drew.cell? ⟨go, oo.length - dist, none⟩ = some (B x)) := ⟨ST.out.drewN 1, KP.out.drew, hcs, cx⟩
          have PUT : Box' (∀ W, Rs K N W sb vb b q3 oo most (.int .i64 0) ∧ Kp K w W ∧ W.cell? ⟨sb, 2, none⟩ = some (.slice (some ⟨go, 0, none⟩) oo.length c) ∧ W.cell? ⟨go, oo.length - dist, none⟩ = some (B x) → Calls Try.prog 48 #[.pointer (some ⟨sb, 0, none⟩), .int .u8 ((x.toNat : Nat) : Int)] W fun e w' => e = .returned (.tuple #[]) ∧ Kp K W w' ∧ ((oo.length < most ∧ Rs K N w' sb vb b q3 (oo ++ [x]) most (.int .i64 0)) ∨ (oo.length = most ∧ Rs K N w' sb vb b q3 oo most (.int .i64 4)))) := ⟨fun W hW => rtell_any K N W sb vb b q3 oo most x hW.1⟩
          generalize hLo : oo.length = L at *
          obtain ⟨Ag, hAg⟩ : ∃ Ag : World → Prop, Ag = fun W => Rs K N W sb vb b q3 oo most (.int .i64 0) ∧ Kp K w W ∧ W.cell? ⟨sb, 2, none⟩ = some (.slice (some ⟨go, 0, none⟩) L c) ∧ W.cell? ⟨go, L - dist, none⟩ = some (B x) := ⟨_, rfl⟩
          have AGC : Box' (∀ W, Ag W → W.cell? ⟨sb, 2, none⟩ = some (.slice (some ⟨go, 0, none⟩) L c) ∧ W.cell? ⟨go, L - dist, none⟩ = some (.int .u8 ((x.toNat : Nat) : Int))) := ⟨fun W hW => by rw [hAg] at hW; exact ⟨hW.2.2.1, hW.2.2.2⟩⟩
          have AGK : Box' (∀ W, Ag W → Kp K w W) := ⟨fun W hW => by rw [hAg] at hW; exact hW.2.1⟩
          have PUT : Box' (∀ W, Ag W → Calls Try.prog 48 #[.pointer (some ⟨sb, 0, none⟩), .int .u8 ((x.toNat : Nat) : Int)] W fun e w' => e = .returned (.tuple #[]) ∧ Kp K W w' ∧ ((L < most ∧ Rs K N w' sb vb b q3 (oo ++ [x]) most (.int .i64 0)) ∨ (L = most ∧ Rs K N w' sb vb b q3 oo most (.int .i64 4)))) := ⟨fun W hW => PUT.out W (by rw [hAg] at hW; exact hW)⟩
          have AG0 : Box' (Ag wr.drew) := ⟨by rw [hAg]; exact AG0.out⟩
          clear hr ho hcl cx hcs hp ST KP HE hAg hLo
          go_wp2_with fail
          clear c4
          refine wp_region_grow 14 (by kernel_rfl) (by kernel_rfl) (fun w1 w2 => w2 = w1) (fun w1 => Ag w1) (fun k w1 v => match k with
            | 0 => v = .pointer (some ⟨sb, 0, none⟩)
            | 1 => v = .pointer (some ⟨sb, 0, none⟩)
            | 2 => v = .pointer (some ⟨sb, 0, none⟩)
            | 3 => v = .pointer (some ⟨sb, 2, none⟩)
            | 4 => v = .slice (some ⟨go, 0, none⟩) L c
            | 5 => v = .pointer (some ⟨sb, 0, none⟩)
            | 6 => v = .pointer (some ⟨sb, 0, none⟩)
            | 7 => v = .pointer (some ⟨sb, 2, none⟩)
            | 8 => v = .slice (some ⟨go, 0, none⟩) L c
            | 9 => v = .int .i64 (L : Int)
            | 10 => v = .int .i64 (dist : Int)
            | 11 => v = .int .i64 ((L : Int) - (dist : Int))
            | 12 => v = .pointer (some ⟨go, L - dist, none⟩)
            | 13 => v = .int .u8 ((x.toNat : Nat) : Int)
            | _ => True) ?_ ?_ ?_ ?_ ?_
          · rintro w1 w2 rfl hA
            exact hA
          · intro k v w1 w2 hC1 hb h
            match k, h with
            | 0, h => exact h
            | 1, h => exact h
            | 2, h => exact h
            | 3, h => exact h
            | 4, h => exact h
            | 5, h => exact h
            | 6, h => exact h
            | 7, h => exact h
            | 8, h => exact h
            | 9, h => exact h
            | 10, h => exact h
            | 11, h => exact h
            | 12, h => exact h
            | 13, h => exact h
            | k + 14, h => trivial
          · exact AG0.out
          · refine ⟨?_, ?_, ?_, ?_, ?_, ?_, ?_, ?_, ?_, ?_, ?_, ?_, ?_, ?_, trivial⟩
            · intro f w1 hC hd KK hK
              simp only [List.take_succ_cons, List.take_zero, setAll, List.setIfInBounds_toArray, List.set_cons_succ, List.set_cons_zero, Nat.zero_add, Nat.reduceAdd] at hK ⊢
              refine wp_of_quiet rfl ?_
              go_big_quiet_step (fail)
              exact wpQuiet_nil (hK _ _ rfl rfl)
            · intro f w1 hC hd KK hK
              simp only [List.take_succ_cons, List.take_zero, setAll, List.setIfInBounds_toArray, List.set_cons_succ, List.set_cons_zero, Nat.zero_add, Nat.reduceAdd] at hK ⊢
              refine wp_of_quiet rfl ?_
              go_big_quiet_step (fail)
              exact wpQuiet_nil (hK _ _ rfl rfl)
            · intro f w1 hC hd KK hK
              have g1 : f 1 = _ := hd 1 rfl
              simp only [List.take_succ_cons, List.take_zero, setAll, List.setIfInBounds_toArray, List.set_cons_succ, List.set_cons_zero, Nat.zero_add, Nat.reduceAdd, g1] at hK ⊢
              refine wp_of_quiet rfl ?_
              go_big_quiet_step (fail)
              exact wpQuiet_nil (hK _ _ rfl rfl)
            · intro f w1 hC hd KK hK
              have g2 : f 2 = _ := hd 2 rfl
              simp only [List.take_succ_cons, List.take_zero, setAll, List.setIfInBounds_toArray, List.set_cons_succ, List.set_cons_zero, Nat.zero_add, Nat.reduceAdd, g2] at hK ⊢
              refine wp_of_quiet rfl ?_
              go_big_quiet_step (fail)
              exact wpQuiet_nil (hK _ _ rfl rfl)
            · intro f w1 hC hd KK hK
              have cc := (AGC.out w1 hC).1
              have g3 : f 3 = _ := hd 3 rfl
              simp only [List.take_succ_cons, List.take_zero, setAll, List.setIfInBounds_toArray, List.set_cons_succ, List.set_cons_zero, Nat.zero_add, Nat.reduceAdd, g3] at hK ⊢
              refine wp_of_quiet rfl ?_
              go_big_quiet_step (fail)
              exact wpQuiet_nil (hK _ _ rfl rfl)
            · intro f w1 hC hd KK hK
              simp only [List.take_succ_cons, List.take_zero, setAll, List.setIfInBounds_toArray, List.set_cons_succ, List.set_cons_zero, Nat.zero_add, Nat.reduceAdd] at hK ⊢
              refine wp_of_quiet rfl ?_
              go_big_quiet_step (fail)
              exact wpQuiet_nil (hK _ _ rfl rfl)
            · intro f w1 hC hd KK hK
              have g5 : f 5 = _ := hd 5 rfl
              simp only [List.take_succ_cons, List.take_zero, setAll, List.setIfInBounds_toArray, List.set_cons_succ, List.set_cons_zero, Nat.zero_add, Nat.reduceAdd, g5] at hK ⊢
              refine wp_of_quiet rfl ?_
              go_big_quiet_step (fail)
              exact wpQuiet_nil (hK _ _ rfl rfl)
            · intro f w1 hC hd KK hK
              have g6 : f 6 = _ := hd 6 rfl
              simp only [List.take_succ_cons, List.take_zero, setAll, List.setIfInBounds_toArray, List.set_cons_succ, List.set_cons_zero, Nat.zero_add, Nat.reduceAdd, g6] at hK ⊢
              refine wp_of_quiet rfl ?_
              go_big_quiet_step (fail)
              exact wpQuiet_nil (hK _ _ rfl rfl)
            · intro f w1 hC hd KK hK
              have cc := (AGC.out w1 hC).1
              have g7 : f 7 = _ := hd 7 rfl
              simp only [List.take_succ_cons, List.take_zero, setAll, List.setIfInBounds_toArray, List.set_cons_succ, List.set_cons_zero, Nat.zero_add, Nat.reduceAdd, g7] at hK ⊢
              refine wp_of_quiet rfl ?_
              go_big_quiet_step (fail)
              exact wpQuiet_nil (hK _ _ rfl rfl)
            · intro f w1 hC hd KK hK
              have g8 : f 8 = _ := hd 8 rfl
              simp only [List.take_succ_cons, List.take_zero, setAll, List.setIfInBounds_toArray, List.set_cons_succ, List.set_cons_zero, Nat.zero_add, Nat.reduceAdd, g8] at hK ⊢
              refine wp_of_quiet rfl ?_
              go_big_quiet_step (fail)
              exact wpQuiet_nil (hK _ _ rfl rfl)
            · intro f w1 hC hd KK hK
              simp only [List.take_succ_cons, List.take_zero, setAll, List.setIfInBounds_toArray, List.set_cons_succ, List.set_cons_zero, Nat.zero_add, Nat.reduceAdd] at hK ⊢
              refine wp_of_quiet rfl ?_
              go_big_quiet_step (fail)
              exact wpQuiet_nil (hK _ _ rfl rfl)
            · intro f w1 hC hd KK hK
              have g9 : f 9 = _ := hd 9 rfl
              have g10 : f 10 = _ := hd 10 rfl
              simp only [List.take_succ_cons, List.take_zero, setAll, List.setIfInBounds_toArray, List.set_cons_succ, List.set_cons_zero, Nat.zero_add, Nat.reduceAdd, g9, g10] at hK ⊢
              refine wp_of_quiet rfl ?_
              go_big_quiet_step (fail)
              exact wpQuiet_nil (hK _ _ rfl rfl)
            · intro f w1 hC hd KK hK
              have g4 : f 4 = _ := hd 4 rfl
              have g11 : f 11 = _ := hd 11 rfl
              simp only [List.take_succ_cons, List.take_zero, setAll, List.setIfInBounds_toArray, List.set_cons_succ, List.set_cons_zero, Nat.zero_add, Nat.reduceAdd, g4, g11] at hK ⊢
              refine wp_of_quiet rfl ?_
              go_big_quiet_step (fail)
              exact wpQuiet_nil (hK _ _ rfl rfl)
            · intro f w1 hC hd KK hK
              have cc := (AGC.out w1 hC).2
              have g12 : f 12 = _ := hd 12 rfl
              simp only [List.take_succ_cons, List.take_zero, setAll, List.setIfInBounds_toArray, List.set_cons_succ, List.set_cons_zero, Nat.zero_add, Nat.reduceAdd, g12] at hK ⊢
              refine wp_of_quiet rfl ?_
              go_big_quiet_step (fail)
              exact wpQuiet_nil (hK _ _ rfl rfl)
          · intro f w1 hC hv
            have g0 : f 0 = _ := hv 0 (by decide)
            have g1 : f 1 = _ := hv 1 (by decide)
            have g2 : f 2 = _ := hv 2 (by decide)
            have g3 : f 3 = _ := hv 3 (by decide)
            have g4 : f 4 = _ := hv 4 (by decide)
            have g5 : f 5 = _ := hv 5 (by decide)
            have g6 : f 6 = _ := hv 6 (by decide)
            have g7 : f 7 = _ := hv 7 (by decide)
            have g8 : f 8 = _ := hv 8 (by decide)
            have g9 : f 9 = _ := hv 9 (by decide)
            have g10 : f 10 = _ := hv 10 (by decide)
            have g11 : f 11 = _ := hv 11 (by decide)
            have g12 : f 12 = _ := hv 12 (by decide)
            have g13 : f 13 = _ := hv 13 (by decide)
            simp only [List.take_succ_cons, List.take_zero, List.drop_succ_cons, List.drop_zero, setAll, List.setIfInBounds_toArray, List.set_cons_succ, List.set_cons_zero, Nat.zero_add, Nat.reduceAdd, g0, g1, g2, g3, g4, g5, g6, g7, g8, g9, g10, g11, g12, g13]
            clear g0 g1 g2 g3 g4 g5 g6 g7 g8 g9 g10 g11 g12 g13 hv
            have hpu := PUT.out w1 hC
            clear AGC AG0
            go_wp2_with fail
            refine hpu.mono ?_
            clear hpu PUT
            rintro e w7 ⟨rfl, kp, ⟨hs, st⟩ | ⟨hs, st⟩⟩
            · have hp := HP2.out
              rw [if_neg (by omega)] at hp
              have HP4 : Box' (TF = tellF most dist (nl - (k + 1)) (oo ++ [x]) ∧ dist ≤ (oo ++ [x]).length) := ⟨hp, HD2.out⟩
              have KP4 := Box'.mk ((AGK.out w1 hC).trans kp)
              have ST4 := Box'.mk st
              clear hp st kp hs HP2 hC AGK
              go_wp2_with fail
              exact ⟨⟨k + 1, oo ++ [x], 0, by omega, by go_num, ST4, KP4, .inl ⟨rfl, HP4⟩⟩, by simp [intOf]; omega⟩
            · have hp := HP2.out
              rw [if_pos hs] at hp
              have HP4 := Box'.mk hp
              have KP4 := Box'.mk ((AGK.out w1 hC).trans kp)
              have ST4 := Box'.mk st
              clear hp st kp hs HP2 hC AGK
              go_wp2_with fail
              exact ⟨⟨k + 1, oo, 4, by omega, by go_num, ST4, KP4, .inr ⟨by decide, HP4⟩⟩, by simp [intOf]; omega⟩
        · obtain rfl : k = nl := by omega
          have hp := HE.out.1
          rw [Nat.sub_self] at hp
          have hkd : decide ((k : Int) < (k : Int)) = false := decide_eq_false (by omega)
          have EKN : Box' (R0 = toldF l1 l2 b most f' q3 oo ∧ 8 * b.length + 1 ≤ q3 + f') := ⟨by rw [HTF.out, hp]; rfl, by have := HF.out; have := HQ.out; omega⟩
          have MX : Box' (mr b.length wr sb < mr b.length wo sb) := ⟨by rw [HM0.out, mr_ok ST.out]; have := HQ.out; omega⟩
          clear HE hp
          go_wp2_with fail
          exact ⟨⟨f', q3, oo, 0, ST, KP, .inl ⟨rfl, EKN⟩⟩, MX.out⟩
open Go.RowKit Go.BigFrame Gt
theorem OwnI.slice {N : Nat} {w : World} {v : Value} {d : List Int} (h : OwnI N w v d) : ∃ a c, v = .slice a d.length c ∧ d.length ≤ c := by
  rcases h.2 with ⟨e, e0⟩ | ⟨g, cap, cur, e1, e2, e3, e4, _⟩
  · exact ⟨none, 0, by rw [e, e0], by omega⟩
  · exact ⟨_, _, e1, e4⟩
theorem Rs.moreO {K : Nat → Prop} {N : Nat} {w : World} {sb : Nat} {vb : Value} {b : List UInt8} {p : Nat} {out : List UInt8} {most : Nat} {fx : Value} (h : Rs K N w sb vb b p out most fx) (o : Option Nat) (hg : ∀ g, o = some g → g ≠ sb ∧ ∃ cur, Row w g 3 cur) : Rs (fun k => K k ∨ o = some k) N w sb vb b p out most fx := by
  refine ⟨h.row, ?_, h.bts.keep fun g hg => ⟨.inl hg, rfl⟩, fun hh => ?_, fun k hk => ?_, h.bl, h.pl, h.ol, h.ml, h.nl⟩
  · rintro k (hk | hk)
    · exact h.kt k hk
    · obtain ⟨_, cur, r⟩ := hg k hk
      refine .inr fun c hc => ?_
      unfold Row at r hc
      rw [r] at hc
      simp at hc
  · rcases hh with hh | hh
    · exact h.sbK hh
    · exact (hg sb hh).1 rfl
  · rcases hk with hk | hk
    · exact h.kl k hk
    · obtain ⟨_, cur, r⟩ := hg k hk
      exact r.lt
structure Lp (K : Nat → Prop) (N : Nat) (w wl : World) (sb : Nat) (vb : Value) (b : List UInt8) (p : Nat) (out : List UInt8) (most : Nat) (er : Int) (gf : Nat) (lk : List Int) (r : Value) (row : List Int) : Prop where
  st : Rs K N wl sb vb b p out most (.int .i64 er)
  rf : Row wl gf 3 (ai lk)
  kp : Kp K w wl
  ow : OwnI (gf + 2) wl r row
  ks : ∀ k, K k → k < gf
  ss : sb < gf
  sz : gf + 2 ≤ wl.heap.size
section
variable {K : Nat → Prop} {N : Nat} {w wl : World} {sb : Nat} {vb : Value} {b : List UInt8} {p : Nat} {out : List UInt8} {most : Nat} {er : Int} {gf : Nat} {lk : List Int} {r : Value} {row : List Int}
theorem Lp.drew (h : Lp K N w wl sb vb b p out most er gf lk r row) : Lp K N w wl.drew sb vb b p out most er gf lk r row :=
  ⟨h.st.drewN 1, h.rf, h.kp.drew, h.ow, h.ks, h.ss, h.sz⟩
def LK (K : Nat → Prop) (gf : Nat) (r : Value) (k : Nat) : Prop := (K k ∨ k = gf) ∨ r.ownBlock = some k
theorem Lp.wide (h : Lp K N w wl sb vb b p out most er gf lk r row) : Rs (LK K gf r) N wl sb vb b p out most (.int .i64 er) :=
  (h.st.more gf h.rf (by decide) (by have := h.ss; omega)).moreO r.ownBlock fun g hg => ⟨by have := (h.ow.row g hg).1; have := h.ss; omega, (h.ow.row g hg).2⟩
theorem Lp.next (h : Lp K N w wl sb vb b p out most er gf lk r row) {w' : World} {q : Nat} {x : Int} (kp : Kp (LK K gf r) wl w') (st : Rs (LK K gf r) N w' sb vb b q out most (.int .i64 x)) : Lp K N w w' sb vb b q out most x gf lk r row :=
  ⟨h.st.back2 st (kp.less fun _ hk => .inl (.inl hk)), h.rf.same (kp.block gf (.inl (.inr rfl))), h.kp.trans (kp.less fun _ hk => .inl (.inl hk)), h.ow.same fun g hg => kp.block g (.inr hg), h.ks, h.ss, Nat.le_trans h.sz kp.size⟩
theorem Lp.sym (h : Lp K N w wl sb vb b p out most 0 gf lk r row) (hlk : lk.length = 19) (hck : Gf.chkE lk = 0) :
    Calls Try.prog 49 #[.pointer (some ⟨sb, 0, none⟩), .slice (some ⟨gf, 0, none⟩) 19 19] wl fun e w' => (∃ s q, rdF lk b p = .ok (s, q) ∧ s < 19 ∧ e = .returned (.int .i64 (s : Int)) ∧ Lp K N w w' sb vb b q out most 0 gf lk r row) ∨ (∃ x, rdF lk b p = .error x ∧ x ≠ 0 ∧ e = .returned (.int .i64 0) ∧ Lp K N w w' sb vb b p out most x gf lk r row) := by
  refine (rsym_any (LK K gf r) N wl sb vb b p out most _ lk (by omega) hck (h.rf.ints hlk) h.wide).mono ?_
  rintro e w' ⟨kp, ⟨s, q, h1, h2, h3⟩ | ⟨x, h1, h2, h3, h4⟩⟩
  · exact .inl ⟨s, q, h1, by have := rdF_lt h1; omega, h2, h.next kp h3⟩
  · exact .inr ⟨x, h1, h2, h3, h.next kp h4⟩
theorem Lp.take (h : Lp K N w wl sb vb b p out most 0 gf lk r row) (n : Nat) (hn : n ≤ 16) (hs : p + n ≤ 8 * b.length) :
    Calls Try.prog 26 #[.pointer (some ⟨sb, 0, none⟩), .int .i64 (n : Int)] wl fun e w' => e = .returned (.int .i64 ((nbr b p n : Nat) : Int)) ∧ Lp K N w w' sb vb b (p + n) out most 0 gf lk r row := by
  refine (rtake_any (LK K gf r) N wl sb vb b p out most n hn h.wide).mono ?_
  rintro e w' ⟨kp, ⟨s, q, h1, h2, h3⟩ | ⟨x, h1, h2, h3, h4⟩⟩
  · obtain ⟨_, rfl, rfl⟩ := tk_ok h1
    exact ⟨h2, h.next kp h3⟩
  · exact absurd hs (tk_err h1).1
theorem Lp.short (h : Lp K N w wl sb vb b p out most 0 gf lk r row) (n : Nat) (hn : n ≤ 16) (hs : ¬ p + n ≤ 8 * b.length) :
    Calls Try.prog 26 #[.pointer (some ⟨sb, 0, none⟩), .int .i64 (n : Int)] wl fun e w' => e = .returned (.int .i64 0) ∧ Lp K N w w' sb vb b p out most 7 gf lk r row := by
  refine (rtake_any (LK K gf r) N wl sb vb b p out most n hn h.wide).mono ?_
  rintro e w' ⟨kp, ⟨s, q, h1, h2, h3⟩ | ⟨x, h1, h2, h3, h4⟩⟩
  · exact absurd (tk_ok h1).1 hs
  · obtain ⟨_, rfl⟩ := tk_err h1
    exact ⟨h3, h.next kp h4⟩
theorem Lp.fail (h : Lp K N w wl sb vb b p out most 0 gf lk r row) (x : Int) :
    Calls Try.prog 31 #[.pointer (some ⟨sb, 0, none⟩), .int .i64 x] wl fun e w' => e = .returned (.tuple #[]) ∧ Lp K N w w' sb vb b p out most x gf lk r row :=
  (rfail_any (LK K gf r) N wl sb vb b p out most x h.wide).mono fun _ _ ⟨h1, h2, h3⟩ => ⟨h1, h.next h2 h3⟩
theorem Lp.last {g cap : Nat} (h : Lp K N w wl sb vb b p out most er gf lk (.slice (some ⟨g, 0, none⟩) row.length cap) row) (h0 : 0 < row.length) : wl.cell? ⟨g, row.length - 1, none⟩ = some (.int .i64 (row.getD (row.length - 1) 0)) := by
  obtain ⟨g', c', e, _, _, sg⟩ := h.ow.seg h0
  cases e
  exact sg.cell (by omega)
theorem Lp.app (h : Lp K N w wl sb vb b p out most er gf lk r row) (x : Int) :
    OwnI (gf + 2) (wl.alloc (.cells #[.int .i64 x] 3)) r row ∧ gf + 2 ≤ (wl.alloc (.cells #[.int .i64 x] 3)).heap.size ∧ (∀ j u, ([x].map (Value.int .i64))[j]? = some u → (wl.alloc (.cells #[.int .i64 x] 3)).cell? ((⟨wl.heap.size, 0, none⟩ : Addr).add j) = some u) ∧
    ∀ v' w', OwnI (gf + 2) w' v' (row ++ [x]) → (wl.alloc (.cells #[.int .i64 x] 3)).grownBy w' r.ownBlock → Lp K N w w' sb vb b p out most er gf lk v' (row ++ [x]) := by
  have hz := h.sz
  have ow := h.ow.alloc (.cells #[.int .i64 x] 3)
  refine ⟨ow, by simp; omega, (Row.new wl 3 (ai [x])).cells_ai, fun v' w' o' g' => ?_⟩
  have hne : ∀ g, r.ownBlock = some g → gf + 2 ≤ g := fun g hg => (h.ow.row g hg).1
  obtain ⟨s1, k1⟩ := (h.st.alloc (.cells #[.int .i64 x] 3)).grown _ g' fun g hg => ⟨fun hk => by have := h.ks g hk; have := hne g hg; omega, (ow.row g hg).2⟩
  have kp := Kp.below ((Below.refl wl.heap.size wl).alloc (Nat.le_refl _) (.cells #[.int .i64 x] 3)) h.st.kl
  refine ⟨s1, ?_, (h.kp.trans kp).trans k1, o', h.ks, h.ss, ?_⟩
  · exact (h.rf.alloc _).same (g'.block gf (by simp; omega) fun e => by have := hne gf e.symm; omega)
  · have := g'.size; simp at this; omega
end
def Md (b : List UInt8) (lk : List Int) (cnt : Nat) (RR : Except Int (Nat × List Int)) (p : Nat) (er : Int) (row : List Int) : Prop :=
  (er = 0 ∧ row.length ≤ cnt ∧ ∃ f, cnt + 1 ≤ row.length + f ∧ RR = rowF lk b cnt f p row) ∨ (er = 0 ∧ cnt < row.length ∧ RR = .error 8) ∨ (er ≠ 0 ∧ RR = .error er)
theorem md_step {b : List UInt8} {lk : List Int} {cnt : Nat} {RR : Except Int (Nat × List Int)} {p : Nat} {row : List Int} (h : Md b lk cnt RR p 0 row) (hlt : row.length < cnt) : ∃ f, cnt ≤ row.length + f ∧ RR = match rdF lk b p with
      | .error x => .error x
      | .ok (sym, q) =>
        if sym = 16 ∧ row = [] then .error 8
        else if q + (moreF sym).1 ≤ 8 * b.length then
          if (moreF sym).2 + nbr b q (moreF sym).1 ≤ cnt - row.length then rowF lk b cnt f (q + (moreF sym).1) (row ++ List.replicate ((moreF sym).2 + nbr b q (moreF sym).1) (whatF sym row))
          else .error 8
        else .error 7 := by
  rcases h with ⟨_, h1, f, h2, h3⟩ | ⟨_, h1, _⟩ | ⟨h1, _⟩
  · obtain ⟨f', rfl⟩ : ∃ f', f = f' + 1 := ⟨f - 1, by omega⟩
    refine ⟨f', by omega, ?_⟩
    rw [h3, row_step lk b cnt f' p row hlt]
    rcases rdF lk b p with x | ⟨sym, q⟩
    · rfl
    · rfl
  · omega
  · exact absurd rfl h1
theorem md_ok {b : List UInt8} {lk : List Int} {cnt : Nat} {RR : Except Int (Nat × List Int)} {p : Nat} {row : List Int} (h : Md b lk cnt RR p 0 row) (hlt : row.length < cnt) {sym q : Nat} (hrd : rdF lk b p = .ok (sym, q)) (h16 : ¬ (sym = 16 ∧ row = [])) (hs : q + (moreF sym).1 ≤ 8 * b.length) :
    Md b lk cnt RR (q + (moreF sym).1) 0 (row ++ List.replicate ((moreF sym).2 + nbr b q (moreF sym).1) (whatF sym row)) := by
  obtain ⟨f, h1, h2⟩ := md_step h hlt
  rw [hrd] at h2
  simp only at h2
  rw [if_neg h16, if_pos hs] at h2
  have hm := (more_le sym b q).1
  generalize (moreF sym).2 + nbr b q (moreF sym).1 = m at *
  by_cases hm2 : m ≤ cnt - row.length
  · rw [if_pos hm2] at h2
    exact .inl ⟨rfl, by simp; omega, f, by simp; omega, h2⟩
  · rw [if_neg hm2] at h2
    exact .inr (.inl ⟨rfl, by simp; omega, h2⟩)
theorem md_short {b : List UInt8} {lk : List Int} {cnt : Nat} {RR : Except Int (Nat × List Int)} {p : Nat} {row : List Int} (h : Md b lk cnt RR p 0 row) (hlt : row.length < cnt) {sym q : Nat} (hrd : rdF lk b p = .ok (sym, q)) (h16 : ¬ (sym = 16 ∧ row = [])) (hs : ¬ q + (moreF sym).1 ≤ 8 * b.length) (q' : Nat) (row' : List Int) :
    Md b lk cnt RR q' 7 row' := by
  obtain ⟨f, h1, h2⟩ := md_step h hlt
  rw [hrd] at h2
  simp only at h2
  rw [if_neg h16, if_neg hs] at h2
  exact .inr (.inr ⟨by decide, h2⟩)
theorem md_none {b : List UInt8} {lk : List Int} {cnt : Nat} {RR : Except Int (Nat × List Int)} {p : Nat} {row : List Int} (h : Md b lk cnt RR p 0 row) (hlt : row.length < cnt) {sym q : Nat} (hrd : rdF lk b p = .ok (sym, q)) (h16 : sym = 16 ∧ row = []) : RR = .error 8 := by
  obtain ⟨f, h1, h2⟩ := md_step h hlt
  rw [hrd] at h2
  simp only at h2
  rwa [if_pos h16] at h2
theorem md_bad {b : List UInt8} {lk : List Int} {cnt : Nat} {RR : Except Int (Nat × List Int)} {p : Nat} {row : List Int} (h : Md b lk cnt RR p 0 row) (hlt : row.length < cnt) {x : Int} (hrd : rdF lk b p = .error x) : RR = .error x := by
  obtain ⟨f, h1, h2⟩ := md_step h hlt
  rwa [hrd] at h2
theorem md_end {b : List UInt8} {lk : List Int} {cnt : Nat} {RR : Except Int (Nat × List Int)} {p : Nat} {row : List Int} (h : Md b lk cnt RR p 0 row) (hlt : ¬ row.length < cnt) : (row.length = cnt ∧ RR = .ok (p, row)) ∨ (cnt < row.length ∧ RR = .error 8) := by
  rcases h with ⟨_, h1, f, h2, h3⟩ | ⟨_, h1, h2⟩ | ⟨h1, _⟩
  · exact .inl ⟨by omega, by rw [h3, row_done lk b cnt f p row hlt]⟩
  · exact .inr ⟨h1, h2⟩
  · exact absurd rfl h1
theorem md_err {b : List UInt8} {lk : List Int} {cnt : Nat} {RR : Except Int (Nat × List Int)} {p : Nat} {er : Int} {row : List Int} (h : Md b lk cnt RR p er row) (he : er ≠ 0) : RR = .error er := by
  rcases h with ⟨h1, _⟩ | ⟨h1, _⟩ | ⟨_, h2⟩
  · exact absurd h1 he
  · exact absurd h1 he
  · exact h2
theorem REnds.less {K K2 : Nat → Prop} {N : Nat} {w w1 w' : World} {sb : Nat} {vb : Value} {b : List UInt8} {most p : Nat} {out : List UInt8} {r : Except Int (Nat × List UInt8)} {e : Ending} (h : Rs K N w1 sb vb b p out most (.int .i64 0)) (kp : Kp K w w1) (h2 : REnds K2 N w1 sb vb b most r e w') (hk : ∀ k, K k → K2 k) : REnds K N w sb vb b most r e w' := by
  obtain ⟨h3, h4, h5⟩ := h2
  have k4 := h4.less hk
  refine ⟨h3, kp.trans k4, ?_⟩
  rcases h5 with ⟨q, o, h6, h7⟩ | ⟨x, q, o, h6, h7, h8⟩
  · exact .inl ⟨q, o, h6, h.back2 h7 k4⟩
  · exact .inr ⟨x, q, o, h6, h7, h.back2 h8 k4⟩
end Go.Proofs.Ytcjfaahlchbcmaa
