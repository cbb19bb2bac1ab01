/- What symbols tell; the walk of told. The walk of told. -/
import Derived.Test.YtbnghmeeddjaoaaFr
namespace Go.Proofs.Ytbnghmeeddjaoaa
open Go.RowKit Go.BigFrame Gt

/-- A length or a distance, with the extra bits that follow. -/
def meaF (T : Int × Int × Int) (b : List UInt8) (p : Nat) : Except Int (Nat × Nat) :=
  if T.2.2 = 0 then (if p + T.2.1.toNat ≤ 8 * b.length then .ok (T.1.toNat + nbr b p T.2.1.toNat, p + T.2.1.toNat) else .error 7) else .error 8
/-- Symbols up to the one that ends a block. -/
def toldF (l1 l2 : List Int) (b : List UInt8) (most : Nat) : Nat → Nat → List UInt8 → Except Int (Nat × List UInt8)
  | 0, _, _ => .error 7
  | f + 1, p, out => match rdF l1 b p with
    | .error x => .error x
    | .ok (s, q) =>
      if s = 256 then .ok (q, out)
      else if s < 256 then (if out.length = most then .error 4 else toldF l1 l2 b most f q (out ++ [UInt8.ofNat s]))
      else match meaF (Gf.lenT s) b q with
        | .error x => .error x
        | .ok (len, q1) => match rdF l2 b q1 with
          | .error x => .error x
          | .ok (d, q2) => match meaF (Gf.disT d) b q2 with
            | .error x => .error x
            | .ok (dist, q3) => match againF most q3 len dist out with
              | .error x => .error x
              | .ok (p', out') => toldF l1 l2 b most f p' out'
theorem stp_bd : (∀ n, n < 28 → (Gf.stp 3 4 n).1 ≤ 100000 ∧ (Gf.stp 3 4 n).2 ≤ 16) ∧ (∀ n, n < 30 → 1 ≤ (Gf.stp 1 2 n).1 ∧ (Gf.stp 1 2 n).1 ≤ 30000 ∧ (Gf.stp 1 2 n).2 ≤ 13) := by decide +kernel
theorem lenT_bd (z : Int) : ∃ (base extra : Nat) (e : Int), Gf.lenT z = ((base : Int), (extra : Int), e) ∧ base ≤ 1000 ∧ extra ≤ 16 := by
  have h2 : ∀ n, n < 28 → (Gf.stp 3 4 n).1 ≤ 1000 := by decide +kernel
  unfold Gf.lenT
  split
  · exact ⟨0, 0, 2, rfl, by decide, by decide⟩
  split
  · exact ⟨258, 0, 0, rfl, by decide, by decide⟩
  · exact ⟨_, _, 0, rfl, h2 _ (by omega), (stp_bd.1 _ (by omega)).2⟩
theorem disT_bd (z : Int) : ∃ (base extra : Nat) (e : Int), Gf.disT z = ((base : Int), (extra : Int), e) ∧ base ≤ 30000 ∧ extra ≤ 13 ∧ (e = 0 → 1 ≤ base) := by
  unfold Gf.disT
  split
  · exact ⟨0, 0, 2, rfl, by decide, by decide, by decide⟩
  · have := stp_bd.2 z.toNat (by omega)
    exact ⟨_, _, 0, rfl, this.2.1, this.2.2, fun _ => this.1⟩
theorem rdF_gt {l : List Int} {b : List UInt8} {p s q : Nat} (h : rdF l b p = .ok (s, q)) : p < q := by
  have key : ∀ f n c, (Gf.symF l (Gf.bitAt b p) f n c).2.2 = 0 → 0 < (Gf.symF l (Gf.bitAt b p) f n c).2.1 := by
    intro f
    induction f with
    | zero => intro n c h; simp [Gf.symF] at h
    | succ f ih =>
      intro n c h
      rw [Gf.symF] at h ⊢
      cases hh : Gf.hit l n c with
      | some i =>
        simp only
        have := (Gf.some_hit hh).2.2.1
        omega
      | none =>
        simp only [hh] at h ⊢
        by_cases hl : Gf.live l n c l.length = true
        · simp only [hl, if_true] at h ⊢
          cases hb : Gf.bitAt b p n with
          | none => simp [hb] at h
          | some v =>
            simp only [hb] at h ⊢
            exact ih (n + 1) (2 * c + v) h
        · simp [hl] at h
  unfold rdF at h
  split at h
  · rename_i h0
    have := key _ _ _ h0
    cases h
    omega
  · cases h
/-- A measured length or distance, or how that fails. -/
def MEnds (K : Nat → Prop) (N : Nat) (w : World) (sb : Nat) (vb : Value) (b out : List UInt8) (most : Nat) (fx : Value) (r : Except Int (Nat × Nat)) (e : Ending) (w' : World) : Prop :=
  Kp K w w' ∧ match r with
      | .ok (s, q) => e = .returned (.int .i64 (s : Int)) ∧ St K N w' sb vb b q out most fx
      | .error x => e = flt x
theorem mea_any (K : Nat → Prop) (N : Nat) (w : World) (sb : Nat) (vb : Value) (b : List UInt8) (p : Nat) (out : List UInt8) (most : Nat) (fx : Value) (T : Int × Int × Int) (base extra : Nat) (e0 : Int) (hT : T = ((base : Int), (extra : Int), e0)) (hb : base ≤ 100000) (hx : extra ≤ 16) (h : St K N w sb vb b p out most fx) :
    Calls Try.prog 49 #[.pointer (some ⟨sb, 0, none⟩), .int .i64 (base : Int), .int .i64 (extra : Int), .int .i64 e0] w (MEnds K N w sb vb b out most fx (meaF T b p)) := by
  refine (measure_any K N w sb vb b p out most fx base extra e0 hb hx h).mono ?_
  rintro e w' ⟨kp, ⟨h1, h2, rfl, st⟩ | ⟨h1, rfl⟩ | ⟨h1, h2, rfl⟩⟩
  · refine ⟨kp, ?_⟩
    unfold meaF
    rw [hT]
    simp only [h1, if_true, Int.toNat_natCast, if_pos h2]
    exact ⟨trivial, st⟩
  · refine ⟨kp, ?_⟩
    unfold meaF
    rw [hT]
    simp only [if_neg h1]
  · refine ⟨kp, ?_⟩
    unfold meaF
    rw [hT]
    simp only [h1, if_true, Int.toNat_natCast, if_neg h2]
theorem mea_bd {T : Int × Int × Int} {base extra : Nat} {e0 : Int} (hT : T = ((base : Int), (extra : Int), e0)) (hx : extra ≤ 16) {b : List UInt8} {p n q : Nat} (h : meaF T b p = .ok (n, q)) : e0 = 0 ∧ base ≤ n ∧ n < base + 65536 ∧ p ≤ q := by
  unfold meaF at h
  rw [hT] at h
  simp only [Int.toNat_natCast] at h
  split at h
  · rename_i h0
    split at h
    · have hl : nbr b p extra < 65536 := Nat.lt_of_lt_of_le (nbr_lt b p extra) (Nat.pow_le_pow_right (n := 2) (by decide) hx)
      cases h
      exact ⟨h0, by omega, by omega, by omega⟩
    · cases h
  · cases h
theorem again_ends {most p len dist : Nat} {out : List UInt8} {q : Nat} {o : List UInt8} (h : againF most p len dist out = .ok (q, o)) : q = p := by
  unfold againF at h
  split at h
  · cases h
  · cases ht : tellF most dist len out with
    | error x => rw [ht] at h; cases h
    | ok o' => rw [ht] at h; cases h; rfl
theorem results38 (T : Array Value) (w : World) : (results Try.f38 T).run Try.prog w = .ok (.tuple #[]) w := by
  unfold results
  simp [go_sem]
theorem nextE_any (K : Nat → Prop) (N : Nat) (w : World) (sb : Nat) (vb : Value) (b : List UInt8) (p : Nat) (out : List UInt8) (most : Nat) (fx : Value) (l : List Int) (fb xb : Nat) (hchk : Gf.chkE l = 0) (hR : RdK K w sb l fb xb) (h : St K N w sb vb b p out most fx) :
    Calls Try.prog 48 #[.pointer (some ⟨fb, 0, none⟩), .pointer (some ⟨xb, 0, none⟩)] w (MEnds K N w sb vb b out most fx (rdF l b p)) := next_any K N w sb vb b p out most fx l fb xb hchk hR h
theorem MEnds.cases {K : Nat → Prop} {N : Nat} {w w' : World} {sb : Nat} {vb : Value} {b out : List UInt8} {most : Nat} {fx : Value} {r : Except Int (Nat × Nat)} {e : Ending} (h : MEnds K N w sb vb b out most fx r e w') :
    Kp K w w' ∧ ((∃ s q, r = .ok (s, q) ∧ e = .returned (.int .i64 (s : Int)) ∧ St K N w' sb vb b q out most fx) ∨ (∃ x, r = .error x ∧ e = flt x)) := by
  obtain ⟨kp, h⟩ := h
  refine ⟨kp, ?_⟩
  cases r with
  | error x => exact .inr ⟨x, rfl, h⟩
  | ok sq => exact .inl ⟨sq.1, sq.2, rfl, h.1, h.2⟩
theorem Ends.cases {K : Nat → Prop} {N : Nat} {w w' : World} {sb : Nat} {vb : Value} {b : List UInt8} {most : Nat} {fx : Value} {r : Except Int (Nat × List UInt8)} {e : Ending} (h : Ends K N w sb vb b most fx r e w') :
    Kp K w w' ∧ ((∃ q o, r = .ok (q, o) ∧ e = .returned (.tuple #[]) ∧ St K N w' sb vb b q o most fx) ∨ (∃ x, r = .error x ∧ e = flt x)) := by
  obtain ⟨kp, h⟩ := h
  refine ⟨kp, ?_⟩
  cases r with
  | error x => exact .inr ⟨x, rfl, h⟩
  | ok sq => exact .inl ⟨sq.1, sq.2, rfl, h.1, h.2⟩
end Go.Proofs.Ytbnghmeeddjaoaa
namespace Go.Proofs.Ytbnghmeeddjaoaa
open Go.RowKit Go.BigFrame Gt

set_option maxRecDepth 100000 in
set_option maxHeartbeats 4000000 in
theorem told_any (K : Nat → Prop) (N : Nat) (w : World) (sb : Nat) (vb : Value) (b : List UInt8) (p : Nat) (out : List UInt8) (most : Nat) (fx : Value) (l1 l2 : List Int) (f1 x1 f2 x2 : Nat) (hc1 : Gf.chkE l1 = 0) (hc2 : Gf.chkE l2 = 0) (hR1 : RdK K w sb l1 f1 x1) (hR2 : RdK K w sb l2 f2 x2) (h : St K N w sb vb b p out most fx) :
    Calls Try.prog 38 #[.pointer (some ⟨sb, 0, none⟩), .agg #[.func (.func 48) #[] #[.pointer (some ⟨f1, 0, none⟩), .pointer (some ⟨x1, 0, none⟩)], .func (.func 48) #[] #[.pointer (some ⟨f2, 0, none⟩), .pointer (some ⟨x2, 0, none⟩)]]] w (Ends K N w sb vb b most fx (toldF l1 l2 b most (8 * b.length + 1) p out)) := by
  obtain ⟨w0, hw0⟩ : ∃ w0, w0 = w.alloc (.cells #[.func (.func 48) #[] #[.pointer (some ⟨f1, 0, none⟩), .pointer (some ⟨x1, 0, none⟩)], .func (.func 48) #[] #[.pointer (some ⟨f2, 0, none⟩), .pointer (some ⟨x2, 0, none⟩)]] 72) := ⟨_, rfl⟩
  have rt : Row w0 w.heap.size 72 #[.func (.func 48) #[] #[.pointer (some ⟨f1, 0, none⟩), .pointer (some ⟨x1, 0, none⟩)], .func (.func 48) #[] #[.pointer (some ⟨f2, 0, none⟩), .pointer (some ⟨x2, 0, none⟩)]] := by rw [hw0]; exact Row.new _ _ _
  have hsbl : sb < w.heap.size := by obtain ⟨vo, hr, _⟩ := h.row; exact hr.lt
  have st0 : St (fun k => K k ∨ k = w.heap.size) N w0 sb vb b p out most fx := St.more (by rw [hw0]; exact h.alloc _) w.heap.size rt (by decide) (by omega)
  have kp0 : Kp K w w0 := by rw [hw0]; exact Kp.below ((Below.refl _ _).alloc (Nat.le_refl _) _) h.kl
  have rd1 : RdK (fun k => K k ∨ k = w.heap.size) w0 sb l1 f1 x1 := (hR1.keep kp0).more fun _ hk => .inl hk
  have rd2 : RdK (fun k => K k ∨ k = w.heap.size) w0 sb l2 f2 x2 := (hR2.keep kp0).more fun _ hk => .inl hk
  have BK : Box' (∀ w' q o, Kp (fun k => K k ∨ k = w.heap.size) w0 w' → St (fun k => K k ∨ k = w.heap.size) N w' sb vb b q o most fx → Kp K w w' ∧ St K N w' sb vb b q o most fx) := ⟨fun w' q o kp st => ⟨kp0.trans (kp.less fun _ hk => .inl hk), h.back st (kp0.trans (kp.less fun _ hk => .inl hk))⟩⟩
  have BP : Box' (∀ w', Kp (fun k => K k ∨ k = w.heap.size) w0 w' → Kp K w w') := ⟨fun w' kp => kp0.trans (kp.less fun _ hk => .inl hk)⟩
  have CT : Box' (∀ w', Kp (fun k => K k ∨ k = w.heap.size) w0 w' → w'.cell? ⟨w.heap.size, 0, none⟩ = some (.func (.func 48) #[] #[.pointer (some ⟨f1, 0, none⟩), .pointer (some ⟨x1, 0, none⟩)]) ∧ w'.cell? ⟨w.heap.size, 1, none⟩ = some (.func (.func 48) #[] #[.pointer (some ⟨f2, 0, none⟩), .pointer (some ⟨x2, 0, none⟩)])) := ⟨fun w' kp => by
    have r := rt.same (kp.block w.heap.size (.inr rfl))
    exact ⟨by rw [r.cell]; rfl, by rw [r.cell]; rfl⟩⟩
  generalize (fun k => K k ∨ k = w.heap.size) = K' at *
  have NX1 : Box' (∀ w' q o, Kp K' w0 w' → St K' N w' sb vb b q o most fx → Calls Try.prog 48 #[.pointer (some ⟨f1, 0, none⟩), .pointer (some ⟨x1, 0, none⟩)] w' (MEnds K' N w' sb vb b o most fx (rdF l1 b q))) := ⟨fun w' q o kp st => nextE_any K' N w' sb vb b q o most fx l1 f1 x1 hc1 (rd1.keep kp) st⟩
  have NX2 : Box' (∀ w' q o, Kp K' w0 w' → St K' N w' sb vb b q o most fx → Calls Try.prog 48 #[.pointer (some ⟨f2, 0, none⟩), .pointer (some ⟨x2, 0, none⟩)] w' (MEnds K' N w' sb vb b o most fx (rdF l2 b q))) := ⟨fun w' q o kp st => nextE_any K' N w' sb vb b q o most fx l2 f2 x2 hc2 (rd2.keep kp) st⟩
  have LT1 : Box' (∀ q s q', rdF l1 b q = .ok (s, q') → s < 512) := ⟨fun q s q' hh => by have := rdF_lt hh; have := (good_of hc1).2.2; omega⟩
  have LT2 : Box' (∀ q s q', rdF l2 b q = .ok (s, q') → s < 512) := ⟨fun q s q' hh => by have := rdF_lt hh; have := (good_of hc2).2.2; omega⟩
  have GT1 : Box' (∀ q s q', rdF l1 b q = .ok (s, q') → q < q') := ⟨fun q s q' hh => rdF_gt hh⟩
  have GT2 : Box' (∀ q s q', rdF l2 b q = .ok (s, q') → q < q') := ⟨fun q s q' hh => rdF_gt hh⟩
  obtain ⟨R0, hR0⟩ : ∃ R0, R0 = toldF l1 l2 b most (8 * b.length + 1) p out := ⟨_, rfl⟩
  rw [← hR0]
  have HR0 := Box'.mk hR0
  have ST0 := Box'.mk st0
  have TS : Box' (∀ f p out, toldF l1 l2 b most (f + 1) p out = match rdF l1 b p with
    | .error x => .error x
    | .ok (s, q) =>
      if s = 256 then .ok (q, out)
      else if s < 256 then (if out.length = most then .error 4 else toldF l1 l2 b most f q (out ++ [UInt8.ofNat s]))
      else match meaF (Gf.lenT s) b q with
        | .error x => .error x
        | .ok (len, q1) => match rdF l2 b q1 with
          | .error x => .error x
          | .ok (d, q2) => match meaF (Gf.disT d) b q2 with
            | .error x => .error x
            | .ok (dist, q3) => match againF most q3 len dist out with
              | .error x => .error x
              | .ok (p', out') => toldF l1 l2 b most f p' out') := ⟨fun f p out => rfl⟩
  have MS : Box' (∀ W q o, St K' N W sb vb b q o most fx → (intOf ((W.cell? ⟨sb, 1, none⟩).getD undef)).toNat = q ∧ q ≤ 8 * b.length ∧ o.length ≤ most ∧ most ≤ 65536) := ⟨fun W q o hW => by
    obtain ⟨vo, hr, _⟩ := hW.row
    exact ⟨by rw [hr.cell]; rfl, hW.pl, hW.ol, hW.ml⟩⟩
  clear hc1 hc2 hR1 hR2 h rt hsbl st0 kp0 rd1 rd2 hR0
  go_enter Try.func38, Try.ntmps38
  go_wp2_with fail
  rw [← hw0]
  clear hw0
  generalize w.heap.size = tb at *
  go_loopw [4] (fun _ wr => ∃ (f p' : Nat) (o : List UInt8), Box' (R0 = toldF l1 l2 b most f p' o ∧ 8 * b.length + 1 ≤ p' + f) ∧ Box' (St K' N wr sb vb b p' o most fx) ∧ Box' (Kp K' w0 wr)) (fun _ wr => 8 * b.length + 1 - (intOf ((wr.cell? ⟨sb, 1, none⟩).getD undef)).toNat)
  case atStart => exact ⟨8 * b.length + 1, p, out, ⟨HR0.out, by omega⟩, ST0, ⟨Kp.refl _ _⟩⟩
  case round =>
    clear HR0 ST0
    obtain ⟨f, p', o, HE, ST, KP⟩ := hrel
    obtain ⟨hM1, hM2, hM3, hM4⟩ := MS.out wr p' o ST.out
    obtain ⟨f', rfl⟩ : ∃ f', f = f' + 1 := ⟨f - 1, by have := HE.out.2; omega⟩
    have EK := HE.out.1
    rw [TS.out f' p' o] at EK
    have EK1 := Box'.mk EK
    have HF := Box'.mk HE.out.2
    have HM1 := Box'.mk hM1
    have nx1 := NX1.out wr p' o KP.out ST.out
    obtain ⟨c0, c1⟩ := CT.out wr KP.out
    clear EK HE hM1 c1
    go_wp2_with fail
    refine nx1.mono ?_
    clear nx1
    intro e w1 hh
    obtain ⟨kp1, ⟨s, q, hrd, rfl, st1⟩ | ⟨x, hrd, rfl⟩⟩ := hh.cases
    case inr =>
      have e0 : R0 = .error x := by rw [EK1.out, hrd]
      exact ⟨rfl, Ends.bad e0 (BP.out w1 (KP.out.trans kp1))⟩
    case inl =>
      have hs5 := LT1.out _ _ _ hrd
      have hqg := GT1.out _ _ _ hrd
      have EK := EK1.out
      rw [hrd] at EK
      have EK2 : Box' (R0 = if s = 256 then .ok (q, o)
        else if s < 256 then (if o.length = most then .error 4 else toldF l1 l2 b most f' q (o ++ [UInt8.ofNat s]))
        else match meaF (Gf.lenT s) b q with
        | .error x => .error x
        | .ok (len, q1) => match rdF l2 b q1 with
          | .error x => .error x
          | .ok (d, q2) => match meaF (Gf.disT d) b q2 with
            | .error x => .error x
            | .ok (dist, q3) => match againF most q3 len dist o with
              | .error x => .error x
              | .ok (p', out') => toldF l1 l2 b most f' p' out') := ⟨EK⟩
      have KP1 := Box'.mk (KP.out.trans kp1)
      have ST1 := Box'.mk st1
      clear EK EK1 hrd hh kp1 st1 KP ST c0
      by_cases h256 : s = 256
      · subst h256
        have e0 : R0 = .ok (q, o) := EK2.out
        obtain ⟨kb, sbk⟩ := BK.out w1 q o KP1.out ST1.out
        have RES := Box'.mk (Ends.good e0 kb sbk)
        clear e0 kb sbk EK2
        go_wp2_with fail
        exact ⟨rfl, _, results38 _ _, RES.out⟩
      · have EK := EK2.out
        rw [if_neg h256] at EK
        have hb256 : ((s : Int) == 256) = false := by rw [beq_eq_false_iff_ne]; omega
        by_cases hlt : s < 256
        · rw [if_pos hlt] at EK
          have hpu := put_any K' N w1 sb vb b q o most fx (UInt8.ofNat s) ST1.out
          have ev : B (UInt8.ofNat s) = .int .u8 (s : Int) := by unfold B; rw [UInt8.toNat_ofNat_of_lt' (by exact hlt)]
          rw [ev] at hpu
          have EKB := Box'.mk EK
          clear EK EK2 ev h256
          go_wp2_with fail
          refine hpu.mono ?_
          clear hpu
          rintro e w2 ⟨kp2, ⟨h1, rfl, st2⟩ | ⟨h1, rfl⟩⟩
          · have EK := EKB.out
            rw [if_neg (by omega)] at EK
            have KP2 := Box'.mk (KP1.out.trans kp2)
            have ST2 := Box'.mk st2
            have EKN : Box' (R0 = toldF l1 l2 b most f' q (o ++ [UInt8.ofNat s]) ∧ 8 * b.length + 1 ≤ q + f') := ⟨EK, by have := HF.out; omega⟩
            have hM := (MS.out w2 q _ ST2.out).1
            have HMM : Box' (8 * b.length + 1 - (intOf ((w2.cell? ⟨sb, 1, none⟩).getD undef)).toNat < 8 * b.length + 1 - (intOf ((wr.cell? ⟨sb, 1, none⟩).getD undef)).toNat) := ⟨by rw [hM, HM1.out]; omega⟩
            clear EK EKB kp2 st2 hM
            go_wp2_with fail
            exact ⟨⟨f', q, _, EKN, ST2, KP2⟩, HMM.out⟩
          · have e0 : R0 = .error 4 := by rw [EKB.out, if_pos h1]
            exact ⟨rfl, Ends.bad e0 (BP.out w2 (KP1.out.trans kp2))⟩
        · rw [if_neg hlt] at EK
          have EKB := Box'.mk EK
          obtain ⟨base, extra, e0, hT, hbb, hbx⟩ := lenT_bd (s : Int)
          have hln := length_any (s : Int) w1
          have hme := mea_any K' N w1 sb vb b q o most fx (Gf.lenT (s : Int)) base extra e0 hT (by omega) hbx ST1.out
          rw [hT] at hln
          simp only [tv] at hln
          have HT := Box'.mk hT
          clear EK EK2 hT h256
          go_wp2_with fail
          refine hln.mono ?_
          rintro e w2 ⟨rfl, rfl⟩
          clear hln
          go_wp2_with fail
          refine hme.mono ?_
          clear hme
          intro e w3 hh
          obtain ⟨kp3, ⟨len, q1, hme, rfl, st3⟩ | ⟨x, hme, rfl⟩⟩ := hh.cases
          case inr =>
            have e0 : R0 = .error x := by rw [EKB.out, hme]
            exact ⟨rfl, Ends.bad e0 (BP.out w3 (KP1.out.trans kp3))⟩
          case inl =>
            obtain ⟨-, hl1, hl2, hq1⟩ := mea_bd HT.out hbx hme
            have EK := EKB.out
            rw [hme] at EK
            have EKC : Box' (R0 = match rdF l2 b q1 with
              | .error x => .error x
              | .ok (d, q2) => match meaF (Gf.disT d) b q2 with
                | .error x => .error x
                | .ok (dist, q3) => match againF most q3 len dist o with
                  | .error x => .error x
                  | .ok (p', out') => toldF l1 l2 b most f' p' out') := ⟨EK⟩
            have KP3 := Box'.mk (KP1.out.trans kp3)
            have ST3 := Box'.mk st3
            have nx2 := NX2.out w3 q1 o KP3.out ST3.out
            obtain ⟨c0, c1⟩ := CT.out w3 KP3.out
            clear EK EKB hme hh kp3 st3 KP1 ST1 c0 HT
            go_wp2_with fail
            refine nx2.mono ?_
            clear nx2
            intro e w4 hh
            obtain ⟨kp4, ⟨d, q2, hrd, rfl, st4⟩ | ⟨x, hrd, rfl⟩⟩ := hh.cases
            case inr =>
              have e0 : R0 = .error x := by rw [EKC.out, hrd]
              exact ⟨rfl, Ends.bad e0 (BP.out w4 (KP3.out.trans kp4))⟩
            case inl =>
              have hd5 := LT2.out _ _ _ hrd
              have hqg2 := GT2.out _ _ _ hrd
              have EK := EKC.out
              rw [hrd] at EK
              have EKD : Box' (R0 = match meaF (Gf.disT d) b q2 with
                | .error x => .error x
                | .ok (dist, q3) => match againF most q3 len dist o with
                  | .error x => .error x
                  | .ok (p', out') => toldF l1 l2 b most f' p' out') := ⟨EK⟩
              have KP4 := Box'.mk (KP3.out.trans kp4)
              obtain ⟨bas2, ext2, er2, hT, hbb2, hbx2, hb1⟩ := disT_bd (d : Int)
              have hds := distance_any (d : Int) w4
              have hme := mea_any K' N w4 sb vb b q2 o most fx (Gf.disT (d : Int)) bas2 ext2 er2 hT (by omega) (by omega) st4
              rw [hT] at hds
              simp only [tv] at hds
              have HT := Box'.mk hT
              have HB1 := Box'.mk hb1
              clear EK EKC hrd hh kp4 st4 KP3 ST3 c1 hT hb1
              go_wp2_with fail
              refine hds.mono ?_
              rintro e w5 ⟨rfl, rfl⟩
              clear hds
              go_wp2_with fail
              refine hme.mono ?_
              clear hme
              intro e w6 hh
              obtain ⟨kp6, ⟨dist, q3, hme, rfl, st6⟩ | ⟨x, hme, rfl⟩⟩ := hh.cases
              case inr =>
                have e0 : R0 = .error x := by rw [EKD.out, hme]
                exact ⟨rfl, Ends.bad e0 (BP.out w6 (KP4.out.trans kp6))⟩
              case inl =>
                obtain ⟨he0, hd1, hd2, hq3⟩ := mea_bd HT.out (by omega) hme
                have hdist := HB1.out he0
                have EK := EKD.out
                rw [hme] at EK
                have EKE : Box' (R0 = match againF most q3 len dist o with
                  | .error x => .error x
                  | .ok (p', out') => toldF l1 l2 b most f' p' out') := ⟨EK⟩
                have KP6 := Box'.mk (KP4.out.trans kp6)
                have hag := again_any K' N w6 sb vb b q3 o most fx len dist (by omega) (by omega) (by omega) st6
                have HQ : Box' (p' < q3) := ⟨by omega⟩
                clear EK EKD hme hh kp6 st6 KP4 HT HB1 he0 hd1 hd2 hq3 hl1 hl2 hq1 hqg hqg2 hbb hbx hbb2 hbx2 hdist hd5
                go_wp2_with fail
                refine hag.mono ?_
                clear hag
                intro e w7 hh
                obtain ⟨kp7, ⟨q4, o4, hag, rfl, st7⟩ | ⟨x, hag, rfl⟩⟩ := hh.cases
                case inr =>
                  have e0 : R0 = .error x := by rw [EKE.out, hag]
                  exact ⟨rfl, Ends.bad e0 (BP.out w7 (KP6.out.trans kp7))⟩
                case inl =>
                  have hq4 := again_ends hag
                  subst hq4
                  have EK := EKE.out
                  rw [hag] at EK
                  have KP7 := Box'.mk (KP6.out.trans kp7)
                  have ST7 := Box'.mk st7
                  have EKN : Box' (R0 = toldF l1 l2 b most f' q4 o4 ∧ 8 * b.length + 1 ≤ q4 + f') := ⟨EK, by have := HF.out; have := HQ.out; omega⟩
                  have hM := MS.out w7 q4 _ ST7.out
                  have HMM : Box' (8 * b.length + 1 - (intOf ((w7.cell? ⟨sb, 1, none⟩).getD undef)).toNat < 8 * b.length + 1 - (intOf ((wr.cell? ⟨sb, 1, none⟩).getD undef)).toNat) := ⟨by rw [hM.1, HM1.out]; have := HQ.out; have := hM.2.1; omega⟩
                  clear EK EKE kp7 st7 hM hag hh
                  go_wp2_with fail
                  exact ⟨⟨f', q4, _, EKN, ST7, KP7⟩, HMM.out⟩
end Go.Proofs.Ytbnghmeeddjaoaa
