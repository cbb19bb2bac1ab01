/- The walk of the reference's Inflate. The walk of InflateReads. -/
import Derived.Test.YtcjfaahlchbcmaaK51
import Derived.Test.YtcjfaahlchbcmaaK05
import Derived.Test.YtcjfaahlchbcmaaK01
namespace Go.Proofs.Ytcjfaahlchbcmaa
open Go.RowKit Go.BigFrame Gt
def Mq (b : List UInt8) (n : Nat) (RB : Except Int (Nat × List UInt8)) (l p : Nat) (o : List UInt8) (er : Int) : Prop :=
  (l = 0 ∧ er = 0 ∧ ∃ f, 8 * b.length + 1 ≤ p + f ∧ RB = blocksF b n f p o) ∨ (l = 1 ∧ er = 0 ∧ RB = .ok (p, o)) ∨ (er ≠ 0 ∧ RB = .error er)
def msr (n sb : Nat) (u : Value) (w : World) : Nat := if intOf u = 0 then mr n w sb else 0
section
variable {b : List UInt8} {n : Nat} {RB : Except Int (Nat × List UInt8)} {p : Nat} {o : List UInt8}
theorem fixS_len : fixS.length = 288 := by decide +kernel
theorem fixD_len : fixD.length = 30 := by decide +kernel
theorem fixS_ints {w : World} {g : Nat} (h : SegI w g fixS) : Ints w.heap.size w (.slice (some ⟨g, 0, none⟩) 288 288) fixS := by
  have := (ints_part (cap := 288) h (Nat.le_of_eq fixS_len) 288 (Nat.le_of_eq fixS_len.symm)).1
  rwa [List.take_of_length_le (Nat.le_of_eq fixS_len)] at this
theorem fixD_ints {w : World} {g : Nat} (h : SegI w g fixD) : Ints w.heap.size w (.slice (some ⟨g, 0, none⟩) 30 30) fixD := by
  have := (ints_part (cap := 30) h (Nat.le_of_eq fixD_len) 30 (Nat.le_of_eq fixD_len.symm)).1
  rwa [List.take_of_length_le (Nat.le_of_eq fixD_len)] at this
theorem mq_none (h : Mq b n RB 0 p o 0) (hp : p ≤ 8 * b.length) (hs : ¬ p + 1 ≤ 8 * b.length) : RB = .error 7 := by
  rcases h with ⟨_, _, f, h1, h2⟩ | ⟨h1, _⟩ | ⟨h1, _⟩
  · obtain ⟨f', rfl⟩ : ∃ f', f = f' + 1 := ⟨f - 1, by omega⟩
    rw [h2, blocksF, if_neg hs]
  · omega
  · exact absurd rfl h1
theorem mq_ok (h : Mq b n RB 0 p o 0) (hs : p + 1 ≤ 8 * b.length) {q : Nat} {o' : List UInt8} (hr : blockF b n (p + 1) o = .ok (q, o')) (hq : p < q) : Mq b n RB (nbr b p 1) q o' 0 := by
  rcases h with ⟨_, _, f, h1, h2⟩ | ⟨h1, _⟩ | ⟨h1, _⟩
  · obtain ⟨f', rfl⟩ : ∃ f', f = f' + 1 := ⟨f - 1, by omega⟩
    rw [blocksF, if_pos hs, hr] at h2
    simp only at h2
    have hl := nbr_lt b p 1
    by_cases h3 : nbr b p 1 = 1
    · rw [if_pos h3] at h2
      exact .inr (.inl ⟨h3, rfl, h2⟩)
    · rw [if_neg h3] at h2
      exact .inl ⟨by omega, rfl, f', by omega, h2⟩
  · omega
  · exact absurd rfl h1
theorem mq_bad (h : Mq b n RB 0 p o 0) (hs : p + 1 ≤ 8 * b.length) {x : Int} (hx : x ≠ 0) (hr : blockF b n (p + 1) o = .error x) (l q : Nat) (o' : List UInt8) : Mq b n RB l q o' x := by
  rcases h with ⟨_, _, f, h1, h2⟩ | ⟨h1, _⟩ | ⟨h1, _⟩
  · obtain ⟨f', rfl⟩ : ∃ f', f = f' + 1 := ⟨f - 1, by omega⟩
    rw [blocksF, if_pos hs, hr] at h2
    exact .inr (.inr ⟨hx, h2⟩)
  · omega
  · exact absurd rfl h1
def Bk (K : Nat → Prop) (N : Nat) (w0 wl : World) (sb : Nat) (v : Value) (b : List UInt8) (n : Nat) (RB : Except Int (Nat × List UInt8)) (l : Nat) : Prop :=
  ∃ q o er, Rs K N wl sb v b q o n (.int .i64 er) ∧ Kp K w0 wl ∧ Mq b n RB l q o er
theorem msr_err {K : Nat → Prop} {N : Nat} {wl : World} {sb : Nat} {v : Value} {q : Nat} {o' : List UInt8} {er : Int} (h : Rs K N wl sb v b q o' n (.int .i64 er)) (he : er ≠ 0) (u : Value) (hp : p ≤ 8 * b.length) : msr b.length sb u wl < 8 * b.length + 2 - p := by
  unfold msr
  rw [mr_bad h he]
  split <;> omega
theorem blk_end {K : Nat → Prop} {N : Nat} {w0 W w' : World} {sb : Nat} {v : Value} {e : Ending} (hM : Mq b n RB 0 p o 0) (hp : p ≤ 8 * b.length) (hs : p + 1 ≤ 8 * b.length) (kp0 : Kp K w0 W) (h : REnds K N W sb v b n (blockF b n (p + 1) o) e w') :
    e = .returned (.tuple #[]) ∧ Bk K N w0 w' sb v b n RB (nbr b p 1) ∧ msr b.length sb (.int .i64 ((nbr b p 1 : Nat) : Int)) w' < 8 * b.length + 2 - p := by
  obtain ⟨h1, h2, ⟨q, o', h3, h4⟩ | ⟨x, q, o', h3, h4, h5⟩⟩ := h
  · have hu := up_block b n (p + 1) o
    rw [h3] at hu
    have hu : p + 1 ≤ q := hu
    refine ⟨h1, ⟨q, o', 0, h4, kp0.trans h2, mq_ok hM hs h3 (by omega)⟩, ?_⟩
    unfold msr
    rw [mr_ok h4]
    split <;> omega
  · exact ⟨h1, ⟨q, o', x, h5, kp0.trans h2, mq_bad hM hs h4 h3 _ _ _⟩, msr_err h5 h4 _ hp⟩
end
set_option maxRecDepth 100000 in
set_option maxHeartbeats 4000000 in
theorem refInflate_any (v : Value) (b : List UInt8) (most : Int) (hb : b.length ≤ 140737488355328) (w : World) (h : Bts (· < w.heap.size) w v b) :
    Calls Try.prog 15 #[v, .int .i64 most] w (IEnds w (infR b most)) := by
  have HI := Box'.mk (infR.eq_1 b most)
  generalize infR b most = R at *
  by_cases hm : most < 0 ∨ 65536 < most
  · have e0 := HI.out
    rw [if_pos hm] at e0
    subst e0
    have RES : Box' (∀ u, u = .slice none 0 0 → OwnB w.heap.size w u [] ∧ Below w.heap.size w w) := ⟨fun u hu => by rw [hu]; exact ⟨OwnB.nil _ _, Below.refl _ _⟩⟩
    clear HI h
    rcases hm with hm | hm
    · go_enter Try.func15, Try.ntmps15
      go_wp2_with fail
      go_ret3
      exact ⟨_, rfl, RES.out _ rfl⟩
    · have hm0 : decide (most < 0) = false := decide_eq_false (by omega)
      go_enter Try.func15, Try.ntmps15
      go_wp2_with fail
      go_ret3
      exact ⟨_, rfl, RES.out _ rfl⟩
  · obtain ⟨n, rfl⟩ : ∃ n : Nat, most = (n : Int) := ⟨most.toNat, by omega⟩
    have e0 := HI.out
    rw [if_neg hm, Int.toNat_natCast] at e0
    have hn : n ≤ 65536 := by omega
    obtain ⟨w0, hw0⟩ : ∃ w0, w0 = w.alloc (.cells #[v, .int .i64 0, .slice none 0 0, .int .i64 (n : Int), .int .i64 0] 61) := ⟨_, rfl⟩
    have r0 : Row w0 w.heap.size 61 #[v, .int .i64 ((0 : Nat) : Int), .slice none 0 0, .int .i64 (n : Int), .int .i64 0] := by rw [hw0]; exact Row.new _ _ _
    have b0 : Below w.heap.size w w0 := by rw [hw0]; exact (Below.refl _ _).alloc (Nat.le_refl _) _
    have st0 : Rs (· < w.heap.size) w.heap.size w0 w.heap.size v b 0 [] n (.int .i64 0) :=
      ⟨⟨_, r0, OwnB.nil _ _⟩, fun k hk => .inl hk, h.below b0 fun _ hk => hk, Nat.lt_irrefl _, fun k hk => Nat.lt_of_lt_of_le hk b0.size, hb, Nat.zero_le _, Nat.zero_le _, hn, b0.size⟩
    have BL : Box' (∀ w', Kp (· < w.heap.size) w0 w' → Below w.heap.size w w') := ⟨fun w' kp => b0.trans ⟨kp.os, kp.tape, kp.output, kp.size, fun k hk => kp.block k hk⟩⟩
    have E0 := Box'.mk e0
    obtain ⟨RB, hRB⟩ : ∃ RB, RB = blocksF b n (8 * b.length + 1) 0 [] := ⟨_, rfl⟩
    rw [← hRB] at E0
    have B0 : Box' (Bk (· < w.heap.size) w.heap.size w0 w0 w.heap.size v b n RB 0) := ⟨0, [], 0, st0, Kp.refl _ _, .inl ⟨rfl, rfl, 8 * b.length + 1, by omega, hRB⟩⟩
    obtain ⟨av, cv, rfl, _⟩ := h
    obtain ⟨sb, hsb⟩ : ∃ sb, sb = w.heap.size := ⟨_, rfl⟩
    have BFE := Box'.mk (blockF.eq_1 b n)
    obtain ⟨vv, hvv⟩ : ∃ vv, vv = Value.slice av b.length cv := ⟨_, rfl⟩
    have HW0 := Box'.mk hw0
    clear HI hm e0 r0 b0 st0 hRB hw0
    go_enter Try.func15, Try.ntmps15
    go_wp2_with fail
    rw [← HW0.out, ← hsb]
    rw [← hsb, ← hvv] at B0
    rw [← hsb] at BL
    have HSB := Box'.mk hsb
    clear HW0 hsb hvv
    go_loopw [8] (fun u wl => ∃ l : Nat, u = .int .i64 (l : Int) ∧ l < 2 ∧ Box' (Bk (· < sb) sb w0 wl sb vv b n RB l)) (fun u wl => msr b.length sb u wl)
    case atStart => exact ⟨0, rfl, by omega, B0⟩
    case round =>
      clear B0
      obtain ⟨l, rfl, hl2, BK⟩ := hrel
      obtain ⟨p, o, er, st, kp, mq⟩ := BK.out
      have ST := Box'.mk st
      have KP := Box'.mk kp
      have c4 := st.cell4
      have hpl := st.pl
      have hbl := st.bl
      clear BK
      by_cases her : er = 0
      case neg =>
        have her1 : (er == 0) = false := by rw [beq_eq_false_iff_ne]; exact her
        have her2 : (er != 0) = true := by simpa using her
        have hRB : RB = .error er := by
          rcases mq with ⟨_, h1, _⟩ | ⟨_, h1, _⟩ | ⟨_, h1⟩
          · exact absurd h1 her
          · exact absurd h1 her
          · exact h1
        have e1 := E0.out
        rw [hRB] at e1
        have e2 : R = ([], 0, er) := e1
        subst e2
        have RES : Box' (∀ u m, u = .slice none 0 0 → OwnB sb (wr.drewN m) u [] ∧ Below sb w (wr.drewN m)) := ⟨fun u m hu => by rw [hu]; exact ⟨OwnB.nil _ _, Below.drewN (BL.out wr kp) m⟩⟩
        have hl0 : l = 0 ∨ l = 1 := by omega
        clear st kp mq ST KP e1 E0 BL BFE her hRB
        rcases hl0 with rfl | rfl
        · go_wp2_with fail
          go_quiet (fail)
          go_wp2_with fail
          go_ret3
          exact ⟨_, rfl, by rw [← HSB.out]; exact RES.out _ _ rfl⟩
        · go_wp2_with fail
          go_quiet (fail)
          go_wp2_with fail
          go_ret3
          exact ⟨_, rfl, by rw [← HSB.out]; exact RES.out _ _ rfl⟩
      case pos =>
      subst her
      by_cases hl : l = 0
      case neg =>
        obtain rfl : l = 1 := by omega
        have hRB : RB = .ok (p, o) := by
          rcases mq with ⟨h1, _⟩ | ⟨_, _, h1⟩ | ⟨h1, _⟩
          · omega
          · exact h1
          · exact absurd rfl h1
        have e1 := E0.out
        rw [hRB] at e1
        have e2 : R = (o, (p + 7) / 8, 0) := e1
        subst e2
        obtain ⟨vo, hr1, ho⟩ := st.row
        have c2 : wr.cell? ⟨sb, 2, none⟩ = some vo := by rw [hr1.cell]; rfl
        have c1 : wr.cell? ⟨sb, 1, none⟩ = some (.int .i64 (p : Int)) := by rw [hr1.cell]; rfl
        have HO := Box'.mk ho
        have BLW := Box'.mk (BL.out wr kp)
        have hq7 : ((p : Int) + 7) / 8 = (((p + 7) / 8 : Nat) : Int) := by omega
        clear st kp mq ST KP e1 E0 BL BFE hRB hr1 ho hl
        go_wp2_with fail
        go_quiet (fail)
        go_wp2_with fail
        go_ret3
        refine ⟨_, ?_, by rw [← HSB.out]; exact HO.out, by rw [← HSB.out]; exact Below.drewN BLW.out nq⟩
        rw [← hq7]
        rfl
      case pos =>
      subst hl
      have HM0 : Box' (msr b.length sb (.int .i64 ((0 : Nat) : Int)) wr = 8 * b.length + 2 - p) := ⟨by unfold msr; rw [mr_ok st]; rfl⟩
      have MQ := Box'.mk mq
      have tk := rtake_any _ _ wr sb vv b p o n 1 (by decide) st
      clear st kp mq E0 BL
      go_wp2_with fail
      refine tk.mono ?_
      clear tk
      rintro e w1 ⟨kp1, ⟨v1, q1, e1, rfl, st1⟩ | ⟨x, e1, hx, rfl, st1⟩⟩
      case inr =>
        obtain ⟨hs, rfl⟩ := tk_err e1
        have te := rtake_err _ _ w1 sb vv b _ _ n 7 (by decide) 2 st1
        have BK : Box' (Bk (· < sb) sb w0 w1 sb vv b n RB 0) := ⟨_, _, 7, st1, KP.out.trans kp1, .inr (.inr ⟨by decide, mq_none MQ.out hpl hs⟩)⟩
        have MX : Box' (msr b.length sb (.int .i64 ((0 : Nat) : Int)) w1 < 8 * b.length + 2 - p) := ⟨msr_err st1 (by decide) _ hpl⟩
        have c4 := st1.cell4
        clear e1 hs hx kp1 st1 MQ ST KP
        go_wp2_with fail
        refine te.mono ?_
        clear te
        rintro e w2 ⟨rfl, rfl⟩
        go_wp2_with fail
        exact ⟨⟨0, rfl, by omega, BK⟩, by rw [HM0.out]; exact MX.out⟩
      case inl =>
      obtain ⟨hs1, rfl, rfl⟩ := tk_ok e1
      have tk := rtake_any _ _ w1 sb vv b (p + 1) o n 2 (by decide) st1
      have KP1 := Box'.mk (KP.out.trans kp1)
      have BE : Box' (∀ W w' e, Kp (· < sb) w0 W → REnds (· < sb) sb W sb vv b n (blockF b n (p + 1) o) e w' → e = .returned (.tuple #[]) ∧ Bk (· < sb) sb w0 w' sb vv b n RB (nbr b p 1) ∧ msr b.length sb (.int .i64 ((nbr b p 1 : Nat) : Int)) w' < 8 * b.length + 2 - p) := ⟨fun W w' e kp hh => blk_end MQ.out hpl hs1 kp hh⟩
      have HS : Box' (∀ W, Kp (· < sb) w0 W → ∀ q o', Rs (· < sb) sb W sb vv b q o' n (.int .i64 7) → ¬ p + 1 + 2 ≤ 8 * b.length → Bk (· < sb) sb w0 W sb vv b n RB (nbr b p 1) ∧ msr b.length sb (.int .i64 ((nbr b p 1 : Nat) : Int)) W < 8 * b.length + 2 - p) := ⟨fun W kp q o' st hs => ⟨⟨q, o', 7, st, kp, mq_bad MQ.out hs1 (by decide) (by rw [BFE.out, if_neg hs]) _ _ _⟩, msr_err st (by decide) _ hpl⟩⟩
      have BFX := Box'.mk (BFE.out (p + 1) o)
      have HL2 := Box'.mk (nbr_lt b p 1)
      have c4 := st1.cell4
      clear e1 kp1 st1 MQ ST KP BFE
      generalize blockF b n (p + 1) o = BR at *
      generalize nbr b p 1 = l at *
      have hl2' : l < 2 := HL2.out
      go_wp2_with fail
      refine tk.mono ?_
      clear tk
      rintro e w2 ⟨kp2, ⟨v2, q2, e2, rfl, st2⟩ | ⟨x, e2, hx, rfl, st2⟩⟩
      case inr =>
        obtain ⟨hs, rfl⟩ := tk_err e2
        obtain ⟨bk, mx⟩ := HS.out w2 (KP1.out.trans kp2) _ _ st2 hs
        have BK := Box'.mk bk
        have MX := Box'.mk mx
        have c4 := st2.cell4
        clear e2 hs hx kp2 st2 bk mx HS BE KP1 BFX
        go_wp2_with fail
        exact ⟨⟨l, rfl, hl2', BK⟩, by rw [HM0.out]; exact MX.out⟩
      case inl =>
      obtain ⟨hs2, rfl, rfl⟩ := tk_ok e2
      have c4 := st2.cell4
      have KP2 := Box'.mk (KP1.out.trans kp2)
      have ST2 := Box'.mk st2
      have hk4 := nbr_lt b (p + 1) 2
      have bfx := BFX.out
      rw [if_pos hs2] at bfx
      have BFY := Box'.mk bfx
      clear e2 kp2 st2 HS KP1 BFX bfx hs2
      generalize nbr b (p + 1) 2 = kd at *
      have hk4' : kd < 4 := hk4
      clear hk4
      by_cases k0 : kd = 0
      case pos =>
        subst k0
        have cl := rstored_any _ _ w2 sb vv b (p + 1 + 2) o n ST2.out
        have hB : BR = storedF b n (p + 1 + 2) o := by rw [BFY.out, if_pos rfl]
        rw [← hB] at cl
        clear hB BFY ST2
        go_wp2_with fail
        refine cl.mono ?_
        clear cl
        rintro e wz hh
        obtain ⟨rfl, bk, mx⟩ := BE.out _ _ _ KP2.out hh
        have BK := Box'.mk bk
        have MX := Box'.mk mx
        clear hh bk mx BE
        go_wp2_with fail
        exact ⟨⟨l, rfl, hl2', BK⟩, by rw [HM0.out]; exact MX.out⟩
      case neg =>
      by_cases k1 : kd = 1
      case pos =>
        subst k1
        have hB : BR = toldF fixS fixD b n (8 * b.length + 1) (p + 1 + 2) o := by rw [BFY.out, if_neg (by decide), if_pos rfl]
        have fx := refFixed_any w2
        have CD : Box' (∀ w3 g h, w2.heap.size ≤ g → SegI w3 g fixS → w2.heap.size ≤ h → SegI w3 h fixD → Below w2.heap.size w2 w3 → Calls Try.prog 29 #[.pointer (some ⟨sb, 0, none⟩), .slice (some ⟨g, 0, none⟩) 288 288, .slice (some ⟨h, 0, none⟩) 30 30] w3 fun e w' => REnds (· < sb) sb w3 sb vv b n BR e w') := ⟨fun w3 g h hg sg hh sh bl => by
          have sg2 := sg
          have sh2 := sh
          obtain ⟨c1, r1, _⟩ := sg2
          obtain ⟨c2, r2, _⟩ := sh2
          have st3 := ST2.out.below bl
          obtain ⟨_, hrs, _⟩ := ST2.out.row
          have hsz := hrs.lt
          have st5 := (st3.more g r1 (by decide) (by omega)).more h r2 (by decide) (by omega)
          rw [hB]
          exact (rcoded_any (fun k => ((k < sb) ∨ k = g) ∨ k = h) sb w3 sb vv b (p + 1 + 2) o n _ _ fixS fixD chk_fixS chk_fixD (fun w' kp => fixS_ints (SegI.same sg (kp.block g (.inl (.inr rfl))))) (fun w' kp => fixD_ints (SegI.same sh (kp.block h (.inr rfl)))) st5).mono fun e w' hh => REnds.less st3 (Kp.refl _ _) hh fun _ hk => .inl (.inl hk)⟩
        have K3 : Box' (∀ w3, Below w2.heap.size w2 w3 → Kp (· < sb) w0 w3) := ⟨fun w3 bl => KP2.out.trans (Kp.below bl ST2.out.kl)⟩
        clear hB BFY ST2 k0
        go_wp2_with fail
        refine fx.mono ?_
        clear fx
        rintro e w3 ⟨g, h, rfl, hg, sg, hh, sh, bl⟩
        have cl := CD.out w3 g h hg sg hh sh bl
        have KP2 := Box'.mk (K3.out w3 bl)
        clear CD K3 hg sg hh sh bl c4
        go_wp2_with fail
        refine cl.mono ?_
        clear cl
        rintro e wz hh
        obtain ⟨rfl, bk, mx⟩ := BE.out _ _ _ KP2.out hh
        have BK := Box'.mk bk
        have MX := Box'.mk mx
        clear hh bk mx BE
        go_wp2_with fail
        exact ⟨⟨l, rfl, hl2', BK⟩, by rw [HM0.out]; exact MX.out⟩
      case neg =>
      by_cases k2 : kd = 2
      case pos =>
        subst k2
        have cl := rdynamic_any _ _ w2 sb vv b (p + 1 + 2) o n ST2.out
        have hB : BR = ownF b n (p + 1 + 2) o := by rw [BFY.out, if_neg (by decide), if_neg (by decide), if_pos rfl]; rfl
        rw [← hB] at cl
        clear hB BFY ST2 k0 k1
        go_wp2_with fail
        refine cl.mono ?_
        clear cl
        rintro e wz hh
        obtain ⟨rfl, bk, mx⟩ := BE.out _ _ _ KP2.out hh
        have BK := Box'.mk bk
        have MX := Box'.mk mx
        clear hh bk mx BE
        go_wp2_with fail
        exact ⟨⟨l, rfl, hl2', BK⟩, by rw [HM0.out]; exact MX.out⟩
      case neg =>
      obtain rfl : kd = 3 := by omega
      have hB : BR = .error 8 := by rw [BFY.out, if_neg (by decide), if_neg (by decide), if_neg (by decide)]
      have cl : Calls Try.prog 31 #[.pointer (some ⟨sb, 0, none⟩), .int .i64 8] w2 (fun e w' => REnds (· < sb) sb w2 sb vv b n BR e w') := (rfail_any _ _ w2 sb vv b (p + 1 + 2) o n 8 ST2.out).mono fun _ _ ⟨h1, h2, h3⟩ => ⟨h1, h2, .inr ⟨8, _, _, hB, by decide, h3⟩⟩
      clear hB BFY ST2 k0 k1 k2
      go_wp2_with fail
      refine cl.mono ?_
      clear cl
      rintro e wz hh
      obtain ⟨rfl, bk, mx⟩ := BE.out _ _ _ KP2.out hh
      have BK := Box'.mk bk
      have MX := Box'.mk mx
      clear hh bk mx BE
      go_wp2_with fail
      exact ⟨⟨l, rfl, hl2', BK⟩, by rw [HM0.out]; exact MX.out⟩
open Go.RowKit Go.BigFrame Gt
end Go.Proofs.Ytcjfaahlchbcmaa
