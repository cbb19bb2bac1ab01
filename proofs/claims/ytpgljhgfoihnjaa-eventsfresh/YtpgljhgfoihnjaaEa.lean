/- The walk of event. -/
import Derived.Test.YtpgljhgfoihnjaaY
import Derived.Test.YtpgljhgfoihnjaaEd
import Derived.Test.YtpgljhgfoihnjaaU
import Derived.Test.YtpgljhgfoihnjaaO
import Derived.Test.YtpgljhgfoihnjaaE
import Derived.Test.YtpgljhgfoihnjaaFa
import Derived.Test.YtpgljhgfoihnjaaH
import Derived.Test.YtpgljhgfoihnjaaN
import Derived.Test.YtpgljhgfoihnjaaOz
import Derived.Test.YtpgljhgfoihnjaaR
import Derived.Test.YtpgljhgfoihnjaaS
import Derived.Test.YtpgljhgfoihnjaaT
namespace Go.Proofs.Ytpgljhgfoihnjaa
open Go.RowKit Go.BigFrame
set_option maxRecDepth 100000
set_option linter.unusedSimpArgs false

theorem Try.size48 : (Try.prog.info? 48).map (·.size) = some 5 := by kernel_rfl
theorem pie_nil : pieF 1 [] = .error 7 := rfl
theorem pie_cons (k : UInt8) (t : List UInt8) : pieF 1 (k :: t) = .ok ([k], t) := by simp [pieF]
theorem Loc.below {rb : Nat} {w0 w w' : World} {N rv : Nat} {l : List UInt8} {pb : Nat} {t : TypeId} {v : Value} {d : List UInt8} (h : Loc rb w0 w N rv l pb t v d) (hb : Below w.heap.size w w') : Loc rb w0 w' N rv l pb t v d := by
  obtain ⟨c, hr⟩ := h.row
  exact ⟨h.gb.trans (.below hb), h.rdr.below hb, ⟨c, hr.below hb hr.lt⟩, h.own.below hb, h.n1, h.n2, h.n3, h.n4⟩

set_option maxRecDepth 100000 in
set_option maxHeartbeats 8000000 in
theorem event_any (N : Nat) (w : World) (rb rv : Nat) (l : List UInt8) (h : Rdr N w rb rv l) :
    Calls Try.prog 55 #[.pointer (some ⟨rb, 0, none⟩)] w (REnd N rb rv w (evR l) fun x v w' => ∃ vb, v = x.val vb ∧ OwnB w.heap.size w' vb x.byt) := by
  have HB := Box'.mk (evR.eq_1 l)
  generalize evR l = R at *
  obtain ⟨w0, hw0⟩ : ∃ w0, w0 = w.alloc (.cells #[.int .u8 0, .slice none 0 0, .int .i64 0, .int .i64 0, .int .u8 0] 48) := ⟨_, rfl⟩
  have h0 : Rdr N w0 rb rv l := by rw [hw0]; exact h.alloc _
  have r0 : Row w0 w.heap.size 48 #[.int .u8 0, .slice none 0 0, .int .i64 0, .int .i64 0, .int .u8 0] := by rw [hw0]; exact Row.new _ _ _
  have G0 : Box' (Gb rb w w0) := ⟨by rw [hw0]; exact (Gb.refl _ _).alloc _⟩
  have HX : Box' (w.heap.size ≠ rb ∧ w.heap.size ≠ rv ∧ N ≤ w.heap.size ∧ rb < w.heap.size ∧ rv < w.heap.size) := ⟨by
    obtain ⟨v, hr, _⟩ := h.row
    have := hr.lt
    have := h.var.lt
    exact ⟨by omega, by omega, h.nl, by omega, by omega⟩⟩
  have pc := piece_any N w0 rb rv l 1 (by decide) h0
  have R0 := Box'.mk r0
  rw [hw0] at pc
  clear h h0 r0
  obtain ⟨ib, hib⟩ : ∃ ib, ib = w.heap.size := ⟨_, rfl⟩
  go_enter Try.func55, Try.ntmps55
  go_wp2_with fail
  refine pc.mono ?_
  rw [← hw0, ← hib]
  rw [← hib] at R0 HX
  have ZB := Box'.mk (Nat.le_of_eq hib.symm)
  have ZI := Box'.mk hib
  clear hw0 hib pc
  intro e w1 hh
  cases l with
  | nil =>
    rw [pie_nil] at hh
    obtain ⟨g1, rfl⟩ := hh
    exact ⟨rfl, REnd.bad (by rw [HB.out]; rfl) (G0.out.trans g1)⟩
  | cons k t =>
    rw [pie_cons] at hh
    obtain ⟨g1, v1, rfl, i1, rd1⟩ := hh
    obtain ⟨b, o, c, rfl, hbN, hcell⟩ := i1.cell (k := 0) (by simp)
    have cb : w1.cell? ⟨b, o, none⟩ = some (.int .u8 (k.toNat : Int)) := by have := hcell 0 (by simp); simpa using this
    have ri := g1.row R0.out HX.out.1
    have G1 := Box'.mk (G0.out.trans g1)
    obtain ⟨w2, hw2⟩ : ∃ w2, w2 = w1.alloc (.cells #[.int .u8 (k.toNat : Int), .slice none 0 0, .int .i64 0, .int .i64 0, .int .u8 0] 48) := ⟨_, rfl⟩
    have b2 : Below w1.heap.size w1 w2 := by rw [hw2]; exact (Below.refl _ _).alloc (Nat.le_refl _) _
    have RX : Box' (Row w2 w1.heap.size 48 #[.int .u8 (k.toNat : Int), .slice none 0 0, .int .i64 0, .int .i64 0, .int .u8 0]) := ⟨by rw [hw2]; exact Row.new _ _ _⟩
    have RI := Box'.mk (ri.below b2 ri.lt)
    have G2 := Box'.mk (G1.out.trans (Gb.below b2))
    have RD := Box'.mk (rd1.below b2)
    have hlt1 : ib < w1.heap.size := ri.lt
    have HY : Box' (w1.heap.size ≠ rb ∧ w1.heap.size ≠ rv ∧ N ≤ w1.heap.size ∧ ib ≠ w1.heap.size ∧ w.heap.size ≤ w1.heap.size) := ⟨by have := HX.out; have := ZB.out; have := G1.out.size; exact ⟨by omega, by omega, by omega, by omega, by omega⟩⟩
    have kc : w2.cell? ⟨w1.heap.size, 0, none⟩ = some (.int .u8 (k.toNat : Int)) := by rw [RX.out.cell]; rfl
    have hb2 : ∀ P : Prop, P → P := fun _ h => h
    clear hcell i1 ri g1 G0 G1 rd1 b2 R0 hb2
    obtain ⟨xb, hxb⟩ : ∃ xb, xb = w1.heap.size := ⟨_, rfl⟩
    have BT : Box' (∀ (x : Ev) (l' : List UInt8), preR (k :: t) = .ok (x, l') → R = if x.may = true then .ok (x, l') else .error 8) := ⟨fun x l' h => by rw [HB.out, h]⟩
    have BE : Box' (∀ e, preR (k :: t) = .error e → R = .error e) := ⟨fun e h => by rw [HB.out, h]⟩
    clear HB
    by_cases h13 : k.toNat = 1 ∨ k.toNat = 3
    · have PR : Box' (preR (k :: t) = match bytF 4096 t with | .error x => .error x | .ok (y, t) => .ok (⟨k, y, 0, 0, 0⟩, t)) := ⟨(preR_cons k t).trans (if_pos h13)⟩
      have by_ := bytes_any N w2 rb rv t 4096 (by decide) RD.out
      have cx : w2.cell? ⟨w1.heap.size, 1, none⟩ = some (.slice none 0 0) := by rw [RX.out.cell]; rfl
      have KK : Box' (∀ P : Prop, (k.toNat = 1 → P) → (k.toNat = 3 → P) → P) := ⟨fun P p q => h13.elim p q⟩
      have HK13 := Box'.mk h13
      clear h13
      by_cases hk : k.toNat = 1
      · have HK := Box'.mk hk
        clear hk
        have hkq : ((k.toNat : Int) == 1) = true := by rw [beq_iff_eq]; have := HK.out; omega
        rw [hw2] at by_ kc
        go_wp2_with fail
        refine by_.mono ?_
        rw [← hw2, ← hxb]
        rw [← hxb] at RX HY cx kc
        intro e w3 hh
        obtain ⟨g3, ⟨y, l9, v3, hr, rfl, ov, rd3⟩ | ⟨x, hr, rfl⟩⟩ := hh.cases
        case inr =>
          exact ⟨rfl, REnd.bad (BE.out x (by rw [PR.out, hr])) (G2.out.trans g3)⟩
        have HR := Box'.mk (BT.out ⟨k, y, 0, 0, 0⟩ l9 (by rw [PR.out, hr]))
        have rx := g3.row RX.out HY.out.1
        have ri := g3.row RI.out HX.out.1
        have cx3 : w3.cell? ⟨xb, 1, none⟩ = some (.slice none 0 0) := by rw [rx.cell]; rfl
        have fx3 := rx.frozen 1
        have L3 : Loc rb w w3 N rv l9 xb 48 v3 y := ⟨G2.out.trans g3, rd3, ⟨_, rx⟩, ov.less G2.out.size, HY.out.1, HY.out.2.1, HY.out.2.2.1, HY.out.2.2.2.2⟩
        obtain ⟨a3, c3, rfl⟩ := ov.slice
        have L9 := Box'.mk (L3.set (by decide) 1 (.slice a3 y.length c3))
        have RX9 : Box' (Row (w3.setCell ⟨xb, 1, none⟩ (.slice a3 y.length c3)) xb 48 #[.int .u8 (k.toNat : Int), .slice a3 y.length c3, .int .i64 0, .int .i64 0, .int .u8 0]) := ⟨rx.setCell 1 _⟩
        have RI9 := Box'.mk (ri.setOther ⟨xb, 1, none⟩ (.slice a3 y.length c3) HY.out.2.2.2.1)
        clear hh hr by_ PR BT BE rx ri L3 ov rd3 g3 hw2 hxb cx kc G2 RD RX RI
        obtain ⟨w9, hw9⟩ : ∃ w9, w9 = w3.setCell ⟨xb, 1, none⟩ (.slice a3 y.length c3) := ⟨_, rfl⟩
        rw [← hw9] at L9 RX9 RI9
        have m0 : w9.cell? ⟨xb, 0, none⟩ = some (.int .u8 (k.toNat : Int)) := by rw [RX9.out.cell]; rfl
        have m1 : w9.cell? ⟨xb, 1, none⟩ = some (.slice a3 y.length c3) := by rw [RX9.out.cell]; rfl
        have m2 : w9.cell? ⟨xb, 2, none⟩ = some (.int .i64 0) := by rw [RX9.out.cell]; rfl
        have m3 : w9.cell? ⟨xb, 3, none⟩ = some (.int .i64 0) := by rw [RX9.out.cell]; rfl
        have m4 : w9.cell? ⟨xb, 4, none⟩ = some (.int .u8 0) := by rw [RX9.out.cell]; rfl
        have my : Calls Try.prog 31 #[.agg #[.int .u8 (k.toNat : Int), .slice a3 y.length c3, .int .i64 0, .int .i64 0, .int .u8 0]] w9 fun e w' => e = .returned (.bool (Ev.may ⟨k, y, 0, 0, 0⟩)) ∧ Below w9.heap.size w9 w' := may_any (· < w9.heap.size) _ 0 0 _ _ y w9 (fun _ h => h) L9.out.own.bts
        generalize Ev.may ⟨k, y, 0, 0, 0⟩ = MM at *
        rw [hw9] at my m0 m1 m2 m3 m4
        go_wp2_with fail
        refine my.mono ?_
        rw [← hw9]
        rintro e w10 ⟨rfl, b10⟩
        have L10 := Box'.mk (L9.out.below b10)
        have rx := RX9.out.below b10 RX9.out.lt
        have ri := RI9.out.below b10 RI9.out.lt
        clear cx3 fx3 hw9 my b10 m0 m1 m2 m3 m4 L9 RX9 RI9
        cases MM with
        | false =>
          have hR : R = .error 8 := by rw [HR.out, if_neg (by decide)]
          have HR8 := Box'.mk hR
          have FA := Box'.mk (fail_any 8)
          have GG := Box'.mk L10.out.gb
          clear HR hR rx ri L10
          go_wp2_with fail
          refine (FA.out _).mono ?_
          rintro e w11 ⟨rfl, rfl⟩
          exact ⟨rfl, REnd.bad HR8.out GG.out⟩
        | true =>
          have HR8 : Box' (R = .ok (⟨k, y, 0, 0, 0⟩, l9)) := ⟨by rw [HR.out, if_pos rfl]⟩
          have m0 : w10.cell? ⟨xb, 0, none⟩ = some (.int .u8 (k.toNat : Int)) := by rw [rx.cell]; rfl
          have m1 : w10.cell? ⟨xb, 1, none⟩ = some (.slice a3 y.length c3) := by rw [rx.cell]; rfl
          have m2 : w10.cell? ⟨xb, 2, none⟩ = some (.int .i64 0) := by rw [rx.cell]; rfl
          have m3 : w10.cell? ⟨xb, 3, none⟩ = some (.int .i64 0) := by rw [rx.cell]; rfl
          have m4 : w10.cell? ⟨xb, 4, none⟩ = some (.int .u8 0) := by rw [rx.cell]; rfl
          have z0 : w10.cell? ⟨ib, 0, none⟩ = some (.int .u8 0) := by rw [ri.cell]; rfl
          have f0 := ri.frozen 0
          have z1 : w10.cell? ⟨ib, 1, none⟩ = some (.slice none 0 0) := by rw [ri.cell]; rfl
          have f1 := ri.frozen 1
          have z2 : w10.cell? ⟨ib, 2, none⟩ = some (.int .i64 0) := by rw [ri.cell]; rfl
          have f2 := ri.frozen 2
          have z3 : w10.cell? ⟨ib, 3, none⟩ = some (.int .i64 0) := by rw [ri.cell]; rfl
          have f3 := ri.frozen 3
          have z4 : w10.cell? ⟨ib, 4, none⟩ = some (.int .u8 0) := by rw [ri.cell]; rfl
          have f4 := ri.frozen 4
          have LI : Loc rb w w10 N rv l9 ib 48 (.slice a3 y.length c3) y := ⟨L10.out.gb, L10.out.rdr, ⟨_, ri⟩, L10.out.own, HX.out.1, HX.out.2.1, HX.out.2.2.1, ZB.out⟩
          have LF := Box'.mk (((((LI.set (by decide) 0 (.int .u8 (k.toNat : Int))).set (by decide) 1 (.slice a3 y.length c3)).set (by decide) 2 (.int .i64 0)).set (by decide) 3 (.int .i64 0)).set (by decide) 4 (.int .u8 0))
          have PF := Box'.mk (put5 (by decide) ri (.int .u8 (k.toNat : Int)) (.slice a3 y.length c3) (.int .i64 0) (.int .i64 0) (.int .u8 0)).1
          clear HR rx ri L10 LI
          go_wp2_with fail
          exact bodyPost_ret (results_row rfl _ ib rfl _ _ PF.out _ Try.underlying48 rfl 5 Try.size48 rfl) rfl (REnd.good HR8.out LF.out.gb ⟨_, rfl, LF.out.own⟩ LF.out.rdr)
      · have HK : Box' (k.toNat = 3) := ⟨HK13.out.resolve_left hk⟩
        clear hk
        have hk1 : ((k.toNat : Int) == 1) = false := by rw [beq_eq_false_iff_ne]; have := HK.out; omega
        have hkq : ((k.toNat : Int) == 3) = true := by rw [beq_iff_eq]; have := HK.out; omega
        rw [hw2] at by_ kc
        go_wp2_with fail
        refine by_.mono ?_
        rw [← hw2, ← hxb]
        rw [← hxb] at RX HY cx kc
        intro e w3 hh
        obtain ⟨g3, ⟨y, l9, v3, hr, rfl, ov, rd3⟩ | ⟨x, hr, rfl⟩⟩ := hh.cases
        case inr =>
          exact ⟨rfl, REnd.bad (BE.out x (by rw [PR.out, hr])) (G2.out.trans g3)⟩
        have HR := Box'.mk (BT.out ⟨k, y, 0, 0, 0⟩ l9 (by rw [PR.out, hr]))
        have rx := g3.row RX.out HY.out.1
        have ri := g3.row RI.out HX.out.1
        have cx3 : w3.cell? ⟨xb, 1, none⟩ = some (.slice none 0 0) := by rw [rx.cell]; rfl
        have fx3 := rx.frozen 1
        have L3 : Loc rb w w3 N rv l9 xb 48 v3 y := ⟨G2.out.trans g3, rd3, ⟨_, rx⟩, ov.less G2.out.size, HY.out.1, HY.out.2.1, HY.out.2.2.1, HY.out.2.2.2.2⟩
        obtain ⟨a3, c3, rfl⟩ := ov.slice
        have L9 := Box'.mk (L3.set (by decide) 1 (.slice a3 y.length c3))
        have RX9 : Box' (Row (w3.setCell ⟨xb, 1, none⟩ (.slice a3 y.length c3)) xb 48 #[.int .u8 (k.toNat : Int), .slice a3 y.length c3, .int .i64 0, .int .i64 0, .int .u8 0]) := ⟨rx.setCell 1 _⟩
        have RI9 := Box'.mk (ri.setOther ⟨xb, 1, none⟩ (.slice a3 y.length c3) HY.out.2.2.2.1)
        clear hh hr by_ PR BT BE rx ri L3 ov rd3 g3 hw2 hxb cx kc G2 RD RX RI
        obtain ⟨w9, hw9⟩ : ∃ w9, w9 = w3.setCell ⟨xb, 1, none⟩ (.slice a3 y.length c3) := ⟨_, rfl⟩
        rw [← hw9] at L9 RX9 RI9
        have m0 : w9.cell? ⟨xb, 0, none⟩ = some (.int .u8 (k.toNat : Int)) := by rw [RX9.out.cell]; rfl
        have m1 : w9.cell? ⟨xb, 1, none⟩ = some (.slice a3 y.length c3) := by rw [RX9.out.cell]; rfl
        have m2 : w9.cell? ⟨xb, 2, none⟩ = some (.int .i64 0) := by rw [RX9.out.cell]; rfl
        have m3 : w9.cell? ⟨xb, 3, none⟩ = some (.int .i64 0) := by rw [RX9.out.cell]; rfl
        have m4 : w9.cell? ⟨xb, 4, none⟩ = some (.int .u8 0) := by rw [RX9.out.cell]; rfl
        have my : Calls Try.prog 31 #[.agg #[.int .u8 (k.toNat : Int), .slice a3 y.length c3, .int .i64 0, .int .i64 0, .int .u8 0]] w9 fun e w' => e = .returned (.bool (Ev.may ⟨k, y, 0, 0, 0⟩)) ∧ Below w9.heap.size w9 w' := may_any (· < w9.heap.size) _ 0 0 _ _ y w9 (fun _ h => h) L9.out.own.bts
        generalize Ev.may ⟨k, y, 0, 0, 0⟩ = MM at *
        rw [hw9] at my m0 m1 m2 m3 m4
        go_wp2_with fail
        refine my.mono ?_
        rw [← hw9]
        rintro e w10 ⟨rfl, b10⟩
        have L10 := Box'.mk (L9.out.below b10)
        have rx := RX9.out.below b10 RX9.out.lt
        have ri := RI9.out.below b10 RI9.out.lt
        clear cx3 fx3 hw9 my b10 m0 m1 m2 m3 m4 L9 RX9 RI9
        cases MM with
        | false =>
          have hR : R = .error 8 := by rw [HR.out, if_neg (by decide)]
          have HR8 := Box'.mk hR
          have FA := Box'.mk (fail_any 8)
          have GG := Box'.mk L10.out.gb
          clear HR hR rx ri L10
          go_wp2_with fail
          refine (FA.out _).mono ?_
          rintro e w11 ⟨rfl, rfl⟩
          exact ⟨rfl, REnd.bad HR8.out GG.out⟩
        | true =>
          have HR8 : Box' (R = .ok (⟨k, y, 0, 0, 0⟩, l9)) := ⟨by rw [HR.out, if_pos rfl]⟩
          have m0 : w10.cell? ⟨xb, 0, none⟩ = some (.int .u8 (k.toNat : Int)) := by rw [rx.cell]; rfl
          have m1 : w10.cell? ⟨xb, 1, none⟩ = some (.slice a3 y.length c3) := by rw [rx.cell]; rfl
          have m2 : w10.cell? ⟨xb, 2, none⟩ = some (.int .i64 0) := by rw [rx.cell]; rfl
          have m3 : w10.cell? ⟨xb, 3, none⟩ = some (.int .i64 0) := by rw [rx.cell]; rfl
          have m4 : w10.cell? ⟨xb, 4, none⟩ = some (.int .u8 0) := by rw [rx.cell]; rfl
          have z0 : w10.cell? ⟨ib, 0, none⟩ = some (.int .u8 0) := by rw [ri.cell]; rfl
          have f0 := ri.frozen 0
          have z1 : w10.cell? ⟨ib, 1, none⟩ = some (.slice none 0 0) := by rw [ri.cell]; rfl
          have f1 := ri.frozen 1
          have z2 : w10.cell? ⟨ib, 2, none⟩ = some (.int .i64 0) := by rw [ri.cell]; rfl
          have f2 := ri.frozen 2
          have z3 : w10.cell? ⟨ib, 3, none⟩ = some (.int .i64 0) := by rw [ri.cell]; rfl
          have f3 := ri.frozen 3
          have z4 : w10.cell? ⟨ib, 4, none⟩ = some (.int .u8 0) := by rw [ri.cell]; rfl
          have f4 := ri.frozen 4
          have LI : Loc rb w w10 N rv l9 ib 48 (.slice a3 y.length c3) y := ⟨L10.out.gb, L10.out.rdr, ⟨_, ri⟩, L10.out.own, HX.out.1, HX.out.2.1, HX.out.2.2.1, ZB.out⟩
          have LF := Box'.mk (((((LI.set (by decide) 0 (.int .u8 (k.toNat : Int))).set (by decide) 1 (.slice a3 y.length c3)).set (by decide) 2 (.int .i64 0)).set (by decide) 3 (.int .i64 0)).set (by decide) 4 (.int .u8 0))
          have PF := Box'.mk (put5 (by decide) ri (.int .u8 (k.toNat : Int)) (.slice a3 y.length c3) (.int .i64 0) (.int .i64 0) (.int .u8 0)).1
          clear HR rx ri L10 LI
          go_wp2_with fail
          exact bodyPost_ret (results_row rfl _ ib rfl _ _ PF.out _ Try.underlying48 rfl 5 Try.size48 rfl) rfl (REnd.good HR8.out LF.out.gb ⟨_, rfl, LF.out.own⟩ LF.out.rdr)
    · have hk1 : ((k.toNat : Int) == 1) = false := by rw [beq_eq_false_iff_ne]; omega
      have hk3 : ((k.toNat : Int) == 3) = false := by rw [beq_eq_false_iff_ne]; omega
      by_cases h2 : k.toNat = 2
      · have PR : Box' (preR (k :: t) = match sidF t with | .error x => .error x | .ok (c, t) => match sidF t with | .error x => .error x | .ok (r, t) => .ok (⟨k, [], c, r, 0⟩, t)) := ⟨((preR_cons k t).trans (if_neg h13)).trans (if_pos h2)⟩
        have hkq : ((k.toNat : Int) == 2) = true := by rw [beq_iff_eq]; omega
        have sd := side_any N w2 rb rv t RD.out
        clear h13 h2
        rw [hw2] at sd kc
        go_wp2_with fail
        refine sd.mono ?_
        rw [← hw2, ← hxb]
        rw [← hxb] at RX HY kc
        intro e w3 hh
        obtain ⟨g3, ⟨cn, t3, v3, hr, rfl, rfl, rd3⟩ | ⟨x, hr, rfl⟩⟩ := hh.cases
        case inr =>
          exact ⟨rfl, REnd.bad (BE.out x (by rw [PR.out, hr])) (G2.out.trans g3)⟩
        have PR2 : Box' (preR (k :: t) = match sidF t3 with | .error x => .error x | .ok (r, t) => .ok (⟨k, [], (cn : Int), r, 0⟩, t)) := ⟨by rw [PR.out, hr]⟩
        have rx := g3.row RX.out HY.out.1
        have ri := g3.row RI.out HX.out.1
        have cx3 : w3.cell? ⟨xb, 2, none⟩ = some (.int .i64 0) := by rw [rx.cell]; rfl
        have fx3 := rx.frozen 2
        have rd4 := rd3.other xb 2 (.int .i64 (cn : Int)) HY.out.1 HY.out.2.1 HY.out.2.2.1
        have G4 := Box'.mk ((G2.out.trans g3).setNew xb 2 (.int .i64 (cn : Int)) HY.out.2.2.2.2)
        have RX4 : Box' (Row (w3.setCell ⟨xb, 2, none⟩ (.int .i64 (cn : Int))) xb 48 #[.int .u8 (k.toNat : Int), .slice none 0 0, .int .i64 (cn : Int), .int .i64 0, .int .u8 0]) := ⟨rx.setCell 2 _⟩
        have RI4 := Box'.mk (ri.setOther ⟨xb, 2, none⟩ (.int .i64 (cn : Int)) HY.out.2.2.2.1)
        have sd2 := side_any N _ rb rv t3 rd4
        clear hh hr sd PR rx ri rd3 rd4 g3 hw2 hxb kc G2 RD RX RI
        go_wp2_with fail
        refine sd2.mono ?_
        clear sd2 cx3 fx3
        generalize w3.setCell ⟨xb, 2, none⟩ (.int .i64 (cn : Int)) = w4 at *
        intro e w5 hh
        obtain ⟨g5, ⟨rn, l9, v5, hr, rfl, rfl, rd5⟩ | ⟨x, hr, rfl⟩⟩ := hh.cases
        case inr =>
          exact ⟨rfl, REnd.bad (BE.out x (by rw [PR2.out, hr])) (G4.out.trans g5)⟩
        have HR := Box'.mk (BT.out ⟨k, [], (cn : Int), (rn : Int), 0⟩ l9 (by rw [PR2.out, hr]))
        have rx := g5.row RX4.out HY.out.1
        have ri := g5.row RI4.out HX.out.1
        have cx5 : w5.cell? ⟨xb, 3, none⟩ = some (.int .i64 0) := by rw [rx.cell]; rfl
        have fx5 := rx.frozen 3
        have L5 : Loc rb w w5 N rv l9 xb 48 (.slice none 0 0) [] := ⟨G4.out.trans g5, rd5, ⟨_, rx⟩, OwnB.nil _ _, HY.out.1, HY.out.2.1, HY.out.2.2.1, HY.out.2.2.2.2⟩
        have L9 := Box'.mk (L5.set (by decide) 3 (.int .i64 (rn : Int)))
        have RX9 : Box' (Row (w5.setCell ⟨xb, 3, none⟩ (.int .i64 (rn : Int))) xb 48 #[.int .u8 (k.toNat : Int), .slice none 0 0, .int .i64 (cn : Int), .int .i64 (rn : Int), .int .u8 0]) := ⟨rx.setCell 3 _⟩
        have RI9 := Box'.mk (ri.setOther ⟨xb, 3, none⟩ (.int .i64 (rn : Int)) HY.out.2.2.2.1)
        clear hh hr PR2 BT BE rx ri L5 rd5 g5 G4 RX4 RI4
        obtain ⟨w9, hw9⟩ : ∃ w9, w9 = w5.setCell ⟨xb, 3, none⟩ (.int .i64 (rn : Int)) := ⟨_, rfl⟩
        rw [← hw9] at L9 RX9 RI9
        have m0 : w9.cell? ⟨xb, 0, none⟩ = some (.int .u8 (k.toNat : Int)) := by rw [RX9.out.cell]; rfl
        have m1 : w9.cell? ⟨xb, 1, none⟩ = some (.slice none 0 0) := by rw [RX9.out.cell]; rfl
        have m2 : w9.cell? ⟨xb, 2, none⟩ = some (.int .i64 (cn : Int)) := by rw [RX9.out.cell]; rfl
        have m3 : w9.cell? ⟨xb, 3, none⟩ = some (.int .i64 (rn : Int)) := by rw [RX9.out.cell]; rfl
        have m4 : w9.cell? ⟨xb, 4, none⟩ = some (.int .u8 0) := by rw [RX9.out.cell]; rfl
        have my : Calls Try.prog 31 #[.agg #[.int .u8 (k.toNat : Int), .slice none 0 0, .int .i64 (cn : Int), .int .i64 (rn : Int), .int .u8 0]] w9 fun e w' => e = .returned (.bool (Ev.may ⟨k, [], (cn : Int), (rn : Int), 0⟩)) ∧ Below w9.heap.size w9 w' := may_any (· < w9.heap.size) _ (cn : Int) (rn : Int) _ _ [] w9 (fun _ h => h) L9.out.own.bts
        generalize Ev.may ⟨k, [], (cn : Int), (rn : Int), 0⟩ = MM at *
        rw [hw9] at my m0 m1 m2 m3 m4
        go_wp2_with fail
        refine my.mono ?_
        rw [← hw9]
        rintro e w10 ⟨rfl, b10⟩
        have L10 := Box'.mk (L9.out.below b10)
        have rx := RX9.out.below b10 RX9.out.lt
        have ri := RI9.out.below b10 RI9.out.lt
        clear cx5 fx5 hw9 my b10 m0 m1 m2 m3 m4 L9 RX9 RI9
        cases MM with
        | false =>
          have hR : R = .error 8 := by rw [HR.out, if_neg (by decide)]
          have HR8 := Box'.mk hR
          have FA := Box'.mk (fail_any 8)
          have GG := Box'.mk L10.out.gb
          clear HR hR rx ri L10
          go_wp2_with fail
          refine (FA.out _).mono ?_
          rintro e w11 ⟨rfl, rfl⟩
          exact ⟨rfl, REnd.bad HR8.out GG.out⟩
        | true =>
          have HR8 : Box' (R = .ok (⟨k, [], (cn : Int), (rn : Int), 0⟩, l9)) := ⟨by rw [HR.out, if_pos rfl]⟩
          have m0 : w10.cell? ⟨xb, 0, none⟩ = some (.int .u8 (k.toNat : Int)) := by rw [rx.cell]; rfl
          have m1 : w10.cell? ⟨xb, 1, none⟩ = some (.slice none 0 0) := by rw [rx.cell]; rfl
          have m2 : w10.cell? ⟨xb, 2, none⟩ = some (.int .i64 (cn : Int)) := by rw [rx.cell]; rfl
          have m3 : w10.cell? ⟨xb, 3, none⟩ = some (.int .i64 (rn : Int)) := by rw [rx.cell]; rfl
          have m4 : w10.cell? ⟨xb, 4, none⟩ = some (.int .u8 0) := by rw [rx.cell]; rfl
          have z0 : w10.cell? ⟨ib, 0, none⟩ = some (.int .u8 0) := by rw [ri.cell]; rfl
          have f0 := ri.frozen 0
          have z1 : w10.cell? ⟨ib, 1, none⟩ = some (.slice none 0 0) := by rw [ri.cell]; rfl
          have f1 := ri.frozen 1
          have z2 : w10.cell? ⟨ib, 2, none⟩ = some (.int .i64 0) := by rw [ri.cell]; rfl
          have f2 := ri.frozen 2
          have z3 : w10.cell? ⟨ib, 3, none⟩ = some (.int .i64 0) := by rw [ri.cell]; rfl
          have f3 := ri.frozen 3
          have z4 : w10.cell? ⟨ib, 4, none⟩ = some (.int .u8 0) := by rw [ri.cell]; rfl
          have f4 := ri.frozen 4
          have LI : Loc rb w w10 N rv l9 ib 48 (.slice none 0 0) [] := ⟨L10.out.gb, L10.out.rdr, ⟨_, ri⟩, L10.out.own, HX.out.1, HX.out.2.1, HX.out.2.2.1, ZB.out⟩
          have LF := Box'.mk (((((LI.set (by decide) 0 (.int .u8 (k.toNat : Int))).set (by decide) 1 (.slice none 0 0)).set (by decide) 2 (.int .i64 (cn : Int))).set (by decide) 3 (.int .i64 (rn : Int))).set (by decide) 4 (.int .u8 0))
          have PF := Box'.mk (put5 (by decide) ri (.int .u8 (k.toNat : Int)) (.slice none 0 0) (.int .i64 (cn : Int)) (.int .i64 (rn : Int)) (.int .u8 0)).1
          clear HR rx ri L10 LI
          go_wp2_with fail
          exact bodyPost_ret (results_row rfl _ ib rfl _ _ PF.out _ Try.underlying48 rfl 5 Try.size48 rfl) rfl (REnd.good HR8.out LF.out.gb ⟨_, rfl, LF.out.own⟩ LF.out.rdr)
      · have hk2 : ((k.toNat : Int) == 2) = false := by rw [beq_eq_false_iff_ne]; omega
        by_cases h4 : k.toNat = 4
        · have PR : Box' ((t = [] → preR (k :: t) = .error 7) ∧ ∀ a u, t = a :: u → preR (k :: t) = .ok (⟨k, [], 0, 0, a⟩, u)) := ⟨fun e => by rw [e]; exact (((preR_cons k []).trans (if_neg h13)).trans (if_neg h2)).trans (if_pos h4), fun a u e => by rw [e]; exact (((preR_cons k (a :: u)).trans (if_neg h13)).trans (if_neg h2)).trans (if_pos h4)⟩
          have hkq : ((k.toNat : Int) == 4) = true := by rw [beq_iff_eq]; omega
          have pc := piece_any N w2 rb rv t 1 (by decide) RD.out
          clear h13 h2 h4
          rw [hw2] at pc kc
          go_wp2_with fail
          refine pc.mono ?_
          rw [← hw2, ← hxb]
          rw [← hxb] at RX HY kc
          intro e w3 hh
          cases t with
          | nil =>
            rw [pie_nil] at hh
            obtain ⟨g3, rfl⟩ := hh
            exact ⟨rfl, REnd.bad (BE.out 7 (PR.out.1 rfl)) (G2.out.trans g3)⟩
          | cons a l9 =>
            rw [pie_cons] at hh
            obtain ⟨g3, v3, rfl, i3, rd3⟩ := hh
            have HR := Box'.mk (BT.out ⟨k, [], 0, 0, a⟩ l9 (PR.out.2 a l9 rfl))
            obtain ⟨b3, o3, c3, rfl, hbN3, hcell3⟩ := i3.cell (k := 0) (by simp)
            have cb3 : w3.cell? ⟨b3, o3, none⟩ = some (.int .u8 (a.toNat : Int)) := by have := hcell3 0 (by simp); simpa using this
            have rx := g3.row RX.out HY.out.1
            have ri := g3.row RI.out HX.out.1
            have cx3 : w3.cell? ⟨xb, 4, none⟩ = some (.int .u8 0) := by rw [rx.cell]; rfl
            have fx3 := rx.frozen 4
            have L3 : Loc rb w w3 N rv l9 xb 48 (.slice none 0 0) [] := ⟨G2.out.trans g3, rd3, ⟨_, rx⟩, OwnB.nil _ _, HY.out.1, HY.out.2.1, HY.out.2.2.1, HY.out.2.2.2.2⟩
            have L9 := Box'.mk (L3.set (by decide) 4 (.int .u8 (a.toNat : Int)))
            have RX9 : Box' (Row (w3.setCell ⟨xb, 4, none⟩ (.int .u8 (a.toNat : Int))) xb 48 #[.int .u8 (k.toNat : Int), .slice none 0 0, .int .i64 0, .int .i64 0, .int .u8 (a.toNat : Int)]) := ⟨rx.setCell 4 _⟩
            have RI9 := Box'.mk (ri.setOther ⟨xb, 4, none⟩ (.int .u8 (a.toNat : Int)) HY.out.2.2.2.1)
            clear i3 hcell3 pc PR BT BE rx ri L3 rd3 g3 hw2 hxb kc G2 RD RX RI
            obtain ⟨w9, hw9⟩ : ∃ w9, w9 = w3.setCell ⟨xb, 4, none⟩ (.int .u8 (a.toNat : Int)) := ⟨_, rfl⟩
            rw [← hw9] at L9 RX9 RI9
            have m0 : w9.cell? ⟨xb, 0, none⟩ = some (.int .u8 (k.toNat : Int)) := by rw [RX9.out.cell]; rfl
            have m1 : w9.cell? ⟨xb, 1, none⟩ = some (.slice none 0 0) := by rw [RX9.out.cell]; rfl
            have m2 : w9.cell? ⟨xb, 2, none⟩ = some (.int .i64 0) := by rw [RX9.out.cell]; rfl
            have m3 : w9.cell? ⟨xb, 3, none⟩ = some (.int .i64 0) := by rw [RX9.out.cell]; rfl
            have m4 : w9.cell? ⟨xb, 4, none⟩ = some (.int .u8 (a.toNat : Int)) := by rw [RX9.out.cell]; rfl
            have my : Calls Try.prog 31 #[.agg #[.int .u8 (k.toNat : Int), .slice none 0 0, .int .i64 0, .int .i64 0, .int .u8 (a.toNat : Int)]] w9 fun e w' => e = .returned (.bool (Ev.may ⟨k, [], 0, 0, a⟩)) ∧ Below w9.heap.size w9 w' := may_any (· < w9.heap.size) _ 0 0 _ _ [] w9 (fun _ h => h) L9.out.own.bts
            generalize Ev.may ⟨k, [], 0, 0, a⟩ = MM at *
            rw [hw9] at my m0 m1 m2 m3 m4
            go_wp2_with fail
            refine my.mono ?_
            rw [← hw9]
            rintro e w10 ⟨rfl, b10⟩
            have L10 := Box'.mk (L9.out.below b10)
            have rx := RX9.out.below b10 RX9.out.lt
            have ri := RI9.out.below b10 RI9.out.lt
            clear cx3 fx3 cb3 hw9 my b10 m0 m1 m2 m3 m4 L9 RX9 RI9
            cases MM with
            | false =>
              have hR : R = .error 8 := by rw [HR.out, if_neg (by decide)]
              have HR8 := Box'.mk hR
              have FA := Box'.mk (fail_any 8)
              have GG := Box'.mk L10.out.gb
              clear HR hR rx ri L10
              go_wp2_with fail
              refine (FA.out _).mono ?_
              rintro e w11 ⟨rfl, rfl⟩
              exact ⟨rfl, REnd.bad HR8.out GG.out⟩
            | true =>
              have HR8 : Box' (R = .ok (⟨k, [], 0, 0, a⟩, l9)) := ⟨by rw [HR.out, if_pos rfl]⟩
              have m0 : w10.cell? ⟨xb, 0, none⟩ = some (.int .u8 (k.toNat : Int)) := by rw [rx.cell]; rfl
              have m1 : w10.cell? ⟨xb, 1, none⟩ = some (.slice none 0 0) := by rw [rx.cell]; rfl
              have m2 : w10.cell? ⟨xb, 2, none⟩ = some (.int .i64 0) := by rw [rx.cell]; rfl
              have m3 : w10.cell? ⟨xb, 3, none⟩ = some (.int .i64 0) := by rw [rx.cell]; rfl
              have m4 : w10.cell? ⟨xb, 4, none⟩ = some (.int .u8 (a.toNat : Int)) := by rw [rx.cell]; rfl
              have z0 : w10.cell? ⟨ib, 0, none⟩ = some (.int .u8 0) := by rw [ri.cell]; rfl
              have f0 := ri.frozen 0
              have z1 : w10.cell? ⟨ib, 1, none⟩ = some (.slice none 0 0) := by rw [ri.cell]; rfl
              have f1 := ri.frozen 1
              have z2 : w10.cell? ⟨ib, 2, none⟩ = some (.int .i64 0) := by rw [ri.cell]; rfl
              have f2 := ri.frozen 2
              have z3 : w10.cell? ⟨ib, 3, none⟩ = some (.int .i64 0) := by rw [ri.cell]; rfl
              have f3 := ri.frozen 3
              have z4 : w10.cell? ⟨ib, 4, none⟩ = some (.int .u8 0) := by rw [ri.cell]; rfl
              have f4 := ri.frozen 4
              have LI : Loc rb w w10 N rv l9 ib 48 (.slice none 0 0) [] := ⟨L10.out.gb, L10.out.rdr, ⟨_, ri⟩, L10.out.own, HX.out.1, HX.out.2.1, HX.out.2.2.1, ZB.out⟩
              have LF := Box'.mk (((((LI.set (by decide) 0 (.int .u8 (k.toNat : Int))).set (by decide) 1 (.slice none 0 0)).set (by decide) 2 (.int .i64 0)).set (by decide) 3 (.int .i64 0)).set (by decide) 4 (.int .u8 (a.toNat : Int)))
              have PF := Box'.mk (put5 (by decide) ri (.int .u8 (k.toNat : Int)) (.slice none 0 0) (.int .i64 0) (.int .i64 0) (.int .u8 (a.toNat : Int))).1
              clear HR rx ri L10 LI
              go_wp2_with fail
              exact bodyPost_ret (results_row rfl _ ib rfl _ _ PF.out _ Try.underlying48 rfl 5 Try.size48 rfl) rfl (REnd.good HR8.out LF.out.gb ⟨_, rfl, LF.out.own⟩ LF.out.rdr)
        · have hk4 : ((k.toNat : Int) == 4) = false := by rw [beq_eq_false_iff_ne]; omega
          have HR := Box'.mk (BT.out ⟨k, [], 0, 0, 0⟩ t ((((preR_cons k t).trans (if_neg h13)).trans (if_neg h2)).trans (if_neg h4)))
          clear h13 h2 h4 BT BE
          have L9 : Box' (Loc rb w w2 N rv t w1.heap.size 48 (.slice none 0 0) []) := ⟨G2.out, RD.out, ⟨_, RX.out⟩, OwnB.nil _ _, HY.out.1, HY.out.2.1, HY.out.2.2.1, HY.out.2.2.2.2⟩
          have RX9 := RX
          have RI9 := RI
          clear RX RI G2 RD
          rw [← hxb] at L9 RX9 HY kc
          obtain ⟨w9, hw9⟩ : ∃ w9, w9 = w2 := ⟨_, rfl⟩
          rw [← hw9] at L9 RX9 RI9 kc hw2
          obtain ⟨l9, hl9⟩ : ∃ l9, l9 = t := ⟨_, rfl⟩
          rw [← hl9] at L9 HR
          clear hl9
          have m0 : w9.cell? ⟨xb, 0, none⟩ = some (.int .u8 (k.toNat : Int)) := by rw [RX9.out.cell]; rfl
          have m1 : w9.cell? ⟨xb, 1, none⟩ = some (.slice none 0 0) := by rw [RX9.out.cell]; rfl
          have m2 : w9.cell? ⟨xb, 2, none⟩ = some (.int .i64 0) := by rw [RX9.out.cell]; rfl
          have m3 : w9.cell? ⟨xb, 3, none⟩ = some (.int .i64 0) := by rw [RX9.out.cell]; rfl
          have m4 : w9.cell? ⟨xb, 4, none⟩ = some (.int .u8 0) := by rw [RX9.out.cell]; rfl
          have my : Calls Try.prog 31 #[.agg #[.int .u8 (k.toNat : Int), .slice none 0 0, .int .i64 0, .int .i64 0, .int .u8 0]] w9 fun e w' => e = .returned (.bool (Ev.may ⟨k, [], 0, 0, 0⟩)) ∧ Below w9.heap.size w9 w' := may_any (· < w9.heap.size) _ 0 0 _ _ [] w9 (fun _ h => h) L9.out.own.bts
          generalize Ev.may ⟨k, [], 0, 0, 0⟩ = MM at *
          rw [hw2] at my m0 m1 m2 m3 m4 kc
          rw [hxb] at m0 m1 m2 m3 m4 kc
          go_wp2_with fail
          refine my.mono ?_
          rw [← hw2, ← hxb]
          rintro e w10 ⟨rfl, b10⟩
          have L10 := Box'.mk (L9.out.below b10)
          have rx := RX9.out.below b10 RX9.out.lt
          have ri := RI9.out.below b10 RI9.out.lt
          clear kc hw2 hxb my b10 m0 m1 m2 m3 m4 L9 RX9 RI9
          cases MM with
          | false =>
            have hR : R = .error 8 := by rw [HR.out, if_neg (by decide)]
            have HR8 := Box'.mk hR
            have FA := Box'.mk (fail_any 8)
            have GG := Box'.mk L10.out.gb
            clear HR hR rx ri L10
            go_wp2_with fail
            refine (FA.out _).mono ?_
            rintro e w11 ⟨rfl, rfl⟩
            exact ⟨rfl, REnd.bad HR8.out GG.out⟩
          | true =>
            have HR8 : Box' (R = .ok (⟨k, [], 0, 0, 0⟩, l9)) := ⟨by rw [HR.out, if_pos rfl]⟩
            have m0 : w10.cell? ⟨xb, 0, none⟩ = some (.int .u8 (k.toNat : Int)) := by rw [rx.cell]; rfl
            have m1 : w10.cell? ⟨xb, 1, none⟩ = some (.slice none 0 0) := by rw [rx.cell]; rfl
            have m2 : w10.cell? ⟨xb, 2, none⟩ = some (.int .i64 0) := by rw [rx.cell]; rfl
            have m3 : w10.cell? ⟨xb, 3, none⟩ = some (.int .i64 0) := by rw [rx.cell]; rfl
            have m4 : w10.cell? ⟨xb, 4, none⟩ = some (.int .u8 0) := by rw [rx.cell]; rfl
            have z0 : w10.cell? ⟨ib, 0, none⟩ = some (.int .u8 0) := by rw [ri.cell]; rfl
            have f0 := ri.frozen 0
            have z1 : w10.cell? ⟨ib, 1, none⟩ = some (.slice none 0 0) := by rw [ri.cell]; rfl
            have f1 := ri.frozen 1
            have z2 : w10.cell? ⟨ib, 2, none⟩ = some (.int .i64 0) := by rw [ri.cell]; rfl
            have f2 := ri.frozen 2
            have z3 : w10.cell? ⟨ib, 3, none⟩ = some (.int .i64 0) := by rw [ri.cell]; rfl
            have f3 := ri.frozen 3
            have z4 : w10.cell? ⟨ib, 4, none⟩ = some (.int .u8 0) := by rw [ri.cell]; rfl
            have f4 := ri.frozen 4
            have LI : Loc rb w w10 N rv l9 ib 48 (.slice none 0 0) [] := ⟨L10.out.gb, L10.out.rdr, ⟨_, ri⟩, L10.out.own, HX.out.1, HX.out.2.1, HX.out.2.2.1, ZB.out⟩
            have LF := Box'.mk (((((LI.set (by decide) 0 (.int .u8 (k.toNat : Int))).set (by decide) 1 (.slice none 0 0)).set (by decide) 2 (.int .i64 0)).set (by decide) 3 (.int .i64 0)).set (by decide) 4 (.int .u8 0))
            have PF := Box'.mk (put5 (by decide) ri (.int .u8 (k.toNat : Int)) (.slice none 0 0) (.int .i64 0) (.int .i64 0) (.int .u8 0)).1
            clear HR rx ri L10 LI
            go_wp2_with fail
            exact bodyPost_ret (results_row rfl _ ib rfl _ _ PF.out _ Try.underlying48 rfl 5 Try.size48 rfl) rfl (REnd.good HR8.out LF.out.gb ⟨_, rfl, LF.out.own⟩ LF.out.rdr)
end Go.Proofs.Ytpgljhgfoihnjaa
