/- The walk of WireBack. -/
import Derived.Test.YtciiaopbghjcnaaLi
namespace Go.Proofs.Ytciiaopbghjcnaa
open Go.RowKit Go.BigFrame
set_option linter.unusedSimpArgs false

theorem wrF_len {x : Ins} (hx : x.ok) {b : List UInt8} (h : wrF x = (b, 0)) : b.length ≤ 100000 := by
  unfold wrF at h
  split at h
  · simp at h
  · injection h with h _
    rw [← h]
    unfold insF
    simp only [List.length_append]
    have h1 := uf_len64 hx.old
    have h2 := uf_len64 hx.new
    have h3 := uf_len64 hx.ack
    have h4 := uf_len64 hx.thr
    have h5 := tx_len (l := x.dif) (by omega)
    omega
theorem wevF_len {l : List Ev} {b : List UInt8} (h : wevF l = (b, 0)) : b.length ≤ 65536 := by
  unfold wevF at h
  split at h
  · simp at h
  · split at h
    · simp at h
    · injection h with h _
      rw [← h]
      omega

set_option maxRecDepth 100000 in
set_option maxHeartbeats 8000000 in
theorem back_any (w : World) (vx vl : Value) (x : Ins) (l : List Ev) (n : Nat) (hx : x.ok) (hn : n < 18446744073709551616) (hl : l.length ≤ 140737488351232) (h1 : InB w.heap.size w vx x.dif) (h2 : Evs w.heap.size w vl l) :
    Calls Try.prog 6 #[.agg #[.int .u64 (x.old : Int), .int .u64 (x.new : Int), .int .u64 (x.ack : Int), .int .u64 (x.thr : Int), vx], vl, .int .u64 (n : Int)] w fun e w' => e = .returned (.bool true) ∧ Below w.heap.size w w' := by
  obtain ⟨w0, hw0⟩ : ∃ w0, w0 = w.alloc (.cells #[.int .u64 (x.old : Int), .int .u64 (x.new : Int), .int .u64 (x.ack : Int), .int .u64 (x.thr : Int), vx] 34) := ⟨_, rfl⟩
  have b0 : Below w.heap.size w w0 := by rw [hw0]; exact (Below.refl _ _).alloc (Nat.le_refl _) _
  have r0 : Row w0 w.heap.size 34 #[.int .u64 (x.old : Int), .int .u64 (x.new : Int), .int .u64 (x.ack : Int), .int .u64 (x.thr : Int), vx] := by rw [hw0]; exact Row.new _ _ _
  have ui := uint_any n hn w0
  have UI := Box'.mk (uint_any n hn)
  have HW : Box' (∀ w1, Below w0.heap.size w0 w1 → Calls Try.prog 15 #[.agg #[.int .u64 (x.old : Int), .int .u64 (x.new : Int), .int .u64 (x.ack : Int), .int .u64 (x.thr : Int), vx]] w1 fun e w' => ∃ u, e = .returned (.tuple #[u, .int .i64 (wrF x).2]) ∧ OwnB w1.heap.size w' u (wrF x).1 ∧ Below w1.heap.size w1 w') := ⟨fun w1 q => write_any w.heap.size w1 vx x hx (Nat.le_trans b0.size q.size) ((h1.below b0 (Nat.le_refl _)).below q b0.size)⟩
  have HX : Box' (∀ w1, Below w0.heap.size w0 w1 → InB w.heap.size w1 vx x.dif) := ⟨fun w1 q => (h1.below b0 (Nat.le_refl _)).below q b0.size⟩
  have HR : Box' ((wrF x).2 = 0 → rdI (wrF x).1 = (x, 0) ∧ (wrF x).1.length ≤ 100000) := ⟨fun e => ⟨rdI_back hx (by rw [← e]), wrF_len hx (by rw [← e])⟩⟩
  have HV : Box' (∀ w1, Below w0.heap.size w0 w1 → Evs w1.heap.size w1 vl l) := ⟨fun w1 q => ((h2.below b0 (Nat.le_refl _)).below q b0.size).up (Nat.le_trans b0.size q.size)⟩
  have HE : Box' ((wevF l).2 = 0 → rdE (wevF l).1 = (l, 0) ∧ (wevF l).1.length ≤ 65536) := ⟨fun e => ⟨rdE_back (by rw [← e]), wevF_len (by rw [← e])⟩⟩
  have HWE : Box' (∀ w1, Below w0.heap.size w0 w1 → Calls Try.prog 20 #[vl] w1 fun e w' => ∃ u, e = .returned (.tuple #[u, .int .i64 (wevF l).2]) ∧ OwnB w1.heap.size w' u (wevF l).1 ∧ Below w1.heap.size w1 w') := ⟨fun w1 q => writeEvents_any w1 vl l (by omega) (HV.out w1 q)⟩
  have B0 := Box'.mk b0
  have R0 := Box'.mk r0
  have UL := Box'.mk (uf_len64 hn)
  have UB := Box'.mk (rdU_back hn [255])
  rw [hw0] at ui
  obtain ⟨x0, x1, x2, x3, dif⟩ := x
  simp only at HW HX HR R0 h1 hw0 ⊢
  obtain ⟨a1, c1, rfl, _⟩ := h1.slice
  obtain ⟨a2, c2, rfl, hc2, _⟩ := h2
  clear h1 b0 r0
  have hll : l.length ≤ 140737488355328 := by omega
  have HLL := Box'.mk hll
  generalize wrF ⟨x0, x1, x2, x3, dif⟩ = WR at *
  obtain ⟨WB, WE⟩ := WR
  generalize wevF l = EV at *
  obtain ⟨EB, EE⟩ := EV
  simp only at HW HR HE HWE
  generalize hdn : dif.length = dn at *
  clear hdn
  generalize hln : l.length = ln at hc2 hll HV HWE ⊢
  clear hln
  go_enter Try.func6, Try.ntmps6
  go_wp2_with fail
  refine ui.mono ?_
  rw [← hw0]
  rintro e w1 ⟨v1, rfl, o1, b1⟩
  have B1 := Box'.mk b1
  have hz1 : w0.heap.size ≤ (w1.alloc (.cells #[.int .u8 ((255 : UInt8).toNat : Int)] 5)).heap.size := Nat.le_trans b1.size (by simp)
  have HL : Box' ((uf n).length + [(255 : UInt8)].length ≤ 140737488355328) := ⟨by have := UL.out; simp; omega⟩
  have oA := o1.alloc (.cells #[.int .u8 ((255 : UInt8).toNat : Int)] 5)
  have iA := one_in w1 255
  have BA : Box' (∀ w2, Fr w0.heap.size (w1.alloc (.cells #[.int .u8 ((255 : UInt8).toNat : Int)] 5)) w2 → Below w0.heap.size w0 w2) := ⟨fun w2 f2 => (B1.out.alloc B1.out.size (o := .cells #[.int .u8 ((255 : UInt8).toNat : Int)] 5)).trans (f2.below hz1)⟩
  clear ui hw0 o1 b1
  go_wp2_with (refine wpList_app rfl (.tmp 20) (.tmp 21) rfl w0.heap.size _ hz1 _ (uf n) rfl oA _ [255] rfl iA HL.out ?_; intro v2 w2 o2 f2; have B2 := Box'.mk (BA.out w2 f2); have O2 := Box'.mk o2; clear oA iA BA o2 f2 HL hz1 B1)
  have ru := readUint_any _ w2 v2 _ O2.out.inB (by simp; have := UL.out; omega)
  rw [UB.out] at ru
  refine ru.mono ?_
  rintro e w2' ⟨rfl, rfl⟩
  have u2 := UI.out w2'
  clear ru
  go_wp2_with fail
  refine u2.mono ?_
  rintro e w3 ⟨v3, rfl, o3, b3⟩
  have B3 := Box'.mk (B2.out.trans (b3.mono B2.out.size))
  obtain ⟨a3, c3, rfl⟩ := o3.slice
  have r3 := R0.out.below B3.out R0.out.lt
  have k0 : w3.cell? ⟨w.heap.size, 0, none⟩ = some (.int .u64 (x0 : Int)) := by rw [r3.cell]; rfl
  have k1 : w3.cell? ⟨w.heap.size, 1, none⟩ = some (.int .u64 (x1 : Int)) := by rw [r3.cell]; rfl
  have k2 : w3.cell? ⟨w.heap.size, 2, none⟩ = some (.int .u64 (x2 : Int)) := by rw [r3.cell]; rfl
  have k3 : w3.cell? ⟨w.heap.size, 3, none⟩ = some (.int .u64 (x3 : Int)) := by rw [r3.cell]; rfl
  have k4 : w3.cell? ⟨w.heap.size, 4, none⟩ = some (.slice a1 dn c1) := by rw [r3.cell]; rfl
  have hw := HW.out w3 B3.out
  clear u2 o3 b3 r3 O2 HW
  go_wp2_with fail
  refine hw.mono ?_
  rintro e w4 ⟨u4, rfl, o4, b4⟩
  have B4 := Box'.mk (B3.out.trans (b4.mono B3.out.size))
  have O4 := Box'.mk o4
  clear hw b4 o4 k0 k1 k2 k3 k4
  by_cases hi0 : WE = 0
  · obtain ⟨hr4, hl4⟩ := HR.out hi0
    have rv := read_any w4 u4 WB (by omega) O4.out.inB
    rw [hr4] at rv
    have hz4 : (WE == 0) = true := by simpa using hi0
    clear hi0 hr4 hl4
    go_wp2_with fail
    refine rv.mono ?_
    rintro e w5 ⟨v5, rfl, o5, b5⟩
    simp only at o5 ⊢
    obtain ⟨w6, hw6⟩ : ∃ w6, w6 = w5.alloc (.cells #[.int .u64 (x0 : Int), .int .u64 (x1 : Int), .int .u64 (x2 : Int), .int .u64 (x3 : Int), v5] 34) := ⟨_, rfl⟩
    have b6 : Below w5.heap.size w5 w6 := by rw [hw6]; exact (Below.refl _ _).alloc (Nat.le_refl _) _
    have B6 := Box'.mk (B4.out.trans ((b5.trans (b6.mono b5.size)).mono B4.out.size))
    have R6 : Box' (Row w6 w5.heap.size 34 #[.int .u64 (x0 : Int), .int .u64 (x1 : Int), .int .u64 (x2 : Int), .int .u64 (x3 : Int), v5]) := ⟨by rw [hw6]; exact Row.new _ _ _⟩
    have r6 := R0.out.below B6.out R0.out.lt
    have o6 := o5.below b6
    have si := sameIns_any _ _ w6 _ _ ⟨x0, x1, x2, x3, dif⟩ (fun b (hb : b < w.heap.size) => Nat.lt_of_lt_of_le hb (Nat.le_trans B0.out.size B6.out.size)) (fun _ h => h) (HX.out w6 B6.out).bts o6.bts
    simp only at si
    have k0 : w6.cell? ⟨w.heap.size, 0, none⟩ = some (.int .u64 (x0 : Int)) := by rw [r6.cell]; rfl
    have k1 : w6.cell? ⟨w.heap.size, 1, none⟩ = some (.int .u64 (x1 : Int)) := by rw [r6.cell]; rfl
    have k2 : w6.cell? ⟨w.heap.size, 2, none⟩ = some (.int .u64 (x2 : Int)) := by rw [r6.cell]; rfl
    have k3 : w6.cell? ⟨w.heap.size, 3, none⟩ = some (.int .u64 (x3 : Int)) := by rw [r6.cell]; rfl
    have k4 : w6.cell? ⟨w.heap.size, 4, none⟩ = some (.slice a1 dn c1) := by rw [r6.cell]; rfl
    obtain ⟨a5, c5, rfl⟩ := o5.slice
    have q0 : w6.cell? ⟨w5.heap.size, 0, none⟩ = some (.int .u64 (x0 : Int)) := by rw [R6.out.cell]; rfl
    have q1 : w6.cell? ⟨w5.heap.size, 1, none⟩ = some (.int .u64 (x1 : Int)) := by rw [R6.out.cell]; rfl
    have q2 : w6.cell? ⟨w5.heap.size, 2, none⟩ = some (.int .u64 (x2 : Int)) := by rw [R6.out.cell]; rfl
    have q3 : w6.cell? ⟨w5.heap.size, 3, none⟩ = some (.int .u64 (x3 : Int)) := by rw [R6.out.cell]; rfl
    have q4 : w6.cell? ⟨w5.heap.size, 4, none⟩ = some (.slice a5 dif.length c5) := by rw [R6.out.cell]; rfl
    clear rv b5 b6 o5 o6 r6 R6 O4
    rw [hw6] at si k0 k1 k2 k3 k4 q0 q1 q2 q3 q4
    go_wp2_with fail
    refine si.mono ?_
    rw [← hw6]
    rintro e w7 ⟨rfl, b7⟩
    have B7 := Box'.mk (B6.out.trans (b7.mono B6.out.size))
    clear si b7 k0 k1 k2 k3 k4 q0 q1 q2 q3 q4 hw6
    have we := HWE.out w7 B7.out
    clear HWE
    go_wp2_with fail
    refine we.mono ?_
    rintro e w8 ⟨u8, rfl, o8, b8⟩
    have B8 := Box'.mk (B7.out.trans (b8.mono B7.out.size))
    clear we b8
    by_cases he8 : EE = 0
    · obtain ⟨hr8, hl8⟩ := HE.out he8
      have rv := readEvents_any w8 u8 EB (by omega) o8.inB
      rw [hr8] at rv
      have hz8 : (EE == 0) = true := by simpa using he8
      clear he8 hr8 hl8
      go_wp2_with fail
      refine rv.mono ?_
      rintro e w9 ⟨v9, ps9, rfl, hps, oe9, b9⟩
      have hps2 : ps9.map (·.1) = l := hps
      have B9 := Box'.mk (B8.out.trans (b9.mono B8.out.size))
      have ls := lists_any w9 _ v9 l HLL.out (HV.out w9 B9.out) (by rw [← hps2]; exact oe9.evs)
      clear rv b9 oe9 hps hps2 o8
      go_wp2_with fail
      refine ls.mono ?_
      rintro e w10 ⟨rfl, b10⟩
      have B10 := Box'.mk (B9.out.trans (b10.mono B9.out.size))
      clear ls b10
      have hfin := anchored_any w10
      go_wp2_with fail
      refine hfin.mono ?_
      rintro e wz ⟨rfl, bz⟩
      have BZ := Box'.mk (B0.out.trans ((B10.out.trans (bz.mono B10.out.size)).mono B0.out.size))
      clear hfin bz
      go_wp2_with fail
      go_ret
      exact ⟨rfl, BZ.out⟩
    · have hz8 : (EE == 0) = false := by simpa using he8
      clear he8 o8
      have hfin := anchored_any w8
      go_wp2_with fail
      refine hfin.mono ?_
      rintro e wz ⟨rfl, bz⟩
      have BZ := Box'.mk (B0.out.trans ((B8.out.trans (bz.mono B8.out.size)).mono B0.out.size))
      clear hfin bz
      go_wp2_with fail
      go_ret
      exact ⟨rfl, BZ.out⟩
  · have hz4 : (WE == 0) = false := by simpa using hi0
    clear hi0 O4
    have we := HWE.out w4 B4.out
    clear HWE
    go_wp2_with fail
    refine we.mono ?_
    rintro e w8 ⟨u8, rfl, o8, b8⟩
    have B8 := Box'.mk (B4.out.trans (b8.mono B4.out.size))
    clear we b8
    by_cases he8 : EE = 0
    · obtain ⟨hr8, hl8⟩ := HE.out he8
      have rv := readEvents_any w8 u8 EB (by omega) o8.inB
      rw [hr8] at rv
      have hz8 : (EE == 0) = true := by simpa using he8
      clear he8 hr8 hl8
      go_wp2_with fail
      refine rv.mono ?_
      rintro e w9 ⟨v9, ps9, rfl, hps, oe9, b9⟩
      have hps2 : ps9.map (·.1) = l := hps
      have B9 := Box'.mk (B8.out.trans (b9.mono B8.out.size))
      have ls := lists_any w9 _ v9 l HLL.out (HV.out w9 B9.out) (by rw [← hps2]; exact oe9.evs)
      clear rv b9 oe9 hps hps2 o8
      go_wp2_with fail
      refine ls.mono ?_
      rintro e w10 ⟨rfl, b10⟩
      have B10 := Box'.mk (B9.out.trans (b10.mono B9.out.size))
      clear ls b10
      have hfin := anchored_any w10
      go_wp2_with fail
      refine hfin.mono ?_
      rintro e wz ⟨rfl, bz⟩
      have BZ := Box'.mk (B0.out.trans ((B10.out.trans (bz.mono B10.out.size)).mono B0.out.size))
      clear hfin bz
      go_wp2_with fail
      go_ret
      exact ⟨rfl, BZ.out⟩
    · have hz8 : (EE == 0) = false := by simpa using he8
      clear he8 o8
      have hfin := anchored_any w8
      go_wp2_with fail
      refine hfin.mono ?_
      rintro e wz ⟨rfl, bz⟩
      have BZ := Box'.mk (B0.out.trans ((B8.out.trans (bz.mono B8.out.size)).mono B0.out.size))
      clear hfin bz
      go_wp2_with fail
      go_ret
      exact ⟨rfl, BZ.out⟩
end Go.Proofs.Ytciiaopbghjcnaa
