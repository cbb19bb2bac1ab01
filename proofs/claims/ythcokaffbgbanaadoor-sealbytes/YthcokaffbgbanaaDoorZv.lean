/- The walk of SealForged. -/
import Derived.Test.YthcokaffbgbanaaDoorXo
import Derived.Test.YthcokaffbgbanaaDoorOx
namespace Go.Proofs.YthcokaffbgbanaaDoor
open Go.RowKit Go.BigFrame
set_option linter.unusedVariables false

/-- With a byte of its tag turned nothing opens. -/
theorem Gf.open_turned (key n b p : List UInt8) (m : Nat) (y : UInt8) (h1 : p.length ≤ m) (h2 : m < p.length + 16) (hy : y ≠ (Gf.sealed key n b p).getD m 0) :
    Gf.openTag key n b ((Gf.sealed key n b p).set m y) ≠ ((Gf.sealed key n b p).set m y).drop (((Gf.sealed key n b p).set m y).length - 16) := by
  have hlen := Gf.sealed_len key n b p
  have ho := (Gf.open_sealed key n b p).2
  have hu : Gf.unturned key n ((Gf.sealed key n b p).set m y) = Gf.unturned key n (Gf.sealed key n b p) := by
    unfold Gf.unturned
    rw [List.length_set, hlen, Nat.add_sub_cancel, List.take_set_of_le h1]
  have ht : Gf.openTag key n b ((Gf.sealed key n b p).set m y) = Gf.openTag key n b (Gf.sealed key n b p) := by unfold Gf.openTag; rw [hu]
  rw [ht, ho, List.length_set, hlen, Nat.add_sub_cancel]
  intro he
  have h3 : ((Gf.sealed key n b p).drop p.length).getD (m - p.length) 0 = (((Gf.sealed key n b p).set m y).drop p.length).getD (m - p.length) 0 := by rw [← he]
  have e : p.length + (m - p.length) = m := by omega
  simp only [List.getD_eq_getElem?_getD, List.getElem?_drop, e] at h3
  rw [List.getElem?_set_self (by omega)] at h3
  apply hy
  rw [List.getD_eq_getElem?_getD, h3]
  rfl
theorem turned_ne (x t : UInt8) : x ^^^ (t ||| 1) ≠ x := by
  intro h
  have h2 : t ||| 1 = 0 := by
    have h3 : x ^^^ (x ^^^ (t ||| 1)) = x ^^^ x := by rw [h]
    rw [← UInt8.xor_assoc, UInt8.xor_self, UInt8.zero_xor] at h3
    exact h3
  have h4 : (t ||| 1).toNat = 0 := by rw [h2]; rfl
  rw [UInt8.toNat_or] at h4
  have h5 := (or_zero8 _ _ (UInt8.toNat_lt _) (UInt8.toNat_lt _)).1 h4
  exact absurd h5.2 (by decide)

theorem Buf.setByte {w : World} {g cap : Nat} {d : List UInt8} (h : Buf w g cap d) (m : Nat) (y : UInt8) : Buf (w.setCell ⟨g, m, none⟩ (.int .u8 (y.toNat : Int))) g cap (d.set m y) := by
  unfold Buf
  rw [List.length_set]
  refine ⟨by rw [List.length_map, List.length_set]; omega, ?_⟩
  rcases h.2 with ⟨e, _⟩ | ⟨g1, c1, cur, e1, e2, e3, e4, e5, e6, e7⟩
  · cases e
  · have e1' := e1
    injection e1 with q1; injection q1 with q1; injection q1 with q1
    subst q1
    have r : Row w g 5 cur := e3
    refine .inr ⟨g, c1, cur.setIfInBounds m (.int .u8 (y.toNat : Int)), e1', e2, r.setCell m _, e4, e5, by rw [Array.size_setIfInBounds]; exact e6, ?_⟩
    rw [Array.toList_setIfInBounds, Nat.mul_one] at *
    rw [List.take_set, e7, List.map_set]
    rfl
theorem Buf.cellAt {w : World} {g cap : Nat} {d : List UInt8} (h : Buf w g cap d) (m : Nat) (hm : m < d.length) : w.cell? ⟨g, m, none⟩ = some (.int .u8 ((d.getD m 0).toNat : Int)) := by
  have := h.range m (B (d.getD m 0)) (by simp [hm])
  rw [Nat.zero_add] at this
  exact this
theorem Buf.frz {w : World} {g cap : Nat} {d : List UInt8} (h : Buf w g cap d) (m : Nat) : w.frozen? ⟨g, m, none⟩ = false := by
  rcases h.2 with ⟨e, _⟩ | ⟨g1, c1, cur, e1, e2, e3, _⟩
  · cases e
  · injection e1 with q1; injection q1 with q1; injection q1 with q1
    subst q1
    exact Row.frozen (show Row w g 5 cur from e3) m

/-- Bytes that differ in one place are not opened as the same. -/
theorem Gf.turned_dg {key : List UInt8} {f : Nat} {l : List UInt8} (h : Gf.dgE key f l = 0) (i : Nat) (hi : i < l.length) (y : UInt8) (hy : y ≠ l.getD i 0) (h2 : Gf.dgE key f (l.set i y) = 0) :
    ¬ (Gf.dgQ key f (l.set i y) = Gf.dgQ key f l ∧ Gf.dgS key f (l.set i y) = Gf.dgS key f l ∧ Gf.dgO key f (l.set i y) = Gf.dgO key f l ∧ Gf.dgL key f (l.set i y) = Gf.dgL key f l) := by
  rintro ⟨e1, e2, e3, e4⟩
  have h3 := (Gf.by_dg h2).1
  rw [e1, e2, e3, e4, (Gf.by_dg h).1] at h3
  have h4 : (l.set i y).getD i 0 = y := by simp [hi]
  rw [← h3] at h4
  exact hy h4.symm
set_option maxRecDepth 100000 in
set_option maxHeartbeats 4000000 in
theorem forged_any (key : List UInt8) (hk : key.length = 16) (f : Nat) (hf : f < 256) (t : Nat) (htt : t < 65536) (vb : Value) (l : List UInt8) (hl : l.length ≤ maxLen) (w : World) (ht : Tab w) (hb : InE w.heap.size w vb l) : Calls Tryd.prog 7 #[.agg (ag key), .agg #[.int .u8 (f : Int), vb], .int .u16 (t : Int)] w fun r w' => r = .returned (.bool true) ∧ Below w.heap.size w w' := by
  have hlt := ht.lt
  obtain ⟨va, vc, rfl, hvc⟩ := hb.slice
  have HB := Box'.mk hb
  have HLL := Box'.mk hl
  obtain ⟨ln, hln⟩ : ∃ ln, l.length = ln := ⟨_, rfl⟩
  rw [hln] at HB hvc ⊢
  have HLN := Box'.mk hln
  clear hb hl hln
  have HA := Box'.mk (fun (w1 : World) (hb : Below w.heap.size w w1) => anch_any w1 (ht.below hb hlt))
  have HBT := Box'.mk (fun (w1 : World) (hb : Below w.heap.size w w1) => ((HB.out.below hb (Nat.le_refl _)).up hb.size).bts)
  have HDG := Box'.mk (fun (w1 : World) (hb : Below w.heap.size w w1) => dgram_any key hk f hf (.slice va ln vc) l HLL.out w1 (ht.below hb hlt) (HBT.out w1 hb))
  have B0 : Below w.heap.size w ((w.alloc (.cells (ag key) 23)).alloc (.cells #[.int .u8 (f : Int), .slice va ln vc] 31)) := ((Below.refl _ _).alloc (Nat.le_refl _) _).alloc (by simp) _
  have R0 : Row ((w.alloc (.cells (ag key) 23)).alloc (.cells #[.int .u8 (f : Int), .slice va ln vc] 31)) w.heap.size 23 (ag key) := (Row.new _ _ _).alloc _
  have R1 : Row ((w.alloc (.cells (ag key) 23)).alloc (.cells #[.int .u8 (f : Int), .slice va ln vc] 31)) (w.heap.size + 1) 31 #[.int .u8 (f : Int), .slice va ln vc] := Row.made _ _ _ _ _ rfl (by simp)
  have D0 := Box'.mk (HDG.out _ B0)
  obtain ⟨E, hE⟩ : ∃ E, Gf.dgE key f l = E := ⟨_, rfl⟩
  obtain ⟨Q, hQ⟩ : ∃ Q, Gf.dgQ key f l = Q := ⟨_, rfl⟩
  obtain ⟨S, hS⟩ : ∃ S, Gf.dgS key f l = S := ⟨_, rfl⟩
  obtain ⟨O, hO⟩ : ∃ O, Gf.dgO key f l = O := ⟨_, rfl⟩
  obtain ⟨L, hL⟩ : ∃ L, Gf.dgL key f l = L := ⟨_, rfl⟩
  rw [hE, hQ, hS, hO, hL] at D0
  have HEQ := Box'.mk (And.intro hE (And.intro hQ (And.intro hS (And.intro hO hL))))
  clear hE hQ hS hO hL
  go_enter Tryd.func7, Tryd.ntmps7
  go_wp2_with (first | (refine wpList_load_row rfl 23 (.tmp 3) rfl _ rfl _ _ R0 _ Tryd.underlying23 rfl 16 Tryd.info23 (by rw [ag_size]; exact hk) ?_) | fail)
  refine D0.out.mono ?_
  rintro r w1 ⟨u1, rfl, i1, b1⟩
  clear D0
  obtain ⟨ua, uc, rfl⟩ := i1.slice
  have B1 := B0.trans (b1.mono B0.size)
  have K1 := R0.below b1 R0.lt
  have A1 := R1.below b1 R1.lt
  clear R0 R1 B0 b1
  unfold dgv
  obtain ⟨C2, hC2⟩ : ∃ C2, w1.alloc (.cells #[.int .u64 (Q : Int), .int .u16 (S : Int), .int .u16 (O : Int), .slice ua L.length uc] 28) = C2 := ⟨_, rfl⟩
  have b2 : Below w1.heap.size w1 C2 := by rw [← hC2]; exact (Below.refl _ _).alloc (Nat.le_refl _) _
  have d2 : Row C2 w1.heap.size 28 #[.int .u64 (Q : Int), .int .u16 (S : Int), .int .u16 (O : Int), .slice ua L.length uc] := by rw [← hC2]; exact Row.new _ _ _
  have B2 := B1.trans (b2.mono B1.size)
  have K2 := K1.below b2 K1.lt
  have A2 := A1.below b2 A1.lt
  have i2 := i1.below b2
  have HC2 := Box'.mk hC2
  clear hC2 K1 A1 i1 B1 b2
  go_upto_region 2 with (fail)
  rw [HC2.out]
  clear HC2
  by_cases hE0 : E = 0
  · subst hE0
    obtain ⟨g1, g2, g3, g4, g5⟩ := HEQ.out
    obtain ⟨n1, n2, n3, _⟩ := Gf.dgE_ok g1
    obtain ⟨m1, m2⟩ := Gf.by_dg g1
    rw [g2, g3, g4, g5] at m1
    rw [g2, g5] at m2
    have hSS : S < 65536 := by rw [← g3]; exact Gf.dgS_lt key f l
    have hOO : O < 65536 := by rw [← g4]; exact Gf.dgO_lt key f l
    have hLL : L.length ≤ 65000 := (Gf.byE_ok m2).2.2
    rw [HLN.out] at n2 n3
    have BY := bytes_any key hk f Q S O hSS hOO (.slice ua L.length uc) L (by unfold maxLen; omega) C2 (ht.below B2 hlt) i2.inE
    have e1 : Gf.byL key f Q S O L = l := by unfold Gf.byL; rw [if_pos m2]; exact m1
    rw [m2, e1] at BY
    unfold dgv at BY
    have HBY := Box'.mk BY
    clear BY e1 m1 m2 hSS hOO g1 g2 g3 g4 g5
    have k0 : C2.cell? ⟨w1.heap.size, 0, none⟩ = some (.int .u64 (Q : Int)) := d2.cell 0
    have k1 : C2.cell? ⟨w1.heap.size, 1, none⟩ = some (.int .u16 (S : Int)) := d2.cell 1
    have k2 : C2.cell? ⟨w1.heap.size, 2, none⟩ = some (.int .u16 (O : Int)) := d2.cell 2
    have k3 : C2.cell? ⟨w1.heap.size, 3, none⟩ = some (.slice ua L.length uc) := d2.cell 3
    have c0 : C2.cell? ⟨w.heap.size + 1, 0, none⟩ = some (.int .u8 (f : Int)) := A2.cell 0
    go_wp2_with (first | (refine wpList_load_row rfl 23 (.tmp 3) rfl _ rfl _ _ K2 _ Tryd.underlying23 rfl 16 Tryd.info23 (by rw [ag_size]; exact hk) ?_) | fail)
    refine HBY.out.mono ?_
    rintro r w3 ⟨ub, rfl, o3, b3⟩
    clear HBY k0 k1 k2 k3 c0
    have B3 := B2.trans (b3.mono B2.size)
    have K3 := K2.below b3 K2.lt
    have A3 := A2.below b3 A2.lt
    have d3 := d2.below b3 d2.lt
    have i3 := i2.below b3
    clear B2 K2 A2 d2 i2 b3
    have CP := copy_any _ _ l w3 (HBT.out w3 B3) (fun _ h => h) (by rw [HLN.out]; omega)
    rw [HLN.out] at CP
    have HCP := Box'.mk CP
    clear CP
    have c1 : w3.cell? ⟨w.heap.size + 1, 1, none⟩ = some (.slice va ln vc) := A3.cell 1
    go_wp2_with fail
    refine HCP.out.mono ?_
    rintro r w4 ⟨g, cap, rfl, o4, hg4, b4⟩
    clear HCP c1
    have ht4 := ht.below (B3.trans (b4.mono B3.size)) hlt
    obtain ⟨i, hi⟩ : ∃ i, t / 256 % ln = i := ⟨_, rfl⟩
    have hil : i < ln := by rw [← hi]; exact Nat.mod_lt _ (by omega)
    have hmod : Int.tmod ((t : Int) / 256) (ln : Int) = (i : Int) := by rw [Int.tmod_eq_emod_of_nonneg (by omega), show (t : Int) / 256 = ((t / 256 : Nat) : Int) by omega, ← hi]; exact (Int.natCast_emod _ _).symm
    have hz : ((ln : Int) == 0) = false := by rw [beq_eq_false_iff_ne]; omega
    have ci := o4.cellAt i (by rw [HLN.out]; exact hil)
    have fi := o4.frz i
    have hset := o4.setByte i (l.getD i 0 ^^^ (UInt8.ofNat t ||| 1))
    have xo := xor_u8 (l.getD i 0) (UInt8.ofNat t ||| 1)
    have oo : bits .or .u8 ((t : Int) % 256) 1 = (((UInt8.ofNat t ||| 1).toNat : Nat) : Int) := by
      have := or8 (UInt8.ofNat t) 1
      rw [UInt8.toNat_ofNat', show (((1 : UInt8).toNat : Nat) : Int) = 1 from rfl] at this
      rw [← this]
      congr 1
    have hy := turned_ne (l.getD i 0) (UInt8.ofNat t)
    have HY := Box'.mk hy
    clear hy
    have hglt : g < w4.heap.size := by have := World.block_lt_of_cell? _ _ ci; exact this
    generalize l.getD i 0 ^^^ (UInt8.ofNat t ||| 1) = y at *
    generalize hxx : l.getD i 0 = x at *
    generalize UInt8.ofNat t ||| 1 = t1 at *
    have HXX := Box'.mk hxx
    clear hi hxx
    have b35 : Below w3.heap.size w3 (w4.setCell ⟨g, i, none⟩ (.int .u8 (y.toNat : Int))) := b4.setCell (p := ⟨g, i, none⟩) hg4 _
    have B5 := B3.trans (b35.mono B3.size)
    have lset : (l.set i y).length = ln := by rw [List.length_set]; exact HLN.out
    have bset := hset.bts (S := (· < (w4.setCell ⟨g, i, none⟩ (.int .u8 (y.toNat : Int))).heap.size)) (by simp [World.setCell]; exact hglt) (by rw [lset]; rcases o4.2 with ⟨e, _⟩ | ⟨_, _, _, e, _, _, q, _⟩; (cases e); (injection e with _ e2 e3; subst e3; rw [HLN.out] at q; exact q))
    rw [lset] at bset
    have DG5 := dgram_any key hk f hf (.slice (some ⟨g, 0, none⟩) ln cap) (l.set i y) (by rw [lset]; unfold maxLen; omega) _ (ht.below B5 hlt) bset
    have K5 := K3.below b35 K3.lt
    have A5 := A3.below b35 A3.lt
    have d5 := d3.below b35 d3.lt
    have i5 := i3.below b35
    have v5 : Bts (· < (w4.setCell ⟨g, i, none⟩ (.int .u8 (y.toNat : Int))).heap.size) (w4.setCell ⟨g, i, none⟩ (.int .u8 (y.toNat : Int))) ub l := o3.bts.keep fun b hb => ⟨Nat.lt_of_lt_of_le hb b35.size, b35.block b hb⟩
    have HT : Box' (Gf.dgE key f (l.set i y) = 0 → ¬ (Gf.dgQ key f (l.set i y) = Q ∧ Gf.dgS key f (l.set i y) = S ∧ Gf.dgO key f (l.set i y) = O ∧ Gf.dgL key f (l.set i y) = L)) := ⟨fun h => by
      obtain ⟨g1, g2, g3, g4, g5⟩ := HEQ.out
      have := Gf.turned_dg g1 i (by rw [HLN.out]; exact hil) y (by rw [HXX.out]; exact HY.out) h
      rw [g2, g3, g4, g5] at this
      exact this⟩
    generalize Gf.dgE key f (l.set i y) = E' at *
    generalize Gf.dgQ key f (l.set i y) = Q' at *
    generalize Gf.dgS key f (l.set i y) = S' at *
    generalize Gf.dgO key f (l.set i y) = O' at *
    generalize Gf.dgL key f (l.set i y) = L' at *
    have HDG5 := Box'.mk DG5
    clear DG5 bset hset lset b35 K3 A3 d3 i3 o3 B3 b4 o4
    go_upto_region 7 with (fail)
    obtain ⟨W5, hW5⟩ : ∃ W5, w4.setCell ⟨g, i, none⟩ (.int .u8 (y.toNat : Int)) = W5 := ⟨_, rfl⟩
    rw [hW5] at HDG5 K5 A5 d5 i5 v5 B5 ⊢
    clear hW5 ci fi xo oo hmod hz hglt hg4
    have c0 : W5.cell? ⟨w.heap.size + 1, 0, none⟩ = some (.int .u8 (f : Int)) := A5.cell 0
    go_wp2_with (first | (refine wpList_load_row rfl 23 (.tmp 3) rfl _ rfl _ _ K5 _ Tryd.underlying23 rfl 16 Tryd.info23 (by rw [ag_size]; exact hk) ?_) | fail)
    refine HDG5.out.mono ?_
    rintro r w6 ⟨u6, rfl, i6, b6⟩
    clear HDG5 c0
    obtain ⟨ua', uc', rfl⟩ := i6.slice
    have b7 : Below w6.heap.size w6 (w6.alloc (.cells #[.int .u64 (Q' : Int), .int .u16 (S' : Int), .int .u16 (O' : Int), .slice ua' L'.length uc'] 28)) := (Below.refl _ _).alloc (Nat.le_refl _) _
    have x7 : Row (w6.alloc (.cells #[.int .u64 (Q' : Int), .int .u16 (S' : Int), .int .u16 (O' : Int), .slice ua' L'.length uc'] 28)) w6.heap.size 28 #[.int .u64 (Q' : Int), .int .u16 (S' : Int), .int .u16 (O' : Int), .slice ua' L'.length uc'] := Row.new _ _ _
    have b57 : Below W5.heap.size W5 (w6.alloc (.cells #[.int .u64 (Q' : Int), .int .u16 (S' : Int), .int .u16 (O' : Int), .slice ua' L'.length uc'] 28)) := b6.trans (b7.mono b6.size)
    have B7 := B5.trans (b57.mono B5.size)
    have A7 := A5.below b57 A5.lt
    have d7 := d5.below b57 d5.lt
    have i7 := i5.below b57
    have j7 := i6.below b7
    have v7 := v5.keep (S' := (· < (w6.alloc (.cells #[.int .u64 (Q' : Int), .int .u16 (S' : Int), .int .u16 (O' : Int), .slice ua' L'.length uc'] 28)).heap.size)) (w' := (w6.alloc (.cells #[.int .u64 (Q' : Int), .int .u16 (S' : Int), .int .u16 (O' : Int), .slice ua' L'.length uc'] 28))) fun b hb => ⟨Nat.lt_of_lt_of_le hb b57.size, b57.block b hb⟩
    have A8 := Box'.mk (HA.out _ B7)
    clear K5 A5 d5 i5 v5 B5 b6 b7 b57 i6
    unfold dgv
    go_wp2_with fail
    refine A8.out.mono ?_
    rintro r w8 ⟨rfl, b8⟩
    clear A8
    have B8 := B7.trans (b8.mono B7.size)
    have a8 := A7.below b8 A7.lt
    have d8 := d7.below b8 d7.lt
    have x8 := x7.below b8 x7.lt
    have i8 := (i7.below b8).inE.bts
    have j8 := (j7.below b8).inE.bts
    have v8 := v7.keep (S' := (· < w8.heap.size)) (w' := w8) fun b hb => ⟨Nat.lt_of_lt_of_le hb b8.size, b8.block b hb⟩
    have SM := refSame_any _ _ _ _ l l w8 (HBT.out w8 B8) v8
    rw [decide_eq_true rfl] at SM
    have HSM := Box'.mk SM
    have c1 : w8.cell? ⟨w.heap.size + 1, 1, none⟩ = some (.slice va ln vc) := a8.cell 1
    clear SM A7 d7 x7 i7 j7 v7 B7 v8
    by_cases hE' : E' = 0
    · subst hE'
      have S8 := same8_any Q' S' O' Q S O _ _ L' L w8 j8 i8
      rw [decide_eq_false (HT.out rfl)] at S8
      unfold dgv at S8
      have HS8 := Box'.mk S8
      have k0 : w8.cell? ⟨w1.heap.size, 0, none⟩ = some (.int .u64 (Q : Int)) := d8.cell 0
      have k1 : w8.cell? ⟨w1.heap.size, 1, none⟩ = some (.int .u16 (S : Int)) := d8.cell 1
      have k2 : w8.cell? ⟨w1.heap.size, 2, none⟩ = some (.int .u16 (O : Int)) := d8.cell 2
      have k3 : w8.cell? ⟨w1.heap.size, 3, none⟩ = some (.slice ua L.length uc) := d8.cell 3
      have l0 : w8.cell? ⟨w6.heap.size, 0, none⟩ = some (.int .u64 (Q' : Int)) := x8.cell 0
      have l1 : w8.cell? ⟨w6.heap.size, 1, none⟩ = some (.int .u16 (S' : Int)) := x8.cell 1
      have l2 : w8.cell? ⟨w6.heap.size, 2, none⟩ = some (.int .u16 (O' : Int)) := x8.cell 2
      have l3 : w8.cell? ⟨w6.heap.size, 3, none⟩ = some (.slice ua' L'.length uc') := x8.cell 3
      clear S8
      go_wp2_with (first | (go_at_call 15; refine HSM.out.mono ?_; rintro e1 w9 ⟨rfl, rfl⟩) | fail)
      refine HS8.out.mono ?_
      rintro r w10 ⟨rfl, b10⟩
      clear HS8 k0 k1 k2 k3 l0 l1 l2 l3
      go_wp2_with fail
      go_ret
      exact ⟨rfl, B8.trans (b10.mono B8.size)⟩
    · have dE : (E' != 0) = true := by rw [bne_iff_ne]; exact hE'
      clear hE'
      go_wp2_with (first | (go_at_call 15; refine HSM.out.mono ?_; rintro e1 w9 ⟨rfl, rfl⟩) | fail)
      go_ret
      exact ⟨rfl, B8⟩
  · obtain ⟨q1, q2, q3, q4⟩ : Q = 0 ∧ S = 0 ∧ O = 0 ∧ L = [] := by
      obtain ⟨g1, g2, g3, g4, g5⟩ := HEQ.out
      have hne : Gf.dgE key f l ≠ 0 := by rw [g1]; exact hE0
      exact ⟨by rw [← g2]; exact if_neg hne, by rw [← g3]; exact if_neg hne, by rw [← g4]; exact if_neg hne, by rw [← g5]; exact if_neg hne⟩
    subst q1 q2 q3 q4
    have dE : (E != 0) = true := by rw [bne_iff_ne]; exact hE0
    have HA2 := Box'.mk (HA.out _ B2)
    clear hE0
    go_wp2_with fail
    refine HA2.out.mono ?_
    rintro r w3 ⟨rfl, b3⟩
    have B3 := B2.trans (b3.mono B2.size)
    have d3 := d2.below b3 d2.lt
    have i3 := (i2.below b3).inE.bts
    have hS : Calls Tryd.prog 16 #[.agg #[.int .u64 0, .int .u16 0, .int .u16 0, .slice ua 0 uc], .agg #[.int .u64 0, .int .u16 0, .int .u16 0, .slice none 0 0]] w3 fun r w' => r = .returned (.bool true) ∧ Below w3.heap.size w3 w' := by
      have := same8_any 0 0 0 0 0 0 _ _ [] [] _ i3 (noBts w3)
      rw [decide_eq_true ⟨rfl, rfl, rfl, rfl⟩] at this
      exact this
    have HS := Box'.mk hS
    have k0 : w3.cell? ⟨w1.heap.size, 0, none⟩ = some (.int .u64 0) := d3.cell 0
    have k1 : w3.cell? ⟨w1.heap.size, 1, none⟩ = some (.int .u16 0) := d3.cell 1
    have k2 : w3.cell? ⟨w1.heap.size, 2, none⟩ = some (.int .u16 0) := d3.cell 2
    have k3 : w3.cell? ⟨w1.heap.size, 3, none⟩ = some (.slice ua 0 uc) := d3.cell 3
    clear HA2 hS i3 d3 b3 d2 i2 B2
    go_wp2_with fail
    refine HS.out.mono ?_
    rintro r w4 ⟨rfl, b4⟩
    clear HS k0 k1 k2 k3
    go_wp2_with fail
    go_ret
    exact ⟨rfl, B3.trans (b4.mono B3.size)⟩
end Go.Proofs.YthcokaffbgbanaaDoor
