/- The walk of anchored. -/
import Derived.Test.YthcokaffbgbanaaDoorXn
import Derived.Test.YthcokaffbgbanaaDoorXi
import Derived.ProofKit
import Derived.OpenShut
import Derived.HandedShaped
import Derived.ChangeSlices
import Derived.ChangeArms
import Derived.ChangeOld
import Derived.Deep.SlicePairs
import Derived.Carry
namespace Go.Proofs.YthcokaffbgbanaaDoor
open Go.RowKit Go.BigFrame

theorem Own.same' {N p : Nat} {w w' : World} {v : Value} {d : List UInt8} {t : TypeId} {c : Array Value} (h : Own N w v d) (hb : Bt p w w') (hp : Row w p t c) (ht : t ≠ 5) : Own N w' v d := h.same fun _ _ hr => hb.row hr (row_ne hr hp (Ne.symm ht))
/-- What anchored asks of the mathematics. -/
theorem Gf.anch8 (key : List UInt8) : (Gf.dgB key 1 5 1 2 [97]).length = 29 ∧ Gf.dgE key 2 (Gf.dgB key 1 5 1 2 [97]) = 82 ∧ Gf.tkE key 1 0 (Gf.dgB key 1 5 1 2 [97]) = 0 ∧ tkO key 1 0 0 0 0 (Gf.dgB key 1 5 1 2 [97]) = opO key 1 6 1 0 0 ∧ Gf.tkE key 1 6 (Gf.dgB key 1 5 1 2 [97]) = 81 ∧ tkO key 1 6 1 0 0 (Gf.dgB key 1 5 1 2 [97]) = opO key 1 6 1 1 0
    ∧ Gf.dgQ key 1 (Gf.dgB key 1 5 1 2 [97]) = 5 ∧ Gf.dgS key 1 (Gf.dgB key 1 5 1 2 [97]) = 1 ∧ Gf.dgO key 1 (Gf.dgB key 1 5 1 2 [97]) = 2 ∧ Gf.dgL key 1 (Gf.dgB key 1 5 1 2 [97]) = [97] := by
  obtain ⟨h1, h2, h3, h4, h5⟩ := Gf.dg_by (key := key) (f := 1) (q := 5) (s := 1) (e := 2) (l := [97]) rfl (by omega) (by omega)
  have hl := Gf.dgB_len key 1 5 1 2 [97]
  refine ⟨hl, ?_, ?_, ?_, ?_, ?_, h2, h3, h4, h5⟩
  · unfold Gf.dgE
    have hn : Gf.numTo (Gf.dgB key 1 5 1 2 [97]) 0 8 = Gf.hdN 1 5 := Gf.num_be _ (Gf.hdN_lt (by omega)) _
    rw [if_pos (by omega), if_neg (by rw [hl]; decide), hn, if_neg (by decide)]
  · unfold Gf.tkE; rw [if_pos h1, h2]; rfl
  · unfold tkO; rw [if_pos h1, h2]; rfl
  · unfold Gf.tkE; rw [if_pos h1, h2]; rfl
  · unfold tkO; rw [if_pos h1, h2]; rfl
theorem Gf.zeros16 : (Gf.zeros 16).length = 16 := rfl
set_option maxRecDepth 100000 in
set_option maxHeartbeats 4000000 in
theorem anch_any (w : World) (ht : Tab w) : Calls Tryd.prog 10 #[] w fun r w' => r = .returned (.bool true) ∧ Below w.heap.size w w' := by
  have hlt := ht.lt
  have hsN : ∀ w, Calls Tryd.prog 17 #[.agg (ag (Gf.zeros 16)), .int .u8 1, .int .u64 5] w fun e w' => ∃ p, e = .returned (.tuple #[.pointer (some ⟨p, 0, none⟩), .int .i64 0]) ∧ Row w' p 92 (slO (Gf.zeros 16) 1 5) ∧ w.heap.size ≤ p ∧ Below w.heap.size w w' := fun w => sNew_any (Gf.zeros 16) rfl 1 5 (.inl rfl) (by omega) w
  have hoN : ∀ w, Calls Tryd.prog 19 #[.agg (ag (Gf.zeros 16)), .int .u8 1] w fun e w' => ∃ p, e = .returned (.tuple #[.pointer (some ⟨p, 0, none⟩), .int .i64 0]) ∧ Row w' p 94 (opO (Gf.zeros 16) 1 0 0 0 0) ∧ w.heap.size ≤ p ∧ Below w.heap.size w w' := fun w => oNew_any (Gf.zeros 16) rfl 1 (.inl rfl) w
  have hsX : ∀ p w, Tab w → 1 < p → Row w p 92 (slO (Gf.zeros 16) 1 5) → ∀ vb, InE w.heap.size w vb [97] → Calls Tryd.prog 21 #[.pointer (some ⟨p, 0, none⟩), .int .u16 1, .int .u16 2, vb] w fun r w' => ∃ u, r = .returned (.tuple #[u, .int .i64 0]) ∧ Own w.heap.size w' u (Gf.dgB (Gf.zeros 16) 1 5 1 2 [97]) ∧ Row w' p 92 (slO (Gf.zeros 16) 1 6) ∧ Bt p w w' :=
    fun p w h1 h2 h3 vb h4 => next_ok p (Gf.zeros 16) rfl 1 5 (.inl rfl) (by omega) 1 2 (by omega) (by omega) vb [97] (by simp) w h1 h2 h3 h4
  have hA := Gf.anch8 (Gf.zeros 16)
  have hL := Gf.zeros16
  have hoT := fun p n t o b hc vb l hl w h1 h2 h3 => take_any p (Gf.zeros 16) rfl 1 n t o b (.inl rfl) hc vb l hl w h1 h2 h3
  have hDg : ∀ vb l, l.length ≤ maxLen → ∀ w, Tab w → Bts (· < w.heap.size) w vb l → Calls Tryd.prog 13 #[.agg (ag (Gf.zeros 16)), .int .u8 2, vb] w fun r w' => ∃ u, r = .returned (.tuple #[.agg (dgv (Gf.dgQ (Gf.zeros 16) 2 l) (Gf.dgS (Gf.zeros 16) 2 l) (Gf.dgO (Gf.zeros 16) 2 l) u), .int .i64 (Gf.dgE (Gf.zeros 16) 2 l)]) ∧ In5 w' u (Gf.dgL (Gf.zeros 16) 2 l) ∧ Below w.heap.size w w' := fun vb l hl w h1 h2 => dgram_any (Gf.zeros 16) rfl 2 (by omega) vb l hl w h1 h2
  have HsN := Box'.mk hsN
  have HoN := Box'.mk hoN
  have HsX := Box'.mk hsX
  have HoT := Box'.mk hoT
  have HDg := Box'.mk hDg
  have hUs := fun p w h => used_any p (Gf.zeros 16) rfl 1 6 (.inl rfl) w h
  have HUs := Box'.mk hUs
  clear hsN hoN hsX hoT hDg hUs
  generalize Gf.dgB (Gf.zeros 16) 1 5 1 2 [97] = D at *
  generalize hK : Gf.zeros 16 = key at *
  obtain ⟨a1, a2, a3, a4, a5, a6, a7, a8, a9, a10⟩ := hA
  have HA := Box'.mk (And.intro a3 (And.intro a4 (And.intro a5 (And.intro a6 (And.intro a7 (And.intro a8 (And.intro a9 a10)))))))
  have HL := Box'.mk a1
  have HD := Box'.mk a2
  clear a1 a2 a3 a4 a5 a6 a7 a8 a9 a10
  have hzk : (Tryd.prog.info? 23).map (fun i => (i.zero, i.size)) = some (some (.agg (ag key)), 16) := by rw [← hK]; exact Tryd.zero23
  clear hK
  have b0 : Below w.heap.size w (w.alloc (.cells (ag key) 23)) := (Below.refl _ _).alloc (Nat.le_refl _) _
  have r0 : Row (w.alloc (.cells (ag key) 23)) w.heap.size 23 (ag key) := Row.new _ _ _
  have hz0 : (w.alloc (.cells (ag key) 23)).heap.size = w.heap.size + 1 := by simp
  go_enter Tryd.func10, Tryd.ntmps10
  go_wp2_with (first | (refine wpList_alloc_row rfl 23 rfl _ _ hzk ?_) | (refine wpList_load_row rfl 23 (.tmp 1) rfl _ rfl _ _ r0 _ Tryd.underlying23 rfl 16 Tryd.info23 (by rw [ag_size]; exact hL) ?_) | fail)
  refine (HsN.out _).mono ?_
  rintro r w1 ⟨p1, rfl, s1, hp1, b1⟩
  rw [hz0] at hp1
  have r1 := r0.below b1 r0.lt
  have B1 : Below w.heap.size w w1 := b0.trans (b1.mono b0.size)
  clear b0 r0 b1 HsN
  go_wp2_with (first | (refine wpList_load_row rfl 23 (.tmp 1) rfl _ rfl _ _ r1 _ Tryd.underlying23 rfl 16 Tryd.info23 (by rw [ag_size]; exact hL) ?_) | fail)
  refine (HoN.out _).mono ?_
  rintro r w2 ⟨p2, rfl, o2, hp2, b2⟩
  have r2 := r1.below b2 r1.lt
  have s2 := s1.below b2 s1.lt
  have B2 : Below w.heap.size w w2 := B1.trans (b2.mono B1.size)
  have hp12 : p1 ≠ p2 := by have := s1.lt; omega
  have hkp2 : w.heap.size ≠ p2 := by have := s1.lt; omega
  clear r1 s1 b2 HoN
  have b3 : Below w2.heap.size w2 (w2.alloc (.cells #[.int .u8 97] 5)) := (Below.refl _ _).alloc (Nat.le_refl _) _
  have B3 := B2.trans (b3.mono B2.size)
  have r3 := r2.below b3 r2.lt
  have s3 := s2.below b3 s2.lt
  have o3 := o2.below b3 o2.lt
  have hI : InE (w2.alloc (.cells #[.int .u8 97] 5)).heap.size (w2.alloc (.cells #[.int .u8 97] 5)) (.slice (some ⟨w2.heap.size, 0, none⟩) 1 1) [97] := (one_in w2 97).inE
  have HX := Box'.mk (HsX.out p1 _ (ht.below B3 hlt) (by omega) s3 _ hI)
  clear HsX hI s2 o2 r2 B2 b3
  go_wp2_with fail
  refine HX.out.mono ?_
  rintro r w4 ⟨u4, rfl, w4o, s4, t4⟩
  clear HX
  have B4 := B3.trans (t4.below (by omega) B3.size)
  have r4 := t4.row r3 (by omega)
  have o4 := t4.row o3 (fun e => hp12 e.symm)
  clear s3 r3 o3 t4 B3
  obtain ⟨va, vc, rfl⟩ := w4o.slice
  have lD : D.length = 29 := HL.out
  rw [lD] at w4o ⊢
  have T5 := Box'.mk (HoT.out p2 0 0 0 0 (by omega) (.slice va 29 vc) D (by rw [lD]; unfold maxLen; omega) w4 (ht.below B4 hlt) o4 w4o.bts)
  rw [HA.out.1, HA.out.2.1] at T5
  go_wp2_with fail
  refine T5.out.mono ?_
  rintro r w5 ⟨q5, c5, e5, u5, L5, rfl, i5, o5, t5, y5, _⟩
  clear T5
  obtain ⟨hq, hs, he, hL5⟩ := y5 trivial
  rw [HA.out.2.2.2.2.1] at hq
  rw [HA.out.2.2.2.2.2.1] at hs
  rw [HA.out.2.2.2.2.2.2.1] at he
  rw [HA.out.2.2.2.2.2.2.2] at hL5
  subst hq hs he hL5
  obtain ⟨ua, uc, rfl⟩ := i5.slice
  have hp2w : w.heap.size ≤ p2 := by have := B1.size; omega
  have B5 := B4.trans (t5.below (N := w.heap.size) hp2w B4.size)
  have r5 := t5.row r4 hkp2
  have s5 := t5.row s4 hp12
  have v5 := w4o.same' t5 o4 (by decide)
  clear r4 s4 w4o t5 B4 y5 o4
  unfold dgv
  have b6 : Below w5.heap.size w5 (w5.alloc (.cells #[.int .u64 5, .int .u16 1, .int .u16 2, .slice ua 1 uc] 28)) := (Below.refl _ _).alloc (Nat.le_refl _) _
  have B6 := B5.trans (b6.mono B5.size)
  have r6 := r5.below b6 r5.lt
  have s6 := s5.below b6 s5.lt
  have o6 := o5.below b6 o5.lt
  have v6 := v5.below b6
  have i6 := i5.below b6
  have d6 : Row (w5.alloc (.cells #[.int .u64 5, .int .u16 1, .int .u16 2, .slice ua 1 uc] 28)) w5.heap.size 28 #[.int .u64 5, .int .u16 1, .int .u16 2, .slice ua 1 uc] := Row.new _ _ _
  have T7 := Box'.mk (HoT.out p2 6 1 0 0 (by omega) (.slice va 29 vc) D (by rw [lD]; unfold maxLen; omega) _ (ht.below B6 hlt) o6 v6.bts)
  rw [HA.out.2.2.1, HA.out.2.2.2.1] at T7
  clear r5 s5 o5 v5 i5 B5 b6
  go_wp2_with fail
  refine T7.out.mono ?_
  rintro r w7 ⟨q7, c7, e7, u7, L7, rfl, i7, o7, t7, _, y7⟩
  clear T7
  obtain ⟨hq, hs, he, hL7⟩ := y7 (by decide)
  subst hq hs he hL7
  obtain ⟨ub, ud, rfl⟩ := i7.slice
  have B7 := B6.trans (t7.below (N := w.heap.size) hp2w B6.size)
  have r7 := t7.row r6 hkp2
  have s7 := t7.row s6 hp12
  have v7 := v6.same' t7 o6 (by decide)
  have d7 := t7.row d6 (by have := o6.lt; simp at this; intro e; subst e; exact row_ne d6 o6 (by decide) rfl)
  have i7' : In5 w7 (.slice ua 1 uc) [97] := i6.same fun _ _ hr => t7.row hr (row_ne hr o6 (by decide))
  clear r6 s6 v6 d6 t7 B6 y7 o6 i6 i7
  unfold dgv
  have b8 : Below w7.heap.size w7 (w7.alloc (.cells #[.int .u64 0, .int .u16 0, .int .u16 0, .slice ub 0 ud] 28)) := (Below.refl _ _).alloc (Nat.le_refl _) _
  have B8 := B7.trans (b8.mono B7.size)
  have r8 := r7.below b8 r7.lt
  have s8 := s7.below b8 s7.lt
  have v8 := v7.below b8
  have i8 := i7'.below b8
  have d8 := d7.below b8 d7.lt
  have T9 := Box'.mk (HDg.out (.slice va 29 vc) D (by rw [lD]; unfold maxLen; omega) _ (ht.below B8 hlt) v8.bts)
  rw [HD.out] at T9
  clear r7 s7 v7 i7' d7 B7
  go_wp2_with (first | (refine wpList_load_row rfl 23 (.tmp 1) rfl _ rfl _ _ r8 _ Tryd.underlying23 rfl 16 Tryd.info23 (by rw [ag_size]; exact hL) ?_) | fail)
  refine T9.out.mono ?_
  rintro r w9 ⟨u9, rfl, i9, b9⟩
  clear T9
  obtain ⟨uf, ug, rfl⟩ := i9.slice
  have B9 := B8.trans (b9.mono B8.size)
  have s9 := s8.below b9 s8.lt
  have i9' := i8.below b9
  have d9 := d8.below b9 d8.lt
  clear r8 s8 v8 i8 d8 B8 b9 b8 i9 o7
  unfold dgv
  generalize Gf.dgQ key 2 D = DQ at *
  generalize Gf.dgS key 2 D = DS at *
  generalize Gf.dgO key 2 D = DO at *
  generalize (Gf.dgL key 2 D).length = DN at *
  go_upto_region 10 with (fail)
  have b10 : Below w9.heap.size w9 (w9.alloc (.cells #[.int .u64 (DQ : Int), .int .u16 (DS : Int), .int .u16 (DO : Int), .slice uf DN ug] 28)) := (Below.refl _ _).alloc (Nat.le_refl _) _
  have B10 := B9.trans (b10.mono B9.size)
  have s10 := s9.below b10 s9.lt
  have i10 := i9'.below b10
  have d10 := d9.below b10 d9.lt
  clear B9 s9 i9' d9 b10
  generalize (w9.alloc (.cells #[.int .u64 (DQ : Int), .int .u16 (DS : Int), .int .u16 (DO : Int), .slice uf DN ug] 28)) = W10 at *
  have b11 : Below W10.heap.size W10 (W10.alloc (.cells #[.int .u8 97] 5)) := (Below.refl _ _).alloc (Nat.le_refl _) _
  have B11 := B10.trans (b11.mono B10.size)
  have s11 := s10.below b11 s10.lt
  have i11 := (i10.below b11).inE.bts
  have hS : Calls Tryd.prog 16 #[.agg #[.int .u64 5, .int .u16 1, .int .u16 2, .slice ua 1 uc], .agg #[.int .u64 5, .int .u16 1, .int .u16 2, .slice (some ⟨W10.heap.size, 0, none⟩) 1 1]] (W10.alloc (.cells #[.int .u8 97] 5)) fun r w' => r = .returned (.bool true) ∧ Below (W10.alloc (.cells #[.int .u8 97] 5)).heap.size (W10.alloc (.cells #[.int .u8 97] 5)) w' := by
    have := same8_any 5 1 2 5 1 2 _ _ [97] [97] _ i11 (one_in W10 97).inE.bts
    rw [decide_eq_true ⟨rfl, rfl, rfl, rfl⟩] at this
    exact this
  have HS := Box'.mk hS
  clear hS i11 B10 s10 i10 b11
  have k0 : W10.cell? ⟨w5.heap.size, 0, none⟩ = some (.int .u64 5) := d10.cell 0
  have k1 : W10.cell? ⟨w5.heap.size, 1, none⟩ = some (.int .u16 1) := d10.cell 1
  have k2 : W10.cell? ⟨w5.heap.size, 2, none⟩ = some (.int .u16 2) := d10.cell 2
  have k3 : W10.cell? ⟨w5.heap.size, 3, none⟩ = some (.slice ua 1 uc) := d10.cell 3
  go_wp2_with fail
  clear k0 k1 k2 k3
  refine HS.out.mono ?_
  rintro r w12 ⟨rfl, b12⟩
  have B12 := B11.trans (b12.mono B11.size)
  have s12 := s11.below b12 s11.lt
  have HU := Box'.mk (HUs.out p1 w12 s12)
  clear HS b12 s11 B11 d10
  go_wp2_with fail
  refine HU.out.mono ?_
  rintro r w13 ⟨rfl, rfl⟩
  clear HU
  go_wp2_with fail
  go_ret
  exact ⟨rfl, B12⟩
end Go.Proofs.YthcokaffbgbanaaDoor

/- What came in: bytes, keys, datagrams, sides with bytes. -/
namespace Go.Proofs.YthcokaffbgbanaaDoor
open Go.ChangeShapes Go.WideShapes Go.ChangeAt Go.RowKit Go.BigFrame

set_option maxRecDepth 100000 in
/-- A slice of bytes that came in. -/
theorem open_bytes {H : Type} {enc : TypeId × Value → H} {W : World} {base : Nat} {v : Value} {fuel : Nat} {x : DataW H × List MemPlace} (hok : Cell.okWide Tryd.prog W .any base 26 v) (h : DataW.trod enc Tryd.prog W 0 (fun _ => true) true fuel 26 [v] = some x) :
    ∃ l, InB W.heap.size W v l ∧ l.length ≤ maxLen := by
  rcases open_ints Tryd.underlying26 Tryd.underlying5 Tryd.cells5 h with ⟨e, _⟩ | ⟨a, len, cap, zs, e, _, hlc, hcm, hzl, _, hcell, hwf⟩
  · simp only [List.cons.injEq, and_true] at e
    subst e
    exact ⟨[], .inl ⟨rfl, rfl⟩, Nat.zero_le _⟩
  · simp only [List.cons.injEq, and_true] at e
    subst e
    simp only [if_true] at hzl
    have hsp : a.spot = none := by
      unfold Cell.okWide at hok
      rw [Tryd.underlying26] at hok
      simp only [Cell.ok, Tryd.underlying26] at hok
      exact hok.2.2.2.1
    obtain ⟨b, o, sp⟩ := a
    simp only at hsp
    subst hsp
    have hlen : ((zs.take len).map fun z => UInt8.ofNat z.toNat).length = len := by rw [List.length_map, List.length_take]; omega
    have hr : W.rangeAt b o (((zs.take len).map fun z => UInt8.ofNat z.toNat).map B) := by
      intro j u hu
      have hj : j < len := by
        have := (List.getElem?_eq_some_iff.1 hu).1
        rw [List.length_map, hlen] at this
        exact this
      have hc := hcell j (by omega)
      rw [Addr.add_mid] at hc
      rw [hc]
      have hzj : j < zs.length := by omega
      have hz : zs.getD j 0 = zs[j] := by simp [hzj]
      have hw := hwf zs[j] (List.getElem_mem hzj)
      have hb : 0 ≤ zs[j] ∧ zs[j] ≤ 255 := by
        simp only [Lit.wf] at hw
        simpa [IntKind.min, IntKind.max, IntKind.bits, IntKind.signed] using hw
      simp only [List.getElem?_map, List.getElem?_take_of_lt hj, List.getElem?_eq_getElem hzj, Option.map_some, Option.some.injEq] at hu
      rw [← hu, hz]
      unfold B
      rw [UInt8.toNat_ofNat_of_lt' (by show zs[j].toNat < 256; omega)]
      congr 2
      omega
    refine ⟨(zs.take len).map fun z => UInt8.ofNat z.toNat, .inr ⟨b, o, cap, by rw [hlen], by rw [hlen]; exact hlc, ?_, hr⟩, by rw [hlen]; omega⟩
    by_cases h0 : len = 0
    · left
      apply List.eq_nil_of_length_eq_zero
      rw [hlen]; exact h0
    · right
      exact range_lt hr (by rw [hlen]; omega)

set_option maxRecDepth 100000 in
theorem open_u16 {H : Type} {enc : TypeId × Value → H} {W : World} {base : Nat} {v : Value} {fuel : Nat} {x : DataW H × List MemPlace} (hok : Value.okWide Tryd.prog W .any base 25 v) (h : DataW.trod enc Tryd.prog W 0 (fun _ => true) true fuel 25 v.cells.toList = some x) : ∃ n : Nat, v = .int .u16 (n : Int) ∧ n < 65536 := by
  unfold Value.okWide at hok
  rw [Tryd.underlying25] at hok
  have hc1 : v.cells.toList = [v] := by
    unfold Cell.okWide at hok
    rw [Tryd.underlying25] at hok
    cases v <;> first | rfl | (simp only [Cell.ok, Tryd.underlying25] at hok)
  rw [hc1] at h
  obtain ⟨n, e, _, w0⟩ := DataW.trod_int Tryd.underlying25 h
  simp only [List.cons.injEq, and_true] at e
  simp only [Lit.wf, Bool.and_eq_true, decide_eq_true_eq] at w0
  have h0 : 0 ≤ n := w0.1
  have h1 : n ≤ 65535 := w0.2
  exact ⟨n.toNat, by rw [e]; congr 1; omega, by omega⟩
theorem Tryd.cells31 : Tryd.prog.cellsOf 31 = 2 := by kernel_rfl
theorem Tryd.cells29 : Tryd.prog.cellsOf 29 = 1 := by kernel_rfl
theorem Tryd.cells26' : Tryd.prog.cellsOf 26 = 1 := by kernel_rfl
theorem Tryd.types31 : Tryd.prog.cellTypes Tryd.prog.depth 31 = some [29, 26] := by kernel_rfl
theorem Tryd.cells23 : Tryd.prog.cellsOf 23 = 16 := by kernel_rfl
theorem Tryd.types23 : Tryd.prog.cellTypes Tryd.prog.depth 23 = some (List.replicate 16 5) := by kernel_rfl
theorem wf_u8' {n : Int} (h : (Lit.int .u8 n).wf = true) : ∃ x : Nat, n = (x : Int) ∧ x < 256 := by
  simp only [Lit.wf, Bool.and_eq_true, decide_eq_true_eq] at h
  have h0 : 0 ≤ n := h.1
  have h1 : n ≤ 255 := h.2
  exact ⟨n.toNat, by omega, by omega⟩
set_option maxRecDepth 100000 in
/-- A side and bytes that came in. -/
theorem open_ask {H : Type} {enc : TypeId × Value → H} {W : World} {base : Nat} {v : Value} {fuel : Nat} {x : DataW H × List MemPlace} (hok : Value.okWide Tryd.prog W .any base 31 v) (h : DataW.trod enc Tryd.prog W 0 (fun _ => true) true fuel 31 v.cells.toList = some x) :
    ∃ (f : Nat) (vb : Value) (l : List UInt8), v = .agg #[.int .u8 (f : Int), vb] ∧ f < 256 ∧ InB W.heap.size W vb l ∧ l.length ≤ maxLen := by
  unfold Value.okWide at hok
  rw [Tryd.underlying31] at hok
  simp only at hok
  obtain ⟨cs, rfl, hsz, ts, hts, _, hcell⟩ := hok
  rw [Tryd.cells31] at hsz
  rw [Tryd.types31] at hts
  injection hts with hts
  subst hts
  obtain ⟨l⟩ := cs
  match l, hsz with
  | [v0, v1], _ =>
    have h' : DataW.trod enc Tryd.prog W 0 (fun _ => true) true fuel 31 [v0, v1] = some x := h
    obtain ⟨xs, k, hk, hxy, _, hxl, hf⟩ := DataW.trod_struct Tryd.underlying31 h'
    have hl2 : xs.length = 2 := hxl
    have g0 : DataW.trod enc Tryd.prog W 0 (fun _ => true) true k 29 (([v0, v1].drop 0).take (Tryd.prog.cellsOf 29)) = xs[0]? := hf 0 _ rfl
    have g1 : DataW.trod enc Tryd.prog W 0 (fun _ => true) true k 26 (([v0, v1].drop 1).take (Tryd.prog.cellsOf 26)) = xs[1]? := hf 1 _ rfl
    rw [Tryd.cells29, List.getElem?_eq_getElem (by omega)] at g0
    rw [Tryd.cells26', List.getElem?_eq_getElem (by omega)] at g1
    obtain ⟨n0, e0, _, w0⟩ := DataW.trod_int Tryd.underlying29 g0
    simp only [List.drop_zero, List.take_succ_cons, List.take_zero, List.cons.injEq, and_true] at e0
    obtain ⟨m0, rfl, q0⟩ := wf_u8' w0
    simp only [List.drop_succ_cons, List.drop_zero, List.take_succ_cons, List.take_zero] at g1
    obtain ⟨u, hu, hc1⟩ := hcell 1 v1 rfl
    have hu' : u = 26 := by simpa using hu.symm
    subst hu'
    obtain ⟨d, hd, hm⟩ := open_bytes hc1 g1
    subst e0
    exact ⟨m0, v1, d, rfl, q0, hd, hm⟩
set_option maxRecDepth 100000 in
/-- A key that came in. -/
theorem open_key {W : World} {base : Nat} {v : Value} (hok : Value.okWide Tryd.prog W .any base 23 v) : ∃ key, v = .agg (ag key) ∧ key.length = 16 := by
  unfold Value.okWide at hok
  rw [Tryd.underlying23] at hok
  obtain ⟨cs, rfl, hsz, ts, hts, _, hall⟩ := hok
  rw [Tryd.cells23] at hsz
  rw [Tryd.types23] at hts
  simp only [Option.some.injEq] at hts
  subst hts
  refine ⟨cs.toList.map byteIn, ?_, by simp; omega⟩
  congr 1
  apply Array.ext_getElem?
  intro i
  rcases Nat.lt_or_ge i 16 with hi | hi
  · have hv : cs[i]? = some (cs[i]'(by omega)) := Array.getElem?_eq_getElem (by omega)
    obtain ⟨u, hu, hok⟩ := hall i _ hv
    have h5 : u = 5 := by
      have : (List.replicate 16 (5 : TypeId))[i % (List.replicate 16 (5 : TypeId)).length]? = some 5 := by
        rw [List.length_replicate, Nat.mod_eq_of_lt hi, List.getElem?_replicate]
        simp [hi]
      rw [this] at hu; exact (Option.some.inj hu).symm
    subst h5
    have e := byteIn_of hok
    rw [hv, e]
    unfold ag
    simp [hv]
  · rw [Array.getElem?_eq_none (by omega), Array.getElem?_eq_none (by rw [ag_size]; simp; omega)]
end Go.Proofs.YthcokaffbgbanaaDoor
