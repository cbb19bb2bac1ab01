/- The walk of OcbBack. -/
import Derived.Test.YtmolhljgmaoflaaDoorOv
namespace Go.Proofs.YtmolhljgmaoflaaDoor
open Go.RowKit Go.BigFrame

/-- With a byte of its tag turned nothing opens. -/
theorem Gf.open_turned (key n b p : List UInt8) (m : Nat) (y : UInt8) (h1 : p.length ≤ m) (h2 : m < p.length + 16) (hy : y ≠ (Gf.sealed key n b p).getD m 0) :
    Gf.openTag key n b ((Gf.sealed key n b p).set m y) ≠ ((Gf.sealed key n b p).set m y).drop (((Gf.sealed key n b p).set m y).length - 16) := by
  have hlen := Gf.sealed_len key n b p
  have ho := (Gf.open_sealed key n b p).2
  have hu : Gf.unturned key n ((Gf.sealed key n b p).set m y) = Gf.unturned key n (Gf.sealed key n b p) := by
    unfold Gf.unturned
    rw [List.length_set, hlen, Nat.add_sub_cancel, List.take_set_of_le h1]
  have ht : Gf.openTag key n b ((Gf.sealed key n b p).set m y) = Gf.openTag key n b (Gf.sealed key n b p) := by unfold Gf.openTag; rw [hu]
  rw [ht, ho, List.length_set, hlen, Nat.add_sub_cancel]
  intro he
  have h3 : ((Gf.sealed key n b p).drop p.length).getD (m - p.length) 0 = (((Gf.sealed key n b p).set m y).drop p.length).getD (m - p.length) 0 := by rw [← he]
  have e : p.length + (m - p.length) = m := by omega
  simp only [List.getD_eq_getElem?_getD, List.getElem?_drop, e] at h3
  rw [List.getElem?_set_self (by omega)] at h3
  apply hy
  rw [List.getD_eq_getElem?_getD, h3]
  rfl
theorem turned_ne (x t : UInt8) : x ^^^ (t ||| 1) ≠ x := by
  intro h
  have h2 : t ||| 1 = 0 := by
    have h3 : x ^^^ (x ^^^ (t ||| 1)) = x ^^^ x := by rw [h]
    rw [← UInt8.xor_assoc, UInt8.xor_self, UInt8.zero_xor] at h3
    exact h3
  have h4 : (t ||| 1).toNat = 0 := by rw [h2]; rfl
  rw [UInt8.toNat_or] at h4
  have h5 := (or_zero8 _ _ (UInt8.toNat_lt _) (UInt8.toNat_lt _)).1 h4
  exact absurd h5.2 (by decide)

theorem Buf.setByte {w : World} {g cap : Nat} {d : List UInt8} (h : Buf w g cap d) (m : Nat) (y : UInt8) : Buf (w.setCell ⟨g, m, none⟩ (.int .u8 (y.toNat : Int))) g cap (d.set m y) := by
  unfold Buf
  rw [List.length_set]
  refine ⟨by rw [List.length_map, List.length_set]; omega, ?_⟩
  rcases h.2 with ⟨e, _⟩ | ⟨g1, c1, cur, e1, e2, e3, e4, e5, e6, e7⟩
  · cases e
  · have e1' := e1
    injection e1 with q1; injection q1 with q1; injection q1 with q1
    subst q1
    have r : Row w g 5 cur := e3
    refine .inr ⟨g, c1, cur.setIfInBounds m (.int .u8 (y.toNat : Int)), e1', e2, r.setCell m _, e4, e5, by rw [Array.size_setIfInBounds]; exact e6, ?_⟩
    rw [Array.toList_setIfInBounds, Nat.mul_one] at *
    rw [List.take_set, e7, List.map_set]
    rfl
theorem Buf.cellAt {w : World} {g cap : Nat} {d : List UInt8} (h : Buf w g cap d) (m : Nat) (hm : m < d.length) : w.cell? ⟨g, m, none⟩ = some (.int .u8 ((d.getD m 0).toNat : Int)) := by
  have := h.range m (B (d.getD m 0)) (by simp [hm])
  rw [Nat.zero_add] at this
  exact this
theorem Buf.frz {w : World} {g cap : Nat} {d : List UInt8} (h : Buf w g cap d) (m : Nat) : w.frozen? ⟨g, m, none⟩ = false := by
  rcases h.2 with ⟨e, _⟩ | ⟨g1, c1, cur, e1, e2, e3, _⟩
  · cases e
  · injection e1 with q1; injection q1 with q1; injection q1 with q1
    subst q1
    exact Row.frozen (show Row w g 5 cur from e3) m
theorem turn_at (n t : Nat) (hn : n ≤ 65536) (ht : t < 256) : wrap64 ((n : Int) + 16 - 1 - (wrap64 (t : Int)).tmod 16) = ((n + 15 - t % 16 : Nat) : Int) := by
  have h : wrap64 (t : Int) = (t : Int) := by unfold wrap64; omega
  rw [h, Int.tmod_eq_emod_of_nonneg (by omega)]
  unfold wrap64
  omega
theorem or_one8 (t : UInt8) : bits .or .u8 (t.toNat : Int) 1 = (((t ||| 1).toNat : Nat) : Int) := or_u8 t 1

set_option maxRecDepth 100000 in
set_option maxHeartbeats 2000000 in
theorem backOcb_any (key : List UInt8) (hkey : key.length = 16) (vn vb vp : Value) (ln lb lp : List UInt8) (t : UInt8) (mn : ln.length ≤ maxLen) (mb : lb.length ≤ maxLen) (w : World) (ht : Tab w)
    (hn : Bts (· < w.heap.size) w vn ln) (hb : Bts (· < w.heap.size) w vb lb) (hp : Bts (· < w.heap.size) w vp lp) :
    Calls Tryd.prog 5 #[.agg (cas key vn vb), vp, .int .u8 (t.toNat : Int)] w fun e w' => e = .returned (.bool true) ∧ Below w.heap.size w w' := by
  have hlt := ht.lt
  have b0 : Below w.heap.size w (w.alloc (.cells (cas key vn vb) 26)) := (Below.refl _ _).alloc (Nat.le_refl _) _
  have r0 : Row (w.alloc (.cells (cas key vn vb) 26)) w.heap.size 26 (cas key vn vb) := Row.new _ _ _
  have hz0 : (w.alloc (.cells (cas key vn vb) 26)).heap.size = w.heap.size + 1 := by simp
  have t0 := ht.below b0 hlt
  have up : ∀ {W : World} {v : Value} {l : List UInt8}, Below w.heap.size w W → Bts (· < w.heap.size) w v l → Bts (· < W.heap.size) W v l := fun hW h => h.keep fun b hb => ⟨Nat.lt_of_lt_of_le hb hW.size, hW.block b hb⟩
  have g16 := cas_range r0
  have c16 := cas_16 hkey r0
  have c17 := cas_17 hkey r0
  have UP := Box'.mk @up
  clear up
  have hnc := hn
  have hbc := hb
  have hpc := hp
  obtain ⟨an, cn, rfl, _, _⟩ := hnc
  obtain ⟨ab, cb, rfl, _, _⟩ := hbc
  obtain ⟨ap, cp, rfl, _, _⟩ := hpc
  by_cases hf : Gf.fault ln.length lb.length (lp.length : Int) = 0
  · have hc : 0 < ln.length ∧ ln.length ≤ 15 ∧ lb.length ≤ 65536 ∧ lp.length ≤ 65536 := by
      unfold Gf.fault at hf
      by_cases h1 : ln.length < 1 ∨ 15 < ln.length
      · rw [if_pos h1] at hf; omega
      · rw [if_neg h1] at hf
        by_cases h2 : 65536 < (lp.length : Int) ∨ 65536 < lb.length
        · rw [if_pos h2] at hf; omega
        · omega
    clear hf
    obtain ⟨k1, k2, k3, k4⟩ := hc
    have HS := Box'.mk (seal_ok key hkey _ _ _ ln lb lp k1 k2 k3 k4 _ t0 (UP.out b0 hn) (UP.out b0 hb) (UP.out b0 hp))
    have hop := Gf.open_sealed key ln lb lp
    have lS := Gf.sealed_len key ln lb lp
    have htu := Gf.open_turned key ln lb lp
    have hok := fun (S : List UInt8) (v : Value) (h16 : 16 ≤ S.length) (h52 : S.length ≤ 65552) => open_ok key hkey (.slice an ln.length cn) (.slice ab lb.length cb) v ln lb S k1 k2 k3 h16 h52
    generalize Gf.sealed key ln lb lp = SL at *
    have HTU := Box'.mk htu
    have HOK := Box'.mk hok
    have HOP := Box'.mk hop
    clear htu hok hop
    go_enter Tryd.func5, Tryd.ntmps5
    go_wp2_with (first
      | (refine wpList_load_midB rfl 23 (.tmp 14) rfl _ _ rfl _ g16 _ Tryd.underlying23 rfl 16 Tryd.info23 hkey ?_)
      | fail)
    refine HS.out.mono ?_
    clear HS
    rintro e w1 ⟨g, rfl, hbu, hg, hb1⟩
    have b1 : Below w.heap.size w w1 := b0.trans (hb1.mono (by omega))
    have r1 : Row w1 w.heap.size 26 (cas key _ _) := r0.below hb1 (by omega)
    have t1 := ht.below b1 hlt
    have hgz : g < w1.heap.size := (World.ownsRow.lt hbu g rfl).2
    clear g16 c16 c17 r0 t0 hb1 b0
    rw [hz0] at hg
    have bS : Bts (· < w1.heap.size) w1 (.slice (some ⟨g, 0, none⟩) (lp.length + 16) (lp.length + 16)) SL := by
      have := hbu.bts (S := (· < w1.heap.size)) hgz (by omega)
      rw [lS] at this
      exact this
    have hO := HOK.out SL _ (by omega) (by omega) w1 t1 (UP.out b1 hn) (UP.out b1 hb) bS
    rw [lS, Nat.add_sub_cancel] at hO
    have HO := Box'.mk hO
    have g16 := cas_range r1
    have c16 := cas_16 hkey r1
    have c17 := cas_17 hkey r1
    clear hO bS
    generalize hN : lp.length = n at *
    go_wp2_with (first
      | (refine wpList_load_midB rfl 23 (.tmp 33) rfl _ _ rfl _ g16 _ Tryd.underlying23 rfl 16 Tryd.info23 hkey ?_)
      | fail)
    refine HO.out.mono ?_
    clear HO
    rintro e w2 ⟨hb2, hyes, _⟩
    obtain ⟨g2, rfl, hbu2, hg2⟩ := hyes HOP.out.2
    rw [HOP.out.1] at hbu2
    have b2 : Below w.heap.size w w2 := b1.trans (hb2.mono (by omega))
    have r2 := r1.below hb2 (by have := b1.size; omega)
    have t2 := ht.below b2 hlt
    have hbS := hbu.same (w' := w2) (hb2.block g hgz)
    have hgz2 : g < w2.heap.size := (World.ownsRow.lt hbS g rfl).2
    clear g16 c16 c17 r1 t1 hb2 b1 hbu hgz hyes
    have hsm : Calls Tryd.prog 10 #[.slice (some ⟨g2, 0, none⟩) n (n + 16), .slice ap n cp] w2 fun e w' => e = .returned (.bool true) ∧ w' = w2 := by
      have bp : Bts (fun _ => True) w2 (.slice (some ⟨g2, 0, none⟩) n (n + 16)) lp := by
        have := hbu2.bts (S := fun _ => True) trivial (by omega)
        rw [hN] at this
        exact this
      have hq := refSame_any _ _ _ _ lp lp w2 bp (UP.out b2 hp)
      rw [decide_eq_true rfl] at hq
      exact hq
    clear hbu2
    obtain ⟨m, hm⟩ : ∃ m, n + 15 - t.toNat % 16 = m := ⟨_, rfl⟩
    have hm1 : n ≤ m := by omega
    have hm2 : m < n + 16 := by omega
    have hmi := turn_at n t.toNat k4 (UInt8.toNat_lt _)
    rw [hm] at hmi
    have cm := hbS.cellAt m (by omega)
    have fm := hbS.frz m
    have hset := hbS.setByte m (SL.getD m 0 ^^^ (t ||| 1))
    have hO2 := HTU.out m (SL.getD m 0 ^^^ (t ||| 1)) hm1 hm2 (turned_ne _ _)
    have lS2 : (SL.set m (SL.getD m 0 ^^^ (t ||| 1))).length = n + 16 := by rw [List.length_set]; exact lS
    have xo := xor_u8 (SL.getD m 0) (t ||| 1)
    have oo := or_one8 t
    have b3 : Below w.heap.size w (w2.setCell ⟨g, m, none⟩ (.int .u8 (((SL.getD m 0 ^^^ (t ||| 1)).toNat : Nat) : Int))) := b2.setCell (by show w.heap.size ≤ g; omega) _
    have r3 := r2.setOther ⟨g, m, none⟩ (.int .u8 (((SL.getD m 0 ^^^ (t ||| 1)).toNat : Nat) : Int)) (by show w.heap.size ≠ g; omega)
    have HO2 := Box'.mk hO2
    have HSM := Box'.mk hsm
    clear hO2 hsm HTU HOP hm
    generalize SL.set m (SL.getD m 0 ^^^ (t ||| 1)) = S2 at *
    generalize SL.getD m 0 ^^^ (t ||| 1) = y at *
    generalize SL.getD m 0 = x at *
    generalize t ||| 1 = t1 at *
    go_wp2_with fail
    refine HSM.out.mono ?_
    rintro e w3 ⟨rfl, rfl⟩
    clear HSM
    have t3 := ht.below b3 hlt
    have g16 := cas_range r3
    have c16 := cas_16 hkey r2
    have c17 := cas_17 hkey r2
    have hgz3 := (World.ownsRow.lt hset g rfl).2
    have bS2 := hset.bts (S := (· < (w3.setCell ⟨g, m, none⟩ (.int .u8 (y.toNat : Int))).heap.size)) hgz3 (by omega)
    rw [lS2] at bS2
    have hO := HOK.out S2 _ (by omega) (by omega) _ t3 (UP.out b3 hn) (UP.out b3 hb) bS2
    have hne := HO2.out
    rw [lS2, Nat.add_sub_cancel] at hO hne
    have HO := Box'.mk hO
    have HN := Box'.mk hne
    clear hO bS2 hne HO2 HOK hset hgz3 hgz2 hbS r3 r2 t3
    go_wp2_with (first
      | (refine wpList_load_midB rfl 23 (.tmp 74) rfl _ _ rfl _ g16 _ Tryd.underlying23 rfl 16 Tryd.info23 hkey ?_)
      | fail)
    refine HO.out.mono ?_
    clear HO
    rintro e w4 ⟨hb4, _, hno⟩
    obtain rfl := hno HN.out
    have b4 : Below w.heap.size w w4 := b3.trans (hb4.mono (by have := b3.size; omega))
    have hA := anchored_any w4 (ht.below b4 hlt)
    have hz4 := b4.size
    clear g16 c16 c17 hb4 b3 hno HN
    go_wp2_with fail
    refine hA.mono ?_
    rintro e w5 ⟨rfl, hb5⟩
    have b5 : Below w.heap.size w w5 := b4.trans (hb5.mono hz4)
    clear hb5 hA
    go_wp2
    go_ret
    exact ⟨rfl, b5⟩
  · have HS := Box'.mk (seal_bad key an _ cn ab _ cb ap _ cp mn mb (w.alloc (.cells (cas key (.slice an ln.length cn) (.slice ab lb.length cb)) 26)) hf)
    generalize Gf.fault ln.length lb.length (lp.length : Int) = c at *
    have hc' : (c == 0) = false := by rw [beq_eq_false_iff_ne]; exact hf
    go_enter Tryd.func5, Tryd.ntmps5
    go_wp2_with (first
      | (refine wpList_load_midB rfl 23 (.tmp 14) rfl _ _ rfl _ g16 _ Tryd.underlying23 rfl 16 Tryd.info23 hkey ?_)
      | fail)
    refine HS.out.mono ?_
    clear HS
    rintro e w1 ⟨rfl, hb1⟩
    have b1 : Below w.heap.size w w1 := b0.trans (hb1.mono (by omega))
    have hA := anchored_any w1 (ht.below b1 hlt)
    have hz1 := b1.size
    clear g16 c16 c17 r0 t0 hb1 b0
    go_wp2_with fail
    refine hA.mono ?_
    rintro e w2 ⟨rfl, hb2⟩
    have b2 : Below w.heap.size w w2 := b1.trans (hb2.mono hz1)
    clear hb2 hA
    go_wp2
    go_ret
    exact ⟨rfl, b2⟩
end Go.Proofs.YtmolhljgmaoflaaDoor
