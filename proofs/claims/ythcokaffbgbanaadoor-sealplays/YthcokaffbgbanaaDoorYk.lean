/- The walk of SealOnce. -/
import Derived.Test.YthcokaffbgbanaaDoorYl
namespace Go.Proofs.YthcokaffbgbanaaDoor
open Go.RowKit Go.BigFrame
set_option linter.unusedVariables false

/-- What was sealed: the datagrams of the numbers from 0 on. -/
def Good (key : List UInt8) (ds : List (List UInt8)) : Prop := ∀ k, k < ds.length → ∃ s l, s < 65536 ∧ l.length ≤ 65000 ∧ ds.getD k [] = Gf.dgB key 2 k s 0 l
theorem Good.snoc {key : List UInt8} {ds : List (List UInt8)} (h : Good key ds) {s : Nat} {l : List UInt8} (hs : s < 65536) (hl : l.length ≤ 65000) : Good key (ds ++ [Gf.dgB key 2 ds.length s 0 l]) := by
  intro k hk
  by_cases hkl : k < ds.length
  · obtain ⟨s', l', h1, h2, h3⟩ := h k hkl
    exact ⟨s', l', h1, h2, by rw [← h3]; simp [List.getD_eq_getElem?_getD, List.getElem?_append_left hkl]⟩
  · have : k = ds.length := by simp at hk; omega
    subst this
    exact ⟨s, l, hs, hl, by simp [List.getD_eq_getElem?_getD]⟩
theorem Own.head8 {N : Nat} {w : World} {v : Value} {d : List UInt8} (h : Own N w v d) (h8 : 8 ≤ d.length) : ∃ g cap, v = .slice (some ⟨g, 0, none⟩) d.length cap ∧ d.length ≤ cap ∧ Bts (· < w.heap.size) w (.slice (some ⟨g, 0, none⟩) 8 cap) (d.take 8) := by
  obtain ⟨g, cap, e1, _, e3, _⟩ := h.at (by rintro rfl; simp at h8)
  obtain ⟨a, c, f1, f2, f3⟩ := h.bts
  rw [e1] at f1
  simp only [Value.slice.injEq, true_and] at f1
  obtain ⟨rfl, rfl⟩ := f1
  have ht : (d.take 8).length = 8 := by rw [List.length_take]; omega
  rcases f3 with rfl | ⟨b, o, f4, f5, f6⟩
  · simp at h8
  · simp only [Option.some.injEq, Addr.mk.injEq, and_true] at f4
    obtain ⟨rfl, rfl⟩ := f4
    refine ⟨g, cap, e1, e3, _, _, by rw [ht], by omega, .inr ⟨g, 0, rfl, f5, fun j u hu => ?_⟩⟩
    refine f6 j u ?_
    rw [List.map_take, List.getElem?_take] at hu
    split at hu
    · exact hu
    · cases hu
theorem tk_vals (key : List UInt8) (n t o : Nat) {y s : Nat} {l : List UInt8} (hy : y < 4611686018427387904) (hs : s < 65536) (hl : l.length ≤ 65000) :
    Gf.tkE key 2 n (Gf.dgB key 2 y s 0 l) = (if y < n then 81 else 0) ∧ tkO key 2 n t o 0 (Gf.dgB key 2 y s 0 l) = (if y < n then opO key 2 n t (o + 1) 0 else opO key 2 (y + 1) (t + 1) o 0) ∧ Gf.dgQ key 2 (Gf.dgB key 2 y s 0 l) = y := by
  have hby : Gf.byE 2 y l.length = 0 := by unfold Gf.byE; exact if_pos ⟨.inr rfl, hy, hl⟩
  obtain ⟨f1, f2, _, _, _⟩ := Gf.dg_by (key := key) (s := s) (e := 0) hby hs (by omega)
  unfold Gf.tkE tkO
  rw [f1, f2, if_pos rfl, if_pos rfl]
  exact ⟨rfl, rfl, rfl⟩
theorem Bts.cell1 {S : Nat → Prop} {w : World} {a : Option Addr} {n c k : Nat} {l : List UInt8} (h : Bts S w (.slice a n c) l) (hk : k < l.length) : ∃ b o, a = some ⟨b, o, none⟩ ∧ w.cell? ⟨b, o + k, none⟩ = some (.int .u8 ((l.getD k 0).toNat : Int)) := by
  obtain ⟨a', c', f1, f2, f3⟩ := h
  simp only [Value.slice.injEq] at f1
  obtain ⟨rfl, rfl, rfl⟩ := f1
  rcases f3 with rfl | ⟨b, o, f4, f5, f6⟩
  · simp at hk
  · exact ⟨b, o, f4, f6 k _ (by simp [List.getElem?_map, List.getElem?_eq_getElem hk, B])⟩
set_option maxRecDepth 100000 in
set_option maxHeartbeats 8000000 in
theorem once_any (key : List UInt8) (hk : key.length = 16) (la : Option Addr) (ln lc : Nat) (ls : List (List UInt8)) (oa : Option Addr) (on oc : Nat) (os : List UInt8) (w : World) (ht : Tab w) (hln : ln * 24 ≤ 140737488355328) (hls : ls.length = ln) (hon2 : on ≤ 140737488355328)
    (hl : ∀ k, k < ln → ∃ b o vk, la = some ⟨b, o, none⟩ ∧ b < w.heap.size ∧ w.cell? ⟨b, o + k, none⟩ = some vk ∧ InE w.heap.size w vk (ls.getD k []) ∧ (ls.getD k []).length ≤ maxLen)
    (ho : Bts (· < w.heap.size) w (.slice oa on oc) os) (hon : os.length = on) :
    Calls Tryd.prog 6 #[.agg (ag key), .slice la ln lc, .slice oa on oc] w fun r w' => r = .returned (.bool true) ∧ Below w.heap.size w w' := by
  have hlt := ht.lt
  have hsN : ∀ w, Calls Tryd.prog 17 #[.agg (ag key), .int .u8 2, .int .u64 0] w fun e w' => ∃ p, e = .returned (.tuple #[.pointer (some ⟨p, 0, none⟩), .int .i64 0]) ∧ Row w' p 92 (slO key 2 0) ∧ w.heap.size ≤ p ∧ Below w.heap.size w w' := fun w => sNew_any key hk 2 0 (.inr rfl) (by omega) w
  have hoN : ∀ w, Calls Tryd.prog 19 #[.agg (ag key), .int .u8 2] w fun e w' => ∃ p, e = .returned (.tuple #[.pointer (some ⟨p, 0, none⟩), .int .i64 0]) ∧ Row w' p 94 (opO key 2 0 0 0 0) ∧ w.heap.size ≤ p ∧ Below w.heap.size w w' := fun w => oNew_any key hk 2 (.inr rfl) w
  have HsN := Box'.mk hsN
  have HoN := Box'.mk hoN
  have HLL := Box'.mk hl
  have HOO := Box'.mk ho
  have HON := Box'.mk hon
  have HLS := Box'.mk hls
  clear hsN hoN hl ho hon hls
  have b0 : Below w.heap.size w (w.alloc (.cells (ag key) 23)) := (Below.refl _ _).alloc (Nat.le_refl _) _
  have r0 : Row (w.alloc (.cells (ag key) 23)) w.heap.size 23 (ag key) := Row.new _ _ _
  have hz0 : (w.alloc (.cells (ag key) 23)).heap.size = w.heap.size + 1 := by simp
  go_enter Tryd.func6, Tryd.ntmps6
  go_wp2_with (first | (refine wpList_load_row rfl 23 (.tmp 3) rfl _ rfl _ _ r0 _ Tryd.underlying23 rfl 16 Tryd.info23 (by rw [ag_size]; exact hk) ?_) | fail)
  refine (HsN.out _).mono ?_
  rintro r w1 ⟨p1, rfl, s1, hp1, b1⟩
  rw [hz0] at hp1
  have r1 := r0.below b1 r0.lt
  have B1 : Below w.heap.size w w1 := b0.trans (b1.mono b0.size)
  clear b0 r0 b1 HsN hz0
  go_wp2_with (first | (refine wpList_load_row rfl 23 (.tmp 3) rfl _ rfl _ _ r1 _ Tryd.underlying23 rfl 16 Tryd.info23 (by rw [ag_size]; exact hk) ?_) | fail)
  refine (HoN.out _).mono ?_
  rintro r w2 ⟨p2, rfl, o2, hp2, b2⟩
  have s2 := s1.below b2 s1.lt
  have B2 : Below w.heap.size w w2 := B1.trans (b2.mono B1.size)
  have hp12 : p1 ≠ p2 := by have := s1.lt; omega
  have hpw1 : w.heap.size ≤ p1 := by omega
  have hpw2 : w.heap.size ≤ p2 := by have := s1.lt; omega
  clear r1 s1 b2 HoN hp2 hp1 B1
  go_wp2_with fail
  go_loopw [11, 12] (fun u i wr => ∃ (k : Nat) (vs : List Value) (ds : List (List UInt8)), k ≤ ln ∧ i = .int .i64 (k : Int) ∧ Box' (SR w.heap.size wr u vs ds) ∧ Box' (Good key ds) ∧ ds.length ≤ k ∧ Box' (Row wr p1 92 (slO key 2 ds.length)) ∧ Box' (Row wr p2 94 (opO key 2 0 0 0 0)) ∧ Below w.heap.size w wr) (fun _ i _ => ln - (intOf i).toNat)
  case atStart => exact ⟨0, [], [], by omega, rfl, ⟨SR.nil _ _⟩, ⟨fun k hk => by simp at hk⟩, Nat.le_refl _, ⟨s2⟩, ⟨o2⟩, B2⟩
  case round =>
    clear s2 o2 B2
    obtain ⟨k, vs, ds, hkl, rfl, HSR, HG, hdk, HS, HOp, B⟩ := hrel
    obtain ⟨sa, sc, rfl, hsc⟩ := HSR.out.slice
    by_cases hlt2 : k < ln
    · obtain ⟨b, o, vk, rfl, hbw, hcell, hin, hmax⟩ := HLL.out k hlt2
      have c0 : wr.cell? ⟨b, o + k, none⟩ = some vk := by rw [B.cell (p := ⟨b, o + k, none⟩) hbw]; exact hcell
      obtain ⟨va, vc, rfl, hvc⟩ := hin.slice
      have hd62 : ds.length < 4611686018427387904 := by omega
      have X := next_any p1 key hk 2 ds.length (.inr rfl) (k % 65536) 0 (Nat.mod_lt _ (by omega)) (by omega) (.slice va (ls.getD k []).length vc) (ls.getD k []) wr (ht.below B hlt) (by omega) HS.out ((hin.below B (Nat.le_refl _)).up B.size)
      have ek : ((k % 65536 : Nat) : Int) = (k : Int) % 65536 := by omega
      rw [ek] at X
      have HX : Box' (Calls Tryd.prog 21 #[.pointer (some ⟨p1, 0, none⟩), .int .u16 ((k : Int) % 65536), .int .u16 0, .slice va (ls.getD k []).length vc] wr fun r w' => ∃ u, r = .returned (.tuple #[u, .int .i64 (Gf.nxE ds.length (ls.getD k []).length)]) ∧ Own wr.heap.size w' u (Gf.nxL key 2 ds.length (k % 65536) 0 (ls.getD k [])) ∧ Row w' p1 92 (slO key 2 (Gf.nxN ds.length (ls.getD k []).length)) ∧ Bt p1 wr w') := ⟨X⟩
      clear X ek hcell hin
      generalize ls.getD k [] = bs at *
      obtain ⟨bn, hbn⟩ : ∃ bn, bs.length = bn := ⟨_, rfl⟩
      have HBN := Box'.mk hbn
      rw [hbn] at HX c0 hvc hmax
      clear hbn
      go_wp2_with fail
      refine HX.out.mono ?_
      rintro r w3 ⟨ub, rfl, o3, r3, t3⟩
      clear HX
      have B3 := B.trans (t3.below hpw1 B.size)
      have sr3 := HSR.out.bt t3 HS.out (by decide) (by decide)
      have op3 := t3.row HOp.out (fun e => hp12 e.symm)
      have c3 : w3.cell? ⟨b, o + k, none⟩ = some (.slice va bn vc) := by rw [B3.cell (p := ⟨b, o + k, none⟩) hbw, ← B.cell (p := ⟨b, o + k, none⟩) hbw]; exact c0
      by_cases hlong : 65000 < bn
      · have en : Gf.nxE ds.length bn = 2 := by unfold Gf.nxE; rw [if_pos hlong]
        have en2 : Gf.nxN ds.length bn = ds.length := by unfold Gf.nxN; rw [en]; rfl
        rw [en2] at r3
        rw [en]
        go_wp2_with fail
        refine ⟨⟨k + 1, vs, ds, by omega, by push_cast; rfl, ⟨sr3⟩, HG, by omega, ⟨r3⟩, ⟨op3⟩, B3⟩, ?_⟩
        show ln - ((k : Int) + 1).toNat < ln - ((k : Int)).toNat
        omega
      · have en : Gf.nxE ds.length bn = 0 := by unfold Gf.nxE; rw [if_neg hlong, if_neg (by omega)]
        have en2 : Gf.nxN ds.length bn = ds.length + 1 := by unfold Gf.nxN; rw [en]; rfl
        have en3 : Gf.nxL key 2 ds.length (k % 65536) 0 bs = Gf.dgB key 2 ds.length (k % 65536) 0 bs := by unfold Gf.nxL; rw [HBN.out, en]; rfl
        rw [en2] at r3
        rw [en3] at o3
        rw [en]
        have hbl : bs.length ≤ 65000 := by have := HBN.out; omega
        have hG2 := HG.out.snoc (Nat.mod_lt k (show 0 < 65536 by omega)) hbl
        have hD : (Gf.dgB key 2 ds.length (k % 65536) 0 bs).length = bs.length + 28 := Gf.dgB_len _ _ _ _ _ _
        have hne : ∀ j, j < ds.length → (ds.getD j []).take 8 ≠ (Gf.dgB key 2 ds.length (k % 65536) 0 bs).take 8 := fun j hj => by
          obtain ⟨s', l', _, _, e3⟩ := HG.out j hj
          rw [e3]; exact Gf.heads_ne (by omega) hd62 (by omega)
        generalize Gf.dgB key 2 ds.length (k % 65536) 0 bs = D at *
        obtain ⟨dn, hdn⟩ : ∃ dn, D.length = dn := ⟨_, rfl⟩
        have HDN := Box'.mk hdn
        have HNE := Box'.mk hne
        have HG2 := Box'.mk hG2
        obtain ⟨g2, cap2, rfl, hcap2, bt2⟩ := o3.head8 (by omega)
        have o3' := o3.less B.size
        have hd8 : 8 ≤ dn := by omega
        rw [hdn] at hcap2 o3'
        rw [hdn]
        clear en3 hne hG2 o3 bt2 hD hdn c3 c0 t3
        go_wp2_with fail
        go_loopw [15] (fun i wr => ∃ j : Nat, j ≤ ds.length ∧ i = .int .i64 (j : Int) ∧ Box' (SR w.heap.size wr (.slice sa ds.length sc) vs ds) ∧ Box' (Own w.heap.size wr (.slice (some ⟨g2, 0, none⟩) dn cap2) D) ∧ Box' (Row wr p1 92 (slO key 2 (ds.length + 1))) ∧ Box' (Row wr p2 94 (opO key 2 0 0 0 0)) ∧ Below w.heap.size w wr) (fun i _ => ds.length - (intOf i).toNat)
        case atStart => exact ⟨0, by omega, rfl, ⟨sr3⟩, ⟨o3'⟩, ⟨r3⟩, ⟨op3⟩, B3⟩
        case round =>
          clear sr3 o3' r3 op3 B3
          obtain ⟨j, hjl, rfl, HSR4, HO4, HR4, HP4, B4⟩ := hrel
          by_cases hj : j < ds.length
          · have h28 : 8 ≤ (ds.getD j []).length := by
              obtain ⟨s', l', _, _, e3⟩ := HG.out j hj
              rw [e3, Gf.dgB_len]; omega
            obtain ⟨g1, cap1, ev1, hcap1, bt1⟩ := (HSR4.out.each j hj).head8 h28
            obtain ⟨g2', cap2', ev2, _, bt2⟩ := HO4.out.head8 (by have := HDN.out; omega)
            obtain ⟨g, cap, es, _, cells⟩ := HSR4.out.at (by omega)
            simp only [Value.slice.injEq, true_and] at es
            obtain ⟨rfl, rfl⟩ := es
            simp only [Value.slice.injEq, Option.some.injEq, Addr.mk.injEq, and_true] at ev2
            obtain ⟨rfl, hx, rfl⟩ := ev2
            clear hx
            have cj := cells j hj
            rw [ev1] at cj
            have SM := refSame_any _ _ _ _ _ _ wr.drew bt1 bt2
            rw [decide_eq_false (HNE.out j hj)] at SM
            have HSM := Box'.mk SM
            clear SM bt1 cells ev1 bt2
            generalize (ds.getD j []).length = m1 at *
            go_wp2_with fail
            refine wp_region_tail 7 (by kernel_rfl) (by kernel_rfl) ?_
            simp only [List.take_succ_cons, List.take_zero, List.drop_succ_cons, List.drop_zero]
            repeat (go_big_quiet_step (fail))
            refine wpQuiet_nil ?_
            go_wp2_with (first | (go_at_call 15; refine HSM.out.mono ?_; rintro r w4 ⟨rfl, rfl⟩) | fail)
            refine ⟨⟨j + 1, by omega, by push_cast; rfl, ⟨⟨HSR4.out.row, HSR4.out.len, HSR4.out.each⟩⟩, ⟨HO4.out.drew⟩, ⟨HR4.out⟩, ⟨HP4.out⟩, B4.drew⟩, ?_⟩
            show ds.length - ((j : Int) + 1).toNat < ds.length - ((j : Int)).toNat
            omega
          · obtain rfl : j = ds.length := by omega
            have Hsr4 := Box'.mk (HSR4.out.below ((Below.refl _ wr).alloc (Nat.le_refl _) (.cells #[.slice (some ⟨g2, 0, none⟩) dn cap2] 26)))
            have Ho4 := Box'.mk (HO4.out.alloc (.cells #[.slice (some ⟨g2, 0, none⟩) dn cap2] 26))
            have Hal4 : Box' (Below w.heap.size w (wr.alloc (.cells #[.slice (some ⟨g2, 0, none⟩) dn cap2] 26))) := ⟨B4.alloc B4.size _⟩
            have Hr4 := Box'.mk (HR4.out.alloc (.cells #[.slice (some ⟨g2, 0, none⟩) dn cap2] 26))
            have Hop4 := Box'.mk (HP4.out.alloc (.cells #[.slice (some ⟨g2, 0, none⟩) dn cap2] 26))
            have Hc4 : Box' ((wr.alloc (.cells #[.slice (some ⟨g2, 0, none⟩) dn cap2] 26)).cell? ⟨wr.heap.size, 0, none⟩ = some (.slice (some ⟨g2, 0, none⟩) dn cap2)) := ⟨by rw [(Row.new wr 26 #[.slice (some ⟨g2, 0, none⟩) dn cap2]).cell]; rfl⟩
            have hB3 : w.heap.size ≤ (wr.alloc (.cells #[.slice (some ⟨g2, 0, none⟩) dn cap2] 26)).heap.size := by have := B4.size; simp; omega
            have HB3 := Box'.mk hB3
            clear hB3
            go_wp2_with (first | (refine wpList_appS rfl (.tmp 76) (.tmp 78) rfl w.heap.size HB3.out _ _ _ rfl Hsr4.out _ _ _ _ rfl Hc4.out rfl Ho4.out (by omega) ?_; intro v5 w5 sr5 ap5) | fail)
            have r5 := ap5.rows _ _ _ Hr4.out (by decide)
            have op5 := ap5.rows _ _ _ Hop4.out (by decide)
            refine ⟨⟨k + 1, vs ++ [.slice (some ⟨g2, 0, none⟩) dn cap2], ds ++ [D], by omega, by push_cast; rfl, ⟨sr5⟩, HG2, by simp; omega, ⟨?_⟩, ⟨op5⟩, Hal4.out.trans ap5.bel⟩, ?_⟩
            · rw [List.length_append]; exact r5
            · show ln - ((k : Int) + 1).toNat < ln - ((k : Int)).toNat
              omega
    · obtain rfl : k = ln := by omega
      have hdl : ds.length * 24 ≤ 140737488355328 := by omega
      clear HS HLL HLS
      have HA := Box'.mk (fun (w1 : World) (hb : Below w.heap.size w w1) => anch_any w1 (ht.below hb hlt))
      go_wp2_with fail
      go_loopw [16, 17] (fun g i wr => ∃ (k n t o : Nat), k ≤ on ∧ i = .int .i64 (k : Int) ∧ g = .int .i64 ((n : Int) - 1) ∧ n ≤ ds.length ∧ t + o = k ∧ Box' (SR w.heap.size wr (.slice sa ds.length sc) vs ds) ∧ Box' (Row wr p2 94 (opO key 2 n t o 0)) ∧ Below w.heap.size w wr) (fun _ i _ => on - (intOf i).toNat)
      case atStart => exact ⟨0, 0, 0, 0, by omega, rfl, rfl, by omega, rfl, HSR, HOp, B⟩
      case round =>
        clear HSR HOp B
        obtain ⟨i, n, t, o, hio, rfl, rfl, hnd, hto, HSR, HOp, B⟩ := hrel
        by_cases hi : i < on
        · by_cases hd0 : ds.length = 0
          · have hd0' : ¬ (0 < ds.length) := by omega
            go_wp2_with fail
            refine (HA.out _ B).mono ?_
            rintro r w5 ⟨rfl, b5⟩
            go_wp2_with fail
            go_ret
            exact ⟨rfl, B.trans (b5.mono B.size)⟩
          · have hd1 : 0 < ds.length := by omega
            obtain ⟨ob, oo, rfl, co⟩ := (HOO.out.below B (fun _ h => h)).cell1 (k := i) (by have := HON.out; omega)
            have hx : (os.getD i 0).toNat < 256 := UInt8.toNat_lt _
            generalize (os.getD i 0).toNat = x at *
            obtain ⟨y, hy⟩ : ∃ y, x % ds.length = y := ⟨_, rfl⟩
            have hm : (x : Int) % (ds.length : Int) = (y : Int) := by rw [← hy]; exact (Int.natCast_emod _ _).symm
            have hq : y < ds.length := by rw [← hy]; exact Nat.mod_lt _ hd1
            clear hy
            obtain ⟨s', l', hs', hl', e3⟩ := HG.out y hq
            obtain ⟨tkv, tkw, f2⟩ := tk_vals key n t o (show y < 4611686018427387904 by omega) hs' hl'
            have oy := HSR.out.each y hq
            have l28 := Gf.dgB_len key 2 y s' 0 l'
            rw [e3] at oy
            obtain ⟨g1, cap1, ev1, hcap1, _⟩ := oy.head8 (by omega)
            obtain ⟨g, cap, es, _, cells⟩ := HSR.out.at hd1
            simp only [Value.slice.injEq, true_and] at es
            obtain ⟨rfl, rfl⟩ := es
            have cy := cells y hq
            rw [ev1] at cy oy
            have TK := take_any p2 key hk 2 n t o 0 (.inr rfl) (by omega) _ _ (by unfold maxLen; omega) wr (ht.below B hlt) HOp.out oy.bts
            rw [tkv, tkw, f2] at TK
            unfold dgv at TK
            clear tkv tkw f2 oy cells ev1 e3 l28
            generalize (Gf.dgB key 2 y s' 0 l').length = m1 at *
            by_cases hyn : y < n
            · simp only [if_pos hyn] at TK
              have HTK := Box'.mk TK
              clear TK
              go_wp2_with fail
              simp only [hm]
              refine HTK.out.mono ?_
              rintro r w3 ⟨q, s, e, u, L, rfl, i3, r3, t3, y3, z3⟩
              obtain ⟨rfl, rfl, rfl, rfl⟩ := z3 (by decide)
              clear HTK y3 z3
              have B3 := B.trans (t3.below hpw2 B.size)
              have sr3 := HSR.out.bt t3 HOp.out (by decide) (by decide)
              obtain ⟨ua, uc, rfl⟩ := i3.slice
              clear i3 t3
              obtain ⟨C2, hC2⟩ : ∃ C2, w3.alloc (.cells #[.int .u64 0, .int .u16 0, .int .u16 0, .slice ua 0 uc] 28) = C2 := ⟨_, rfl⟩
              have b2 : Below w3.heap.size w3 C2 := by rw [← hC2]; exact (Below.refl _ _).alloc (Nat.le_refl _) _
              have d2 : Row C2 w3.heap.size 28 #[.int .u64 0, .int .u16 0, .int .u16 0, .slice ua 0 uc] := by rw [← hC2]; exact Row.new _ _ _
              have B4 := B3.trans (b2.mono B3.size)
              have sr4 := sr3.below b2
              have r4 := r3.below b2 r3.lt
              have HC2 := Box'.mk hC2
              clear hC2 b2 r3 sr3 B3
              go_upto_region 25 with (fail)
              rw [HC2.out]
              clear HC2
              have k0 : C2.cell? ⟨w3.heap.size, 0, none⟩ = some (.int .u64 0) := d2.cell 0
              clear d2
              have hgt : ¬ ((n : Int) - 1 < (y : Int)) := by omega
              have hmx : max ((n : Int) - 1) (y : Int) = (n : Int) - 1 := by omega
              go_wp2_with fail
              refine ⟨⟨i + 1, n, t, o + 1, by omega, by push_cast; rfl, rfl, by omega, by omega, ⟨sr4⟩, ⟨r4⟩, B4⟩, ?_⟩
              show on - ((i : Int) + 1).toNat < on - ((i : Int)).toNat
              omega
            · simp only [if_neg hyn] at TK
              have HTK := Box'.mk TK
              clear TK
              go_wp2_with fail
              simp only [hm]
              refine HTK.out.mono ?_
              rintro r w3 ⟨q, s, e, u, L, rfl, i3, r3, t3, y3, z3⟩
              obtain ⟨hq1, hq2, hq3, hq4⟩ := y3 trivial
              obtain rfl : y = q := hq1.symm
              clear hq2 hq3 hq4
              clear HTK y3 z3
              have B3 := B.trans (t3.below hpw2 B.size)
              have sr3 := HSR.out.bt t3 HOp.out (by decide) (by decide)
              obtain ⟨ua, uc, rfl⟩ := i3.slice
              clear i3 t3
              obtain ⟨C2, hC2⟩ : ∃ C2, w3.alloc (.cells #[.int .u64 ((y : Int)), .int .u16 (s : Int), .int .u16 (e : Int), .slice ua L.length uc] 28) = C2 := ⟨_, rfl⟩
              have b2 : Below w3.heap.size w3 C2 := by rw [← hC2]; exact (Below.refl _ _).alloc (Nat.le_refl _) _
              have d2 : Row C2 w3.heap.size 28 #[.int .u64 ((y : Int)), .int .u16 (s : Int), .int .u16 (e : Int), .slice ua L.length uc] := by rw [← hC2]; exact Row.new _ _ _
              have B4 := B3.trans (b2.mono B3.size)
              have sr4 := sr3.below b2
              have r4 := r3.below b2 r3.lt
              have HC2 := Box'.mk hC2
              clear hC2 b2 r3 sr3 B3
              go_upto_region 25 with (fail)
              rw [HC2.out]
              clear HC2
              have k0 : C2.cell? ⟨w3.heap.size, 0, none⟩ = some (.int .u64 ((y : Int))) := d2.cell 0
              clear d2
              have hgt : (n : Int) - 1 < (y : Int) := by omega
              have hmx : max ((n : Int) - 1) (y : Int) = (y : Int) := by omega
              go_wp2_with fail
              refine ⟨⟨i + 1, y + 1, t + 1, o, by omega, by push_cast; rfl, by rw [show (((y + 1 : Nat) : Int) - 1) = (y : Int) by omega], by omega, by omega, ⟨sr4⟩, ⟨r4⟩, B4⟩, ?_⟩
              show on - ((i : Int) + 1).toNat < on - ((i : Int)).toNat
              omega
        · obtain rfl : i = on := by omega
          go_wp2_with fail
          refine (HA.out _ B).mono ?_
          rintro r w5 ⟨rfl, b5⟩
          go_wp2_with fail
          go_ret
          exact ⟨rfl, B.trans (b5.mono B.size)⟩
end Go.Proofs.YthcokaffbgbanaaDoor
