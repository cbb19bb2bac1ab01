/- The walk of OcbFresh. -/
import Derived.Test.YtmolhljgmaoflaaDoorOy
import Derived.Deep.Cut
namespace Go.Proofs.YtmolhljgmaoflaaDoor
open Go.RowKit Go.BigFrame

theorem Buf.cap {w : World} {g cap : Nat} {d : List UInt8} (h : Buf w g cap d) : d.length ≤ cap := by
  rcases h.2 with ⟨e, _⟩ | ⟨g1, c1, cur, e1, e2, e3, e4, e5⟩
  · cases e
  · injection e1 with q1 _ q3
    omega
theorem Buf.lt {w : World} {g cap : Nat} {d : List UInt8} (h : Buf w g cap d) : g < w.heap.size := (World.ownsRow.lt h g rfl).2
theorem Below.grown {N : Nat} {w a b : World} {g : Nat} (h : Below N w a) (hg : a.grownBy b (some g)) (h1 : N ≤ g) (h2 : N ≤ a.heap.size) : Below N w b :=
  ⟨hg.os.trans h.os, hg.tape.trans h.tape, hg.output.trans h.output, Nat.le_trans h.size hg.size, fun k hk => (hg.block k (by omega) (by intro e; injection e with e; omega)).trans (h.block k hk)⟩
theorem copy_ex (S : Nat → Prop) (v : Value) (l : List UInt8) (w : World) (h : Bts S w v l) (hS : ∀ b, S b → b < w.heap.size) (hm : l.length ≤ 140737488351232) :
    Calls Tryd.prog 17 #[v] w fun e w' => ∃ u, e = .returned u ∧ ((∃ g cap, u = .slice (some ⟨g, 0, none⟩) l.length cap ∧ Buf w' g cap l ∧ w.heap.size ≤ g) ∧ Below w.heap.size w w') :=
  (copy_any S v l w h hS hm).mono fun _ _ ⟨g, cap, h1, h2, h3, h4⟩ => ⟨_, h1, ⟨g, cap, rfl, h2, h3⟩, h4⟩

set_option maxRecDepth 100000 in
set_option maxHeartbeats 4000000 in
theorem freshOcb_any (key : List UInt8) (hkey : key.length = 16) (vn vb vp : Value) (ln lb lp : List UInt8) (mn : ln.length ≤ 140737488351232) (mb : lb.length ≤ 140737488351232) (mp : lp.length ≤ 140737488351232) (w : World) (ht : Tab w)
    (hn : Bts (· < w.heap.size) w vn ln) (hb : Bts (· < w.heap.size) w vb lb) (hp : Bts (· < w.heap.size) w vp lp) :
    Calls Tryd.prog 7 #[.agg (cas key vn vb), vp] w fun e w' => e = .returned (.bool true) ∧ Below w.heap.size w w' := by
  have hlt := ht.lt
  have b0 : Below w.heap.size w (w.alloc (.cells (cas key vn vb) 26)) := (Below.refl _ _).alloc (Nat.le_refl _) _
  have r0 : Row (w.alloc (.cells (cas key vn vb) 26)) w.heap.size 26 (cas key vn vb) := Row.new _ _ _
  have hz0 : (w.alloc (.cells (cas key vn vb) 26)).heap.size = w.heap.size + 1 := by simp
  have up : ∀ {W : World} {v : Value} {l : List UInt8}, Below w.heap.size w W → Bts (· < w.heap.size) w v l → Bts (· < W.heap.size) W v l := fun hW h => h.keep fun b hb => ⟨Nat.lt_of_lt_of_le hb hW.size, hW.block b hb⟩
  have UP := Box'.mk @up
  clear up
  have hnc := hn
  have hbc := hb
  have hpc := hp
  obtain ⟨an, cn, rfl, _, _⟩ := hnc
  obtain ⟨ab, cb, rfl, _, _⟩ := hbc
  obtain ⟨ap, cp, rfl, _, _⟩ := hpc
  go_enter Tryd.func7, Tryd.ntmps7
  go_upto_region 1 with (fail)
  obtain ⟨W, hWe⟩ : ∃ W, w.alloc (.cells (cas key (.slice an ln.length cn) (.slice ab lb.length cb)) 26) = W := ⟨_, rfl⟩
  rw [hWe] at b0 r0 hz0 ⊢
  have bW := b0
  have rW := r0
  have hz := hz0
  clear hWe b0 r0 hz0
  refine wp_region_grow 8 (by kernel_rfl) (by kernel_rfl) (fun a b => Below a.heap.size a b) (fun w1 => Below W.heap.size W w1) (fun k w1 v => match k with
    | 0 => v = .pointer (some ⟨w.heap.size, 16, none⟩)
    | 1 => v = .slice an ln.length cn
    | 2 => ∃ g cap, v = .slice (some ⟨g, 0, none⟩) ln.length cap ∧ Buf w1 g cap ln ∧ w.heap.size < g
    | 3 => v = .pointer (some ⟨w.heap.size, 17, none⟩)
    | 4 => v = .slice ab lb.length cb
    | 5 => ∃ g cap, v = .slice (some ⟨g, 0, none⟩) lb.length cap ∧ Buf w1 g cap lb ∧ w.heap.size < g
    | 6 => v = .slice ap lp.length cp
    | 7 => ∃ g cap, v = .slice (some ⟨g, 0, none⟩) lp.length cap ∧ Buf w1 g cap lp ∧ w.heap.size < g
    | _ => True) ?_ ?_ ?_ ?_ ?_
  · intro w1 w2 hb h
    exact h.trans (hb.mono h.size)
  · intro k v w1 w2 hC1 hb h
    match k, h with
    | 0, h => exact h
    | 1, h => exact h
    | 2, ⟨g, cap, e1, e2, e3⟩ => exact ⟨g, cap, e1, e2.same (hb.block g e2.lt), e3⟩
    | 3, h => exact h
    | 4, h => exact h
    | 5, ⟨g, cap, e1, e2, e3⟩ => exact ⟨g, cap, e1, e2.same (hb.block g e2.lt), e3⟩
    | 6, h => exact h
    | 7, ⟨g, cap, e1, e2, e3⟩ => exact ⟨g, cap, e1, e2.same (hb.block g e2.lt), e3⟩
    | k + 8, h => trivial
  · exact (Below.refl _ _).drew
  · refine ⟨?_, ?_, ?_, ?_, ?_, ?_, ?_, ?_, trivial⟩
    · intro f w1 hC hd KK hK
      simp only [List.take_succ_cons, List.take_zero, setAll, List.setIfInBounds_toArray, List.set_cons_succ, List.set_cons_zero, Nat.zero_add, Nat.reduceAdd] at hK ⊢
      refine wp_of_quiet rfl ?_
      go_big_quiet_step (fail)
      exact wpQuiet_nil (hK _ _ rfl (Below.refl _ _))
    · intro f w1 hC hd KK hK
      have hc : w1.cell? ⟨w.heap.size, 16, none⟩ = some (.slice an ln.length cn) := cas_16 hkey (rW.below hC (by omega))
      have g0 : f 0 = _ := hd 0 rfl
      simp only [List.take_succ_cons, List.take_zero, setAll, List.setIfInBounds_toArray, List.set_cons_succ, List.set_cons_zero, Nat.zero_add, Nat.reduceAdd, g0] at hK ⊢
      refine wp_of_quiet rfl ?_
      go_big_quiet_step (fail)
      exact wpQuiet_nil (hK _ _ rfl (Below.refl _ _))
    · intro f w1 hC hd KK hK
      have g1 : f 1 = _ := hd 1 rfl
      simp only [List.take_succ_cons, List.take_zero, setAll, List.setIfInBounds_toArray, List.set_cons_succ, List.set_cons_zero, Nat.zero_add, Nat.reduceAdd, g1] at hK ⊢
      exact wp_call_ex 17 #[.slice an ln.length cn] (by simp [go_sem]) _ (copy_ex _ _ ln w1 (UP.out (bW.trans (Below.mono hC (by omega))) hn) (fun _ h => h) mn) (fun v w' ⟨⟨g, cap, e1, e2, e3⟩, hb⟩ => hK _ _ ⟨g, cap, e1, e2, by have := hC.size; omega⟩ hb)
    · intro f w1 hC hd KK hK
      simp only [List.take_succ_cons, List.take_zero, setAll, List.setIfInBounds_toArray, List.set_cons_succ, List.set_cons_zero, Nat.zero_add, Nat.reduceAdd] at hK ⊢
      refine wp_of_quiet rfl ?_
      go_big_quiet_step (fail)
      exact wpQuiet_nil (hK _ _ rfl (Below.refl _ _))
    · intro f w1 hC hd KK hK
      have hc : w1.cell? ⟨w.heap.size, 17, none⟩ = some (.slice ab lb.length cb) := cas_17 hkey (rW.below hC (by omega))
      have g3 : f 3 = _ := hd 3 rfl
      simp only [List.take_succ_cons, List.take_zero, setAll, List.setIfInBounds_toArray, List.set_cons_succ, List.set_cons_zero, Nat.zero_add, Nat.reduceAdd, g3] at hK ⊢
      refine wp_of_quiet rfl ?_
      go_big_quiet_step (fail)
      exact wpQuiet_nil (hK _ _ rfl (Below.refl _ _))
    · intro f w1 hC hd KK hK
      have g4 : f 4 = _ := hd 4 rfl
      simp only [List.take_succ_cons, List.take_zero, setAll, List.setIfInBounds_toArray, List.set_cons_succ, List.set_cons_zero, Nat.zero_add, Nat.reduceAdd, g4] at hK ⊢
      exact wp_call_ex 17 #[.slice ab lb.length cb] (by simp [go_sem]) _ (copy_ex _ _ lb w1 (UP.out (bW.trans (Below.mono hC (by omega))) hb) (fun _ h => h) mb) (fun v w' ⟨⟨g, cap, e1, e2, e3⟩, hb⟩ => hK _ _ ⟨g, cap, e1, e2, by have := hC.size; omega⟩ hb)
    · intro f w1 hC hd KK hK
      simp only [List.take_succ_cons, List.take_zero, setAll, List.setIfInBounds_toArray, List.set_cons_succ, List.set_cons_zero, Nat.zero_add, Nat.reduceAdd] at hK ⊢
      refine wp_of_quiet rfl ?_
      go_big_quiet_step (fail)
      exact wpQuiet_nil (hK _ _ rfl (Below.refl _ _))
    · intro f w1 hC hd KK hK
      have g6 : f 6 = _ := hd 6 rfl
      simp only [List.take_succ_cons, List.take_zero, setAll, List.setIfInBounds_toArray, List.set_cons_succ, List.set_cons_zero, Nat.zero_add, Nat.reduceAdd, g6] at hK ⊢
      exact wp_call_ex 17 #[.slice ap lp.length cp] (by simp [go_sem]) _ (copy_ex _ _ lp w1 (UP.out (bW.trans (Below.mono hC (by omega))) hp) (fun _ h => h) mp) (fun v w' ⟨⟨g, cap, e1, e2, e3⟩, hb⟩ => hK _ _ ⟨g, cap, e1, e2, by have := hC.size; omega⟩ hb)
  · intro f w1 hC hv
    have g0 : f 0 = _ := hv 0 (by decide)
    have g1 : f 1 = _ := hv 1 (by decide)
    obtain ⟨p1, c1, g2, f1, z1⟩ := hv 2 (by decide)
    have g3 : f 3 = _ := hv 3 (by decide)
    have g4 : f 4 = _ := hv 4 (by decide)
    obtain ⟨p2, c2, g5, f2, z2⟩ := hv 5 (by decide)
    have g6 : f 6 = _ := hv 6 (by decide)
    obtain ⟨p3, c3, g7, f3, z3⟩ := hv 7 (by decide)
    simp only [List.take_succ_cons, List.take_zero, List.drop_succ_cons, List.drop_zero, setAll, List.setIfInBounds_toArray, List.set_cons_succ, List.set_cons_zero, Nat.zero_add, Nat.reduceAdd, g0, g1, g2, g3, g4, g5, g6, g7]
    clear g0 g1 g2 g3 g4 g5 g6 g7 hv
    have b1 : Below w.heap.size w w1 := bW.trans (hC.mono (by omega))
    have r1 := rW.below hC (by omega)
    have t1 := ht.below b1 hlt
    have n1 : Bts (· < w1.heap.size) w1 (.slice (some ⟨p1, 0, none⟩) ln.length c1) ln := f1.bts f1.lt f1.cap
    have e1 : Bts (· < w1.heap.size) w1 (.slice (some ⟨p2, 0, none⟩) lb.length c2) lb := f2.bts f2.lt f2.cap
    have q1 : Bts (· < w1.heap.size) w1 (.slice (some ⟨p3, 0, none⟩) lp.length c3) lp := f3.bts f3.lt f3.cap
    have up1 : ∀ {X : World} {v : Value} {l : List UInt8}, Below w1.heap.size w1 X → Bts (· < w1.heap.size) w1 v l → Bts (· < X.heap.size) X v l := fun hW h => h.keep fun b hb => ⟨Nat.lt_of_lt_of_le hb hW.size, hW.block b hb⟩
    have U1 := Box'.mk @up1
    have hz1 : w.heap.size < w1.heap.size := by have := hC.size; omega
    clear up1 hC bW rW hz f1 f2 f3 z1 z2 z3 W
    have g16 := cas_range r1
    by_cases hf : Gf.fault ln.length lb.length (lp.length : Int) = 0
    · have hc : 0 < ln.length ∧ ln.length ≤ 15 ∧ lb.length ≤ 65536 ∧ lp.length ≤ 65536 := by
        unfold Gf.fault at hf
        by_cases h1 : ln.length < 1 ∨ 15 < ln.length
        · rw [if_pos h1] at hf; omega
        · rw [if_neg h1] at hf
          by_cases h2 : 65536 < (lp.length : Int) ∨ 65536 < lb.length
          · rw [if_pos h2] at hf; omega
          · omega
      clear hf
      obtain ⟨k1, k2, k3, k4⟩ := hc
      have hse := fun (X : World) (hX : Below w1.heap.size w1 X) (tX : Tab X) => seal_ok key hkey _ _ _ ln lb lp k1 k2 k3 k4 X tX (U1.out hX n1) (U1.out hX e1) (U1.out hX q1)
      have hop := Gf.open_sealed key ln lb lp
      have lS := Gf.sealed_len key ln lb lp
      have hok := fun (S : List UInt8) (v : Value) (h16 : 16 ≤ S.length) (h52 : S.length ≤ 65552) => open_ok key hkey (.slice (some ⟨p1, 0, none⟩) ln.length c1) (.slice (some ⟨p2, 0, none⟩) lb.length c2) v ln lb S k1 k2 k3 h16 h52
      generalize Gf.sealed key ln lb lp = SL at *
      have HSE := Box'.mk hse
      have HOK := Box'.mk hok
      have HOP := Box'.mk hop
      clear hse hok hop
      go_wp2_with (first
        | (refine wpList_load_midB rfl 23 (.tmp 25) rfl _ _ rfl _ g16 _ Tryd.underlying23 rfl 16 Tryd.info23 hkey ?_)
        | fail)
      refine (HSE.out w1 (Below.refl _ _) t1).mono ?_
      rintro e w2 ⟨gs, rfl, fs, hgs, hb2⟩
      have B2 : Below w1.heap.size w1 w2 := hb2
      have ls2 := fs.lt
      have bs2 : Bts (· < w2.heap.size) w2 (.slice (some ⟨gs, 0, none⟩) (lp.length + 16) (lp.length + 16)) SL := by
        have := fs.bts (S := (· < w2.heap.size)) ls2 (by omega)
        rw [lS] at this
        exact this
      have hcp := copy_any _ _ SL w2 bs2 (fun _ h => h) (by omega)
      rw [lS] at hcp
      clear g16 t1 hb2 bs2
      go_wp2_with fail
      refine hcp.mono ?_
      clear hcp
      rintro e w3 ⟨gt, ct, rfl, ft, hgt, hb3⟩
      have B3 : Below w1.heap.size w1 w3 := B2.trans (hb3.mono B2.size)
      have fs3 := fs.same (hb3.block gs ls2)
      have lt3 := ft.lt
      have ls3 := fs3.lt
      have bt3 : Bts (· < w3.heap.size) w3 (.slice (some ⟨gt, 0, none⟩) (lp.length + 16) ct) SL := by
        have := ft.bts (S := (· < w3.heap.size)) lt3 ft.cap
        rw [lS] at this
        exact this
      have hO := HOK.out SL _ (by omega) (by omega) w3 (ht.below (b1.trans (B3.mono (by omega))) hlt) (U1.out B3 n1) (U1.out B3 e1) bt3
      rw [lS, Nat.add_sub_cancel] at hO
      have HO := Box'.mk hO
      have g16 := cas_range (r1.below B3 hz1)
      clear hO bt3 B2 hb3 fs
      generalize hN : lp.length = n at *
      go_wp2_with (first
        | (refine wpList_load_midB rfl 23 (.tmp 36) rfl _ _ rfl _ g16 _ Tryd.underlying23 rfl 16 Tryd.info23 hkey ?_)
        | fail)
      refine HO.out.mono ?_
      clear HO
      rintro e w4 ⟨hb4, hyes, _⟩
      obtain ⟨gq, rfl, fq, hgq⟩ := hyes HOP.out.2
      rw [HOP.out.1] at fq
      have B4 : Below w1.heap.size w1 w4 := B3.trans (hb4.mono B3.size)
      have fs4 := fs3.same (hb4.block gs ls3)
      have ft4 := ft.same (hb4.block gt lt3)
      have s34 := hb4.size
      have s13 := B3.size
      have hsp := spoil_some gq n (n + 16) _ 3 w4 (by have h := fq; unfold Buf at h; rw [hN] at h; exact h) (by omega)
      have hz4 := fq.lt
      clear g16 hb4 hyes fs3 ft B3 HOP HOK fq
      go_wp2_with fail
      refine hsp.mono ?_
      clear hsp
      rintro e w5 ⟨rfl, hg5⟩
      have B5 : Below w1.heap.size w1 w5 := Below.grown B4 hg5 (by omega) (by omega)
      have fs5 := fs4.same (hg5.block gs fs4.lt (by intro e; injection e with e; omega))
      have ft5 := ft4.same (hg5.block gt ft4.lt (by intro e; injection e with e; omega))
      have sm5 := refSame_any _ _ _ _ SL SL w5 (fs5.bts (S := fun _ => True) trivial (by omega)) (ft5.bts (S := fun _ => True) trivial ft5.cap)
      rw [decide_eq_true rfl, lS] at sm5
      have s45 := hg5.size
      clear fs4 ft4 B4 hg5
      go_wp2_with fail
      refine sm5.mono ?_
      clear sm5
      rintro e w6 ⟨rfl, rfl⟩
      have hsp := spoil_some gs (n + 16) (n + 16) _ 4 w6 (by have h := fs5; unfold Buf at h; rw [lS] at h; exact h) (by omega)
      go_wp2_with fail
      refine hsp.mono ?_
      clear hsp
      rintro e w7 ⟨rfl, hg7⟩
      have B7 : Below w1.heap.size w1 w7 := Below.grown B5 hg7 (by omega) (by omega)
      have ft7 := ft5.same (hg7.block gt ft5.lt (by intro e; injection e with e; omega))
      have HSL := HSE.out w7 B7 (ht.below (b1.trans (B7.mono (by omega))) hlt)
      have HS7 := Box'.mk HSL
      have g16 := cas_range (r1.below B7 hz1)
      clear B5 fs5 ft5 hg7 HSE HSL
      go_wp2_with (first
        | (refine wpList_load_midB rfl 23 (.tmp 52) rfl _ _ rfl _ g16 _ Tryd.underlying23 rfl 16 Tryd.info23 hkey ?_)
        | fail)
      refine HS7.out.mono ?_
      clear HS7
      rintro e w8 ⟨gu, rfl, fu, hgu, hb8⟩
      have B8 : Below w1.heap.size w1 w8 := B7.trans (hb8.mono B7.size)
      have ft8 := ft7.same (hb8.block gt ft7.lt)
      have hA := anchored_any w8 (ht.below (b1.trans (B8.mono (by omega))) hlt)
      clear g16 hb8 B7 ft7
      go_wp2_with fail
      refine hA.mono ?_
      clear hA
      rintro e w9 ⟨rfl, hb9⟩
      have B9 : Below w1.heap.size w1 w9 := B8.trans (hb9.mono B8.size)
      have ft9 := ft8.same (hb9.block gt ft8.lt)
      have fu9 := fu.same (hb9.block gu fu.lt)
      have sm1 := refSame_any _ _ _ _ SL SL w9 (fu9.bts (S := fun _ => True) trivial fu9.cap) (ft9.bts (S := fun _ => True) trivial ft9.cap)
      rw [decide_eq_true rfl, lS] at sm1
      have b9 : Below w.heap.size w w9 := b1.trans (B9.mono (by omega))
      have sm2 := refSame_any _ _ _ _ ln ln w9 (U1.out B9 n1) (UP.out b9 hn)
      have sm3 := refSame_any _ _ _ _ lb lb w9 (U1.out B9 e1) (UP.out b9 hb)
      have sm4 := refSame_any _ _ _ _ lp lp w9 (U1.out B9 q1) (UP.out b9 hp)
      rw [decide_eq_true rfl] at sm2 sm3 sm4
      have r9 := r1.below B9 hz1
      have c16 := cas_16 hkey r9
      have c17 := cas_17 hkey r9
      have S1 := Box'.mk sm1
      have S2 := Box'.mk sm2
      have S3 := Box'.mk sm3
      have S4 := Box'.mk sm4
      clear sm1 sm2 sm3 sm4 r9 B9 B8 ft8 ft9 fu fu9 hb9
      go_wp2_with fail
      refine S1.out.mono ?_
      rintro e w10 ⟨rfl, rfl⟩
      go_wp2_with fail
      refine S2.out.mono ?_
      rintro e w10 ⟨rfl, rfl⟩
      go_wp2_with fail
      refine S3.out.mono ?_
      rintro e w10 ⟨rfl, rfl⟩
      go_wp2_with fail
      refine S4.out.mono ?_
      rintro e w10 ⟨rfl, rfl⟩
      go_wp2
      go_ret
      exact ⟨rfl, b9⟩
    · have hsb := fun (X : World) => seal_bad key (some ⟨p1, 0, none⟩) ln.length c1 (some ⟨p2, 0, none⟩) lb.length c2 (some ⟨p3, 0, none⟩) lp.length c3 (by unfold maxLen; omega) (by unfold maxLen; omega) X hf
      generalize Gf.fault ln.length lb.length (lp.length : Int) = c at *
      have HSB := Box'.mk hsb
      clear hsb
      go_wp2_with (first
        | (refine wpList_load_midB rfl 23 (.tmp 25) rfl _ _ rfl _ g16 _ Tryd.underlying23 rfl 16 Tryd.info23 hkey ?_)
        | fail)
      refine (HSB.out w1).mono ?_
      rintro e w2 ⟨rfl, hb2⟩
      have B2 : Below w1.heap.size w1 w2 := hb2
      have hcp := copy_any (fun _ => False) (.slice none 0 0) [] w2 ⟨none, 0, rfl, Nat.le_refl _, .inl rfl⟩ (fun _ h => h.elim) (by simp)
      clear g16 t1 hb2
      go_wp2_with fail
      refine hcp.mono ?_
      clear hcp
      rintro e w3 ⟨gt, ct, rfl, ft, hgt, hb3⟩
      have B3 : Below w1.heap.size w1 w3 := B2.trans (hb3.mono B2.size)
      have lt3 := ft.lt
      have hO := open_any key hkey _ _ _ ln lb [] (by unfold maxLen; omega) (by unfold maxLen; omega) (by simp) w3 (ht.below (b1.trans (B3.mono (by omega))) hlt) (U1.out B3 n1) (U1.out B3 e1) (ft.bts (S := (· < w3.heap.size)) lt3 ft.cap)
      have HO := Box'.mk hO
      have g16 := cas_range (r1.below B3 hz1)
      clear hO B2 hb3
      simp only [List.length_nil] at *
      go_wp2_with (first
        | (refine wpList_load_midB rfl 23 (.tmp 36) rfl _ _ rfl _ g16 _ Tryd.underlying23 rfl 16 Tryd.info23 hkey ?_)
        | fail)
      refine HO.out.mono ?_
      clear HO
      rintro e w4 ⟨hb4, ⟨c', _, rfl⟩ | ⟨_, _, _, h16, _⟩⟩
      case inr => simp at h16
      have B4 : Below w1.heap.size w1 w4 := B3.trans (hb4.mono B3.size)
      have ft4 := ft.same (hb4.block gt lt3)
      have hsp := spoil_nil 3 w4
      clear g16 hb4 ft B3
      go_wp2_with fail
      refine hsp.mono ?_
      clear hsp
      rintro e w5 ⟨rfl, hg5⟩
      have B5 : Below w1.heap.size w1 w5 := Below.grown B4 hg5 B4.size B4.size
      have ft5 := ft4.same (hg5.block gt ft4.lt (by intro e; injection e with e; have := ft4.lt; omega))
      have sm5 := refSame_any (fun _ => True) (fun _ => True) (.slice none 0 0) _ [] [] w5 ⟨none, 0, rfl, Nat.le_refl _, .inl rfl⟩ (ft5.bts (S := fun _ => True) trivial ft5.cap)
      rw [decide_eq_true rfl] at sm5
      clear ft4 B4 hg5
      go_wp2_with fail
      refine sm5.mono ?_
      clear sm5
      rintro e w6 ⟨rfl, rfl⟩
      have hsp := spoil_nil 4 w6
      go_wp2_with fail
      refine hsp.mono ?_
      clear hsp
      rintro e w7 ⟨rfl, hg7⟩
      have B7 : Below w1.heap.size w1 w7 := Below.grown B5 hg7 B5.size B5.size
      have ft7 := ft5.same (hg7.block gt ft5.lt (by intro e; injection e with e; have := ft5.lt; omega))
      have g16 := cas_range (r1.below B7 hz1)
      clear B5 ft5 hg7
      go_wp2_with (first
        | (refine wpList_load_midB rfl 23 (.tmp 52) rfl _ _ rfl _ g16 _ Tryd.underlying23 rfl 16 Tryd.info23 hkey ?_)
        | fail)
      refine (HSB.out w7).mono ?_
      clear HSB
      rintro e w8 ⟨rfl, hb8⟩
      have B8 : Below w1.heap.size w1 w8 := B7.trans (hb8.mono B7.size)
      have ft8 := ft7.same (hb8.block gt ft7.lt)
      have hA := anchored_any w8 (ht.below (b1.trans (B8.mono (by omega))) hlt)
      clear g16 hb8 B7 ft7
      go_wp2_with fail
      refine hA.mono ?_
      clear hA
      rintro e w9 ⟨rfl, hb9⟩
      have B9 : Below w1.heap.size w1 w9 := B8.trans (hb9.mono B8.size)
      have ft9 := ft8.same (hb9.block gt ft8.lt)
      have sm1 := refSame_any (fun _ => True) (fun _ => True) (.slice none 0 0) _ [] [] w9 ⟨none, 0, rfl, Nat.le_refl _, .inl rfl⟩ (ft9.bts (S := fun _ => True) trivial ft9.cap)
      rw [decide_eq_true rfl] at sm1
      have b9 : Below w.heap.size w w9 := b1.trans (B9.mono (by omega))
      have sm2 := refSame_any _ _ _ _ ln ln w9 (U1.out B9 n1) (UP.out b9 hn)
      have sm3 := refSame_any _ _ _ _ lb lb w9 (U1.out B9 e1) (UP.out b9 hb)
      have sm4 := refSame_any _ _ _ _ lp lp w9 (U1.out B9 q1) (UP.out b9 hp)
      rw [decide_eq_true rfl] at sm2 sm3 sm4
      have r9 := r1.below B9 hz1
      have c16 := cas_16 hkey r9
      have c17 := cas_17 hkey r9
      have S1 := Box'.mk sm1
      have S2 := Box'.mk sm2
      have S3 := Box'.mk sm3
      have S4 := Box'.mk sm4
      clear sm1 sm2 sm3 sm4 r9 B9 B8 ft8 ft9 hb9
      go_wp2_with fail
      refine S1.out.mono ?_
      rintro e w10 ⟨rfl, rfl⟩
      go_wp2_with fail
      refine S2.out.mono ?_
      rintro e w10 ⟨rfl, rfl⟩
      go_wp2_with fail
      refine S3.out.mono ?_
      rintro e w10 ⟨rfl, rfl⟩
      go_wp2_with fail
      refine S4.out.mono ?_
      rintro e w10 ⟨rfl, rfl⟩
      go_wp2
      go_ret
      exact ⟨rfl, b9⟩
end Go.Proofs.YtmolhljgmaoflaaDoor
