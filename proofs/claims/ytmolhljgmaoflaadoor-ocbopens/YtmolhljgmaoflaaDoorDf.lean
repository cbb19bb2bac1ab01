/- The walk of the reference's Decrypt: the whole. -/
import Derived.Test.YtmolhljgmaoflaaDoorDe
namespace Go.Proofs.YtmolhljgmaoflaaDoor
open Go.RowKit Go.BigFrame

set_option maxRecDepth 100000 in
set_option maxHeartbeats 8000000 in
theorem refDecrypt_any (key b : List UInt8) (hkey : key.length = 16) (hb : b.length = 16) (w : World) :
    Calls Tryd.prog 37 #[.agg (ag key), .agg (ag b)] w fun e w' => e = .returned (.agg (ag (Gf.decrypt key b))) ∧ Below w.heap.size w w' := by
  have HS : Box (Gf.sbox.length = 256) := ⟨Gf.sbox_len⟩
  have HK : Box ((Gf.keys Gf.sbox key).length = 176) := ⟨Gf.keys_len Gf.sbox key⟩
  have HU : Box ((Gf.orig Gf.sbox).length = 256) := ⟨Gf.origTo_len _ 256⟩
  obtain ⟨res, hres⟩ : ∃ res, Gf.decrypt key b = res := ⟨_, rfl⟩
  have HR : Box (Gf.bxor (Gf.decTo Gf.sbox (Gf.orig Gf.sbox) (Gf.keys Gf.sbox key) b 10) (Gf.rk (Gf.keys Gf.sbox key) 0) = res) := ⟨hres⟩
  rw [hres]
  clear hres
  go_enter Tryd.func37, Tryd.ntmps37
  go_wp2_with (first
    | (refine wpList_load_row rfl 23 _ rfl _ rfl _ _ (((Row.new _ _ _).alloc _).alloc _) _ Tryd.underlying23 rfl 16 Tryd.info23 (by rw [ag_size]; exact hkey) ?_)
    | fail)
  refine (new_any key hkey _).mono ?_
  rintro e w1 ⟨sb, rfl, rt, hb1⟩
  have r2 : Row w1 (w.heap.size + 1) 23 (ag b) := Row.below ((Row.made _ _ _ _ _ rfl (by simp)).alloc _) hb1 (by simp)
  have r3 : Room w1 (w.heap.size + 1 + 1) 23 16 := Room.below (Room.made _ _ _ _ _ rfl (by simp)) hb1 (by simp)
  have hbl : Below w.heap.size w w1 := ((((Below.refl _ _).alloc (Nat.le_refl _) _).alloc (by simp) _).alloc (by simp; omega) _).trans (hb1.mono (by simp; omega))
  have hz1 : w.heap.size + 1 + 1 < w1.heap.size := r3.elim fun _ h => h.1.lt
  have hst := rt.lt
  clear hb1
  generalize Gf.keys Gf.sbox key = KK at *
  generalize Gf.sbox = T at *
  go_wp2_with (first
    | (refine wpList_alloc_row rfl 52 rfl _ _ Tryd.zero52 ?_)
    | (refine wpList_store_row rfl 52 _ _ rfl _ rfl _ rfl _ _ (Room.new _ _ _ _ (by rw [cip_size]; show (List.replicate 176 (0 : UInt8)).length + 1 = 177; rw [List.length_replicate])) Tryd.info52 (by rw [cip_size, HK.out]) (cip_one _ _) ?_; rw [World.setRow_alloc_new])
    | (refine wpList_alloc_row rfl 66 rfl _ _ Tryd.zero66 ?_)
    | fail)
  have g0 : Row ((w1.alloc (.cells (cip (.pointer (some ⟨sb, 0, none⟩)) KK) 52)).alloc (.cells (ag (Gf.zeros 256)) 66)) w1.heap.size 52 (cip (.pointer (some ⟨sb, 0, none⟩)) KK) := (Row.new _ _ _).alloc _
  have g1 : Row ((w1.alloc (.cells (cip (.pointer (some ⟨sb, 0, none⟩)) KK) 52)).alloc (.cells (ag (Gf.zeros 256)) 66)) (w1.heap.size + 1) 66 (ag (Gf.zeros 256)) := Row.made _ _ _ _ _ rfl (by simp)
  have g2 := (rt.alloc (.cells (cip (.pointer (some ⟨sb, 0, none⟩)) KK) 52)).alloc (.cells (ag (Gf.zeros 256)) 66)
  have g3 := (r2.alloc (.cells (cip (.pointer (some ⟨sb, 0, none⟩)) KK) 52)).alloc (.cells (ag (Gf.zeros 256)) 66)
  have g4 := (r3.alloc (.cells (cip (.pointer (some ⟨sb, 0, none⟩)) KK) 52)).alloc (.cells (ag (Gf.zeros 256)) 66)
  have g5 := (hbl.alloc (by omega) (.cells (cip (.pointer (some ⟨sb, 0, none⟩)) KK) 52)).alloc (by simp; omega) (.cells (ag (Gf.zeros 256)) 66)
  clear rt r2 r3 hbl
  generalize w1.heap.size = cb at *
  refine wp_mono (back19_any T KK HS.out cb (cb + 1) sb _ _ _ _ _ _ _ _ _ _ _ _ _ _ _ _ _ _ _ _ _ _ _ _ _ _ _ _ _ _ _ _ _ _ _ _ _ _ _ _ _ _ _ _ _ _ _ _ _ _ _ _ _ _ _ _ _ _ _ _ _ _ _ _ _ _ _ _ _ _ _ _ _ _ _ _ _ _ _ _ _ _ _ _ _ _ _ _ _ _ _ _ _ _ _ _ _ _ _ _ _ _ _ _ _ _ _ _ _ _ _ _ _ _ _ _ _ _ g0 g2 (by omega) (by omega) g1) ?_
  rintro e a' w2 ⟨rfl, ⟨v7, v18, v19, v20, v21, v22, v23, v24, v25, v26, v27, v28, v29, v30, rfl⟩, fb, hb2⟩
  have f3 := g3.below hb2 (by omega)
  have fv : EnvR w.heap.size cb (cb + 1) (.pointer (some ⟨sb, 0, none⟩)) (Gf.orig T) KK w w2 := ⟨g0.below hb2 (by omega), fb, g4.below hb2 (by omega), g5.trans (hb2.mono (by omega))⟩
  clear g0 g1 g2 g3 g4 g5 hb2 fb
  generalize Gf.orig T = UU at *
  simp only [Exit.inBlock, if_true, Exit.then]
  go_wp2
  go_loopw [8] (fun i wr => ∃ (n j : Nat) (s : List UInt8), j + n = 10 ∧ Box (s = Gf.decTo T UU KK b j) ∧ s.length = 16 ∧ i = .int .i64 (n : Int) ∧ Row wr (w.heap.size + 1) 23 (ag s) ∧ EnvR w.heap.size cb (cb + 1) (.pointer (some ⟨sb, 0, none⟩)) UU KK w wr) (fun i _ => (intOf i).toNat)
  case atStart => exact ⟨10, 0, b, by omega, ⟨rfl⟩, hb, rfl, f3, fv⟩
  case round =>
    clear f3 fv
    obtain ⟨n, j, s, hn, hs, hl, rfl, h1, hv⟩ := hrel
    by_cases hlt : 1 ≤ n
    · go_wp2
      refine wp_mono (against19_any UU KK s _ HK.out hl w.heap.size cb (cb + 1) n (by omega) w (by omega) (by omega) _ _ _ _ _ _ _ _ _ _ _ _ _ _ _ _ _ _ _ _ _ _ _ _ _ _ _ _ _ _ _ _ _ _ _ _ _ _ _ _ _ _ _ _ _ _ _ _ _ _ _ _ _ _ _ _ _ _ _ _ _ _ _ _ _ _ _ _ _ _ _ _ _ _ _ _ _ _ _ _ _ _ _ _ _ _ _ _ _ _ _ _ _ _ _ _ _ _ _ _ _ _ _ _ _ _ _ _ _ _ _ _ _ _ _ _ _ _ h1 hv) ?_
      rintro e a' w3 ⟨rfl, p, v35, v36, v37, v38, v39, v40, hp, fp, f1, fv, rfl⟩
      clear h1 hv
      have ls := Gf.bxor_len s (Gf.rk KK n)
      obtain ⟨s1, hs1⟩ : ∃ s1, Gf.bxor s (Gf.rk KK n) = s1 := ⟨_, rfl⟩
      rw [hs1] at ls fp
      have H1 : Box (Gf.bxor s (Gf.rk KK n) = s1) := ⟨hs1⟩
      clear hs1
      simp only [Exit.then]
      by_cases h9 : n < 10
      · have hq : p < w3.heap.size := fp.lt
        go_wp2
        have gq : Row (w3.alloc (.cells (ag (Gf.zeros 16)) 23)) w3.heap.size 23 (ag (Gf.zeros 16)) := Row.new _ _ _
        have g1 := f1.alloc (.cells (ag (Gf.zeros 16)) 23)
        have gp := fp.alloc (.cells (ag (Gf.zeros 16)) 23)
        have gv := fv.alloc (by omega) (.cells (ag (Gf.zeros 16)) 23)
        clear f1 fp fv
        generalize w3.heap.size = q at *
        refine wp_mono (nest19_any s1 ls p q hq _ _ _ _ _ _ _ _ _ _ _ _ _ _ _ _ _ _ _ _ _ _ _ _ _ _ _ _ _ _ _ _ _ _ _ _ _ _ _ _ _ _ _ _ _ _ _ _ _ _ _ _ _ _ _ _ _ _ _ _ _ _ _ _ _ _ _ _ _ _ _ _ _ _ _ _ _ _ _ _ _ _ _ _ _ _ _ _ _ _ _ _ _ _ _ _ _ _ _ _ _ _ _ _ _ _ _ _ _ _ _ _ _ _ _ _ _ _ gp gq) ?_
        rintro e a' wb ⟨rfl, ⟨v11, v12, v43, v44, v45, v46, v47, v48, v49, v50, v51, v52, v53, v54, v55, v56, v57, v58, v59, v60, v61, v62, v63, v64, v65, v66, v67, v68, v69, v70, v71, v72, v73, v74, v75, v76, v77, v78, v79, v80, v81, v82, v83, v84, v85, v86, v87, v88, v89, v90, v91, v92, rfl⟩, bq, bb⟩
        have b1 := g1.below bb (by omega)
        have bp := gp.below bb hq
        have bv := gv.below (by omega) (by omega) (by omega) bb
        obtain ⟨s2, hs2⟩ : ∃ s2, Gf.unmixL s1 = s2 := ⟨_, rfl⟩
        have lm : s2.length = 16 := by rw [← hs2, Gf.unmixL_len]; exact ls
        rw [Gf.umix_unmix s1 ls, hs2] at bq
        have H2 : Box (Gf.unmixL s1 = s2) := ⟨hs2⟩
        clear g1 gp gq gv bb hs2
        have y1 := b1.setRowOther p (ag s2) (by omega)
        have y2 := bp.setRow (ag s2)
        have yv := bv.store p (ag s2) (by omega) (by omega) (by omega) (by omega)
        simp only [Exit.inBlock, if_true, Exit.then]
        go_wp2_with (first
          | (refine wpList_load_row rfl 23 _ rfl _ rfl _ _ bq _ Tryd.underlying23 rfl 16 Tryd.info23 (by rw [ag_size]; exact lm) ?_)
          | (refine wpList_store_row rfl 23 _ _ rfl _ rfl _ rfl _ _ (bp.room (by rw [ag_size]; exact ls)) Tryd.info23 (by rw [ag_size]; exact lm) (ag_one _) ?_)
          | fail)
        refine wp_mono (perm19_any UU KK s2 s _ HU.out lm hl w.heap.size cb (cb + 1) p w (by omega) (by omega) hp _ _ _ _ _ _ _ _ _ _ _ _ _ _ _ _ _ _ _ _ _ _ _ _ _ _ _ _ _ _ _ _ _ _ _ _ _ _ _ _ _ _ _ _ _ _ _ _ _ _ _ _ _ _ _ _ _ _ _ _ _ _ _ _ _ _ _ _ _ _ _ _ _ _ _ _ _ _ _ _ _ _ _ _ _ _ _ _ _ _ _ _ _ _ _ _ _ _ _ _ _ _ _ _ _ _ _ _ _ _ _ _ _ _ _ _ _ y1 y2 yv) ?_
        rintro e a' wc ⟨rfl, ⟨v13, v14, v15, v94, v95, v96, v97, v98, v99, v100, v101, v102, v103, v104, v105, v106, v107, v108, v109, v110, v111, v112, v113, v114, rfl⟩, z1, zv⟩
        have l9 := Gf.subst_len UU (Gf.turn s2 3)
        obtain ⟨s3, hs3⟩ : ∃ s3, Gf.subst UU (Gf.turn s2 3) = s3 := ⟨_, rfl⟩
        have hE : Box (s3 = Gf.decTo T UU KK b (j + 1)) := ⟨by rw [← hs3, ← H2.out, ← H1.out, hs.out]; exact Gf.decStep_lt T UU KK b j n hn h9⟩
        rw [hs3] at l9 z1
        clear b1 bp bq bv y1 y2 yv hs3 H1 H2 hs
        simp only [Exit.inBlock, if_true, Exit.then]
        go_wp2
        go_roundw
        case rel => exact ⟨n - 1, j + 1, s3, by omega, hE, l9, by congr 1; omega, z1, zv⟩
        case measure => simp [intOf]; omega
      · go_wp2
        refine wp_mono (perm19_any UU KK s1 s _ HU.out ls hl w.heap.size cb (cb + 1) p w (by omega) (by omega) hp _ _ _ _ _ _ _ _ _ _ _ _ _ _ _ _ _ _ _ _ _ _ _ _ _ _ _ _ _ _ _ _ _ _ _ _ _ _ _ _ _ _ _ _ _ _ _ _ _ _ _ _ _ _ _ _ _ _ _ _ _ _ _ _ _ _ _ _ _ _ _ _ _ _ _ _ _ _ _ _ _ _ _ _ _ _ _ _ _ _ _ _ _ _ _ _ _ _ _ _ _ _ _ _ _ _ _ _ _ _ _ _ _ _ _ _ _ f1 fp fv) ?_
        rintro e a' wc ⟨rfl, ⟨v13, v14, v15, v94, v95, v96, v97, v98, v99, v100, v101, v102, v103, v104, v105, v106, v107, v108, v109, v110, v111, v112, v113, v114, rfl⟩, z1, zv⟩
        have l9 := Gf.subst_len UU (Gf.turn s1 3)
        obtain ⟨s3, hs3⟩ : ∃ s3, Gf.subst UU (Gf.turn s1 3) = s3 := ⟨_, rfl⟩
        have hE : Box (s3 = Gf.decTo T UU KK b (j + 1)) := ⟨by rw [← hs3, ← H1.out, hs.out]; exact Gf.decStep_ge T UU KK b j n hn h9⟩
        rw [hs3] at l9 z1
        clear f1 fp fv hs3 H1 hs
        simp only [Exit.inBlock, if_true, Exit.then]
        go_wp2
        go_roundw
        case rel => exact ⟨n - 1, j + 1, s3, by omega, hE, l9, by congr 1; omega, z1, zv⟩
        case measure => simp [intOf]; omega
    · have hn0 : n = 0 := by omega
      have hj : j = 10 := by omega
      subst hn0
      have hR : Box (Gf.bxor s (List.take 16 KK) = res) := ⟨by rw [← HR.out, hs.out, hj]; rfl⟩
      clear hj
      clear hs HR
      go_wp2_with (first
        | (refine wpList_load_row rfl 23 (.tmp 3) rfl _ rfl _ _ h1 _ Tryd.underlying23 rfl 16 Tryd.info23 (by rw [ag_size]; exact hl) ?_)
        | (refine wpList_load_cip rfl 23 (.tmp 117) rfl _ 0 rfl _ _ _ hv.cph _ Tryd.underlying23 rfl 16 Tryd.info23 (by rw [HK.out]; omega) ?_)
        | fail)
      refine (refAgainst_any s (List.take 16 KK) hl (by rw [List.length_take, HK.out]; rfl) _).mono ?_
      rintro e w4 ⟨rfl, hb4⟩
      have hsz : cb + 1 < wr.heap.size := hv.bck.lt
      have hv4 := hv.below (q := wr.heap.size) (by omega) (by omega) (by omega) hb4
      rw [hR.out]
      have hlm : res.length = 16 := by rw [← hR.out]; exact Gf.bxor_len _ _
      clear hb4 hv h1
      go_wp2_with (refine wpList_store_row rfl 23 _ _ rfl _ rfl _ rfl _ _ hv4.res Tryd.info23 (by rw [ag_size]; exact hlm) (ag_one _) ?_)
      exact bodyPost_ret (results_row rfl _ _ rfl _ _ (hv4.res.setRow _) _ Tryd.underlying23 rfl 16 Tryd.info23 (by rw [ag_size]; exact hlm)) rfl ⟨rfl, below_setRow hv4.bel (by omega) _⟩
end Go.Proofs.YtmolhljgmaoflaaDoor
