/- The walk of tell. -/
import Derived.Test.YtcjfaahlchbcmaaK41
namespace Go.Proofs.Ytcjfaahlchbcmaa
open Go.RowKit Go.BigFrame
set_option linter.unusedVariables false
set_option linter.unusedSimpArgs false
theorem telF_split (hd : List Bt) (l1 l2 : List Int) (T : List Tok) (k : Nat) (hk : k < T.length) : ∃ r, telF hd l1 l2 T = telP hd l1 l2 T k ++ tokB l1 l2 (T.getD k (0, 0, 0)) ++ r ∧ 0 < r.length := by
  refine ⟨((T.drop (k + 1)).map (tokB l1 l2)).flatten ++ [cdA l1 256], ?_, by simp⟩
  rw [← telP_step hd l1 l2 T k hk]
  unfold telF
  rw [← List.append_assoc]
  congr 1
  unfold telP
  rw [List.append_assoc, ← List.flatten_append, ← List.map_append, List.take_append_drop, List.take_of_length_le (Nat.le_refl _)]
theorem tellSize73 : (Try.prog.info? 73).map (·.size) = some 2 := by kernel_rfl
theorem PutK.setRow {f : Nat} {vp : Value} {Ok : Bt → Prop} {m : Nat} {P : List Bt → World → Prop} {M : World → Nat → Prop} (h : PutK f vp Ok m P M) {d : List Bt} {a w : World} (hp : P d w) (hk : Kps M a w) {b t : Nat} {c : Array Value} (hr : Row w b t c) (hm : ¬ M w b) (hb : a.heap.size ≤ b) (c' : Array Value) :
    P d (w.setRow b c') ∧ Kps M a (w.setRow b c') ∧ Row (w.setRow b c') b t c' ∧ ¬ M (w.setRow b c') b := by
  have hs := below_setRow (Below.refl b w) (Nat.le_refl b) c'
  have q := h.more d w (w.setRow b c') hp hs.os hs.tape hs.output hs.size (fun k _ hM => setRow_other _ _ _ _ (fun e => hm (e ▸ hM)))
  exact ⟨q.1, ⟨hs.os.trans hk.os, hs.tape.trans hk.tape, hs.output.trans hk.output, Nat.le_trans hk.size hs.size, fun k hk' hM => (setRow_other _ _ _ _ (by omega)).trans (hk.block k hk' hM), fun k hM => hk.own k (q.2 k hM)⟩, hr.setRow c', fun e => hm (q.2 b e)⟩
set_option maxRecDepth 100000 in
set_option maxHeartbeats 8000000 in
theorem tell_is (f : Nat) (vp : Value) (Ok : Bt → Prop) (m : Nat) (P : List Bt → World → Prop) (M : World → Nat → Prop) (H : PutK f vp Ok m P M) (N : Nat) (w : World) (vw vT : Value) (hd : List Bt) (l1 l2 : List Int) (T : List Tok)
    (hl1 : 257 ≤ l1.length ∧ l1.length ≤ 288) (hl2 : l2.length ≤ 30) (hin : ∀ t ∈ T, t.2.1 ≠ 0 → (lenS t.2.1.toNat).1 < l1.length ∧ (nthF 2 (t.2.2.toNat - 1)).1 < l2.length) (hhd : hd.length ≤ 100000) (hT : T.length ≤ 65536) (hok : ∀ t ∈ T, TokOk t) (hN : N ≤ w.heap.size) (hM : ∀ k, k < N → ¬ M w k) (hw : WayOk N w vw hd l1 l2) (h : Toks N w vT T) (hm : (telF hd l1 l2 T).length ≤ m) (hO : ∀ x ∈ telF hd l1 l2 T, Ok x) (h0 : P [] w) :
    Calls Try.prog 40 #[vw, vT, .func (.func f) #[] #[vp]] w fun e w' => e = .returned (.tuple #[]) ∧ P (telF hd l1 l2 T) w' ∧ Kps M w w' := by
  obtain ⟨vh, g1, g2, rfl, ⟨ha, hc, rfl, hhc, hh⟩, hg1, hg2, r1, r2⟩ := hw
  obtain ⟨ta, tcap, rfl, htc, h3⟩ := h
  obtain ⟨w1, hw1⟩ : ∃ w1, w.alloc (.cells #[.slice ha hd.length hc, .slice (some ⟨g1, 0, none⟩) l1.length l1.length, .slice (some ⟨g2, 0, none⟩) l2.length l2.length] 50) = w1 := ⟨_, rfl⟩
  have b1 : Below w.heap.size w w1 := by rw [← hw1]; exact (Below.refl _ _).alloc (Nat.le_refl _) _
  have p1 : Row w1 w.heap.size 50 #[.slice ha hd.length hc, .slice (some ⟨g1, 0, none⟩) l1.length l1.length, .slice (some ⟨g2, 0, none⟩) l2.length l2.length] := by rw [← hw1]; exact Row.new _ _ _
  have q1 := H.below h0 b1
  have HHD : Box' (∀ k, k < hd.length → ∃ b o, ha = some ⟨b, o, none⟩ ∧ b < N ∧ w1.cell? ⟨b, o + k * 2, none⟩ = some (.int .u64 ((hd.getD k (0, 0)).1 : Int)) ∧ w1.cell? ⟨b, o + k * 2 + 1, none⟩ = some (.int .i64 (hd.getD k (0, 0)).2)) := ⟨fun k hk => by
    obtain ⟨b, o, e, hb, c0, c1⟩ := hh k hk
    have hb' : b < w.heap.size := by omega
    rw [← b1.cell (p := ⟨b, o + k * 2, none⟩) hb'] at c0
    rw [← b1.cell (p := ⟨b, o + k * 2 + 1, none⟩) hb'] at c1
    exact ⟨b, o, e, hb, c0, c1⟩⟩
  have H3 : Box' (∀ k, k < T.length → ∃ b o, ta = some ⟨b, o, none⟩ ∧ b < N ∧ w1.cell? ⟨b, o + k * 3, none⟩ = some (.int .u8 ((T.getD k (0, 0, 0)).1.toNat : Int)) ∧ w1.cell? ⟨b, o + k * 3 + 1, none⟩ = some (.int .i64 (T.getD k (0, 0, 0)).2.1) ∧ w1.cell? ⟨b, o + k * 3 + 2, none⟩ = some (.int .i64 (T.getD k (0, 0, 0)).2.2)) := ⟨fun k hk => by
    rcases h3 with rfl | ⟨b, o, e, hb, hc⟩
    · simp at hk
    · obtain ⟨c0, c1, c2⟩ := hc k hk
      have hb' : b < w.heap.size := by omega
      rw [← b1.cell (p := ⟨b, o + k * 3, none⟩) hb'] at c0
      rw [← b1.cell (p := ⟨b, o + k * 3 + 1, none⟩) hb'] at c1
      rw [← b1.cell (p := ⟨b, o + k * 3 + 2, none⟩) hb'] at c2
      exact ⟨b, o, e, hb, c0, c1, c2⟩⟩
  have HIN := Box'.mk (fun k (hk : k < T.length) => hin (T.getD k (0, 0, 0)) (by rw [List.getD_eq_getElem?_getD, List.getElem?_eq_getElem hk]; exact List.getElem_mem hk))
  have HOK := Box'.mk (fun k (hk : k < T.length) => hok (T.getD k (0, 0, 0)) (by rw [List.getD_eq_getElem?_getD, List.getElem?_eq_getElem hk]; exact List.getElem_mem hk))
  have R1 := Box'.mk (r1.below b1 (by omega))
  have R2 := Box'.mk (r2.below b1 (by omega))
  have F1 : Box' (∀ k, k < N → ¬ M w1 k) := ⟨fun k hk => q1.2.free (by omega) (hM k hk)⟩
  have F0 : Box' (¬ M w1 w.heap.size) := ⟨H.new h0 b1 _ (Nat.le_refl _)⟩
  have HK := Box'.mk q1.2
  have P1 := Box'.mk p1
  have HP : Box' (P (hd.take 0) w1) := ⟨q1.1⟩
  have HN1 : Box' (N ≤ w1.heap.size) := ⟨Nat.le_trans hN b1.size⟩
  have K1 := Box'.mk (Kps.refl M w1)
  have HM := Box'.mk hm
  have HO := Box'.mk hO
  have HC := Box'.mk H
  have HW1 := Box'.mk hw1
  have HSN := Box'.mk (fun k (hk : k < hd.length) => (by rw [List.take_succ_eq_append_getElem hk, List.getD_eq_getElem?_getD, List.getElem?_eq_getElem hk]; rfl : hd.take (k + 1) = hd.take k ++ [hd.getD k (0, 0)]))
  have HLE : Box' (hd.length ≤ (telF hd l1 l2 T).length) := ⟨by unfold telF telP; simp only [List.length_append]; omega⟩
  have HHO : Box' (∀ k, k < hd.length → Ok (hd.getD k (0, 0)) ∧ (hd.take k).length < m) := ⟨fun k hk => ⟨hO _ (by rw [List.getD_eq_getElem?_getD, List.getElem?_eq_getElem hk]; unfold telF telP; exact List.mem_append_left _ (List.mem_append_left _ (List.getElem_mem hk))), by rw [List.length_take]; have := HLE.out; omega⟩⟩
  have HTS : Box' (∀ k, k < T.length → (∀ x ∈ tokB l1 l2 (T.getD k (0, 0, 0)), Ok x) ∧ (telP hd l1 l2 T k).length + (tokB l1 l2 (T.getD k (0, 0, 0))).length < m) := ⟨fun k hk => by
    obtain ⟨r, e, hr⟩ := telF_split hd l1 l2 T k hk
    refine ⟨fun x hx => hO x (by rw [e]; exact List.mem_append_left _ (List.mem_append_right _ hx)), ?_⟩
    have := congrArg List.length e
    simp only [List.length_append] at this
    omega⟩
  have HTK := Box'.mk (telP_step hd l1 l2 T)
  have HWC : Box' (∀ W, Kps M w1 W → W.cell? ⟨w.heap.size, 1, none⟩ = some (.slice (some ⟨g1, 0, none⟩) l1.length l1.length) ∧ W.cell? ⟨w.heap.size, 2, none⟩ = some (.slice (some ⟨g2, 0, none⟩) l2.length l2.length) ∧ (∀ s, s < l1.length → W.cell? ⟨g1, s * 2, none⟩ = some (.int .u64 ((cdA l1 s).1 : Int)) ∧ W.cell? ⟨g1, s * 2 + 1, none⟩ = some (.int .i64 (cdA l1 s).2)) ∧ (∀ s, s < l2.length → W.cell? ⟨g2, s * 2, none⟩ = some (.int .u64 ((cdA l2 s).1 : Int)) ∧ W.cell? ⟨g2, s * 2 + 1, none⟩ = some (.int .i64 (cdA l2 s).2))) := ⟨fun W hW => by
    have a0 := hW.row P1.out F0.out
    have a1 := hW.row R1.out (F1.out g1 hg1)
    have a2 := hW.row R2.out (F1.out g2 hg2)
    exact ⟨a0.cell 1, a0.cell 2, fun s hs => ⟨a1.pr0 (by rw [cds_len]; exact hs), a1.pr1 (by rw [cds_len]; exact hs)⟩, fun s hs => ⟨a2.pr0 (by rw [cds_len]; exact hs), a2.pr1 (by rw [cds_len]; exact hs)⟩⟩⟩
  have HALL : Box' (hd.take hd.length = hd) := ⟨List.take_of_length_le (Nat.le_refl _)⟩
  obtain ⟨nh, hnh⟩ : ∃ n, hd.length = n := ⟨_, rfl⟩
  obtain ⟨nT, hnT⟩ : ∃ n, T.length = n := ⟨_, rfl⟩
  obtain ⟨n1, hn1⟩ : ∃ n, l1.length = n := ⟨_, rfl⟩
  obtain ⟨n2, hn2⟩ : ∃ n, l2.length = n := ⟨_, rfl⟩
  have HT := Box'.mk hnT
  have HD := Box'.mk hnh
  have HL1 := Box'.mk hn1
  have HL2 := Box'.mk hn2
  rw [hnh] at HHD HSN HHO HALL P1 HW1 hhc hhd ⊢
  rw [hnT] at H3 HOK HIN htc hT HTS HTK ⊢
  rw [hn1] at P1 R1 HW1 hl1 HWC HIN ⊢
  rw [hn2] at P1 R2 HW1 HWC HIN hl2 ⊢
  have c0 : w1.cell? ⟨w.heap.size, 0, none⟩ = some (.slice ha nh hc) := P1.out.cell 0
  clear h3 hok hin hnh hnT hn1 hn2 hw1 b1 p1 q1 hh r1 r2 hm hO H h0 hM
  go_enter Try.func40, Try.ntmps40
  go_upto_region 2 with (fail)
  rw [HW1.out]
  clear HW1
  go_wp2_with fail
  go_loopw [15] (fun i wr => ∃ k : Nat, k ≤ nh ∧ i = .int .i64 (k : Int) ∧ Box' (P (hd.take k) wr) ∧ Box' (Kps M w1 wr)) (fun i _ => nh - (intOf i).toNat)
  case atStart => exact ⟨0, Nat.zero_le _, rfl, HP, K1⟩
  case round =>
    clear HP K1 c0
    obtain ⟨k, hk, rfl, HP, HK1⟩ := hrel
    by_cases hlt : k < nh
    · obtain ⟨b, o, rfl, hbN, c0, c1⟩ := HHD.out k hlt
      have hb1 : b < w1.heap.size := Nat.lt_of_lt_of_le hbN HN1.out
      rw [← HK1.out.cell (p := ⟨b, o + k * 2, none⟩) hb1 (F1.out b hbN)] at c0
      rw [← HK1.out.cell (p := ⟨b, o + k * 2 + 1, none⟩) hb1 (F1.out b hbN)] at c1
      have hsn := HSN.out k hlt
      have hho := HHO.out k hlt
      generalize hd.getD k (0, 0) = x at *
      obtain ⟨x, y⟩ := x
      simp only at c0 c1
      obtain ⟨w2, hw2⟩ : ∃ w2, wr.alloc (.cells #[.int .u64 (x : Int), .int .i64 y] 73) = w2 := ⟨_, rfl⟩
      have b2 : Below wr.heap.size wr w2 := by rw [← hw2]; exact (Below.refl _ _).alloc (Nat.le_refl _) _
      have r2 : Row w2 wr.heap.size 73 #[.int .u64 (x : Int), .int .i64 y] := by rw [← hw2]; exact Row.new _ _ _
      have q2 := HC.out.below HP.out b2
      have L2 := Box'.mk (HC.out.call _ w2 x y q2.1 hho.1 hho.2)
      have K2 := Box'.mk (HK1.out.trans q2.2)
      have HW2 := Box'.mk hw2
      have HSNk := Box'.mk hsn
      have R2k := Box'.mk r2
      have d0 : w2.cell? ⟨wr.heap.size, 0, none⟩ = some (.int .u64 (x : Int)) := r2.cell 0
      have d1 : w2.cell? ⟨wr.heap.size, 1, none⟩ = some (.int .i64 y) := r2.cell 1
      clear hw2 b2 r2 q2 hho hsn HP HK1
      go_upto_region 4 with (fail)
      go_wp2_with fail
      rw [HW2.out, HC.out.enters]
      refine upon_enter L2.out ?_
      rintro w3 ⟨hp3, hk3⟩
      have HP3 := Box'.mk hp3
      have HK3 := Box'.mk (K2.out.trans hk3)
      clear hp3 hk3 L2 K2 HW2 R2k d0 d1 c0 c1
      go_wp2_with fail
      go_roundw
      case rel =>
        refine ⟨k + 1, by omega, by go_num, ⟨?_⟩, HK3⟩
        rw [HSNk.out]; exact HP3.out
      case measure => simp [intOf]; omega
    · obtain rfl : k = nh := by omega
      rw [HALL.out] at HP
      have HP0 : Box' (P (telP hd l1 l2 T 0) wr) := ⟨by rw [telP_zero]; exact HP.out⟩
      clear HP HHD HSN HHO HALL
      go_wp2_with fail
      go_loopw [25] (fun i wr => ∃ k : Nat, k ≤ nT ∧ i = .int .i64 (k : Int) ∧ Box' (P (telP hd l1 l2 T k) wr) ∧ Box' (Kps M w1 wr)) (fun i _ => nT - (intOf i).toNat)
      case atStart => exact ⟨0, Nat.zero_le _, rfl, HP0, HK1⟩
      case round =>
        clear HP0 HK1
        obtain ⟨k, hk, rfl, HP, HK1⟩ := hrel
        by_cases hlt : k < nT
        · obtain ⟨b, o, rfl, hbN, c0, c1, c2⟩ := H3.out k hlt
          have hb1 : b < w1.heap.size := Nat.lt_of_lt_of_le hbN HN1.out
          rw [← HK1.out.cell (p := ⟨b, o + k * 3, none⟩) hb1 (F1.out b hbN)] at c0
          rw [← HK1.out.cell (p := ⟨b, o + k * 3 + 1, none⟩) hb1 (F1.out b hbN)] at c1
          rw [← HK1.out.cell (p := ⟨b, o + k * 3 + 2, none⟩) hb1 (F1.out b hbN)] at c2
          have hok := HOK.out k hlt
          have hts := HTS.out k hlt
          have hink := HIN.out k hlt
          have htk := HTK.out k hlt
          generalize T.getD k (0, 0, 0) = tk at *
          obtain ⟨tb, tl_, td⟩ := tk
          simp only at c0 c1 c2
          obtain ⟨w2, hw2⟩ : ∃ w2, wr.alloc (.cells #[.int .u8 (tb.toNat : Int), .int .i64 tl_, .int .i64 td] 44) = w2 := ⟨_, rfl⟩
          have b2 : Below wr.heap.size wr w2 := by rw [← hw2]; exact (Below.refl _ _).alloc (Nat.le_refl _) _
          have r2 : Row w2 wr.heap.size 44 #[.int .u8 (tb.toNat : Int), .int .i64 tl_, .int .i64 td] := by rw [← hw2]; exact Row.new _ _ _
          have q2 := HC.out.below HP.out b2
          have N2 := Box'.mk (HC.out.new HP.out b2 _ (Nat.le_refl _))
          have P2 := Box'.mk q2.1
          have K2 := Box'.mk (HK1.out.trans q2.2)
          have HW2 := Box'.mk hw2
          have R2k := Box'.mk r2
          have HTKk := Box'.mk htk
          have HTSk := Box'.mk hts
          have HINk := Box'.mk hink
          have d0 : w2.cell? ⟨wr.heap.size, 0, none⟩ = some (.int .u8 (tb.toNat : Int)) := r2.cell 0
          have d1 : w2.cell? ⟨wr.heap.size, 1, none⟩ = some (.int .i64 tl_) := r2.cell 1
          have d2 : w2.cell? ⟨wr.heap.size, 2, none⟩ = some (.int .i64 td) := r2.cell 2
          clear hw2 b2 r2 q2 hts htk hink HP HK1
          go_upto_region 9 with (fail)
          rw [HW2.out]
          clear HW2 c0 c1 c2
          rcases hok with ⟨h0, _⟩ | ⟨h0, h1, h2, h4, h5⟩
          · have h0 : tl_ = 0 := h0
            subst h0
            have e1 : tokB l1 l2 (tb, 0, td) = [cdA l1 tb.toNat] := if_pos rfl
            rw [e1] at HTSk HTKk
            have ht : tb.toNat < 256 := tb.toNat_lt
            have j1 : (0 : Int) ≤ (tb.toNat : Int) := by omega
            have j2 : (tb.toNat : Int) < (n1 : Int) := by omega
            obtain ⟨cw1, cw2, cs1, cs2⟩ := HWC.out w2 K2.out
            obtain ⟨s0, s1⟩ := cs1 tb.toNat (by omega)
            have hl := HTSk.out.2
            have ho := HTSk.out.1 _ (List.mem_singleton.mpr rfl)
            clear cs1 cs2 cw2 e1
            generalize cdA l1 tb.toNat = x at *
            obtain ⟨x, y⟩ := x
            simp only at s0 s1
            have L2 := Box'.mk (HC.out.call _ w2 x y P2.out ho (by simp only [List.length_singleton] at hl; omega))
            clear ho hl
            generalize tb.toNat = q at *
            go_wp2_with fail
            rw [HC.out.enters]
            refine upon_enter L2.out ?_
            rintro w3 ⟨hp3, hk3⟩
            have HP3 := Box'.mk hp3
            have HK3 := Box'.mk (K2.out.trans hk3)
            clear hp3 hk3 L2 K2 P2 R2k N2 d0 d1 d2 cw1 s0 s1
            go_wp2_with fail
            go_roundw
            case rel =>
              refine ⟨k + 1, by omega, by go_num, ⟨?_⟩, HK3⟩
              rw [HTKk.out]; exact HP3.out
            case measure => simp [intOf]; omega
          · obtain ⟨Ln, rfl⟩ : ∃ Ln : Nat, tl_ = (Ln : Int) := ⟨tl_.toNat, by show tl_ = _; have : 3 ≤ tl_ := h1; omega⟩
            obtain ⟨Dn, rfl⟩ : ∃ Dn : Nat, td = (Dn : Int) := ⟨td.toNat, by have : 1 ≤ td := h4; omega⟩
            have h1 : (3 : Int) ≤ (Ln : Int) := h1
            have h2 : (Ln : Int) ≤ 258 := h2
            have h4 : (1 : Int) ≤ (Dn : Int) := h4
            have h5 : (Dn : Int) ≤ 32768 := h5
            have e1 : tokB l1 l2 (tb, (Ln : Int), (Dn : Int)) = [cdA l1 (lenS Ln).1, ((lenS Ln).2.1, ((lenS Ln).2.2 : Int)), cdA l2 (nthF 2 (Dn - 1)).1, ((nthF 2 (Dn - 1)).2.1, ((nthF 2 (Dn - 1)).2.2 : Int))] := by
              unfold tokB
              rw [if_neg (by show ¬ (Ln : Int) = 0; omega)]
              rfl
            rw [e1] at HTSk HTKk
            have hI : (lenS Ln).1 < n1 ∧ (nthF 2 (Dn - 1)).1 < n2 := by have q := HINk.out (by show ¬ (Ln : Int) = 0; omega); simpa using q
            have hS1 := lenS_lt (d := Ln) (by omega) (by omega)
            have hD1 := nth2_lt (d := Dn - 1) (by omega)
            have LS := Box'.mk (fun w => lengthSymbol_any Ln (by omega) (by omega) w)
            have DS := Box'.mk (fun w => distanceSymbol_any Dn (by omega) (by omega) w)
            have hLz : ((Ln : Int) == 0) = false := by rw [beq_eq_false_iff_ne]; omega
            generalize lenS Ln = LL at *
            generalize nthF 2 (Dn - 1) = NN at *
            obtain ⟨s1, x1, z1⟩ := LL
            obtain ⟨s2, x2, z2⟩ := NN
            simp only at hS1 hD1 hI HTSk HTKk LS DS
            have hl := HTSk.out.2
            have ho1 := Box'.mk (HTSk.out.1 (cdA l1 s1) (by simp))
            have ho2 := Box'.mk (HTSk.out.1 (x1, (z1 : Int)) (by simp))
            have ho3 := Box'.mk (HTSk.out.1 (cdA l2 s2) (by simp))
            have ho4 := Box'.mk (HTSk.out.1 (x2, (z2 : Int)) (by simp))
            have HLm : Box' ((telP hd l1 l2 T k).length + 4 < m) := ⟨hl⟩
            clear e1 h0 hl
            go_wp2_with fail
            refine (LS.out _).mono ?_
            rintro e w3 ⟨rfl, b3⟩
            obtain ⟨w4, hw4⟩ : ∃ w4, w3.alloc (.cells #[.int .u64 (x1 : Int), .int .i64 (z1 : Int)] 73) = w4 := ⟨_, rfl⟩
            have b4 : Below w3.heap.size w3 w4 := by rw [← hw4]; exact (Below.refl _ _).alloc (Nat.le_refl _) _
            have r4 : Row w4 w3.heap.size 73 #[.int .u64 (x1 : Int), .int .i64 (z1 : Int)] := by rw [← hw4]; exact Row.new _ _ _
            have q3 := HC.out.below P2.out b3
            have q4 := HC.out.below q3.1 b4
            have N4 := Box'.mk (HC.out.new q3.1 b4 _ (Nat.le_refl _))
            have hk4 := q3.2.trans q4.2
            have T4 := Box'.mk (hk4.row R2k.out N2.out)
            have M4 := Box'.mk (hk4.free R2k.out.lt N2.out)
            have K4 := Box'.mk (K2.out.trans hk4)
            have HB3 := Box'.mk (Nat.le_trans K2.out.size b3.size)
            have P4 := Box'.mk q4.1
            have R4 := Box'.mk r4
            have HW4 := Box'.mk hw4
            obtain ⟨cw1, cw2, cs1, cs2⟩ := HWC.out w4 K4.out
            obtain ⟨a0, a1⟩ := cs1 s1 hI.1
            have j1 : (0 : Int) ≤ (s1 : Int) := by omega
            have j2 : (s1 : Int) < (n1 : Int) := by have := hI.1; omega
            clear cs1 cs2 cw2 hw4 b3 b4 r4 q3 q4 hk4 LS R2k N2 P2 K2 d0 d1 d2
            generalize cdA l1 s1 = x at *
            obtain ⟨x, y⟩ := x
            simp only at a0 a1
            have L5 := Box'.mk (HC.out.call _ w4 x y P4.out ho1.out (by have := HLm.out; omega))
            go_upto_region 12 with (fail)
            rw [HW4.out]
            clear HW4
            have HB4 : Box' (w1.heap.size ≤ w3.heap.size) := ⟨HB3.out⟩
            go_wp2_with fail
            rw [HC.out.enters]
            refine upon_enter L5.out ?_
            rintro w5 ⟨hp5, hk5⟩
            have T5 := Box'.mk (hk5.row T4.out M4.out)
            have M5 := Box'.mk (hk5.free T4.out.lt M4.out)
            have r5 := hk5.row R4.out N4.out
            have N5 := Box'.mk (hk5.free R4.out.lt N4.out)
            have K5 := Box'.mk (K4.out.trans hk5)
            have P5 := Box'.mk hp5
            have d0 : w5.cell? ⟨w3.heap.size, 0, none⟩ = some (.int .u64 (x1 : Int)) := r5.cell 0
            have d1 : w5.cell? ⟨w3.heap.size, 1, none⟩ = some (.int .i64 (z1 : Int)) := r5.cell 1
            have R5 := Box'.mk r5
            have L6 := Box'.mk (HC.out.call _ w5 x1 (z1 : Int) P5.out ho2.out (by have := HLm.out; simp only [List.length_append, List.length_singleton]; omega))
            clear hp5 hk5 r5 L5 T4 M4 R4 N4 K4 P4 a0 a1 cw1
            go_wp2_with fail
            rw [HC.out.enters]
            refine upon_enter L6.out ?_
            rintro w6 ⟨hp6, hk6⟩
            have t6 := hk6.row T5.out M5.out
            have R6 := Box'.mk (hk6.row R5.out N5.out)
            have N6 := Box'.mk (hk6.free R5.out.lt N5.out)
            have K6 := Box'.mk (K5.out.trans hk6)
            have P6 := Box'.mk hp6
            have e2 : w6.cell? ⟨wr.heap.size, 2, none⟩ = some (.int .i64 (Dn : Int)) := t6.cell 2
            clear hp6 hk6 t6 L6 T5 M5 R5 N5 K5 P5 d0 d1
            go_wp2_with fail
            refine (DS.out _).mono ?_
            rintro e w7 ⟨rfl, b7⟩
            have q7 := HC.out.below P6.out b7
            have r7 := q7.2.row R6.out N6.out
            have HST := Box'.mk (HC.out.setRow q7.1 (K6.out.trans q7.2) r7 (q7.2.free R6.out.lt N6.out) HB4.out #[.int .u64 (x2 : Int), .int .i64 (z2 : Int)])
            have HR7 : Box' (Room w7 w3.heap.size 73 2) := ⟨⟨_, r7, rfl⟩⟩
            have h1c : (#[Value.int .u64 (x2 : Int), .int .i64 (z2 : Int)] : Array Value).all (·.oneCell') = true := by simp [Value.oneCell']
            have HW2 : Box' (∀ W, Kps M w1 W → W.cell? ⟨w.heap.size, 2, none⟩ = some (.slice (some ⟨g2, 0, none⟩) n2 n2) ∧ W.cell? ⟨g2, s2 * 2, none⟩ = some (.int .u64 ((cdA l2 s2).1 : Int)) ∧ W.cell? ⟨g2, s2 * 2 + 1, none⟩ = some (.int .i64 (cdA l2 s2).2)) := ⟨fun W hW => ⟨(HWC.out W hW).2.1, (HWC.out W hW).2.2.2 s2 (by omega)⟩⟩
            have i1 : (0 : Int) ≤ (s2 : Int) := by omega
            have i2 : (s2 : Int) < (n2 : Int) := by have := hI.2; omega
            generalize cdA l2 s2 = v at *
            obtain ⟨X, Y⟩ := v
            simp only at HW2
            clear q7 r7 b7 DS R6 N6 K6 P6 e2
            go_wp2_with (first
              | (refine wpList_store_gen rfl 73 _ _ rfl _ rfl #[.int .u64 (x2 : Int), .int .i64 (z2 : Int)] rfl _ _ HR7.out tellSize73 rfl h1c ?_; intro W0 hW0; rw [← hW0] at HST; clear hW0; obtain ⟨v0, v1, v2⟩ := HW2.out W0 HST.out.2.1)
              | fail)
            rw [HC.out.enters]
            refine upon_enter (HC.out.call _ W0 X Y HST.out.1 ho3.out (by have := HLm.out; simp only [List.length_append, List.length_singleton]; omega)) ?_
            rintro w8 ⟨hp8, hk8⟩
            have r8 := hk8.row HST.out.2.2.1 HST.out.2.2.2
            have d0 : w8.cell? ⟨w3.heap.size, 0, none⟩ = some (.int .u64 (x2 : Int)) := r8.cell 0
            have d1 : w8.cell? ⟨w3.heap.size, 1, none⟩ = some (.int .i64 (z2 : Int)) := r8.cell 1
            have P8 := Box'.mk hp8
            have K8 := Box'.mk (HST.out.2.1.trans hk8)
            clear hp8 hk8 r8 v0 v1 v2 HST
            go_wp2_with fail
            rw [HC.out.enters]
            refine upon_enter (HC.out.call _ w8 x2 (z2 : Int) P8.out ho4.out (by have := HLm.out; simp only [List.length_append, List.length_singleton]; omega)) ?_
            rintro w9 ⟨hp9, hk9⟩
            have P9 := Box'.mk hp9
            have K9 := Box'.mk (K8.out.trans hk9)
            clear hp9 hk9 P8 K8 d0 d1
            go_wp2_with fail
            go_roundw
            case rel =>
              refine ⟨k + 1, by omega, by go_num, ⟨?_⟩, K9⟩
              rw [HTKk.out]
              have := P9.out
              simp only [List.append_assoc, List.cons_append, List.nil_append] at this
              exact this
            case measure => simp [intOf]; omega
        · obtain rfl : k = nT := by omega
          obtain ⟨cw1, cw2, cs1, cs2⟩ := HWC.out wr HK1.out
          obtain ⟨s0, s1⟩ := cs1 256 (by omega)
          have e1 : telF hd l1 l2 T = telP hd l1 l2 T k ++ [cdA l1 256] := by unfold telF; rw [HT.out]
          have hl := HM.out
          have ho := HO.out (cdA l1 256) (by rw [e1]; simp)
          rw [e1] at hl
          have HE := Box'.mk e1
          clear cs1 cs2 cw2 e1 HM HO
          generalize cdA l1 256 = x at *
          obtain ⟨x, y⟩ := x
          simp only at s0 s1
          have L2 := Box'.mk (HC.out.call _ wr x y HP.out ho (by simp only [List.length_append, List.length_singleton] at hl; omega))
          clear ho hl
          go_wp2_with fail
          rw [HC.out.enters]
          refine upon_enter L2.out ?_
          rintro w3 ⟨hp3, hk3⟩
          have HP3 := Box'.mk hp3
          have HK3 := Box'.mk (HK.out.trans (HK1.out.trans hk3))
          clear hp3 hk3 L2 HP HK1 cw1 s0 s1
          go_wp2_with fail
          go_end0
          exact ⟨rfl, by rw [HE.out]; exact HP3.out, HK3.out⟩
def bsz : List Bt → Int
  | [] => 0
  | x :: r => x.2 + bsz r
theorem bsz_snoc (d : List Bt) (x : Bt) : bsz (d ++ [x]) = bsz d + x.2 := by
  induction d with
  | nil => simp [bsz]
  | cons y r ih => rw [List.cons_append, bsz, ih, bsz]; omega
theorem countK (g : Nat) : PutK 53 (.pointer (some ⟨g, 0, none⟩)) (fun x => 0 ≤ x.2 ∧ x.2 ≤ 100) 1000000 (fun d w => Row w g 3 #[.int .i64 (bsz d)] ∧ 0 ≤ bsz d ∧ bsz d ≤ 100 * (d.length : Int)) (fun _ k => k = g) where
  enters := enters53
  lt := fun d w k h e => by subst e; exact h.1.lt
  call := fun d w x y h ho hl => by
    refine (count1_is w g x y (bsz d) ⟨ho.1, by have : y ≤ 100 := ho.2; omega⟩ ⟨h.2.1, by have := h.2.2; omega⟩ h.1).mono ?_
    rintro e w' ⟨rfl, r, b⟩
    have hy0 : 0 ≤ y := ho.1
    have hy1 : y ≤ 100 := ho.2
    have e1 : bsz (d ++ [(x, y)]) = bsz d + y := bsz_snoc d (x, y)
    have e2 : (d ++ [(x, y)]).length = d.length + 1 := by simp
    refine ⟨rfl, ⟨by rw [e1]; exact r, by rw [e1]; have := h.2.1; omega, by rw [e1, e2]; have := h.2.2; omega⟩, b.os, b.tape, b.output, b.size, b.block, fun k hk => .inl hk⟩
  more := fun d w w' h ho ht hu hs hb => ⟨⟨h.1.same (hb g h.1.lt rfl), h.2⟩, fun k hk => hk⟩
theorem WayOk.keep {N : Nat} {w w' : World} {v : Value} {hd : List Bt} {l1 l2 : List Int} (h : WayOk N w v hd l1 l2) (hN : N ≤ w.heap.size) (hb : Below w.heap.size w w') : WayOk N w' v hd l1 l2 := by
  obtain ⟨vh, g1, g2, e, ⟨ha, hc, e2, hhc, hh⟩, hg1, hg2, r1, r2⟩ := h
  refine ⟨vh, g1, g2, e, ⟨ha, hc, e2, hhc, fun k hk => ?_⟩, hg1, hg2, r1.below hb (by omega), r2.below hb (by omega)⟩
  obtain ⟨b, o, e, hbN, c0, c1⟩ := hh k hk
  have hb' : b < w.heap.size := by omega
  refine ⟨b, o, e, hbN, ?_, ?_⟩
  · rw [hb.cell (p := ⟨b, o + k * 2, none⟩) hb']; exact c0
  · rw [hb.cell (p := ⟨b, o + k * 2 + 1, none⟩) hb']; exact c1
theorem Toks.keep {N : Nat} {w w' : World} {v : Value} {l : List Tok} (h : Toks N w v l) (hN : N ≤ w.heap.size) (hb : Below w.heap.size w w') : Toks N w' v l := by
  obtain ⟨a, c, h1, h2, h4⟩ := h
  refine ⟨a, c, h1, h2, ?_⟩
  rcases h4 with h4 | ⟨b, o, h5, h6, h7⟩
  · exact .inl h4
  · refine .inr ⟨b, o, h5, h6, fun k hk => ?_⟩
    have hb' : b < w.heap.size := by omega
    obtain ⟨c0, c1, c2⟩ := h7 k hk
    refine ⟨?_, ?_, ?_⟩
    · rw [hb.cell (p := ⟨b, o + k * 3, none⟩) hb']; exact c0
    · rw [hb.cell (p := ⟨b, o + k * 3 + 1, none⟩) hb']; exact c1
    · rw [hb.cell (p := ⟨b, o + k * 3 + 2, none⟩) hb']; exact c2
set_option maxRecDepth 100000 in
set_option maxHeartbeats 8000000 in
theorem size_is (N : Nat) (w : World) (vw vT : Value) (hd : List Bt) (l1 l2 : List Int) (T : List Tok)
    (hl1 : 257 ≤ l1.length ∧ l1.length ≤ 288) (hl2 : l2.length ≤ 30) (hin : ∀ t ∈ T, t.2.1 ≠ 0 → (lenS t.2.1.toNat).1 < l1.length ∧ (nthF 2 (t.2.2.toNat - 1)).1 < l2.length) (hhd : hd.length ≤ 100000) (hT : T.length ≤ 65536) (hok : ∀ t ∈ T, TokOk t) (hN : N ≤ w.heap.size) (hw : WayOk N w vw hd l1 l2) (h : Toks N w vT T) (hO : ∀ x ∈ telF hd l1 l2 T, 0 ≤ x.2 ∧ x.2 ≤ 100) :
    Calls Try.prog 32 #[vw, vT] w fun e w' => e = .returned (.int .i64 ((bsz (telF hd l1 l2 T) + 7) / 8)) ∧ Below w.heap.size w w' := by
  have hm : (telF hd l1 l2 T).length ≤ 1000000 := by
    have := telP_len hd l1 l2 T T.length
    unfold telF
    rw [List.length_append, List.length_singleton]
    omega
  have HLN := Box'.mk hm
  have hw' := hw
  obtain ⟨vh, g1, g2, rfl, ⟨ha, hc, rfl, hhc, hh⟩, hg1, hg2, r1, r2⟩ := hw'
  obtain ⟨w1, hw1⟩ : ∃ w1, w.alloc (.cells #[.slice ha hd.length hc, .slice (some ⟨g1, 0, none⟩) l1.length l1.length, .slice (some ⟨g2, 0, none⟩) l2.length l2.length] 50) = w1 := ⟨_, rfl⟩
  obtain ⟨w2, hw2⟩ : ∃ w2, w1.alloc (.cells #[.int .i64 0] 3) = w2 := ⟨_, rfl⟩
  have b1 : Below w.heap.size w w1 := by rw [← hw1]; exact (Below.refl _ _).alloc (Nat.le_refl _) _
  have b2 : Below w1.heap.size w1 w2 := by rw [← hw2]; exact (Below.refl _ _).alloc (Nat.le_refl _) _
  have rc : Row w2 w1.heap.size 3 #[.int .i64 0] := by rw [← hw2]; exact Row.new _ _ _
  have s1 : w1.heap.size = w.heap.size + 1 := by rw [← hw1]; exact Array.size_push _
  rw [s1] at rc
  have b12 := b1.trans (b2.mono b1.size)
  have L := Box'.mk (tell_is 53 _ _ 1000000 _ _ (countK (w.heap.size + 1)) N w2 _ vT hd l1 l2 T hl1 hl2 hin hhd hT hok (Nat.le_trans hN b12.size) (fun k hk e => by omega) (hw.keep hN b12) (h.keep hN b12) hm hO ⟨rc, by decide, by decide⟩)
  have B := Box'.mk b12
  have HW1 := Box'.mk hw1
  have HW2 := Box'.mk hw2
  clear hh r1 r2 hw1 hw2 b1 b2 rc s1 b12 hm hO hok hw h hl1 hhd hT hl2 hin
  go_enter Try.func32, Try.ntmps32
  go_wp2_with fail
  rw [HW1.out, HW2.out]
  clear HW1 HW2
  refine L.out.mono ?_
  rintro e w3 ⟨rfl, ⟨r3, z0, z1⟩, k3⟩
  have B3 : Box' (Below w.heap.size w w3) := ⟨⟨k3.os.trans B.out.os, k3.tape.trans B.out.tape, k3.output.trans B.out.output, Nat.le_trans B.out.size k3.size, fun k hk => (k3.block k (Nat.lt_of_lt_of_le hk B.out.size) (by omega)).trans (B.out.block k hk)⟩⟩
  have c0 : w3.cell? ⟨w.heap.size + 1, 0, none⟩ = some (.int .i64 (bsz (telF hd l1 l2 T))) := r3.cell 0
  have hz : bsz (telF hd l1 l2 T) ≤ 100000000 := by have := HLN.out; omega
  clear L B r3 k3 z1
  obtain ⟨c, hcc⟩ : ∃ c, bsz (telF hd l1 l2 T) = c := ⟨_, rfl⟩
  rw [hcc] at c0 hz z0
  have HCC := Box'.mk hcc
  clear hcc
  go_wp2_with fail
  go_ret
  exact ⟨by rw [HCC.out]; rfl, B3.out⟩
def GaM (g : Nat) (w : World) (k : Nat) : Prop := k = g ∨ ∃ v, Row w g 48 #[v] ∧ v.ownBlock = some k
theorem row_one {w : World} {g t : Nat} {u v : Value} (h : Row w g t #[u]) (k : Row w g t #[v]) : u = v := by
  unfold Row at h k
  rw [h] at k
  simpa using k
theorem gatherK (N g : Nat) : PutK 41 (.pointer (some ⟨g, 0, none⟩)) (fun _ => True) 900000 (fun d w => N ≤ w.heap.size ∧ ∃ v, Row w g 48 #[v] ∧ OwnP N w v d) (GaM g) where
  enters := enters41
  lt := fun d w k h e => by
    obtain ⟨_, v, r, o⟩ := h
    rcases e with rfl | ⟨u, ru, eu⟩
    · exact r.lt
    · cases row_one r ru
      obtain ⟨_, c, hc⟩ := o.row eu
      exact Row.lt hc
  call := fun d w x y h ho hl => by
    obtain ⟨hN, v, r, o⟩ := h
    refine (gather2_is w N g x y v d (by omega) hN r o).mono ?_
    rintro e w' ⟨rfl, v', r', o', hb, hv, h1, h2, h3, h4⟩
    refine ⟨rfl, ⟨Nat.le_trans hN h4, v', r', o'⟩, h1, h2, h3, h4, fun k hk hm => hb k hk (fun e => hm (.inl e)) (fun e => hm (.inr ⟨v, r, e⟩)), fun k hk => ?_⟩
    rcases hk with rfl | ⟨u, ru, eu⟩
    · exact .inl (.inl rfl)
    · cases row_one r' ru
      rcases hv with e | e
      · rw [e] at eu; exact .inl (.inr ⟨v, r, eu⟩)
      · exact .inr (e k eu)
  more := fun d w w' h ho ht hu hs hb => by
    obtain ⟨hN, v, r, o⟩ := h
    have r' := r.same (hb g r.lt (.inl rfl))
    refine ⟨⟨Nat.le_trans hN hs, v, r', o.keep fun q c e hr => hr.same (hb q hr.lt (.inr ⟨v, r, e⟩))⟩, fun k hk => ?_⟩
    rcases hk with rfl | ⟨u, ru, eu⟩
    · exact .inl rfl
    · cases row_one r' ru
      exact .inr ⟨v, r, eu⟩
end Go.Proofs.Ytcjfaahlchbcmaa
