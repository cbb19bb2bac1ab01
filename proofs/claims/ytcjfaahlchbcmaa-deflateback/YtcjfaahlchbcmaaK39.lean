/- The walk of spelled, up to its bits. -/
import Derived.Test.YtcjfaahlchbcmaaK38
import Derived.Test.YtcjfaahlchbcmaaK10
namespace Go.Proofs.Ytcjfaahlchbcmaa
open Go.RowKit Go.BigFrame
set_option linter.unusedVariables false
set_option linter.unusedSimpArgs false
def spL (W : List Wd) (j : Nat) : List Bt := [(tnF W - 4, 4)] ++ ((ordF (klF W)).take j).map (fun x => (x.toNat, (3 : Int)))
theorem spL_step (W : List Wd) (j : Nat) (hj : j < 19) : spL W (j + 1) = spL W j ++ [(((ordF (klF W)).getD j 0).toNat, 3)] := by
  have hl := ordF_len (klF W)
  unfold spL
  rw [List.take_succ_eq_append_getElem (by omega), List.map_append, List.getD_eq_getElem?_getD, List.getElem?_eq_getElem (show j < (ordF (klF W)).length by omega)]
  simp
theorem spL_len (W : List Wd) (j : Nat) : (spL W j).length ≤ 20 := by
  have hl := ordF_len (klF W)
  unfold spL
  rw [List.length_append, List.length_map, List.length_take]
  simp
  omega
def spM (W : List Wd) (j : Nat) : List Bt := spL W (tnF W) ++ ((W.take j).map (tellW W)).flatten
theorem spM_step (W : List Wd) (j : Nat) (hj : j < W.length) : spM W (j + 1) = spM W j ++ tellW W (W.getD j (0, 0, 0)) := by
  unfold spM
  rw [List.take_succ_eq_append_getElem hj, List.map_append, List.flatten_append, List.getD_eq_getElem?_getD, List.getElem?_eq_getElem hj]
  simp
theorem spM_len (W : List Wd) (j : Nat) : (spM W j).length ≤ 20 + 2 * j := by
  have h : ∀ l : List Wd, ((l.map (tellW W)).flatten).length = 2 * l.length := by
    intro l
    induction l with
    | nil => rfl
    | cons x r ih => rw [List.map_cons, List.flatten_cons, List.length_append, ih]; show 2 + _ = 2 * (r.length + 1); omega
  have h1 := spL_len W (tnF W)
  unfold spM
  rw [List.length_append, h, List.length_take]
  omega
theorem spM_all (W : List Wd) : spM W W.length = splF W := by
  unfold spM spL splF
  rw [List.take_of_length_le (Nat.le_refl W.length)]
theorem OwnP.down {N M : Nat} {w : World} {v : Value} {d : List Bt} (h : OwnP N w v d) (hM : M ≤ N) : OwnP M w v d := by
  refine ⟨h.1, ?_⟩
  rcases h.2 with h2 | ⟨g, cap, cur, e1, e2, e3⟩
  · exact .inl h2
  · exact .inr ⟨g, cap, cur, e1, Nat.le_trans hM e2, e3⟩
set_option maxRecDepth 100000 in
set_option maxHeartbeats 8000000 in
theorem spelled_is (w : World) (v : Value) (W : List Wd) (hn : W.length ≤ 1024) (hkd : ∀ k, 0 ≤ (W.getD k (0, 0, 0)).1 ∧ (W.getD k (0, 0, 0)).1 < 19) (h : Wds w.heap.size w v W) :
    Calls Try.prog 38 #[v] w fun e w' => ∃ u, e = .returned u ∧ OwnP w.heap.size w' u (splF W) ∧ Below w.heap.size w w' := by
  obtain ⟨va, vc, rfl, hvc, h3⟩ := h
  have H3 := Box'.mk h3
  have HKD := Box'.mk hkd
  have HSN := Box'.mk (fun k (hk : k < W.length) => (by rw [List.take_succ_eq_append_getElem hk, kcS_snoc, List.getD_eq_getElem?_getD, List.getElem?_eq_getElem hk]; rfl : kcS (W.take (k + 1)) = inc (kcS (W.take k)) (W.getD k (0, 0, 0)).1.toNat))
  have HLN := Box'.mk (fun k => kcS_len (W.take k))
  have HBD := Box'.mk (fun k => kcS_bd (W.take k))
  have HALL : Box' (kcS (W.take W.length) = kcS W) := ⟨by rw [List.take_of_length_le (Nat.le_refl _)]⟩
  have HLE := Box'.mk (fun k => (by rw [List.length_take]; omega : (W.take k).length ≤ W.length))
  obtain ⟨n, hnn⟩ : ∃ n, W.length = n := ⟨_, rfl⟩
  rw [hnn] at H3 HSN HALL HLE hvc hn ⊢
  have HALL2 := Box'.mk hnn
  clear h3 hkd hnn
  go_enter Try.func38, Try.ntmps38
  go_upto_region 2 with (first
    | (refine wpList_make_gen rfl _ _ rfl _ _ 19 rfl rfl rfl rfl (by omega) ?_; intro W1 hW1; have HW := Box'.mk hW1; clear hW1))
  have S0 : Box' (SegI W1 w.heap.size (kcS (W.take 0))) := ⟨by rw [HW.out]; exact (Row.new w 3 (ai (zs 19))).seg⟩
  have B0 : Box' (Below w.heap.size w W1) := ⟨by rw [HW.out]; exact (Below.refl _ _).alloc (Nat.le_refl _) _⟩
  clear HW
  go_wp2_with fail
  go_loopw [19] (fun i wr => ∃ k : Nat, k ≤ n ∧ i = .int .i64 (k : Int) ∧ Box' (SegI wr w.heap.size (kcS (W.take k))) ∧ Box' (Below w.heap.size w wr)) (fun i _ => n - (intOf i).toNat)
  case atStart => exact ⟨0, Nat.zero_le _, rfl, S0, B0⟩
  case round =>
    clear S0 B0
    obtain ⟨k, hk, rfl, HS, HB⟩ := hrel
    have hlS := HLN.out k
    have hle := HLE.out k
    by_cases hlt : k < n
    · obtain ⟨b, o, rfl, hbN, c0, c1, c2⟩ := H3.out k hlt
      rw [← HB.out.cell (p := ⟨b, o + k * 3, none⟩) hbN] at c0
      rw [← HB.out.cell (p := ⟨b, o + k * 3 + 1, none⟩) hbN] at c1
      rw [← HB.out.cell (p := ⟨b, o + k * 3 + 2, none⟩) hbN] at c2
      have hkk := HKD.out k
      have hsn := HSN.out k hlt
      have hbd := HBD.out k
      generalize W.getD k (0, 0, 0) = tk at *
      obtain ⟨t0, t1, t2⟩ := tk
      simp only at c0 c1 c2 hkk hsn
      obtain ⟨q, rfl⟩ : ∃ q : Nat, t0 = (q : Int) := ⟨t0.toNat, by omega⟩
      rw [Int.toNat_natCast] at hsn
      obtain ⟨w2, hw2⟩ : ∃ w2, wr.alloc (.cells #[.int .i64 (q : Int), .int .u64 (t1 : Int), .int .i64 (t2 : Int)] 110) = w2 := ⟨_, rfl⟩
      have b2 : Below wr.heap.size wr w2 := by rw [← hw2]; exact (Below.refl _ _).alloc (Nat.le_refl _) _
      have r2 : Row w2 wr.heap.size 110 #[.int .i64 (q : Int), .int .u64 (t1 : Int), .int .i64 (t2 : Int)] := by rw [← hw2]; exact Row.new _ _ _
      have S2 := Box'.mk (HS.out.below b2)
      have B2 := Box'.mk (HB.out.trans (b2.mono HB.out.size))
      have HW2 := Box'.mk hw2
      have HSNk := Box'.mk hsn
      have d0 : w2.cell? ⟨wr.heap.size, 0, none⟩ = some (.int .i64 (q : Int)) := r2.cell 0
      clear hw2 b2 hsn r2 HS HB
      generalize kcS (W.take k) = SS at *
      go_upto_region 5 with (fail)
      rw [HW2.out]
      clear HW2 c0 c1 c2
      have hv := hbd q
      have cS := S2.out.cell (k := q) (by omega)
      have fS := S2.out.frozen q
      have j1 : (0 : Int) ≤ (q : Int) := by omega
      have j2 : (q : Int) < 19 := by omega
      have S3 : Box' (SegI (w2.setCell ⟨w.heap.size, q, none⟩ (.int .i64 (SS.getD q 0 + 1))) w.heap.size (inc SS q)) := ⟨S2.out.set q (SS.getD q 0 + 1) (by omega)⟩
      have B3 := Box'.mk (B2.out.setCell (p := ⟨w.heap.size, q, none⟩) (Nat.le_refl _) (.int .i64 (SS.getD q 0 + 1)))
      clear hbd
      generalize SS.getD q 0 = X at *
      go_wp2_with fail
      go_roundw
      case rel =>
        refine ⟨k + 1, by omega, by go_num, ⟨?_⟩, B3⟩
        rw [HSNk.out]; exact S3.out
      case measure => simp [intOf]; omega
    · obtain rfl : k = n := by omega
      rw [HALL.out] at HS
      have hl0 : (kcS W).length = 19 := kcS_len W
      have hb0 : ∀ j, 0 ≤ (kcS W).getD j 0 ∧ (kcS W).getD j 0 ≤ 70000 := fun j => ⟨(kcS_bd W j).1, by have := (kcS_bd W j).2; rw [← HALL2.out] at hn; omega⟩
      have LG := lens_good (cs := kcS W) (m := 7) (by omega) (by omega) (by omega) (by rw [hl0]; decide) hb0
      have L1 : Box' (Calls Try.prog 36 #[.slice (some ⟨w.heap.size, 0, none⟩) 19 19, .int .i64 7] wr fun e w' => ∃ b o, e = .returned (.tuple #[.slice (some ⟨b, o, none⟩) 19 19, .int .i64 0]) ∧ b < w'.heap.size ∧ (∀ k, k < 19 → w'.cell? ⟨b, o + k, none⟩ = some (.int .i64 ((klF W).getD k 0))) ∧ Below wr.heap.size wr w') := ⟨by
        have q := lengths_is wr (.slice (some ⟨w.heap.size, 0, none⟩) 19 19) (kcS W) 7 (by omega) (by omega) (by omega) (by omega) (by rw [hl0]; decide) hb0 (by have := HS.out.ints (c := 19) (by omega); rw [hl0] at this; exact this)
        rw [hl0] at q
        exact q⟩
      have K1 : (klF W).length = 19 := LG.2.2.2.1.trans hl0
      have K2 : Gf.chkE (klF W) = 0 := LG.2.2.1
      have K3 := Box'.mk LG.2.2.2.2.1
      have HK1 := Box'.mk K1
      have HK2 := Box'.mk K2
      clear LG hb0 hl0 K1 K2 HLN HBD HSN HLE hlS hle
      go_upto_region 7 with (fail)
      go_wp2_with fail
      refine L1.out.mono ?_
      rintro e w2 ⟨kb, ko, rfl, hkb, hkc, b2⟩
      have B2 := Box'.mk (HB.out.trans (b2.mono HB.out.size))
      have IK : Box' (Ints w2.heap.size w2 (.slice (some ⟨kb, ko, none⟩) 19 19) (klF W)) := ⟨⟨_, _, by rw [HK1.out], by rw [HK1.out]; exact Nat.le_refl _, .inr ⟨kb, ko, rfl, hkb, fun j hj => hkc j (by rw [HK1.out] at hj; exact hj)⟩⟩⟩
      have L2 : Box' (Calls Try.prog 55 #[.slice (some ⟨kb, ko, none⟩) 19 19] w2 fun e w' => ∃ g, e = .returned (.tuple #[.slice (some ⟨g, 0, none⟩) 19 19, .int .i64 0]) ∧ w2.heap.size ≤ g ∧ Row w' g 73 (agp (cds (klF W) (klF W).length)) ∧ Below w2.heap.size w2 w') := ⟨by
        refine (codes_any _ (klF W) (by rw [HK1.out]; decide) w2 IK.out).mono ?_
        rintro e w' ⟨u, rfl, hc, hb⟩
        rw [HK2.out]
        rcases hc with ⟨_, g, rfl, hg, hr⟩ | ⟨hx, _⟩
        · refine ⟨g, ?_, hg, hr, hb⟩
          rw [HK1.out]
        · exact absurd HK2.out hx⟩
      have HKC := Box'.mk hkc
      clear hkc b2 L1 HS HB IK
      go_upto_region 8 with (fail)
      go_wp2_with fail
      refine L2.out.mono ?_
      rintro e w3 ⟨gc, rfl, hgc, rc, b3⟩
      have B3 := Box'.mk (B2.out.trans (b3.mono B2.out.size))
      have RC := Box'.mk rc
      have HKC3 : Box' (∀ j, j < 19 → w3.cell? ⟨kb, ko + j, none⟩ = some (.int .i64 ((klF W).getD j 0))) := ⟨fun j hj => (b3.cell (p := ⟨kb, ko + j, none⟩) hkb).trans (HKC.out j hj)⟩
      have hkb3 : kb < w3.heap.size := Nat.lt_of_lt_of_le hkb b3.size
      have L3 := Box'.mk (ordered_is w3 kb ko 19 (klF W) hkb3 (Nat.le_refl _) HKC3.out)
      clear L2 B2 rc b3 HKC hkb
      go_upto_region 9 with (fail)
      go_wp2_with fail
      refine L3.out.mono ?_
      rintro e w4 ⟨go, rfl, hgo, so, b4⟩
      have B4 := Box'.mk (B3.out.trans (b4.mono B3.out.size))
      have RC4 := Box'.mk (RC.out.below b4 RC.out.lt)
      have SO := Box'.mk so
      have L4 := Box'.mk (trimmed_any w4 go 0 19 19 (ordF (klF W)) 4 (ordF_len _) (Nat.le_refl _) (by decide) (by decide) (by decide) (fun j hj => by rw [Nat.zero_add]; exact so.cell (k := j) (by rw [ordF_len]; exact hj)))
      rw [ordF_len] at L4
      have htn := tn_bd W
      have HTN : Box' (trmF (ordF (klF W)) 4 19 = tnF W) := ⟨rfl⟩
      rw [HTN.out] at L4
      clear L3 B3 RC b4 so HTN HKC3
      generalize hT : tnF W = tn at *
      have HT := Box'.mk hT
      clear hT
      go_wp2_with fail
      refine L4.out.mono ?_
      rintro e w5 ⟨rfl, b5⟩
      have B5 := Box'.mk (B4.out.trans (b5.mono B4.out.size))
      have RC5 := Box'.mk (RC4.out.below b5 RC4.out.lt)
      have SO5 := Box'.mk (SO.out.below b5)
      clear L4 B4 RC4 b5 SO
      go_upto_region 10 with (fail)
      have j4 : (4 : Int) ≤ (tn : Int) := by omega
      have j5 : (tn : Int) ≤ 19 := by omega
      obtain ⟨H0, hH0⟩ : ∃ H0, w5.heap.size = H0 := ⟨_, rfl⟩
      have hH := Box'.mk hH0
      have hgc5 : gc < H0 := by rw [← hH0]; exact RC5.out.lt
      have hgo5 : go < H0 := by rw [← hH0]; exact SO5.out.lt
      have hwH : w.heap.size ≤ H0 := by rw [← hH0]; exact B5.out.size
      obtain ⟨w6, hw6⟩ : ∃ w6, w5.alloc (.cells #[.int .u64 ((tn : Int) - 4), .int .i64 4] 73) = w6 := ⟨_, rfl⟩
      have HW6 := Box'.mk hw6
      have B6 : Box' (Below H0 w5 w6) := ⟨by rw [← hw6, ← hH0]; exact (Below.refl _ _).alloc (Nat.le_refl _) _⟩
      have O6 : Box' (OwnP H0 w6 (.slice (some ⟨H0, 0, none⟩) 1 1) (spL W 0)) := ⟨by
        have q := OwnP.one w5 (tn - 4) 4
        rw [show ((tn - 4 : Nat) : Int) = (tn : Int) - 4 by omega, hw6, hH0] at q
        unfold spL
        rw [HT.out]
        exact q⟩
      clear hw6 hH0
      go_upto_region 11 with (fail)
      rw [HW6.out, hH.out]
      clear HW6
      have HOB : Box' (∀ j, 0 ≤ (ordF (klF W)).getD j 0 ∧ (ordF (klF W)).getD j 0 ≤ 7) := ⟨fun j => by
        by_cases hj : j < 19
        · rw [ordF_get _ j hj]; exact K3.out _
        · rw [List.getD_eq_getElem?_getD, List.getElem?_eq_none (by rw [ordF_len]; omega)]; decide⟩
      have HS2 := Box'.mk (fun j (hj : j < 19) => spL_step W j hj)
      have HL2 := Box'.mk (fun j => spL_len W j)
      go_wp2_with fail
      go_loopw [11, 52] (fun tk i wq => ∃ (j : Nat), j ≤ tn ∧ i = .int .i64 (j : Int) ∧ Box' (OwnP H0 wq tk (spL W j)) ∧ Box' (Below H0 w5 wq)) (fun _ i _ => tn - (intOf i).toNat)
      case atStart => exact ⟨0, Nat.zero_le _, rfl, O6, B6⟩
      case round =>
        clear O6 B6
        obtain ⟨j, hj, rfl, HO, HQ⟩ := hrel
        have hlen := HL2.out j
        by_cases hlt : j < tn
        · have c0 : wr.cell? ⟨go, j, none⟩ = some (.int .i64 ((ordF (klF W)).getD j 0)) := by
            rw [HQ.out.cell (p := ⟨go, j, none⟩) hgo5]
            exact SO5.out.cell (k := j) (by rw [ordF_len]; omega)
          have hob := HOB.out j
          have hst := HS2.out j (by omega)
          generalize (ordF (klF W)).getD j 0 = X at *
          obtain ⟨x, rfl⟩ : ∃ x : Nat, X = (x : Int) := ⟨X.toNat, by omega⟩
          rw [Int.toNat_natCast] at hst
          have x1 : (0 : Int) ≤ (x : Int) := by omega
          have x2 : (x : Int) ≤ 7 := by omega
          have HST := Box'.mk hst
          obtain ⟨ta, tcap, rfl⟩ := HO.out.slice
          have N7 : Below wr.heap.size wr (wr.alloc (.cells #[.int .u64 (x : Int), .int .i64 3] 73)) := (Below.refl _ _).alloc (Nat.le_refl _) _
          have Rn : Box' (Row (wr.alloc (.cells #[.int .u64 (x : Int), .int .i64 3] 73)) wr.heap.size 73 #[.int .u64 (x : Int), .int .i64 3]) := ⟨Row.new _ _ _⟩
          have O7 := Box'.mk (HO.out.below N7)
          have hHw : H0 ≤ wr.heap.size := Nat.le_trans (Nat.le_of_eq hH.out.symm) HQ.out.size
          have B7 := Box'.mk (HQ.out.trans (N7.mono hHw))
          have HN7 : Box' (H0 ≤ (wr.alloc (.cells #[.int .u64 (x : Int), .int .i64 3] 73)).heap.size) := ⟨Nat.le_trans hHw N7.size⟩
          have hH5 := Box'.mk (Nat.le_of_eq hH.out.symm)
          clear hst N7 hHw HO HQ hob
          go_upto_region 15 with (first | (refine wpList_appP rfl (.tmp 56) (.tmp 60) rfl H0 HN7.out _ _ rfl O7.out _ 1 1 [(x, 3)] rfl rfl (row_pcs1 Rn.out) (by show _ + 1 ≤ _; omega) ?_; intro tk8 w8 o8 gr8 ow8) | fail)
          have B8 := Box'.mk (below_grownP B7.out hH5.out O7.out gr8)
          rw [← HST.out] at o8
          have O8 := Box'.mk o8
          clear o8 gr8 ow8 O7 B7 HN7 Rn
          go_wp2_with fail
          go_roundw
          case rel => exact ⟨j + 1, by omega, by go_num, O8, B8⟩
          case measure => simp [intOf]; omega
        · obtain rfl : j = tn := by omega
          have hM0 : spL W j = spM W 0 := by unfold spM; rw [HT.out]; simp
          rw [hM0] at HO
          clear hM0 HS2 HL2 HOB SO5 hlen
          have HS3 := Box'.mk (fun i (hi : i < k) => spM_step W i (by rw [HALL2.out]; exact hi))
          have HL3 := Box'.mk (fun i => spM_len W i)
          have HA3 : Box' (spM W k = splF W) := ⟨by rw [← HALL2.out]; exact spM_all W⟩
          obtain ⟨ta, tcap, rfl⟩ := HO.out.slice
          go_upto_region 16 with (fail)
          go_wp2_with fail
          go_loopw [11, 65] (fun tk i wq => ∃ (i' : Nat), i' ≤ k ∧ i = .int .i64 (i' : Int) ∧ Box' (OwnP H0 wq tk (spM W i')) ∧ Box' (Below H0 w5 wq)) (fun _ i _ => k - (intOf i).toNat)
          case atStart => exact ⟨0, Nat.zero_le _, rfl, HO, HQ⟩
          case round =>
            clear HO HQ
            obtain ⟨i, hi, rfl, HO, HQ⟩ := hrel
            have hlen := HL3.out i
            by_cases hlt : i < k
            · obtain ⟨b, o, rfl, hbN, c0, c1, c2⟩ := H3.out i hlt
              have HBw := B5.out.trans (HQ.out.mono hwH)
              rw [← HBw.cell (p := ⟨b, o + i * 3, none⟩) hbN] at c0
              rw [← HBw.cell (p := ⟨b, o + i * 3 + 1, none⟩) hbN] at c1
              rw [← HBw.cell (p := ⟨b, o + i * 3 + 2, none⟩) hbN] at c2
              have hkk := HKD.out i
              have hst := HS3.out i hlt
              unfold tellW at hst
              generalize W.getD i (0, 0, 0) = tk at *
              obtain ⟨t0, t1, t2⟩ := tk
              simp only at c0 c1 c2 hkk hst
              obtain ⟨q, rfl⟩ : ∃ q : Nat, t0 = (q : Int) := ⟨t0.toNat, by omega⟩
              rw [Int.toNat_natCast] at hst
              have j1 : (0 : Int) ≤ (q : Int) := by omega
              have j2 : (q : Int) < 19 := by omega
              have hcl : (cds (klF W) (klF W).length).length = 19 := by rw [cds_len, HK1.out]
              have ha0 : (agp (cds (klF W) (klF W).length))[q * 2]? = some (.int .u64 (((cds (klF W) (klF W).length).getD q (0, 0)).1 : Int)) := by rw [agp_get _ _ (by omega), pcell0]
              have ha1 : (agp (cds (klF W) (klF W).length))[q * 2 + 1]? = some (.int .i64 ((cds (klF W) (klF W).length).getD q (0, 0)).2) := by rw [agp_get _ _ (by omega), pcell1]
              have hgq : Row wr gc 73 (agp (cds (klF W) (klF W).length)) := RC5.out.below HQ.out hgc5
              generalize (cds (klF W) (klF W).length).getD q (0, 0) = C at *
              obtain ⟨cv, cl⟩ := C
              generalize agp (cds (klF W) (klF W).length) = arr at *
              obtain ⟨w2, hw2⟩ : ∃ w2, wr.alloc (.cells #[.int .i64 (q : Int), .int .u64 (t1 : Int), .int .i64 (t2 : Int)] 110) = w2 := ⟨_, rfl⟩
              have b2 : Below wr.heap.size wr w2 := by rw [← hw2]; exact (Below.refl _ _).alloc (Nat.le_refl _) _
              have r2 : Row w2 wr.heap.size 110 #[.int .i64 (q : Int), .int .u64 (t1 : Int), .int .i64 (t2 : Int)] := by rw [← hw2]; exact Row.new _ _ _
              have hHw : H0 ≤ wr.heap.size := Nat.le_trans (Nat.le_of_eq hH.out.symm) HQ.out.size
              have R2 := Box'.mk r2
              have G2 := Box'.mk (hgq.below b2 hgq.lt)
              have O2 := Box'.mk (HO.out.below b2)
              have B2 := Box'.mk (HQ.out.trans (b2.mono hHw))
              have N2 := Box'.mk (Nat.le_trans hHw b2.size)
              have HW2 := Box'.mk hw2
              have HST := Box'.mk hst
              have A0 := Box'.mk ha0
              have A1 := Box'.mk ha1
              obtain ⟨ta, tcap, rfl⟩ := HO.out.slice
              have V2 := Box'.mk (fun x (e : (Value.slice ta (spM W i).length tcap).ownBlock = some x) => (by obtain ⟨_, c, hr⟩ := O2.out.row e; exact hr.lt : x < w2.heap.size))
              clear hw2 b2 hst r2 HO HQ ha0 ha1 hgq HBw hHw hcl
              go_upto_region 19 with (fail)
              rw [HW2.out]
              clear HW2 c0 c1 c2
              refine wp_mono (spReg gc _ H0 q cv t1 _ cl t2 _ arr _ _ _ _ _ _ _ _ _ _ _ _ _ _ _ _ _ _ _ _ _ _ _ _ _ _ _ _ _ _ _ _ _ _ _ _ _ _ _ _ _ _ _ _ _ _ _ _ _ _ _ _ _ _ _ _ _ _ _ _ _ _ _ _ _ _ _ _ _ _ _ _ _ _ _ _ _ _ w2 N2.out R2.out G2.out hgc5 A0.out A1.out O2.out (by omega) V2.out j1 j2) ?_
              rintro e a' w3 ⟨rfl, v11, v69, v70, v71, v72, v73, v74, v75, v76, v77, v78, rfl, o3, b3⟩
              rw [← HST.out] at o3
              have O3 := Box'.mk o3
              have B3 := Box'.mk (B2.out.trans b3)
              clear o3 b3 O2 B2 R2 G2 N2 A0 A1 V2
              go_wp2_with fail
              go_roundw
              case rel => exact ⟨i + 1, by omega, by go_num, O3, B3⟩
              case measure => simp [intOf]; omega
            · obtain rfl : i = k := by omega
              rw [HA3.out] at HO
              have O9 := Box'.mk (HO.out.down hwH)
              have B9 := Box'.mk (B5.out.trans (HQ.out.mono hwH))
              clear HO HQ
              go_wp2_with fail
              go_ret
              exact ⟨_, rfl, O9.out, B9.out⟩
end Go.Proofs.Ytcjfaahlchbcmaa
