/- The walk of ownWay. -/
import Derived.Test.YtcjfaahlchbcmaaZ44
namespace Go.Proofs.Ytcjfaahlchbcmaa
open Go.RowKit Go.BigFrame
set_option linter.unusedVariables false
set_option linter.unusedSimpArgs false

theorem Toks.up {N M : Nat} {w : World} {v : Value} {l : List Tok} (h : Toks N w v l) (hN : N ≤ M) : Toks M w v l := by
  obtain ⟨a, c, h1, h2, h4⟩ := h
  refine ⟨a, c, h1, h2, ?_⟩
  rcases h4 with h4 | ⟨b, o, h5, h6, h7⟩
  · exact .inl h4
  · exact .inr ⟨b, o, h5, Nat.lt_of_lt_of_le h6 hN, h7⟩
theorem OwnP.three (w : World) (x x' x'' : Nat) (y y' y'' : Int) : OwnP w.heap.size (w.alloc (.cells #[.int .u64 (x : Int), .int .i64 y, .int .u64 (x' : Int), .int .i64 y', .int .u64 (x'' : Int), .int .i64 y''] 73)) (.slice (some ⟨w.heap.size, 0, none⟩) 3 3) [(x, y), (x', y'), (x'', y'')] :=
  ⟨rfl, .inr ⟨w.heap.size, 3, _, rfl, Nat.le_refl _, Row.new _ _ _, Nat.le_refl _, by unfold maxLen; decide, rfl, rfl⟩⟩
theorem cell_take (l : List Int) (n j : Nat) (u : Value) (hn : n ≤ l.length) (h : ((l.take n).map (Value.int .i64))[j]? = some u) : j < n ∧ some (Value.int .i64 (l.getD j 0)) = some u := by
  rw [List.getElem?_map, List.getElem?_take] at h
  split at h
  · rename_i hj
    refine ⟨hj, ?_⟩
    rw [List.getElem?_eq_getElem (show j < l.length by omega)] at h
    rw [List.getD_eq_getElem?_getD, List.getElem?_eq_getElem (show j < l.length by omega)]
    exact h
  · simp at h
theorem below_grownI {N : Nat} {w0 w w' : World} {tk : Value} {T : List Int} (h : Below N w0 w) (hN : N ≤ w0.heap.size) (ho : OwnI N w tk T) (gr : w.grownBy w' tk.ownBlock) : Below N w0 w' :=
  ⟨gr.os.trans h.os, gr.tape.trans h.tape, gr.output.trans h.output, Nat.le_trans h.size gr.size, fun k hk => (gr.block k (Nat.lt_of_lt_of_le (Nat.lt_of_lt_of_le hk hN) h.size) (fun e => by have := (own_cells ho e.symm).1; omega)).trans (h.block k hk)⟩
theorem own_pi {N : Nat} {w w' : World} {v tk : Value} {d : List Bt} {T : List Int} (h : OwnP N w v d) (ho : OwnI N w tk T) (gr : w.grownBy w' tk.ownBlock) : OwnP N w' v d :=
  h.keep fun q c _ hr => hr.same (gr.block q hr.lt (fun e => own_row_ne ho e.symm hr (by decide)))
theorem OwnP.cells {N : Nat} {w : World} {v : Value} {d : List Bt} (h : OwnP N w v d) (hd : 0 < d.length) : ∃ g cap, v = .slice (some ⟨g, 0, none⟩) d.length cap ∧ g < w.heap.size ∧ d.length ≤ cap ∧ ∀ j u, (pcs d)[j]? = some u → w.cell? ((⟨g, 0, none⟩ : Addr).add j) = some u := by
  rcases h.2 with ⟨e, e0⟩ | ⟨g, cap, cur, e1, e2, e3, e4, e5, e6, e7⟩
  · omega
  · have r : Row w g 73 cur := e3
    refine ⟨g, cap, e1, r.lt, e4, fun j u hu => ?_⟩
    have hj : j < (pcs d).length := by
      rw [List.getElem?_eq_some_iff] at hu
      exact hu.1
    rw [Addr.add_mid, Nat.zero_add, r.cell, ← hu, ← e7, List.getElem?_take_of_lt (by rw [pcs_len] at hj; omega)]
    simp
theorem OwnP.bts {N : Nat} {w : World} {v : Value} {d : List Bt} (h : OwnP N w v d) (hd : 0 < d.length) : Bts' w.heap.size w v d := by
  obtain ⟨g, cap, e1, e2, e3, e4⟩ := h.cells hd
  refine ⟨_, cap, e1, e3, fun k hk => ⟨g, 0, rfl, e2, ?_⟩⟩
  have hget : ∀ (l : List Bt) (k j : Nat), k < l.length → j < 2 → (pcs l)[k * 2 + j]? = (pc (l.getD k (0, 0)))[j]? := by
    intro l
    induction l with
    | nil => intro k j hk; simp at hk
    | cons x r ih =>
      intro k j hk hj
      have e : pcs (x :: r) = pc x ++ pcs r := by simp [pcs]
      have hx : (pc x).length = 2 := rfl
      rw [e]
      cases k with
      | zero => rw [List.getElem?_append_left (by omega), Nat.zero_mul, Nat.zero_add]; rfl
      | succ k =>
        rw [List.getElem?_append_right (by omega), hx, show (k + 1) * 2 + j - 2 = k * 2 + j by omega, ih k j (by simpa using hk) hj]
        rfl
  have q0 := e4 (k * 2 + 0) _ ((hget d k 0 hk (by omega)).trans rfl)
  have q1 := e4 (k * 2 + 1) _ ((hget d k 1 hk (by omega)).trans rfl)
  rw [Addr.add_mid] at q0 q1
  exact ⟨q0, q1⟩
theorem ownI_ints {N : Nat} {w : World} {v : Value} {d : List Int} (h : OwnI N w v d) (hd : 0 < d.length) : Ints w.heap.size w v d := by
  obtain ⟨g, cap, cur, e1, e2, e3, e4, e5, e6, e7⟩ := (h.2.resolve_left (fun q => by have := q.2; omega))
  obtain ⟨g', cap', e1', _, e3', hs⟩ := h.seg hd
  exact e1'.symm ▸ hs.ints e3'
theorem getD_take {l : List Int} {n k : Nat} (h : k < n) : (l.take n).getD k 0 = l.getD k 0 := by
  rw [List.getD_eq_getElem?_getD, List.getElem?_take, if_pos h, ← List.getD_eq_getElem?_getD]
set_option maxRecDepth 100000 in
set_option maxHeartbeats 8000000 in
theorem ownWay_is (w : World) (vT : Value) (T : List Tok) (hT : T.length ≤ 65536) (hok : ∀ t ∈ T, TokOk t) (h : Toks w.heap.size w vT T) :
    Calls Try.prog 22 #[vT] w fun e w' => ∃ u, e = .returned u ∧ WayOk w'.heap.size w' u (hdO T) (oS T) (oD T) ∧ Below w.heap.size w w' := by
  have OL := Box'.mk (ownLens hT)
  obtain ⟨w1, hw1⟩ : ∃ w1, w.alloc (.cells #[.slice none 0 0, .slice none 0 0, .slice none 0 0] 50) = w1 := ⟨_, rfl⟩
  have R1 : Box' (Row w1 w.heap.size 50 #[.slice none 0 0, .slice none 0 0, .slice none 0 0]) := ⟨by rw [← hw1]; exact Row.new _ _ _⟩
  have b1 : Below w.heap.size w w1 := by rw [← hw1]; exact (Below.refl _ _).alloc (Nat.le_refl _) _
  have B1 := Box'.mk b1
  have L1 := Box'.mk (counts_is w1 vT T hT hok ((h.below b1 (Nat.le_refl _)).up b1.size))
  have HW1 := Box'.mk hw1
  have CL := Box'.mk (cntF_len T)
  have CB := Box'.mk (cntF_bd hT)
  clear hw1 b1 hok
  obtain ⟨ta, tcap, rfl, htc, _⟩ := h
  go_enter Try.func22, Try.ntmps22
  go_upto_region 1 with (fail)
  rw [HW1.out]
  clear HW1
  go_wp2_with fail
  refine L1.out.mono ?_
  rintro e w2 ⟨gS, gD, rfl, hgS, hgD, hne, sS, sD, b2⟩
  have R2 := Box'.mk (R1.out.below b2 R1.out.lt)
  have B2 := Box'.mk (B1.out.trans (b2.mono B1.out.size))
  have L2 : Box' (Calls Try.prog 36 #[.slice (some ⟨gS, 0, none⟩) 286 286, .int .i64 15] w2 fun e w' => ∃ b o, e = .returned (.tuple #[.slice (some ⟨b, o, none⟩) 286 286, .int .i64 0]) ∧ b < w'.heap.size ∧ (∀ k, k < 286 → w'.cell? ⟨b, o + k, none⟩ = some (.int .i64 ((slF T).getD k 0))) ∧ Below w2.heap.size w2 w') := ⟨by
    have hl := CL.out.1
    have q := lengths_is w2 (.slice (some ⟨gS, 0, none⟩) 286 286) (cntF T).1 15 (by omega) (by omega) (by omega) (by omega) (by rw [hl]; decide) CB.out.1 (by have := sS.ints (c := 286) (by omega); rw [hl] at this; exact this)
    rw [hl] at q
    exact q⟩
  have SD := Box'.mk sD
  clear L1 R1 B1 b2 sS sD
  go_upto_region 2 with (fail)
  go_wp2_with fail
  refine L2.out.mono ?_
  rintro e w3 ⟨p1, o1, rfl, hp1, hc1, b3⟩
  have R3 := Box'.mk (R2.out.below b3 R2.out.lt)
  have B3 := Box'.mk (B2.out.trans (b3.mono B2.out.size))
  have sD3 := SD.out.below b3
  have HC1 := Box'.mk hc1
  have L3 : Box' (Calls Try.prog 36 #[.slice (some ⟨gD, 0, none⟩) 30 30, .int .i64 15] w3 fun e w' => ∃ b o, e = .returned (.tuple #[.slice (some ⟨b, o, none⟩) 30 30, .int .i64 0]) ∧ b < w'.heap.size ∧ (∀ k, k < 30 → w'.cell? ⟨b, o + k, none⟩ = some (.int .i64 ((dlF T).getD k 0))) ∧ Below w3.heap.size w3 w') := ⟨by
    have hl := CL.out.2
    have q := lengths_is w3 (.slice (some ⟨gD, 0, none⟩) 30 30) (cntF T).2 15 (by omega) (by omega) (by omega) (by omega) (by rw [hl]; decide) CB.out.2 (by have := sD3.ints (c := 30) (by omega); rw [hl] at this; exact this)
    rw [hl] at q
    exact q⟩
  clear L2 R2 B2 b3 SD hc1 sD3
  go_upto_region 3 with (fail)
  go_wp2_with fail
  refine L3.out.mono ?_
  rintro e w4 ⟨p2, o2, rfl, hp2, hc2, b4⟩
  have R4 := Box'.mk (R3.out.below b4 R3.out.lt)
  have B4 := Box'.mk (B3.out.trans (b4.mono B3.out.size))
  have hp14 : p1 < w4.heap.size := Nat.lt_of_lt_of_le hp1 b4.size
  have HC14 : Box' (∀ k, k < 286 → w4.cell? ⟨p1, o1 + k, none⟩ = some (.int .i64 ((slF T).getD k 0))) := ⟨fun k hk => (b4.cell (p := ⟨p1, o1 + k, none⟩) hp1).trans (HC1.out k hk)⟩
  have HC2 := Box'.mk hc2
  have L4 := Box'.mk (trimmed_any w4 p1 o1 286 286 (slF T) 257 OL.out.sl (Nat.le_refl _) (by decide) (by decide) (by decide) HC14.out)
  rw [OL.out.sl, show trmF (slF T) 257 286 = snF T from rfl] at L4
  clear L3 R3 B3 b4 HC1 hc2 hp1
  go_upto_region 4 with (fail)
  go_wp2_with fail
  refine L4.out.mono ?_
  rintro e w5 ⟨rfl, b5⟩
  have R5 := Box'.mk (R4.out.below b5 R4.out.lt)
  have B5 := Box'.mk (B4.out.trans (b5.mono B4.out.size))
  have hp15 : p1 < w5.heap.size := Nat.lt_of_lt_of_le hp14 b5.size
  have hp25 : p2 < w5.heap.size := Nat.lt_of_lt_of_le hp2 b5.size
  have HC15 : Box' (∀ k, k < 286 → w5.cell? ⟨p1, o1 + k, none⟩ = some (.int .i64 ((slF T).getD k 0))) := ⟨fun k hk => (b5.cell (p := ⟨p1, o1 + k, none⟩) hp14).trans (HC14.out k hk)⟩
  have HC25 : Box' (∀ k, k < 30 → w5.cell? ⟨p2, o2 + k, none⟩ = some (.int .i64 ((dlF T).getD k 0))) := ⟨fun k hk => (b5.cell (p := ⟨p2, o2 + k, none⟩) hp2).trans (HC2.out k hk)⟩
  have L5 := Box'.mk (trimmed_any w5 p2 o2 30 30 (dlF T) 1 OL.out.dl (Nat.le_refl _) (by decide) (by decide) (by decide) HC25.out)
  rw [OL.out.dl, show trmF (dlF T) 1 30 = dnF T from rfl] at L5
  clear L4 R4 B4 b5 HC14 HC2 hp14 hp2
  go_wp2_with fail
  refine L5.out.mono ?_
  rintro e w6 ⟨rfl, b6⟩
  have R6 := Box'.mk (R5.out.below b6 R5.out.lt)
  have B6 := Box'.mk (B5.out.trans (b6.mono B5.out.size))
  have hp16 : p1 < w6.heap.size := Nat.lt_of_lt_of_le hp15 b6.size
  have hp26 : p2 < w6.heap.size := Nat.lt_of_lt_of_le hp25 b6.size
  have HC16 : Box' (∀ k, k < 286 → w6.cell? ⟨p1, o1 + k, none⟩ = some (.int .i64 ((slF T).getD k 0))) := ⟨fun k hk => (b6.cell (p := ⟨p1, o1 + k, none⟩) hp15).trans (HC15.out k hk)⟩
  have HC26 : Box' (∀ k, k < 30 → w6.cell? ⟨p2, o2 + k, none⟩ = some (.int .i64 ((dlF T).getD k 0))) := ⟨fun k hk => (b6.cell (p := ⟨p2, o2 + k, none⟩) hp25).trans (HC25.out k hk)⟩
  clear L5 R5 B5 b6 HC15 HC25 hp15 hp25
  have hs1 := OL.out.sn
  have hs2 := OL.out.dn
  go_upto_region 5 with (fail)
  generalize hsn : snF T = sn at *
  generalize hdn : dnF T = dn at *
  have HSN := Box'.mk hsn
  have HDN := Box'.mk hdn
  clear hsn hdn
  have j1 : (257 : Int) ≤ (sn : Int) := by omega
  have j2 : (sn : Int) ≤ 286 := by omega
  have j3 : (1 : Int) ≤ (dn : Int) := by omega
  have j4 : (dn : Int) ≤ 30 := by omega
  obtain ⟨N6, hN6⟩ : ∃ N6, w6.heap.size = N6 := ⟨_, rfl⟩
  have H6 := Box'.mk hN6
  obtain ⟨w7, hw7⟩ : ∃ w7, w6.alloc (.cells #[.int .u64 5, .int .i64 3, .int .u64 ((sn : Int) - 257), .int .i64 5, .int .u64 ((dn : Int) - 1), .int .i64 5] 73) = w7 := ⟨_, rfl⟩
  have B7 : Box' (Below N6 w6 w7) := ⟨by rw [← hw7, ← hN6]; exact (Below.refl _ _).alloc (Nat.le_refl _) _⟩
  have O7 : Box' (OwnP N6 w7 (.slice (some ⟨N6, 0, none⟩) 3 3) [(5, 3), (sn - 257, 5), (dn - 1, 5)]) := ⟨by
    have q := OwnP.three w6 5 (sn - 257) (dn - 1) 3 5 5
    rw [show ((sn - 257 : Nat) : Int) = (sn : Int) - 257 by omega, show ((dn - 1 : Nat) : Int) = (dn : Int) - 1 by omega] at q
    rw [← hN6, ← hw7]
    exact q⟩
  have hN67 : N6 ≤ w7.heap.size := by rw [← hw7, ← hN6]; simp
  have HCS : Box' (∀ wq, Below N6 w6 wq → ∀ j u, ((oS T).map (Value.int .i64))[j]? = some u → wq.cell? ((⟨p1, o1, none⟩ : Addr).add j) = some u) := ⟨fun wq hb j u hu => by
    have hl := OL.out.sl
    have e := cell_take (slF T) sn j u (by omega) (by rw [← HSN.out]; exact hu)
    rw [Addr.add_mid, hb.cell (p := ⟨p1, o1 + j, none⟩) (by rw [← hN6]; exact hp16), HC16.out j (by omega), e.2]⟩
  have HCD : Box' (∀ wq, Below N6 w6 wq → ∀ j u, ((oD T).map (Value.int .i64))[j]? = some u → wq.cell? ((⟨p2, o2, none⟩ : Addr).add j) = some u) := ⟨fun wq hb j u hu => by
    have hl := OL.out.dl
    have e := cell_take (dlF T) dn j u (by omega) (by rw [← HDN.out]; exact hu)
    rw [Addr.add_mid, hb.cell (p := ⟨p2, o2 + j, none⟩) (by rw [← hN6]; exact hp26), HC26.out j (by omega), e.2]⟩
  have HW7 := Box'.mk hw7
  clear hw7 hN6
  go_upto_region 6 with (fail)
  rw [HW7.out, H6.out]
  clear HW7
  obtain ⟨w8, hw8⟩ : ∃ w8, w7.alloc (.cells #[] 3) = w8 := ⟨_, rfl⟩
  have b8 : Below w7.heap.size w7 w8 := by rw [← hw8]; exact (Below.refl _ _).alloc (Nat.le_refl _) _
  have I8 : Box' (OwnI N6 w8 (.slice (some ⟨w7.heap.size, 0, none⟩) 0 0) []) := ⟨by rw [← hw8]; exact ⟨rfl, .inr ⟨w7.heap.size, 0, _, rfl, hN67, Row.new _ _ _, Nat.le_refl _, by unfold maxLen; decide, rfl, rfl⟩⟩⟩
  have O8 := Box'.mk (O7.out.below b8)
  have B8 := Box'.mk (B7.out.trans (b8.mono hN67))
  have N8 := Box'.mk (Nat.le_trans hN67 b8.size)
  have HW8 := Box'.mk hw8
  have C8 := Box'.mk (HCS.out w8 B8.out)
  have E1 : Box' ((oS T).length = sn) := ⟨by rw [OL.out.sol]; exact HSN.out⟩
  have E2 : Box' ((oD T).length = dn) := ⟨by rw [OL.out.dol]; exact HDN.out⟩
  have M1 : Box' (([] : List Int).length + (oS T).length ≤ 17592186044416) := ⟨by rw [E1.out]; simp; omega⟩
  have M2 : Box' (([] ++ oS T).length + (oD T).length ≤ 17592186044416) := ⟨by rw [List.nil_append, E1.out, E2.out]; omega⟩
  clear hw8 b8
  go_upto_region 7 with (first
    | (rw [HW8.out]; refine wpList_plain rfl fun K hK => wp_app_ints (.tmp 42) (.tmp 43) rfl N6 N8.out _ _ rfl I8.out _ _ _ (oS T) rfl E1.out C8.out M1.out fun v9 w9 i9 gr9 => hK _ _ ?_; have I9 := Box'.mk i9; have B9 := Box'.mk (below_grownI B8.out (Nat.le_of_eq H6.out.symm) I8.out gr9); have O9 := Box'.mk (own_pi O8.out I8.out gr9); have N9 := Box'.mk (Nat.le_trans N8.out gr9.size); have C9 := Box'.mk (HCD.out w9 B9.out); clear i9 gr9)
    | (refine wpList_plain rfl fun K hK => wp_app_ints (.tmp 44) (.tmp 45) rfl N6 N9.out _ _ rfl I9.out _ _ _ (oD T) rfl E2.out C9.out M2.out fun v10 w10 i10 gr10 => hK _ _ ?_; have I10 := Box'.mk i10; have B10 := Box'.mk (below_grownI B9.out (Nat.le_of_eq H6.out.symm) I9.out gr10); have O10 := Box'.mk (own_pi O9.out I9.out gr10); have N10 := Box'.mk (Nat.le_trans N9.out gr10.size); clear i10 gr10)
    | fail)
  rw [List.nil_append] at I10
  have RB := Box'.mk (rowO_bd OL.out)
  have RL := Box'.mk (rowO_len OL.out)
  have hrl : 0 < (rowO T).length ∧ (rowO T).length ≤ 316 := by rw [RL.out]; have := OL.out.sn; have := OL.out.dn; omega
  have WB := Box'.mk (wdF_bd (rowO T) RB.out)
  have hI10 : Ints w10.heap.size w10 v10 (rowO T) := ownI_ints I10.out hrl.1
  have L7 := Box'.mk (words_is w10 v10 (rowO T) (by omega) RB.out hI10)
  have HWL := Box'.mk (Nat.le_trans WB.out.1 hrl.2)
  obtain ⟨ra, rc, hv10⟩ := own_slice I10.out
  rw [hv10] at L7 ⊢
  have R10 := Box'.mk (R6.out.below B10.out (by rw [← H6.out]; exact R6.out.lt))
  have HD : Box' ([(5, 3), (sn - 257, 5), (dn - 1, 5)] ++ splF (wdF (rowO T)) = hdO T) := ⟨by unfold hdO; rw [HSN.out, HDN.out]⟩
  have HP : Box' (0 < (splF (wdF (rowO T))).length ∧ (splF (wdF (rowO T))).length ≤ 700) := ⟨by
    have h1 := spM_len (wdF (rowO T)) (wdF (rowO T)).length
    rw [spM_all] at h1
    have := HWL.out
    exact ⟨by unfold splF; simp, by omega⟩⟩
  have HQ : Box' (∀ wq uW, OwnW w10.heap.size wq uW (wdF (rowO T)) → Calls Try.prog 38 #[uW] wq fun e w' => ∃ u, e = .returned u ∧ OwnP wq.heap.size w' u (splF (wdF (rowO T))) ∧ Below wq.heap.size wq w') := ⟨fun wq uW oW => spelled_is wq uW (wdF (rowO T)) (by have := HWL.out; omega) WB.out.2 oW.wds⟩
  generalize (oS T ++ oD T).length = rn at *
  generalize splF (wdF (rowO T)) = SP at *
  clear WB HWL
  generalize wdF (rowO T) = WD at *
  clear hI10 RL hrl I9 O9 B9 N9 C9 C8 I8 O8 B8 N8 O7 B7 hv10 I10 M1 M2 RB
  go_wp2_with fail
  refine L7.out.mono ?_
  rintro e w11 ⟨uW, rfl, oW, b11⟩
  have O11 := Box'.mk (O10.out.below b11)
  have B11 := Box'.mk (B10.out.trans (b11.mono N10.out))
  have N11 := Box'.mk (Nat.le_trans N10.out b11.size)
  have L8 := Box'.mk (HQ.out w11 uW oW)
  obtain ⟨wa, wcp, rfl⟩ := oW.slice
  generalize WD.length = wn at *
  clear L7 O10 B10 N10 oW b11 HQ
  go_wp2_with fail
  refine L8.out.mono ?_
  rintro e w12 ⟨uP, rfl, oP, b12⟩
  have O12 := Box'.mk (O11.out.below b12)
  have B12 := Box'.mk (B11.out.trans (b12.mono N11.out))
  have N12 := Box'.mk (Nat.le_trans N11.out b12.size)
  have hsp := HP.out
  obtain ⟨gP, capP, rfl, hgP, hcP, hcells⟩ := oP.cells hsp.1
  have CP := Box'.mk hcells
  have HSP := Box'.mk hsp.2
  have M12 : Box' (([(5, 3), (sn - 257, 5), (dn - 1, 5)] : List Bt).length + SP.length ≤ 1000000) := ⟨by have := HSP.out; show 3 + _ ≤ _; omega⟩
  obtain ⟨pn, hpn⟩ : ∃ pn, SP.length = pn := ⟨_, rfl⟩
  have HPN := Box'.mk hpn
  rw [hpn]
  clear hpn
  clear L8 O11 B11 N11 oP b12 hcells hsp
  go_wp2_with (first
    | (refine wpList_appP rfl (.tmp 47) (.tmp 50) rfl N6 N12.out _ _ rfl O12.out _ _ _ SP rfl HPN.out CP.out M12.out ?_; intro v13 w13 o13 gr13 ow13; rw [HD.out] at o13; have O13 := Box'.mk o13; have B13 := Box'.mk (below_grownP B12.out (Nat.le_of_eq H6.out.symm) O12.out gr13); have N13 := Box'.mk (Nat.le_trans N12.out gr13.size); clear o13 gr13 ow13)
    | fail)
  obtain ⟨va, vcp, hv13⟩ := O13.out.slice
  have hhd : 0 < (hdO T).length := by unfold hdO; simp
  have HHD := Box'.mk hhd
  have R13 := Box'.mk (R6.out.below B13.out (by rw [← H6.out]; exact R6.out.lt))
  have I1 : Ints w13.heap.size w13 (.slice (some ⟨p1, o1, none⟩) sn 286) (oS T) := ⟨some ⟨p1, o1, none⟩, 286, by rw [E1.out], by rw [E1.out]; omega, .inr ⟨p1, o1, rfl, Nat.lt_of_lt_of_le hp16 B13.out.size, fun k hk => by
    rw [E1.out] at hk
    rw [B13.out.cell (p := ⟨p1, o1 + k, none⟩) (by rw [← H6.out]; exact hp16), HC16.out k (by omega)]
    unfold oS
    rw [HSN.out, getD_take hk]⟩⟩
  have I2 : Ints w13.heap.size w13 (.slice (some ⟨p2, o2, none⟩) dn 30) (oD T) := ⟨some ⟨p2, o2, none⟩, 30, by rw [E2.out], by rw [E2.out]; omega, .inr ⟨p2, o2, rfl, Nat.lt_of_lt_of_le hp26 B13.out.size, fun k hk => by
    rw [E2.out] at hk
    rw [B13.out.cell (p := ⟨p2, o2 + k, none⟩) (by rw [← H6.out]; exact hp26), HC26.out k (by omega)]
    unfold oD
    rw [HDN.out, getD_take hk]⟩⟩
  have L9 := Box'.mk (newWay_is w13 va (hdO T).length vcp _ _ (oS T) (oD T) (by rw [E1.out]; omega) (by rw [E2.out]; omega) OL.out.soc OL.out.doc I1 I2)
  rw [← hv13] at L9
  have hwN : w.heap.size ≤ N6 := by rw [← H6.out]; exact B6.out.size
  have HBW := Box'.mk (B6.out.trans (B13.out.mono hwN))
  have HV13 := Box'.mk hv13
  clear I1 I2 hv13 hhd
  rw [E1.out, E2.out] at L9
  refine L9.out.mono ?_
  rintro e w14 ⟨g1, g2, rfl, hg1, hg2, r1, r2, b14⟩
  have R14 := Box'.mk (R13.out.below b14 R13.out.lt)
  have B14 := Box'.mk (HBW.out.trans (b14.mono HBW.out.size))
  have O14 := Box'.mk (O13.out.below b14)
  have RA := Box'.mk r1
  have RBB := Box'.mk r2
  have HR6 : Box' (Room w14 w.heap.size 50 3) := ⟨⟨_, R14.out, rfl⟩⟩
  have h1c : (#[v13, .slice (some ⟨g1, 0, none⟩) sn sn, .slice (some ⟨g2, 0, none⟩) dn dn] : Array Value).all (·.oneCell') = true := by rw [HV13.out]; simp [Value.oneCell']
  have H1C := Box'.mk h1c
  clear L9 r1 r2 b14 R13 HBW O13 h1c
  go_wp2_with (first
    | (refine wpList_store_gen rfl 50 _ _ rfl _ rfl #[v13, .slice (some ⟨g1, 0, none⟩) sn sn, .slice (some ⟨g2, 0, none⟩) dn dn] rfl _ _ HR6.out Try.size50 rfl H1C.out ?_; intro W0 hW0; have HW0 := Box'.mk hW0; clear hW0)
    | fail)
  try simp only [Exit.inBlock, Exit.then]
  have RW : Row W0 w.heap.size 50 #[v13, .slice (some ⟨g1, 0, none⟩) sn sn, .slice (some ⟨g2, 0, none⟩) dn dn] := by rw [HW0.out]; exact R14.out.setRow _
  have RA0 : Row W0 g1 73 (agp (cds (oS T) sn)) := by rw [HW0.out]; exact RA.out.setRowOther _ _ (row_ne2 RA.out R14.out (by decide))
  have RB0 : Row W0 g2 73 (agp (cds (oD T) dn)) := by rw [HW0.out]; exact RBB.out.setRowOther _ _ (row_ne2 RBB.out R14.out (by decide))
  have O0 : OwnP N6 W0 v13 (hdO T) := O14.out.keep fun q c _ hr => by rw [HW0.out]; exact hr.setRowOther _ _ (row_ne2 hr R14.out (by decide))
  refine bodyPost_ret (results_row rfl _ _ rfl _ _ RW _ Try.underlying50 rfl 3 Try.size50 rfl) rfl ⟨_, rfl, ⟨v13, g1, g2, by rw [E1.out, E2.out], O0.bts HHD.out, RA0.lt, RB0.lt, by rw [E1.out]; exact RA0, by rw [E2.out]; exact RB0⟩, ?_⟩
  rw [HW0.out]; exact below_setRow B14.out (Nat.le_refl _) _
end Go.Proofs.Ytcjfaahlchbcmaa
