/- The walk of Lengths. -/
import Derived.Test.YtcjfaahlchbcmaaK36
import Derived.Test.YtcjfaahlchbcmaaK05
import Derived.Test.YtcjfaahlchbcmaaK01
import Derived.Test.YtcjfaahlchbcmaaK09
import Derived.Test.YtcjfaahlchbcmaaK06
namespace Go.Proofs.Ytcjfaahlchbcmaa
open Go.RowKit Go.BigFrame
set_option maxRecDepth 100000 in
theorem badE_all (cs : List Int) : (cs.all Gf.cntB = false → Gf.badE cs = 2) ∧ (cs.all Gf.cntB = true → 512 < cs.length → Gf.badE cs = 4) ∧ (cs.all Gf.cntB = true → cs.length ≤ 512 → Gf.badE cs = 0) := by
  refine ⟨fun h => if_pos h, fun h h2 => ?_, fun h h2 => ?_⟩
  · unfold Gf.badE; rw [if_neg (by simp [h]), if_pos h2]
  · unfold Gf.badE; rw [if_neg (by simp [h]), if_neg (by omega)]
theorem SegI.zeros (w : World) (n : Nat) : SegI (w.alloc (.cells (ai (List.replicate n 0)) 3)) w.heap.size (tl n fun _ => 0) := by
  refine ⟨_, Row.new _ _ _, fun k hk => ?_⟩
  rw [tl_len] at hk
  rw [tl_get _ _ _ hk]
  simp [ai, hk]
def LenOk (w : World) (cs : List Int) (mz : Int) (e : Ending) (w' : World) : Prop :=
  ∃ u, e = .returned (.tuple #[u, .int .i64 (lstE cs mz)]) ∧ (lstE cs mz ≠ 0 → u = .slice none 0 0) ∧ (lstE cs mz = 0 → Ints w'.heap.size w' u (lenF cs mz.toNat) ∧ ∃ a, u = .slice a cs.length cs.length) ∧ Below w.heap.size w w'
set_option maxRecDepth 100000 in
theorem LenOk.bad {w w' : World} {cs : List Int} {mz : Int} {E : Int} (h : lstE cs mz = E) (h0 : E ≠ 0) (hb : Below w.heap.size w w') : LenOk w cs mz (.returned (.tuple #[.slice none 0 0, .int .i64 E])) w' :=
  ⟨_, by rw [h], fun _ => rfl, fun e => absurd (h.symm.trans e) h0, hb⟩
set_option maxRecDepth 100000 in
set_option maxHeartbeats 4000000 in
theorem lengths_any (v : Value) (cs : List Int) (hl : cs.length ≤ 17592186044416) (m : Nat) (hm1 : 1 ≤ m) (hm : m ≤ 15) (hE2 : Gf.badE cs ≠ 2) (w : World) (h : Ints w.heap.size w v cs) :
    Calls Try.prog 36 #[v, .int .i64 (m : Int)] w (LenOk w cs (m : Int)) := by
  have BA := badE_all cs
  have hall : cs.all Gf.cntB = true := by
    cases hc : cs.all Gf.cntB with
    | false => exact absurd (BA.1 hc) hE2
    | true => rfl
  have hb := areCounts_any v cs hl w h
  rw [hall] at hb
  have hd1 : decide ((m : Int) < 1) = false := decide_eq_false (by omega)
  have hd2 : decide ((15 : Int) < (m : Int)) = false := decide_eq_false (by omega)
  by_cases h5 : 512 < cs.length
  · have e1 := (lst_lim cs m (by omega) (.inl (by rw [BA.2.1 hall h5]; decide))).1
    have FIN : Box' (LenOk w cs m (.returned (.tuple #[.slice none 0 0, .int .i64 4])) w) := ⟨LenOk.bad e1 (by decide) (Below.refl _ _)⟩
    obtain ⟨a, c, rfl, hc, h3⟩ := h
    generalize cs.length = n at *
    have hd3 : (512 : Int) < (n : Int) := by omega
    clear BA hall e1 h3 hE2
    go_enter Try.func36, Try.ntmps36
    go_wp2_with (go_at_call 58; refine hb.mono ?_; rintro e w' ⟨rfl, hw'⟩; rw [hw'])
    go_ret2
    exact FIN.out
  · have hb0 := BA.2.2 hall (by omega)
    have hc := coming_any v cs (by omega) w h
    have PW := Box'.mk (pow_wrap' m (by omega))
    have hpw1 : (2 : Nat) ^ m ≤ 32768 := Nat.le_trans (Nat.pow_le_pow_right (by decide) hm) (by decide)
    have PR := posl_rising cs
    have LIM : Box' (2 ^ m < (rising cs).length → lstE cs m = 4) := ⟨fun hh => (lst_lim cs m (by omega) (.inr (by rw [Int.toNat_natCast, PR]; exact hh))).1⟩
    have LOK : Box' (¬ 2 ^ m < (rising cs).length → lstE cs m = 0) := ⟨fun hh => (lst_ok cs m (by omega) (by rw [Int.toNat_natCast, PR]; omega)).1⟩
    have RL512 : (rising cs).length ≤ cs.length := by rw [rising_len]; exact cmg_len cs _
    obtain ⟨a, c, e, hc2⟩ := ints_len h
    subst e
    have H := Box'.mk h
    generalize hn : cs.length = n at *
    have HN := Box'.mk hn
    have hd3 : decide ((512 : Int) < (n : Int)) = false := decide_eq_false (by omega)
    have HA := Box'.mk hall
    clear BA hall hb0 hE2 h PR hn
    go_enter Try.func36, Try.ntmps36
    go_wp2_with (go_at_call 58; refine hb.mono ?_; rintro e w' ⟨rfl, hw'⟩; rw [hw'])
    clear hb
    refine hc.mono ?_
    rintro e w1 ⟨u, rfl, hu, hb1⟩
    clear hc
    have B1 := Box'.mk hb1
    have hz1 := hb1.size
    clear hb1
    have FIN : Box' (∀ u w', lstE cs m = 0 → Ints w'.heap.size w' u (lenF cs m) → (∃ a, u = .slice a n n) → Below w.heap.size w w' → LenOk w cs m (.returned (.tuple #[u, .int .i64 0])) w') := ⟨fun u w' h0 h1 hx h2 => ⟨u, by rw [h0], fun h => absurd h0 h, fun _ => by rw [Int.toNat_natCast, HN.out]; exact ⟨h1, hx⟩, h2⟩⟩
    have FIN4 : Box' (∀ w', lstE cs m = 4 → Below w.heap.size w w' → LenOk w cs m (.returned (.tuple #[.slice none 0 0, .int .i64 4])) w') := ⟨fun w' h0 h2 => LenOk.bad h0 (by decide) h2⟩
    have ZS := SegI.zeros w1 n
    have ZB := (Below.refl w1.heap.size w1).alloc (Nat.le_refl _) (.cells (ai (List.replicate n 0)) 3)
    have hM := ms_ok cs HA.out m hm1 hm
    have HM := Box'.mk hM
    clear hM
    rcases hu with ⟨hr0, rfl⟩ | ⟨hrne, g, cr, rfl, hcr, hg, hs1⟩
    · have hL0 : (rising cs).length = 0 := by rw [hr0]; rfl
      have h0 := LOK.out (by rw [hL0]; exact Nat.not_lt_zero _)
      have eF : lenF cs m = tl n fun _ => 0 := by
        unfold lenF outF msOf
        rw [if_pos hL0, HN.out]; rfl
      have hI := ZS.ints (c := n) (by rw [tl_len]; omega)
      rw [tl_len, ← eF] at hI
      have RES := Box'.mk (FIN.out _ _ h0 hI ⟨_, rfl⟩ ((B1.out.trans (ZB.mono hz1))))
      have hP1 : ¬ (wrap64 (2 ^ m) : Int) < 0 := by rw [PW.out]; exact Int.not_lt.2 (Int.natCast_nonneg _)
      clear ZS ZB FIN FIN4 LIM LOK h0 eF hI hL0 hr0 PW RL512
      go_wp2_with (refine wpList_make_ints rfl _ _ rfl _ _ n rfl rfl rfl rfl (by omega) ?_)
      go_ret2
      exact RES.out
    · have hLp : 0 < (rising cs).length := List.length_pos_iff.2 hrne
      have MO : Box' (msOf cs m = if (rising cs).length = 0 then [] else if (rising cs).length = 1 then [1] else msF cs (rising cs) m (2 * (rising cs).length - 2)) := ⟨rfl⟩
      have CND : Box' (2 ≤ (rising cs).length → Cond cs (rising cs) (rising cs).length) := ⟨fun h2 => rising_cond cs HA.out _ rfl h2⟩
      have TOP : Box' (2 ≤ (rising cs).length → ¬ 2 ^ m < (rising cs).length → 2 * (rising cs).length - 2 ≤ (rowP cs (rising cs) m).length) := ⟨fun h2 h3 => let ⟨_, _, hh⟩ := msF_top (CND.out h2) hm1 (by omega); hh⟩
      have IX : Box' (∀ s ∈ rising cs, ∃ i : Nat, s = (i : Int) ∧ i < n) := ⟨fun s hs => let ⟨i, e, hi, _⟩ := rising_mem cs s hs; ⟨i, e, by rw [← HN.out]; exact hi⟩⟩
      have EF : Box' (lenF cs m = tl n (buyN (rising cs) (msOf cs m))) := ⟨by unfold lenF outF; rw [HN.out]⟩
      have C1 := Box'.mk (cnt_take (rising cs) 0 hLp)
      have IS1 := Box'.mk (hs1.ints hcr)
      have S1 := Box'.mk hs1
      have MK : Box' (2 ≤ (rising cs).length → ∀ W, Below w1.heap.size w1 W → Calls Try.prog 61 #[.slice a n c, .slice (some ⟨g, 0, none⟩) (rising cs).length cr, .int .i64 (m : Int)] W fun e w' => ∃ gb c d, e = .returned (.slice (some ⟨gb, 0, none⟩) m c) ∧ m ≤ c ∧ d.length = m ∧ W.heap.size ≤ gb ∧ gb < w'.heap.size ∧ (∀ j x, d[j]? = some x → w'.cell? ⟨gb, j, none⟩ = some x) ∧ RowsAt w' cs (rising cs) d ∧ Below W.heap.size W w') := ⟨fun h2 W hW =>
        market_any _ _ cs (rising cs) _ m hm1 hm (by rw [HN.out]; omega) (CND.out h2) (by omega) (by intro s hs; rw [HN.out]; exact IX.out s hs) W ((H.out.on B1.out).on hW) (IS1.out.on hW)⟩
      generalize hL : (rising cs).length = L at *
      have HL := Box'.mk hL
      clear hL hs1 hrne
      by_cases hbig : 2 ^ m < L
      · have RES := Box'.mk (FIN4.out w1 (LIM.out hbig) B1.out)
        have hP1 : (wrap64 (2 ^ m) : Int) < (L : Int) := by rw [PW.out]; omega
        clear ZS ZB FIN FIN4 LIM LOK PW MO CND TOP IX EF C1 IS1 S1 MK hbig HM
        go_wp2_with fail
        go_ret2
        exact RES.out
      · have h0 := Box'.mk (LOK.out hbig)
        have hP1 : ¬ (wrap64 (2 ^ m) : Int) < (L : Int) := by rw [PW.out]; omega
        have mo := MO.out
        rw [if_neg (by omega)] at mo
        by_cases hL1 : L = 1
        · subst hL1
          rw [if_pos rfl] at mo
          obtain ⟨s, hsv, hsn⟩ := IX.out ((rising cs).getD 0 0) (by
            have h1 : 0 < (rising cs).length := by rw [HL.out]; omega
            simp [h1])
          have c0 := (S1.out.below ZB).cell (k := 0) (by rw [HL.out]; omega)
          rw [hsv] at c0
          have c1 := ZS.cell (k := s) (by rw [tl_len]; exact hsn)
          rw [tl_get _ _ _ hsn] at c1
          have f1 := ZS.frozen s
          have hts : (tl n fun _ => 0).set s 1 = tl n (fun i => 0 + if i = s then 1 else 0) := tl_set n (fun _ => 0) s
          have hset := ZS.set s 1 (by rw [tl_len]; exact hsn)
          rw [hts] at hset
          have eF := EF.out
          rw [mo, tl_congr n (buyN (rising cs) [1]) (fun i => 0 + if i = s then 1 else 0) fun i _ => by
            have := C1.out i s hsv
            simpa [buyN] using this] at eF
          rw [← eF] at hset
          have hI := hset.ints (c := n) (by rw [eF, tl_len]; omega)
          rw [show (lenF cs m).length = n by rw [eF, tl_len]] at hI
          have hbs : Below w.heap.size w ((w1.alloc (.cells (ai (List.replicate n 0)) 3)).setCell ⟨w1.heap.size, s, none⟩ (.int .i64 1)) := (B1.out.trans (ZB.mono hz1)).setCell (p := ⟨w1.heap.size, s, none⟩) hz1 _
          have RES0 := FIN.out _ _ h0.out hI ⟨_, rfl⟩ hbs
          rw [show (w1.alloc (.cells (ai (List.replicate n 0)) 3)).setCell ⟨w1.heap.size, s, none⟩ (.int .i64 1) = w1.alloc (.cells ((ai (List.replicate n 0)).setIfInBounds s (.int .i64 1)) 3) by simp [go_sem]] at RES0
          have RES := Box'.mk RES0
          clear RES0
          clear ZS ZB FIN FIN4 LIM LOK PW MO CND TOP IX EF C1 IS1 S1 MK hbig HM hset hI hbs eF mo hsv h0 hts
          go_wp2_with (refine wpList_make_ints rfl _ _ rfl _ _ n rfl rfl rfl rfl (by omega) ?_)
          go_ret2
          exact RES.out
        · rw [if_neg hL1] at mo
          have h2 : 2 ≤ L := by omega
          have hmk := MK.out h2 _ ZB
          have TOPk := Box'.mk (TOP.out h2 hbig)
          have CNDk := Box'.mk (CND.out h2)
          have MOk := Box'.mk mo
          have hd4 : (1 : Int) < (L : Int) := by omega
          have hd5 : (L == 1) = false := by simpa using hL1
          have ZSB := Box'.mk ZS
          have ZBB := Box'.mk ZB
          have hsz : (w1.alloc (.cells (ai (List.replicate n 0)) 3)).heap.size = w1.heap.size + 1 := by simp
          have HSZ := Box'.mk hsz
          clear ZS ZB FIN4 LIM LOK PW MO CND TOP C1 MK hbig HM mo hsz
          go_wp2_with (refine wpList_make_ints rfl _ _ rfl _ _ n rfl rfl rfl rfl (by omega) ?_)
          refine hmk.mono ?_
          rintro e w3 ⟨gb, cc, d, rfl, hcc, hd, hgb1, hgb2, hcl, hrw, hb3⟩
          clear hmk
          rw [HSZ.out] at hgb1 hb3
          have hsp := spend_any w1.heap.size n n gb cc (.slice (some ⟨g, 0, none⟩) L cr) cs (rising cs) L m hm CNDk.out (by omega) (by omega) TOPk.out IX.out d hd hcc w3
            (by
              have i1 := IS1.out.below ZBB.out (Nat.le_refl _)
              exact (i1.below (M := w1.heap.size + 1) hb3 (by omega)))
            (ZSB.out.same (hb3.block _ (by omega))) (by omega) hgb2 hcl hrw
          have B3 := Box'.mk (B1.out.trans ((ZBB.out.mono hz1).trans (hb3.mono (by omega))))
          clear hcl hrw hb3 hd
          go_wp2_with fail
          refine hsp.mono ?_
          rintro e w4 ⟨rfl, hs4, hg4⟩
          clear hsp
          have eF := EF.out
          rw [MOk.out] at eF
          rw [← eF] at hs4
          have hI := hs4.ints (c := n) (by rw [eF, tl_len]; omega)
          rw [show (lenF cs m).length = n by rw [eF, tl_len]] at hI
          have RES := Box'.mk (FIN.out _ _ h0.out hI ⟨_, rfl⟩ (hg4.on B3.out hz1 (Nat.le_refl _)))
          clear hs4 hg4 eF hI FIN EF ZSB ZBB IX IS1 S1
          go_wp2_with fail
          go_ret2
          exact RES.out
end Go.Proofs.Ytcjfaahlchbcmaa
