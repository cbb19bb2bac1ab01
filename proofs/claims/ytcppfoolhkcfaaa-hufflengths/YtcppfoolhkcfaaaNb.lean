/- The walk of the reference's Least. -/
import Derived.Test.YtcppfoolhkcfaaaNa
namespace Go.Proofs.Ytcppfoolhkcfaaa
open Go.RowKit Go.BigFrame

theorem badE_cases (cs : List Int) : Gf.badE cs = 0 ∨ Gf.badE cs = 2 ∨ Gf.badE cs = 4 := by
  unfold Gf.badE
  split
  · exact .inr (.inl rfl)
  · split
    · exact .inr (.inr rfl)
    · exact .inl rfl
theorem lst_arg (cs : List Int) (mz : Int) (h : Gf.badE cs = 2 ∨ mz < 1 ∨ 15 < mz) : lstE cs mz = 2 ∧ lstN cs mz = 0 := by
  have e : lstE cs mz = 2 := if_pos h
  exact ⟨e, by unfold lstN; rw [e]; rfl⟩
theorem lst_lim (cs : List Int) (mz : Int) (h : ¬ (Gf.badE cs = 2 ∨ mz < 1 ∨ 15 < mz)) (h2 : Gf.badE cs ≠ 0 ∨ 2 ^ mz.toNat < (posl cs cs.length).length) : lstE cs mz = 4 ∧ lstN cs mz = 0 := by
  have e : lstE cs mz = 4 := by unfold lstE; rw [if_neg h, if_pos h2]
  exact ⟨e, by unfold lstN; rw [e]; rfl⟩
theorem lst_ok (cs : List Int) (mz : Int) (h : ¬ (Gf.badE cs = 2 ∨ mz < 1 ∨ 15 < mz)) (h2 : ¬ (Gf.badE cs ≠ 0 ∨ 2 ^ mz.toNat < (posl cs cs.length).length)) : lstE cs mz = 0 ∧ lstN cs mz = leastN cs mz.toNat := by
  have e : lstE cs mz = 0 := by unfold lstE; rw [if_neg h, if_neg h2]
  exact ⟨e, by unfold lstN; rw [if_pos e]⟩
theorem run_buildI (w : World) (n : Int) : (Instr.buildSlice 22 1 #[(0, .int .i64 n)]).run Try.prog w = .ok (.slice (some ⟨w.heap.size, 0, none⟩) 1 1) (w.alloc (.cells #[.int .i64 n] 3)) := by
  simp [go_sem, Instr.buildSlice]
theorem wp_buildI {op : Oper} {a : Act} {w : World} {K : Act → World → Prop} {Q : Exit → Act → World → Prop} (x : Operand) (ho : op.op = .buildSlice 22 1 #[(0, x)]) (n : Int) (hx : a.eval x = .int .i64 n)
    (h : K (a.put op.dst (.slice (some ⟨w.heap.size, 0, none⟩) 1 1)) (w.alloc (.cells #[.int .i64 n] 3))) : op.wp Try.prog a w K Q := by
  have hrun := run_buildI w n
  unfold Oper.wp execOp
  simp only [ho, List.map_toArray, List.map_cons, List.map_nil, hx, Sem.run_bind, hrun, Result.andThen_ok]
  exact h
/-- What is known of the reference's rows. -/
structure LvlOk (cs : List Int) (L : Nat) : Prop where
  val : ∀ j, j ≤ 15 → ∀ x ∈ lvl cs j, 0 ≤ x ∧ x ≤ 1125899906842624
  len : ∀ j, j ≤ 15 → 2 ≤ (lvl cs j).length ∧ (lvl cs j).length ≤ 1100
  top : ∀ m, 1 ≤ m → L ≤ 2 ^ m → 2 * L - 2 ≤ (lvl cs (m - 1)).length

set_option maxRecDepth 100000 in
set_option maxHeartbeats 4000000 in
theorem leastArg_any (v : Value) (cs : List Int) (hl : cs.length ≤ 17592186044416) (mz : Int) (hbad : Gf.badE cs = 2 ∨ mz < 1 ∨ 15 < mz) (w : World) (h : Ints w.heap.size w v cs) :
    Calls Try.prog 17 #[v, .int .i64 mz] w fun e w' => e = .returned (.tuple #[.int .i64 (lstN cs mz), .int .i64 (lstE cs mz)]) ∧ Below w.heap.size w w' := by
  have hb := badCounts_any v cs hl w h
  obtain ⟨e1, e2⟩ := lst_arg cs mz hbad
  rw [e1, e2]
  clear e1 e2 h
  by_cases hE : Gf.badE cs = 2
  · rw [hE] at hb
    clear hbad hE
    go_enter Try.func17, Try.ntmps17
    go_wp2_with (go_at_call 37; refine hb.mono ?_; rintro e w' ⟨rfl, hw'⟩; rw [hw'])
    go_ret2
    exact ⟨rfl, Below.refl _ _⟩
  · have hE2 : (Gf.badE cs == 2) = false := by simpa using hE
    have hbad : mz < 1 ∨ 15 < mz := by rcases hbad with h | h; exact absurd h hE; exact h
    generalize Gf.badE cs = E at *
    by_cases h1 : mz < 1
    · clear hbad
      go_enter Try.func17, Try.ntmps17
      go_wp2_with (go_at_call 37; refine hb.mono ?_; rintro e w' ⟨rfl, hw'⟩; rw [hw'])
      go_ret2
      exact ⟨rfl, Below.refl _ _⟩
    · have h2 : 15 < mz := by omega
      clear hbad
      go_enter Try.func17, Try.ntmps17
      go_wp2_with (go_at_call 37; refine hb.mono ?_; rintro e w' ⟨rfl, hw'⟩; rw [hw'])
      go_ret2
      exact ⟨rfl, Below.refl _ _⟩

set_option maxRecDepth 100000 in
set_option maxHeartbeats 8000000 in
theorem least_any (v : Value) (cs : List Int) (hl : cs.length ≤ 17592186044416) (m : Nat) (hm1 : 1 ≤ m) (hm : m ≤ 15) (hE2 : Gf.badE cs ≠ 2) (hlv : Gf.badE cs = 0 → 2 ≤ (posl cs cs.length).length → LvlOk cs (posl cs cs.length).length) (h512 : Gf.badE cs = 0 → cs.length ≤ 512) (w : World) (h : Ints w.heap.size w v cs) :
    Calls Try.prog 17 #[v, .int .i64 (m : Int)] w fun e w' => e = .returned (.tuple #[.int .i64 (lstN cs m), .int .i64 (lstE cs m)]) ∧ Below w.heap.size w w' := by
  have hb := badCounts_any v cs hl w h
  have hc3 := badE_cases cs
  have LL : Box' (Gf.badE cs ≠ 0 ∨ 2 ^ m < (posl cs cs.length).length → lstE cs m = 4 ∧ lstN cs m = 0) := ⟨fun hh => lst_lim cs m (by omega) (by rw [Int.toNat_natCast]; exact hh)⟩
  have LO : Box' (¬ (Gf.badE cs ≠ 0 ∨ 2 ^ m < (posl cs cs.length).length) → lstE cs m = 0 ∧ lstN cs m = leastN cs m) := ⟨fun hh => by have := lst_ok cs m (by omega) (by rw [Int.toNat_natCast]; exact hh); rwa [Int.toNat_natCast] at this⟩
  have LV := Box'.mk hlv
  have H5 := Box'.mk h512
  have PW := Box'.mk (pow_wrap' m (by omega))
  have hpw1 : (2 : Nat) ^ m ≤ 32768 := Nat.le_trans (Nat.pow_le_pow_right (by decide) hm) (by decide)
  obtain ⟨a, c, rfl, hc, h3⟩ := h
  have HCL := Box'.mk (Ints.cells h3)
  have PO := Box'.mk (posl_on cs)
  have PF := Box'.mk (posl_off cs)
  have PL := Box'.mk (posl_len cs)
  have LE0 : Box' (leastN cs m = if (posl cs cs.length).length = 0 then 0 else if (posl cs cs.length).length = 1 then (posl cs cs.length).getD 0 0 else ((lvl cs (m - 1)).take (2 * (posl cs cs.length).length - 2)).sum) := ⟨rfl⟩
  have LV0 : Box' (lvl cs 0 = sI (posl cs cs.length)) := ⟨rfl⟩
  have LVS : Box' (∀ k, lvl cs (k + 1) = sI (prI (lvl cs k) ++ sI (posl cs cs.length))) := ⟨fun k => rfl⟩
  generalize cs.length = n at *
  have hEb : (Gf.badE cs == 2) = false := by simpa using hE2
  generalize Gf.badE cs = E at *
  clear h3 hlv h512
  have hd1 : decide ((m : Int) < 1) = false := decide_eq_false (by omega)
  have hd2 : decide ((15 : Int) < (m : Int)) = false := decide_eq_false (by omega)
  generalize lstE cs (m : Int) = eE at *
  generalize lstN cs (m : Int) = eN at *
  go_enter Try.func17, Try.ntmps17
  go_wp2_with (go_at_call 37; refine hb.mono ?_; rintro e w' ⟨rfl, hw'⟩; rw [hw'])
  clear hb
  go_loopw [7, 8] (fun t i wr => ∃ k : Nat, k ≤ n ∧ i = .int .i64 (k : Int) ∧ OwnI w.heap.size wr t (posl cs k) ∧ Box' (posl cs k = [] → t = .slice none 0 0) ∧ Below w.heap.size w wr) (fun _ i _ => n - (intOf i).toNat)
  case atStart => exact ⟨0, by omega, rfl, OwnI.nil _ _, ⟨fun _ => rfl⟩, Below.refl _ _⟩
  case round =>
    obtain ⟨k, hk, rfl, hown, HEm, hbl⟩ := hrel
    have hz := hbl.size
    by_cases hlt : k < n
    · obtain ⟨b, o, rfl, hbw, c0⟩ := HCL.out k hlt
      have c1 : wr.cell? ⟨b, o + k, none⟩ = some (.int .i64 (cs.getD k 0)) := by
        rw [hbl.cell (p := ⟨b, o + k, none⟩) (by show b < _; omega)]; exact c0
      have hPL := PL.out k
      by_cases hpos : 0 < cs.getD k 0
      · have POk := Box'.mk (PO.out k hpos)
        generalize cs.getD k 0 = x at *
        have w2o := hown.alloc (.cells #[.int .i64 x] 3)
        have w2r : Row (wr.alloc (.cells #[.int .i64 x] 3)) wr.heap.size 3 #[.int .i64 x] := Row.new _ _ _
        have w2b := hbl.alloc (o := .cells #[.int .i64 x] 3) (by omega)
        have hcell : ∀ j u, ([x].map (Value.int .i64))[j]? = some u → (wr.alloc (.cells #[.int .i64 x] 3)).cell? ((⟨wr.heap.size, 0, none⟩ : Addr).add j) = some u := by
          intro j u hu
          rw [Addr.add_mid, Nat.zero_add, w2r.cell]
          simpa using hu
        have hN2 : w.heap.size ≤ (wr.alloc (.cells #[.int .i64 x] 3)).heap.size := by simp; omega
        have hmx : (posl cs k).length + [x].length ≤ 17592186044416 := by simp; omega
        clear HCL PO PF PL LE0 LV0 LVS LL LO LV H5 c0 hown w2r HEm
        go_wp2_with (refine wpList_append_ints' rfl (.tmp 39) (.tmp 44) rfl w.heap.size hN2 _ (posl cs k) rfl w2o _ _ _ [x] rfl rfl hcell hmx ?_; intro v' w3 o3 b3)
        exact ⟨⟨k + 1, by omega, by go_num, by rw [POk.out]; exact o3, ⟨fun e => by rw [POk.out] at e; simp at e⟩, w2b.trans b3⟩, by simp [intOf]; omega⟩
      · have hpos' : cs.getD k 0 ≤ 0 := by omega
        have PFk := Box'.mk (PF.out k hpos')
        generalize cs.getD k 0 = x at *
        clear HCL PO PF PL LE0 LV0 LVS LL LO LV H5 c0
        go_wp2_with fail
        exact ⟨⟨k + 1, by omega, by go_num, by rw [PFk.out]; exact hown, ⟨fun e => HEm.out (by rw [← PFk.out]; exact e)⟩, hbl⟩, by simp [intOf]; omega⟩
    · obtain rfl : k = n := by omega
      have hpl := PL.out k
      by_cases hE0 : E = 0
      case neg =>
        have hE0b : (E != 0) = true := by simpa using hE0
        obtain ⟨q1, q2⟩ := LL.out (.inl hE0)
        have Q1 := Box'.mk q1
        have Q2 := Box'.mk q2
        clear HCL PO PF PL LE0 LV0 LVS LL LO LV H5 q1 q2 HEm hown hc3 hE0
        go_wp2_with fail
        go_ret2
        exact ⟨by rw [Q1.out, Q2.out]; rfl, hbl⟩
      case pos =>
        subst hE0
        by_cases hem : posl cs k = []
        · obtain rfl := HEm.out hem
          have hL0 : (posl cs k).length = 0 := by rw [hem]; rfl
          obtain ⟨q1, q2⟩ := LO.out (by rw [hL0]; simp)
          have hle := LE0.out
          rw [if_pos hL0] at hle
          rw [hle] at q2
          have Q1 := Box'.mk q1
          have Q2 := Box'.mk q2
          have hP1 : ¬ (wrap64 (2 ^ m) : Int) < 0 := by rw [PW.out]; exact Int.not_lt.2 (Int.natCast_nonneg _)
          clear HCL PO PF PL LE0 LV0 LVS LL LO LV H5 q1 q2 HEm hown hc3 hL0 hem hle PW
          go_wp2_with fail
          go_ret2
          exact ⟨by rw [Q1.out, Q2.out]; rfl, hbl⟩
        · obtain ⟨g, cap, rfl, hg, hcap, hseg⟩ := hown.seg (List.length_pos_iff.2 hem)
          have hLp : 0 < (posl cs k).length := List.length_pos_iff.2 hem
          have SG := Box'.mk hseg
          generalize hL : (posl cs k).length = L at *
          have HL := Box'.mk hL
          clear hL hseg hown hem HEm
          by_cases hbig : 2 ^ m < L
          · obtain ⟨q1, q2⟩ := LL.out (.inr hbig)
            have Q1 := Box'.mk q1
            have Q2 := Box'.mk q2
            have hP1 : (wrap64 (2 ^ m) : Int) < (L : Int) := by rw [PW.out]; omega
            clear HCL PO PF PL LE0 LV0 LVS LL LO LV H5 q1 q2 hc3 PW hbig
            go_wp2_with fail
            go_ret2
            exact ⟨by rw [Q1.out, Q2.out]; rfl, hbl⟩
          · obtain ⟨q1, q2⟩ := LO.out (by omega)
            have hle := LE0.out
            rw [if_neg (by omega)] at hle
            have Q1 := Box'.mk q1
            have hP1 : ¬ (wrap64 (2 ^ m) : Int) < (L : Int) := by rw [PW.out]; omega
            by_cases hL1 : L = 1
            · subst hL1
              rw [if_pos rfl] at hle
              rw [hle] at q2
              have Q2 := Box'.mk q2
              have c0 := SG.out.cell (k := 0) (by rw [HL.out]; omega)
              generalize (posl cs k).getD 0 0 = x at *
              clear HCL PO PF PL LE0 LV0 LVS LL LO LV H5 q1 q2 hc3 PW hbig hle
              go_wp2_with fail
              go_ret2
              exact ⟨by rw [Q1.out, Q2.out]; rfl, hbl⟩
            · rw [if_neg hL1] at hle
              have LVK := LV.out rfl (by omega)
              have hn512 := H5.out rfl
              rw [hle] at q2
              have Q2 := Box'.mk q2
              have hso := refSort_any _ (posl cs k) (by rw [HL.out]; omega) (by rw [HL.out]; omega) wr (SG.out.ints (by rw [HL.out]; exact hcap))
              rw [HL.out] at hso
              have TOP := Box'.mk (LVK.top m hm1 (by omega))
              have LVK := Box'.mk LVK
              have hm1i : (1 : Int) ≤ (m : Int) := by omega
              have h2b : (L == 1) = false := by simpa using hL1
              have h2c : 2 ≤ L := by omega
              have hd4 : decide ((L : Int) < 2) = false := decide_eq_false (by omega)
              have hd5 : decide ((wrap64 (2 ^ m) : Int) < (L : Int)) = false := decide_eq_false hP1
              have hL5 : L ≤ 512 := by omega
              clear HCL PO PF PL LE0 LL LO LV H5 q1 q2 hc3 PW hbig hle hL1 hn512 hLp SG
              go_wp2_with fail
              refine hso.mono ?_
              rintro e w1 ⟨g1, c1, rfl, hc1, hg1, hs1, hb1⟩
              clear hso
              have hb01 := hbl.trans (hb1.mono hz)
              have hz1 := hb01.size
              have S1 := Box'.mk hs1
              have B1 := Box'.mk hb01
              have hown1 := OwnI.made w1
              have b1a := (Below.refl w1.heap.size w1).alloc (Nat.le_refl _) (.cells #[] 3)
              have hcell1 := (hs1.below b1a).cells
              have HLs : Box' ((Gs.isr (fun x : Int => x) (posl cs k)).length = L) := ⟨by rw [Gs.isr_len]; exact HL.out⟩
              have hN3 : w1.heap.size ≤ (w1.alloc (.cells #[] 3)).heap.size := by simp
              have hmx1 : ([] : List Int).length + (Gs.isr (fun x : Int => x) (posl cs k)).length ≤ 17592186044416 := by rw [HLs.out]; simp; omega
              have BA1 : Box' (Below w1.heap.size w1 (w1.alloc (.cells #[] 3))) := ⟨b1a⟩
              clear hb1 hb01 b1a hs1 hbl hz
              go_wp2_with (refine wpList_append_ints' rfl (.tmp 67) (.tmp 68) rfl w1.heap.size hN3 _ [] rfl hown1 _ _ _ (Gs.isr (fun x : Int => x) (posl cs k)) rfl HLs.out hcell1 hmx1 ?_; intro v2 w2 o2 b2)
              rw [List.nil_append] at o2
              obtain ⟨g2, c2, rfl, hg2, hc2, hs2⟩ := o2.seg (by rw [HLs.out]; omega)
              have b12 := BA1.out.trans b2
              have S2 := Box'.mk (show SegI w2 g2 (lvl cs 0) by rw [LV0.out]; exact hs2)
              have LL0 : Box' ((lvl cs 0).length = L) := ⟨by rw [LV0.out]; exact HLs.out⟩
              rw [HLs.out] at hc2 ⊢
              clear hcell1 hown1 BA1 b2 o2 hN3 hmx1 hs2
              go_loopw [10, 11] (fun t i wr => ∃ (kk ll g2 c2 : Nat), kk + 1 ≤ m ∧ i = .int .i64 ((kk : Int) + 1) ∧ t = .slice (some ⟨g2, 0, none⟩) ll c2 ∧ Box' ((lvl cs kk).length = ll) ∧ ll ≤ c2 ∧ SegI wr g2 (lvl cs kk) ∧ Below w1.heap.size w1 wr) (fun _ i _ => m + 1 - (intOf i).toNat)
              case atStart => exact ⟨0, L, g2, c2, by omega, rfl, rfl, ⟨LL0.out⟩, hc2, S2.out, b12⟩
              case round =>
                clear S2 LL0 b12 hc2 hg2
                obtain ⟨kk, ll, g2, c2, hkk, rfl, rfl, HLL, hc2, hs2, hbl⟩ := hrel
                have S2 := Box'.mk hs2
                have LVL := Box'.mk (LVK.out.len kk (by omega))
                have VAL := Box'.mk (LVK.out.val kk (by omega))
                have hll := LVL.out
                rw [HLL.out] at hll
                obtain ⟨hll1, hll2⟩ := hll
                by_cases hlt : kk + 1 < m
                · have hd6 : decide ((kk : Int) + 1 < (m : Int)) = true := decide_eq_true (by omega)
                  have LSk := Box'.mk (LVS.out kk)
                  have TW : Box' (∀ W, Below w1.heap.size w1 W → SegI W g1 (Gs.isr (fun x : Int => x) (posl cs k))) := ⟨fun W hW => S1.out.below hW⟩
                  generalize hlk : lvl cs kk = l at *
                  obtain ⟨wo, hwo⟩ : ∃ wo, wo = wr := ⟨_, rfl⟩
                  subst hwo
                  have BW := Box'.mk hbl
                  have hgl := hs2.lt
                  have hzo := hbl.size
                  have CLL : Box' (∀ q, q < ll → wo.cell? ⟨g2, q, none⟩ = some (.int .i64 (l.getD q 0)) ∧ 0 ≤ l.getD q 0 ∧ l.getD q 0 ≤ 1125899906842624) := ⟨fun q hq => by
                    have hq' : q < l.length := by rw [HLL.out]; exact hq
                    refine ⟨S2.out.cell hq', ?_⟩
                    have e : l.getD q 0 = l[q] := by simp [hq']
                    rw [e]
                    exact VAL.out _ (List.getElem_mem hq')⟩
                  have PS := Box'.mk (prITo_succ l)
                  have PLn := Box'.mk (prITo_len l)
                  have PE : Box' (prI l = prITo l (ll / 2)) := ⟨by rw [← HLL.out]; exact prI_eq l⟩
                  clear hs2 hbl S2 VAL LVL LVS hlk
                  go_wp2_with fail
                  go_loopw [12, 13] (fun t i wr => ∃ j q : Nat, Box' (q = 2 * j) ∧ q ≤ ll ∧ i = .int .i64 (q : Int) ∧ OwnI wo.heap.size wr t (prITo l j) ∧ Below wo.heap.size wo wr) (fun _ i _ => ll + 2 - (intOf i).toNat)
                  case atStart => exact ⟨0, 0, ⟨rfl⟩, by omega, rfl, by simpa [prITo] using OwnI.nil _ _, Below.refl _ _⟩
                  case round =>
                    obtain ⟨j, q, HQ, hq, rfl, hown, hbl⟩ := hrel
                    have hz := hbl.size
                    by_cases hlt2 : q + 1 < ll
                    · obtain ⟨c0, h11, h12⟩ := CLL.out q (by omega)
                      obtain ⟨c1, h21, h22⟩ := CLL.out (q + 1) hlt2
                      have PSj := PS.out j
                      rw [← HQ.out] at PSj
                      have PSj := Box'.mk PSj
                      have hPL := PLn.out j
                      have CB : Box' (∀ W, Below wo.heap.size wo W → W.cell? ⟨g2, q, none⟩ = some (.int .i64 (l.getD q 0)) ∧ W.cell? ⟨g2, q + 1, none⟩ = some (.int .i64 (l.getD (q + 1) 0))) := ⟨fun W hW => by
                        obtain ⟨hc0, -⟩ := bcell hW
                        exact ⟨by rw [hc0 _ _ hgl]; exact c0, by rw [hc0 _ _ hgl]; exact c1⟩⟩
                      have hmx : (prITo l j).length + 1 ≤ 17592186044416 := by rw [hPL]; have := HQ.out; omega
                      generalize l.getD q 0 = x1 at *
                      generalize l.getD (q + 1) 0 = x2 at *
                      have hd7 : decide ((q : Int) + 1 < (ll : Int)) = true := decide_eq_true (by omega)
                      have HQ2 : Box' (q + 2 = 2 * (j + 1)) := ⟨by have := HQ.out; omega⟩
                      clear CLL PS PLn PE c0 c1 HQ hPL TW BW S1 LV0 LVK TOP HL HLL HLs Q1 Q2 B1 LSk
                      go_wp2_with fail
                      refine wp_region_grow 12 (by kernel_rfl) (by kernel_rfl) (fun w1 w2 => Below w1.heap.size w1 w2) (fun w1 => OwnI wo.heap.size w1 u12 (prITo l j) ∧ Below wo.heap.size wo w1) (fun k w1 v => match k with
                        | 0 => v = u12
                        | 1 => v = .slice (some ⟨g2, 0, none⟩) ll c2
                        | 2 => v = .int .i64 (q : Int)
                        | 3 => v = .pointer (some ⟨g2, q, none⟩)
                        | 4 => v = .int .i64 x1
                        | 5 => v = .slice (some ⟨g2, 0, none⟩) ll c2
                        | 6 => v = .int .i64 (q : Int)
                        | 7 => v = .int .i64 ((q : Int) + 1)
                        | 8 => v = .pointer (some ⟨g2, q + 1, none⟩)
                        | 9 => v = .int .i64 x2
                        | 10 => v = .int .i64 (x1 + x2)
                        | 11 => ∃ blk, v = .slice (some ⟨blk, 0, none⟩) 1 1 ∧ Row w1 blk 3 #[.int .i64 (x1 + x2)]
                        | _ => True) ?_ ?_ ?_ ?_ ?_
                      · rintro w1 w2 hb ⟨q1, q2⟩
                        exact ⟨q1.below hb, q2.trans (hb.mono q2.size)⟩
                      · intro k v w1 w2 hC1 hb h
                        match k, h with
                        | 0, h => exact h
                        | 1, h => exact h
                        | 2, h => exact h
                        | 3, h => exact h
                        | 4, h => exact h
                        | 5, h => exact h
                        | 6, h => exact h
                        | 7, h => exact h
                        | 8, h => exact h
                        | 9, h => exact h
                        | 10, h => exact h
                        | 11, ⟨blk, e1, r1⟩ => exact ⟨blk, e1, r1.below hb r1.lt⟩
                        | k + 12, h => trivial
                      · exact ⟨hown, hbl.drew⟩
                      · refine ⟨?_, ?_, ?_, ?_, ?_, ?_, ?_, ?_, ?_, ?_, ?_, ?_, trivial⟩
                        · intro f w1 hC hd KK hK
                          simp only [List.take_succ_cons, List.take_zero, setAll, List.setIfInBounds_toArray, List.set_cons_succ, List.set_cons_zero, Nat.zero_add, Nat.reduceAdd] at hK ⊢
                          refine wp_of_quiet rfl ?_
                          go_big_quiet_step (fail)
                          exact wpQuiet_nil (hK _ _ rfl (Below.refl _ _))
                        · intro f w1 hC hd KK hK
                          simp only [List.take_succ_cons, List.take_zero, setAll, List.setIfInBounds_toArray, List.set_cons_succ, List.set_cons_zero, Nat.zero_add, Nat.reduceAdd] at hK ⊢
                          refine wp_of_quiet rfl ?_
                          go_big_quiet_step (fail)
                          exact wpQuiet_nil (hK _ _ rfl (Below.refl _ _))
                        · intro f w1 hC hd KK hK
                          simp only [List.take_succ_cons, List.take_zero, setAll, List.setIfInBounds_toArray, List.set_cons_succ, List.set_cons_zero, Nat.zero_add, Nat.reduceAdd] at hK ⊢
                          refine wp_of_quiet rfl ?_
                          go_big_quiet_step (fail)
                          exact wpQuiet_nil (hK _ _ rfl (Below.refl _ _))
                        · intro f w1 hC hd KK hK
                          have g1 : f 1 = _ := hd 1 rfl
                          have g2 : f 2 = _ := hd 2 rfl
                          simp only [List.take_succ_cons, List.take_zero, setAll, List.setIfInBounds_toArray, List.set_cons_succ, List.set_cons_zero, Nat.zero_add, Nat.reduceAdd, g1, g2] at hK ⊢
                          refine wp_of_quiet rfl ?_
                          go_big_quiet_step (fail)
                          exact wpQuiet_nil (hK _ _ rfl (Below.refl _ _))
                        · intro f w1 hC hd KK hK
                          have c4 := (CB.out w1 hC.2).1
                          have g3 : f 3 = _ := hd 3 rfl
                          simp only [List.take_succ_cons, List.take_zero, setAll, List.setIfInBounds_toArray, List.set_cons_succ, List.set_cons_zero, Nat.zero_add, Nat.reduceAdd, g3] at hK ⊢
                          refine wp_of_quiet rfl ?_
                          go_big_quiet_step (fail)
                          exact wpQuiet_nil (hK _ _ rfl (Below.refl _ _))
                        · intro f w1 hC hd KK hK
                          simp only [List.take_succ_cons, List.take_zero, setAll, List.setIfInBounds_toArray, List.set_cons_succ, List.set_cons_zero, Nat.zero_add, Nat.reduceAdd] at hK ⊢
                          refine wp_of_quiet rfl ?_
                          go_big_quiet_step (fail)
                          exact wpQuiet_nil (hK _ _ rfl (Below.refl _ _))
                        · intro f w1 hC hd KK hK
                          simp only [List.take_succ_cons, List.take_zero, setAll, List.setIfInBounds_toArray, List.set_cons_succ, List.set_cons_zero, Nat.zero_add, Nat.reduceAdd] at hK ⊢
                          refine wp_of_quiet rfl ?_
                          go_big_quiet_step (fail)
                          exact wpQuiet_nil (hK _ _ rfl (Below.refl _ _))
                        · intro f w1 hC hd KK hK
                          have g6 : f 6 = _ := hd 6 rfl
                          simp only [List.take_succ_cons, List.take_zero, setAll, List.setIfInBounds_toArray, List.set_cons_succ, List.set_cons_zero, Nat.zero_add, Nat.reduceAdd, g6] at hK ⊢
                          refine wp_of_quiet rfl ?_
                          go_big_quiet_step (fail)
                          exact wpQuiet_nil (hK _ _ rfl (Below.refl _ _))
                        · intro f w1 hC hd KK hK
                          have g5 : f 5 = _ := hd 5 rfl
                          have g7 : f 7 = _ := hd 7 rfl
                          simp only [List.take_succ_cons, List.take_zero, setAll, List.setIfInBounds_toArray, List.set_cons_succ, List.set_cons_zero, Nat.zero_add, Nat.reduceAdd, g5, g7] at hK ⊢
                          refine wp_of_quiet rfl ?_
                          go_big_quiet_step (fail)
                          exact wpQuiet_nil (hK _ _ rfl (Below.refl _ _))
                        · intro f w1 hC hd KK hK
                          have c9 := (CB.out w1 hC.2).2
                          have g8 : f 8 = _ := hd 8 rfl
                          simp only [List.take_succ_cons, List.take_zero, setAll, List.setIfInBounds_toArray, List.set_cons_succ, List.set_cons_zero, Nat.zero_add, Nat.reduceAdd, g8] at hK ⊢
                          refine wp_of_quiet rfl ?_
                          go_big_quiet_step (fail)
                          exact wpQuiet_nil (hK _ _ rfl (Below.refl _ _))
                        · intro f w1 hC hd KK hK
                          have g4 : f 4 = _ := hd 4 rfl
                          have g9 : f 9 = _ := hd 9 rfl
                          simp only [List.take_succ_cons, List.take_zero, setAll, List.setIfInBounds_toArray, List.set_cons_succ, List.set_cons_zero, Nat.zero_add, Nat.reduceAdd, g4, g9] at hK ⊢
                          refine wp_of_quiet rfl ?_
                          go_big_quiet_step (fail)
                          exact wpQuiet_nil (hK _ _ rfl (Below.refl _ _))
                        · intro f w1 hC hd KK hK
                          have g10 : f 10 = _ := hd 10 rfl
                          simp only [List.take_succ_cons, List.take_zero, setAll, List.setIfInBounds_toArray, List.set_cons_succ, List.set_cons_zero, Nat.zero_add, Nat.reduceAdd, g10] at hK ⊢
                          refine wp_buildI _ rfl _ rfl ?_
                          exact hK _ _ ⟨_, rfl, Row.new _ _ _⟩ ((Below.refl _ _).alloc (Nat.le_refl _) _)
                      · intro f w1 hC hv
                        have q11 : ∃ blk, f 11 = .slice (some ⟨blk, 0, none⟩) 1 1 ∧ Row w1 blk 3 #[.int .i64 (x1 + x2)] := hv 11 (by decide)
                        have g0 : f 0 = _ := hv 0 (by decide)
                        have g1 : f 1 = _ := hv 1 (by decide)
                        have g2 : f 2 = _ := hv 2 (by decide)
                        have g3 : f 3 = _ := hv 3 (by decide)
                        have g4 : f 4 = _ := hv 4 (by decide)
                        have g5 : f 5 = _ := hv 5 (by decide)
                        have g6 : f 6 = _ := hv 6 (by decide)
                        have g7 : f 7 = _ := hv 7 (by decide)
                        have g8 : f 8 = _ := hv 8 (by decide)
                        have g9 : f 9 = _ := hv 9 (by decide)
                        have g10 : f 10 = _ := hv 10 (by decide)
                        simp only [List.take_succ_cons, List.take_zero, List.drop_succ_cons, List.drop_zero, setAll, List.setIfInBounds_toArray, List.set_cons_succ, List.set_cons_zero, Nat.zero_add, Nat.reduceAdd, g0, g1, g2, g3, g4, g5, g6, g7, g8, g9, g10]
                        clear g0 g1 g2 g3 g4 g5 g6 g7 g8 g9 g10 hv
                        have q1 := hC.1
                        have q2 := hC.2
                        clear hC CB
                        cases q11 with
                        | intro blk q11 =>
                        have g11 := q11.1
                        have r11 := q11.2
                        rw [g11]
                        have hcell : ∀ j u, ([x1 + x2].map (Value.int .i64))[j]? = some u → w1.cell? ((⟨blk, 0, none⟩ : Addr).add j) = some u := by
                          intro j u hu
                          rw [Addr.add_mid, Nat.zero_add, r11.cell]
                          simpa using hu
                        clear g11 q11 r11
                        go_wp2_with (refine wpList_append_ints' rfl (.tmp 82) (.tmp 93) rfl wo.heap.size q2.size _ (prITo l j) rfl q1 _ _ _ [x1 + x2] rfl rfl hcell hmx ?_; intro v' w3 o3 b3)

                        exact ⟨⟨j + 1, q + 2, HQ2, by omega, by go_num, by rw [PSj.out]; exact o3, q2.trans b3⟩, by simp [intOf]; omega⟩

                    · have hjn : ll / 2 = j := by have := HQ.out; omega
                      have hpe := PE.out
                      rw [hjn] at hpe
                      rw [← hpe] at hown
                      have hbw := BW.out.trans (hbl.mono hzo)
                      have s1 := TW.out wr hbw
                      have hcell2 := s1.cells
                      have hPLj := PLn.out j
                      have hmx2 : (prI l).length + (Gs.isr (fun x : Int => x) (posl cs k)).length ≤ 17592186044416 := by rw [hpe, hPLj, HLs.out]; omega
                      have LSl : Box' ((prI l ++ Gs.isr (fun x : Int => x) (posl cs k)).length ≤ 4096 ∧ 0 < (prI l ++ Gs.isr (fun x : Int => x) (posl cs k)).length) := ⟨by rw [List.length_append, hpe, hPLj, HLs.out]; omega⟩
                      have BW2 := Box'.mk hbw
                      clear CLL PS PLn PE hpe TW hjn HQ S1 hPLj BW
                      go_wp2_with (refine wpList_append_ints' rfl (.tmp 95) (.tmp 96) rfl wo.heap.size hz _ (prI l) rfl hown _ _ _ (Gs.isr (fun x : Int => x) (posl cs k)) rfl HLs.out hcell2 hmx2 ?_; intro v4 w4 o4 b4)
                      obtain ⟨g4, c4, rfl, hg4, hc4, hs4⟩ := o4.seg LSl.out.2
                      have hso := refSort_any _ _ LSl.out.2 LSl.out.1 w4 (hs4.ints hc4)
                      have LSk2 : Box' (Gs.isr (fun x : Int => x) (prI l ++ Gs.isr (fun x : Int => x) (posl cs k)) = lvl cs (kk + 1)) := ⟨LSk.out.symm⟩
                      have LSn : Box' ((lvl cs (kk + 1)).length = (prI l ++ Gs.isr (fun x : Int => x) (posl cs k)).length) := ⟨by rw [← LSk2.out, Gs.isr_len]⟩
                      rw [LSk2.out] at hso
                      have b5 := BW2.out.trans (b4.mono hzo)
                      have hz4 := b5.size
                      clear hcell2 o4 hs4 hown s1 hbw hbl
                      generalize (prI l ++ Gs.isr (fun x : Int => x) (posl cs k)).length = l4 at *
                      refine hso.mono ?_
                      rintro e w5 ⟨g5, c5, rfl, hc5, hg5, hs5, hb5⟩
                      clear hso
                      go_wp2_with fail
                      exact ⟨⟨kk + 1, l4, g5, c5, by omega, by go_num, rfl, ⟨LSn.out⟩, hc5, hs5, b5.trans (hb5.mono hz4)⟩, by simp [intOf]; omega⟩
                · obtain rfl : m = kk + 1 := by omega
                  have b5 := B1.out.trans (hbl.mono hz1)
                  have htop := TOP.out
                  rw [show kk + 1 - 1 = kk by omega] at htop
                  have q2k := Q2.out
                  rw [show kk + 1 - 1 = kk by omega] at q2k
                  have Q2k := Box'.mk q2k
                  clear q2k
                  rw [HLL.out] at htop
                  have CLL : Box' (∀ q, q < ll → wr.cell? ⟨g2, q, none⟩ = some (.int .i64 ((lvl cs kk).getD q 0)) ∧ ((lvl cs kk).take (q + 1)).sum = ((lvl cs kk).take q).sum + (lvl cs kk).getD q 0) := ⟨fun q hq => by
                    have hq' : q < (lvl cs kk).length := by rw [HLL.out]; exact hq
                    exact ⟨S2.out.cell hq', sum_take _ _ hq'⟩⟩
                  have SB : Box' (∀ q, q ≤ ll → 0 ≤ ((lvl cs kk).take q).sum ∧ ((lvl cs kk).take q).sum ≤ 1125899906842624 * q) := ⟨fun q hq => sum_bound _ VAL.out q (by rw [HLL.out]; exact hq)⟩
                  clear hs2 hbl S2 VAL LVL LVS LV0 LVK TOP S1 HL HLs
                  go_wp2_with fail
                  go_loop [14, 15] (fun t i => ∃ q : Nat, q ≤ 2 * L - 2 ∧ i = .int .i64 (q : Int) ∧ t = .int .i64 (((lvl cs kk).take q).sum)) (fun _ i => 2 * L - (intOf i).toNat)
                  case atStart => exact ⟨0, by omega, rfl, by simp⟩
                  case round =>
                    obtain ⟨q, hq, rfl, rfl⟩ := hrel
                    by_cases hlt2 : q < 2 * L - 2
                    · obtain ⟨c0, e0⟩ := CLL.out q (by omega)
                      obtain ⟨s1, s2⟩ := SB.out q (by omega)
                      obtain ⟨s3, s4⟩ := SB.out (q + 1) (by omega)
                      have E0 := Box'.mk e0
                      have e1 : 0 ≤ ((lvl cs kk).take q).sum + (lvl cs kk).getD q 0 ∧ ((lvl cs kk).take q).sum + (lvl cs kk).getD q 0 ≤ 4611686018427387904 := by rw [← e0]; omega
                      obtain ⟨e1, e2⟩ := e1
                      clear e0 s3 s4 CLL SB
                      generalize ((lvl cs kk).take q).sum = sv at *
                      generalize (lvl cs kk).getD q 0 = x at *
                      go_wp2_with fail
                      exact ⟨⟨q + 1, by omega, by go_num, by rw [E0.out]⟩, by simp [intOf]; omega⟩
                    · obtain rfl : q = 2 * L - 2 := by omega
                      clear CLL SB
                      go_wp2_with fail
                      go_ret2
                      exact ⟨by rw [Q1.out, Q2k.out]; rfl, b5⟩
end Go.Proofs.Ytcppfoolhkcfaaa
