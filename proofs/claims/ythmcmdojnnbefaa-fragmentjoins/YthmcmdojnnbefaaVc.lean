/- The walk of the reference's Take. -/
import Derived.Test.YthmcmdojnnbefaaVb
namespace Go.Proofs.Ythmcmdojnnbefaa
open Go.RowKit Go.BigFrame
set_option linter.unusedVariables false
set_option linter.unusedSimpArgs false

/-- All blocks but the reference's joiner and its row of parts stay. -/
structure Bq (tb : Nat) (r : Option Nat) (w w' : World) : Prop where
  os : w'.os = w.os
  tape : w'.tape = w.tape
  output : w'.output = w.output
  size : w.heap.size ≤ w'.heap.size
  block : ∀ k, k < w.heap.size → k ≠ tb → r ≠ some k → w'.heap[k]? = w.heap[k]?
theorem Bq.of {tb : Nat} {r : Option Nat} {w w' : World} (h : Below w.heap.size w w') : Bq tb r w w' := ⟨h.os, h.tape, h.output, h.size, fun k hk _ _ => h.block k hk⟩
theorem Bq.then {tb : Nat} {r r' : Option Nat} {a b c : World} (h : Bq tb r a b) (k : Bq tb r' b c) (hr : ∀ j, r' = some j → a.heap.size ≤ j ∨ r = some j) : Bq tb r a c :=
  ⟨k.os.trans h.os, k.tape.trans h.tape, k.output.trans h.output, Nat.le_trans h.size k.size, fun i hi h1 h2 => (k.block i (Nat.lt_of_lt_of_le hi h.size) h1 (fun e => by
    rcases hr i e with h3 | h3
    · omega
    · exact h2 h3)).trans (h.block i hi h1 h2)⟩
theorem Bq.then' {tb : Nat} {r : Option Nat} {a b c : World} (h : Bq tb r a b) (k : Below b.heap.size b c) : Bq tb r a c := h.then (r' := none) (Bq.of k) (fun j h => by cases h)
theorem Bq.below {tb N : Nat} {r : Option Nat} {w w' : World} (h : Bq tb r w w') (hN : N ≤ w.heap.size) (h1 : N ≤ tb) (h2 : ∀ j, r = some j → N ≤ j) : Below N w w' := ⟨h.os, h.tape, h.output, h.size, fun k hk => h.block k (by omega) (by omega) (fun e => by have := h2 k e; omega)⟩
/-- What holds of a joiner between two calls. -/
structure JIn (s : Jn) : Prop where
  ok : JOk s
  fin : s.ended = true → s.L = []
  run : s.ended = false → whF s.L = none
theorem JIn.new (i : Nat) (hi : i < 18446744073709551616) : JIn ⟨i, false, []⟩ := ⟨JOk.new i hi false, (fun h => by cases h), fun _ => rfl⟩
theorem Try.info48 : (Try.prog.info? 48).map (·.size) = some 4 := by kernel_rfl
theorem jn_one (i : Int) (a : Option Addr) (k c : Nat) (x y : Bool) : (#[.int .u64 i, .slice a k c, .bool x, .bool y] : Array Value).all (·.oneCell') = true := by simp [Value.oneCell']
/-- How the reference's Take ends. -/
def UEnd (N tb : Nat) (r : Option Nat) (w : World) (R : Jn × List UInt8 × Bool × Int) (e : Ending) (w' : World) : Prop :=
  ∃ v any vL qs, e = .returned (.tuple #[v, .bool R.2.2.1, .int .i64 R.2.2.2]) ∧ OwnB w.heap.size w' v R.2.1 ∧ JR N w' tb any R.1 vL qs ∧ (any = false → R.1 = ⟨0, false, []⟩) ∧ Bq tb r w w'
theorem JR.new (N : Nat) (w : World) (tb : Nat) (c : Array Value) (hr : Row w tb 48 c) (hN : N ≤ tb) (i : Nat) (e : Bool) : JR N (w.setRow tb #[.int .u64 (i : Int), .slice none 0 0, .bool true, .bool e]) tb true ⟨i, e, []⟩ (.slice none 0 0) [] := ⟨hr.setRow _, OwnQ.nil _ _, rfl, hN⟩
theorem Bq.setRow {tb : Nat} {r : Option Nat} (w : World) (c : Array Value) : Bq tb r w (w.setRow tb c) := ⟨rfl, rfl, rfl, by have := (below_setRow (Below.refl tb w) (Nat.le_refl tb) c).size; exact this, fun k _ h1 _ => setRow_other _ _ _ _ h1⟩
set_option maxRecDepth 100000 in
set_option maxHeartbeats 16000000 in
theorem refTake_any (N : Nat) (w : World) (tb : Nat) (any : Bool) (s : Jn) (vL : Value) (qs : List (Prt × Value)) (h : JR N w tb any s vL qs) (hin : JIn s) (hany : any = false → s = ⟨0, false, []⟩) (hN : N ≤ w.heap.size) (p : Prt) (hpi : p.id < 18446744073709551616) (vb : Value) (hb : Bts (· < N) w vb p.d) :
    Calls Try.prog 20 #[.pointer (some ⟨tb, 0, none⟩), pv p vb] w (UEnd N tb vL.ownBlock w (tkF s p)) := by
  obtain ⟨pi, pn, pl, pd⟩ := p
  obtain ⟨va, vc, rfl, hvc, _⟩ := id hb
  have HBT := Box'.mk hb
  unfold pv
  simp only at hpi HBT ⊢
  generalize hln : pd.length = ln at *
  have HLN := Box'.mk hln
  clear hln hb
  obtain ⟨w0, hw0⟩ : ∃ w0, w0 = w.alloc (.cells #[.int .u64 (pi : Int), .int .i64 pn, .bool pl, .slice va ln vc] 25) := ⟨_, rfl⟩
  have b0 : Below w.heap.size w w0 := by rw [hw0]; exact (Below.refl _ _).alloc (Nat.le_refl _) _
  have r0 : Row w0 w.heap.size 25 #[.int .u64 (pi : Int), .int .i64 pn, .bool pl, .slice va ln vc] := by rw [hw0]; exact Row.new _ _ _
  have HJ0 := Box'.mk (h.below b0)
  have HB0 := Box'.mk b0
  have HR0 := Box'.mk r0
  have HIN := Box'.mk hin
  have HANY := Box'.mk hany
  have HN := Box'.mk hN
  have htl := h.row.lt
  have HTN := Box'.mk h.nl
  have HOL : Box' (∀ j, vL.ownBlock = some j → N ≤ j) := ⟨fun j hj => (h.own.lt j hj).1⟩
  have HVL : Box' (∀ j, vL.ownBlock = some j → j < w.heap.size) := ⟨fun j hj => by obtain ⟨_, cur, r⟩ := h.own.lt j hj; exact r.lt⟩
  obtain ⟨aL, cL, hvL⟩ := h.own.slice
  subst hvL
  generalize hnL : qs.length = nL at *
  clear hnL
  have HM := Box'.mk (fun w1 => refMay_any pi pn pl va ln vc w1)
  have HT : Box' (tkF s ⟨pi, pn, pl, pd⟩ = if mayN pn pl ln = false then (s, [], false, 2) else if pi < s.id then (s, [], false, 0) else if s.id < pi then tkR ⟨pi, false, []⟩ ⟨pi, pn, pl, pd⟩ else tkR s ⟨pi, pn, pl, pd⟩) := ⟨by rw [← HLN.out]; rfl⟩
  generalize tkF s ⟨pi, pn, pl, pd⟩ = R at *
  have LR0 := HR0
  rw [hw0] at LR0
  clear h hin hany b0 r0 hN
  go_enter Try.func20, Try.ntmps20
  go_wp2_with (refine wpList_load_row rfl 25 (.tmp 3) rfl _ rfl 25 _ LR0.out _ Try.underlying25 rfl 4 Try.info25 rfl ?_)
  rw [← hw0]
  clear hw0 LR0
  refine (HM.out _).mono ?_
  rintro e2 w2 ⟨rfl, b2⟩
  clear HM
  have HJ2 := Box'.mk (HJ0.out.below b2)
  have HB2 := Box'.mk (HB0.out.trans (b2.mono HB0.out.size))
  have HR2 := Box'.mk (HR0.out.below b2 HR0.out.lt)
  clear HJ0 HB0 HR0 b2
  cases hmy : mayN pn pl ln with
  | false =>
    have e := HT.out
    rw [hmy, if_pos rfl] at e
    subst e
    clear HT hmy
    go_wp2_with fail
    go_ret3
    exact ⟨_, any, _, _, rfl, OwnB.nil _ _, HJ2.out, HANY.out, Bq.of HB2.out⟩
  | true =>
    have HT2 : Box' (R = if pi < s.id then (s, [], false, 0) else if s.id < pi then tkR ⟨pi, false, []⟩ ⟨pi, pn, pl, pd⟩ else tkR s ⟨pi, pn, pl, pd⟩) := ⟨by rw [HT.out, hmy]; rfl⟩
    have hmn : 0 ≤ pn ∧ pn < 256 ∧ ln ≤ 1024 := by unfold mayN at hmy; rw [decide_eq_true_eq] at hmy; exact ⟨hmy.1, hmy.2.1, hmy.2.2.1⟩
    obtain ⟨n, rfl⟩ : ∃ n : Nat, pn = (n : Int) := ⟨pn.toNat, by omega⟩
    have hn : n < 256 := by omega
    have hl : ln ≤ 1024 := hmn.2.2
    clear HT hmy hmn
    have c0 : w2.cell? ⟨tb, 0, none⟩ = some (.int .u64 (s.id : Int)) := by rw [HJ2.out.row.cell]; rfl
    have c2 : w2.cell? ⟨tb, 2, none⟩ = some (.bool any) := by rw [HJ2.out.row.cell]; rfl
    have c3 : w2.cell? ⟨tb, 3, none⟩ = some (.bool s.ended) := by rw [HJ2.out.row.cell]; rfl
    have cp0 : w2.cell? ⟨w.heap.size, 0, none⟩ = some (.int .u64 (pi : Int)) := by rw [HR2.out.cell]; rfl
    go_wp2_with fail
    cases any with
    | false =>
      have hs0 := HANY.out rfl
      subst hs0
      have HRR : Box' (R = tkR ⟨pi, false, []⟩ ⟨pi, n, pl, pd⟩) := ⟨by
        rw [HT2.out, if_neg (Nat.not_lt_zero _)]
        split
        · rfl
        · rename_i h; obtain rfl : pi = 0 := by simp only at h; omega
          rfl⟩
      clear HT2 HANY
      go_quiet (fail)
      go_wp2_with fail
      go_quiet (fail)
      generalize hq : w2.drewN _ = wq0
      generalize hq2 : wq0.drewN _ = wq
      have bq : Below w2.heap.size w2 wq := by rw [← hq2, ← hq]; exact Below.drewN (Below.drewN (Below.refl _ _) _) _
      have HJq := Box'.mk (HJ2.out.below bq)
      have HBq := Box'.mk (HB2.out.trans (bq.mono HB2.out.size))
      have HRq := Box'.mk (HR2.out.below bq HR2.out.lt)
      clear hq hq2 bq HJ2 HB2 HR2 c0 c2 c3 cp0
      have cp0 : wq.cell? ⟨w.heap.size, 0, none⟩ = some (.int .u64 (pi : Int)) := by rw [HRq.out.cell]; rfl
      have RMq : Box' (Room wq tb 48 4) := ⟨⟨_, HJq.out.row, rfl⟩⟩
      obtain ⟨w3, hw3⟩ : ∃ w3, w3 = wq.setRow tb #[.int .u64 (pi : Int), .slice none 0 0, .bool true, .bool false] := ⟨_, rfl⟩
      have HJ3 : Box' (JR N w3 tb true ⟨pi, false, []⟩ (.slice none 0 0) []) := ⟨by rw [hw3]; exact JR.new N wq tb _ HJq.out.row HTN.out pi false⟩
      have HB3 : Box' (Bq tb (Value.ownBlock (.slice aL nL cL)) w w3) := ⟨by rw [hw3]; exact (Bq.of HBq.out).then (r' := none) (Bq.setRow wq _) (fun j h => by cases h)⟩
      have HR3 : Box' (Row w3 w.heap.size 25 #[.int .u64 (pi : Int), .int .i64 (n : Int), .bool pl, .slice va ln vc]) := ⟨by rw [hw3]; exact HRq.out.setRowOther _ _ (by omega)⟩
      go_upto_region 7 with (refine wpList_store_row rfl 48 (.tmp 62) (.tmp 61) rfl tb rfl _ rfl 48 4 RMq.out Try.info48 rfl (jn_one _ _ _ _ _ _) ?_)
      rw [← hw3]
      clear hw3 HJq HBq HRq cp0 RMq
      obtain ⟨s1, hs1⟩ : ∃ s1, s1 = Jn.mk pi false [] := ⟨_, rfl⟩
      have HI1 : Box' (JIn s1) := ⟨by rw [hs1]; exact JIn.new pi hpi⟩
      have HE1 : Box' (s1.ended = false ∧ s1.id = pi) := ⟨by rw [hs1]; exact ⟨rfl, rfl⟩⟩
      rw [← hs1] at HJ3 HRR
      clear hs1
      obtain ⟨aM, nM, cM, hvM⟩ : ∃ a n c, (Value.slice none 0 0) = .slice a n c := ⟨_, _, _, rfl⟩
      rw [hvM] at HJ3
      have HVM : Box' (∀ j, Value.ownBlock (.slice aM nM cM) = some j → j < w.heap.size) := ⟨fun j hj => by rw [← hvM] at hj; simp [Value.ownBlock] at hj⟩
      have HVN : Box' (∀ j, Value.ownBlock (.slice aM nM cM) = some j → w.heap.size ≤ j ∨ Value.ownBlock (.slice aL nL cL) = some j) := ⟨fun j hj => by rw [← hvM] at hj; simp [Value.ownBlock] at hj⟩
      clear hvM HIN
      generalize hqq : ([] : List (Prt × Value)) = qq at HJ3
      clear hqq
      have HFW1 := HI1.out.ok.few
      have cp1 : w3.cell? ⟨w.heap.size, 1, none⟩ = some (.int .i64 (n : Int)) := by rw [HR3.out.cell]; rfl
      have HAS := has_any N w3 tb true s1 _ qq HJ3.out HFW1 n
      have HTR : Box' (R = match get s1.L n with | some _ => (s1, [], false, 0) | none => match whF (s1.L ++ [⟨n, pl, pd⟩]) with | none => (⟨s1.id, s1.ended, s1.L ++ [⟨n, pl, pd⟩]⟩, [], false, 0) | some k => (⟨s1.id, true, []⟩, tog (s1.L ++ [⟨n, pl, pd⟩]) k, true, 0)) := ⟨by
        rw [HRR.out, tkR, if_neg (by rw [HE1.out.1]; simp)]
        simp only [Int.toNat_natCast]
        cases get s1.L n with
        | some y => rfl
        | none =>
          simp only
          cases whF (s1.L ++ [⟨n, pl, pd⟩]) with
          | none => rfl
          | some k => rfl⟩
      go_wp2_with fail
      refine HAS.mono ?_
      intro e4 w4 hh
      obtain ⟨hm, b4⟩ := hh
      clear HAS cp1 HRR
      cases hg : get s1.L n with
      | some y =>
        rw [hg] at hm
        simp only at hm
        obtain ⟨vy, hmy, he4⟩ := hm
        subst he4
        have HRL : Box' (R = match whF s1.L with | none => (s1, [], false, 0) | some k => (⟨pi, true, []⟩, tog s1.L k, true, 0)) := ⟨by rw [HTR.out, hg, HI1.out.run HE1.out.1]⟩
        obtain ⟨ay, ny, cy, hvy⟩ : ∃ a n c, vy = .slice a n c := by obtain ⟨a, c, h⟩ := (HJ3.out.own.own _ hmy).slice; exact ⟨_, _, _, h⟩
        subst hvy
        obtain ⟨w6, hw6⟩ : ∃ w6, w6 = (w4.alloc (.cells #[.int .u64 0, .int .i64 0, .bool false, .slice none 0 0] 25)).setRow w4.heap.size #[.int .u64 (s1.id : Int), .int .i64 (y.n : Int), .bool y.last, .slice ay ny cy] := ⟨_, rfl⟩
        have b6 : Below w4.heap.size w4 w6 := by rw [hw6]; exact below_setRow ((Below.refl _ _).alloc (Nat.le_refl _) _) (Nat.le_refl _) _
        have b46 : Below w3.heap.size w3 w6 := b4.trans (b6.mono b4.size)
        have HJW := Box'.mk (HJ3.out.below b46)
        have HBB : Box' (Bq tb (Value.ownBlock (.slice aL nL cL)) w w6) := ⟨HB3.out.then' b46⟩
        have HPW := Box'.mk (HR3.out.below b46 HR3.out.lt)
        have HJO := Box'.mk HI1.out.ok
        unfold pv toP
        simp only
        clear b4 b6 b46 HTR hg hmy HJ3 HB3 HR3 HI1
        go_upto_region 11 with (refine wpList_store_row rfl 25 (.tmp 7) (.tmp 68) rfl _ rfl _ rfl 25 4 (Room.new _ _ _ _ rfl) Try.info25 rfl (pt_one _ _ _ _ _ _) ?_)
        rw [← hw6]
        clear hw6
        have HFW := HJO.out.few
        have HWK : Box' (whF s1.L = whG s1.L 256 0) := ⟨rfl⟩
        have HTG : Box' (∀ k, k ≤ 256 → (tog s1.L k).length ≤ 262144) := ⟨fun k hk => by have := tog_len HJO.out.len k; omega⟩
        go_wp2_with fail
        go_loopw [9, 10] (fun u iv wr => ∃ (k : Nat) (d : List UInt8), iv = .int .i64 (k : Int) ∧ k ≤ 256 ∧ Box' (d = tog s1.L k) ∧ Box' (whF s1.L = whG s1.L (256 - k) k) ∧ Box' (OwnB w6.heap.size wr u d) ∧ Box' (Below w6.heap.size w6 wr)) (fun _ iv _ => 256 - (intOf iv).toNat)
        case atStart => exact ⟨0, [], rfl, by omega, ⟨rfl⟩, HWK, ⟨OwnB.nil _ _⟩, ⟨Below.refl _ _⟩⟩
        case round =>
          clear HWK
          obtain ⟨k, d, rfl, hk, HD, HWK, HU, HBW⟩ := hrel
          have jr := HJW.out.below HBW.out
          obtain ⟨au, cu, hu⟩ := HU.out.slice
          subst hu
          have HDL : Box' (d.length ≤ 262144) := ⟨by rw [HD.out]; exact HTG.out k hk⟩
          by_cases hlt : k < 256
          · have HWS : Box' (whF s1.L = match get s1.L k with | none => none | some x => if x.last then some (k + 1) else whG s1.L (256 - (k + 1)) (k + 1)) := ⟨by
              rw [HWK.out, show 256 - k = (256 - (k + 1)) + 1 by omega, whG]
              cases get s1.L k <;> rfl⟩
            have HAS := has_any N wr tb true s1 _ qq jr HFW k
            generalize hdl : d.length = dl at *
            have HE := Box'.mk hdl
            clear hdl
            go_wp2_with fail
            refine HAS.mono ?_
            intro e4 w4 hh
            obtain ⟨hm, b4⟩ := hh
            clear HAS
            cases hg : get s1.L k with
            | none =>
              rw [hg] at hm
              simp only at hm
              subst hm
              have hwn : whF s1.L = none := by rw [HWS.out, hg]
              have e := HRL.out
              rw [hwn] at e
              simp only at e
              subst e
              have HB4 : Box' (Below w6.heap.size w6 w4) := ⟨HBW.out.trans (b4.mono HBW.out.size)⟩
              obtain ⟨w5, hw5⟩ : ∃ w5, w5 = (w4.alloc (.cells #[.int .u64 0, .int .i64 0, .bool false, .slice none 0 0] 25)).setRow w4.heap.size #[.int .u64 0, .int .i64 0, .bool false, .slice none 0 0] := ⟨_, rfl⟩
              have HB5 : Box' (Below w6.heap.size w6 w5) := ⟨by rw [hw5]; exact below_setRow (HB4.out.alloc HB4.out.size _) HB4.out.size _⟩
              clear b4 HB4 HBW HWS HWK hwn hg HU HRL
              go_wp2_with (refine wpList_store_row rfl 25 (.tmp 11) (.tmp 94) rfl _ rfl _ rfl 25 4 (Room.new _ _ _ _ rfl) Try.info25 rfl zp_one ?_)
              rw [← hw5]
              clear hw5
              go_ret3
              exact ⟨_, true, _, _, rfl, OwnB.nil _ _, HJW.out.below HB5.out, (fun h => by cases h), HBB.out.then' HB5.out⟩
            | some x =>
              rw [hg] at hm
              simp only at hm
              obtain ⟨vq, hmem, he4⟩ := hm
              subst he4
              have hoq : OwnB N w4 vq x.d := (((HJW.out.below HBW.out).own.own _ hmem).below b4)
              obtain ⟨aq, cq, hvq⟩ : ∃ aq cq, vq = .slice aq x.d.length cq := hoq.slice
              subst hvq
              have HWX : Box' (whF s1.L = if x.last then some (k + 1) else whG s1.L (256 - (k + 1)) (k + 1)) := ⟨by rw [HWS.out, hg]⟩
              have HTX : Box' (d ++ x.d = tog s1.L (k + 1)) := ⟨by rw [HD.out, tog, hg]; rfl⟩
              have hxl := HJO.out.len x (get_some hg).1
              have HB4 : Box' (Below w6.heap.size w6 w4) := ⟨HBW.out.trans (b4.mono HBW.out.size)⟩
              have HU4 := Box'.mk (HU.out.below b4)
              obtain ⟨w5, hw5⟩ : ∃ w5, w5 = (w4.alloc (.cells #[.int .u64 0, .int .i64 0, .bool false, .slice none 0 0] 25)).setRow w4.heap.size #[.int .u64 (s1.id : Int), .int .i64 (x.n : Int), .bool x.last, .slice aq x.d.length cq] := ⟨_, rfl⟩
              have b5 : Below w4.heap.size w4 w5 := by rw [hw5]; exact below_setRow ((Below.refl _ _).alloc (Nat.le_refl _) _) (Nat.le_refl _) _
              have r5 : Row w5 w4.heap.size 25 #[.int .u64 (s1.id : Int), .int .i64 (x.n : Int), .bool x.last, .slice aq x.d.length cq] := by rw [hw5]; exact (Row.new w4 25 #[.int .u64 0, .int .i64 0, .bool false, .slice none 0 0]).setRow _
              have HI5 := Box'.mk ((hoq.below b5).inB)
              have HU5 := Box'.mk (HU4.out.below b5)
              have HB5 : Box' (Below w6.heap.size w6 w5) := ⟨HB4.out.trans (b5.mono HB4.out.size)⟩
              have HR5 := Box'.mk r5
              have c53 : w5.cell? ⟨w4.heap.size, 3, none⟩ = some (.slice aq x.d.length cq) := by rw [r5.cell]; rfl
              have hmx : d.length + x.d.length ≤ 140737488355328 := by have h1 := HDL.out; have h2 := HE.out; omega
              have HMX := Box'.mk hmx
              unfold pv toP
              simp only
              clear b4 b5 r5 HB4 HBW HWS HWK hg HU HU4 hoq hmem hmx
              generalize hxq : x.d.length = xq at *
              have HXQ := Box'.mk hxq
              clear hxq
              go_upto_region 16 with (refine wpList_store_row rfl 25 (.tmp 11) (.tmp 94) rfl _ rfl _ rfl 25 4 (Room.new _ _ _ _ rfl) Try.info25 rfl (pt_one _ _ _ _ _ _) ?_)
              rw [← hw5]
              clear hw5
              generalize w4.heap.size = qb at *
              have hz5 := HB5.out.size
              cases hxl2 : x.last with
              | true =>
                rw [hxl2] at HR5 HWX
                simp only [if_true] at HWX
                have e := HRL.out
                rw [HWX.out] at e
                simp only at e
                subst e
                clear HRL HWX
                have REST6 : Box' (∀ wz, Fr w6.heap.size w5 wz → wz.cell? ⟨qb, 2, none⟩ = some (.bool true) ∧ wz.cell? ⟨w.heap.size, 0, none⟩ = some (.int .u64 (pi : Int)) ∧ Room wz tb 48 4 ∧ Below w6.heap.size w6 wz ∧ ∃ c, Row wz tb 48 c) := ⟨fun wz f6 => by
                  have r6 := f6.row HR5.out (by decide)
                  have rp := f6.row (HPW.out.below HB5.out HPW.out.lt) (by decide)
                  have rt := f6.row ((HJW.out.below HB5.out).row) (by decide)
                  exact ⟨by rw [r6.cell]; rfl, by rw [rp.cell]; rfl, ⟨_, rt, rfl⟩, HB5.out.trans (f6.below HB5.out.size), _, rt⟩⟩
                go_wp2_with (first
                  | (refine wpList_app rfl (.tmp 98) (.tmp 100) rfl w6.heap.size _ hz5 _ d rfl HU5.out _ x.d rfl HI5.out (by rw [HXQ.out]; exact HMX.out) ?_; intro v6 wz o6 f6; obtain ⟨c62, cp0, rm6, B6, ct, rt⟩ := REST6.out wz f6; have O6 := Box'.mk o6; have RM6 := Box'.mk rm6; have HB6 := Box'.mk B6; have RT6 := Box'.mk rt; clear o6 f6 rm6 B6 rt REST6; obtain ⟨a6, c6, hv6⟩ := O6.out.slice; subst hv6; generalize hl6 : (d ++ x.d).length = l6 at *; clear hl6)
                  | (refine wpList_store_row rfl 48 (.tmp 108) (.tmp 107) rfl tb rfl _ rfl 48 4 RM6.out Try.info48 rfl (jn_one _ _ _ _ _ _) ?_))
                have o7 : OwnB w6.heap.size (wz.setRow tb #[.int .u64 (pi : Int), .slice none 0 0, .bool true, .bool true]) (.slice a6 l6 c6) (tog s1.L (k + 1)) := by
                  have := O6.out
                  rw [HTX.out] at this
                  exact this.same fun g hg => setRow_other _ _ _ _ (own_ne this RT6.out (by decide) g hg)
                go_ret3
                exact ⟨_, true, _, _, rfl, o7.less HBB.out.size, JR.new N wz tb _ RT6.out HTN.out pi true, (fun h => by cases h), (HBB.out.then' HB6.out).then (r' := none) (Bq.setRow wz _) (fun j h => by cases h)⟩
              | false =>
                rw [hxl2] at HR5 HWX
                simp only [Bool.false_eq_true, if_false] at HWX
                have REST6 : Box' (∀ wz, Fr w6.heap.size w5 wz → wz.cell? ⟨qb, 2, none⟩ = some (.bool false) ∧ Below w6.heap.size w6 wz) := ⟨fun wz f6 => by
                  have r6 := f6.row HR5.out (by decide)
                  exact ⟨by rw [r6.cell]; rfl, HB5.out.trans (f6.below HB5.out.size)⟩⟩
                go_wp2_with (refine wpList_app rfl (.tmp 98) (.tmp 100) rfl w6.heap.size _ hz5 _ d rfl HU5.out _ x.d rfl HI5.out (by rw [HXQ.out]; exact HMX.out) ?_; intro v6 wz o6 f6; obtain ⟨c62, B6⟩ := REST6.out wz f6; have O6 := Box'.mk o6; have HB6 := Box'.mk B6; clear o6 f6 B6 REST6)
                exact ⟨⟨k + 1, d ++ x.d, by go_num, by omega, HTX, HWX, O6, HB6⟩, by simp [intOf]; omega⟩
          · obtain rfl : k = 256 := by omega
            have hwn : whF s1.L = none := by rw [HWK.out]; rfl
            have e := HRL.out
            rw [hwn] at e
            simp only at e
            subst e
            have HB5 := HBW
            clear HBW HWK hwn HU HRL
            generalize d.length = dl at *
            go_wp2_with fail
            go_ret3
            exact ⟨_, true, _, _, rfl, OwnB.nil _ _, HJW.out.below HB5.out, (fun h => by cases h), HBB.out.then' HB5.out⟩
      | none =>
        rw [hg] at hm
        simp only at hm
        subst hm
        have HRL : Box' (R = match whF (s1.L ++ [⟨n, pl, pd⟩]) with | none => (⟨s1.id, s1.ended, s1.L ++ [⟨n, pl, pd⟩]⟩, [], false, 0) | some k => (⟨pi, true, []⟩, tog (s1.L ++ [⟨n, pl, pd⟩]) k, true, 0)) := ⟨by rw [HTR.out, hg, HE1.out.2]⟩
        have HJO2 : Box' (JOk ⟨s1.id, s1.ended, s1.L ++ [⟨n, pl, pd⟩]⟩) := ⟨HI1.out.ok.put n pl pd hn (by rw [HLN.out]; exact hl) hg _⟩
        obtain ⟨w5, hw5⟩ : ∃ w5, w5 = (w4.alloc (.cells #[.int .u64 0, .int .i64 0, .bool false, .slice none 0 0] 25)).setRow w4.heap.size #[.int .u64 0, .int .i64 0, .bool false, .slice none 0 0] := ⟨_, rfl⟩
        have b5 : Below w4.heap.size w4 w5 := by rw [hw5]; exact below_setRow ((Below.refl _ _).alloc (Nat.le_refl _) _) (Nat.le_refl _) _
        have b45 : Below w3.heap.size w3 w5 := b4.trans (b5.mono b4.size)
        have HJ5 := Box'.mk (HJ3.out.below b45)
        have HB5 : Box' (Bq tb (Value.ownBlock (.slice aL nL cL)) w w5) := ⟨HB3.out.then' b45⟩
        have HR5 := Box'.mk (HR3.out.below b45 HR3.out.lt)
        have hBN : Below N w w5 := HB5.out.below HN.out HTN.out HOL.out
        have CP := copy_any (· < N) (.slice va ln vc) pd w5 (HBT.out.below hBN (fun b hb => hb)) (fun b hb => Nat.lt_of_lt_of_le hb (Nat.le_trans HN.out HB5.out.size)) (by rw [HLN.out]; omega)
        have c53 : w5.cell? ⟨w.heap.size, 3, none⟩ = some (.slice va ln vc) := by rw [HR5.out.cell]; rfl
        clear b4 b5 b45 HTR HJ3 HB3 HR3 hBN
        go_upto_region 8 with (refine wpList_store_row rfl 25 (.tmp 7) (.tmp 68) rfl _ rfl _ rfl 25 4 (Room.new _ _ _ _ rfl) Try.info25 rfl zp_one ?_)
        rw [← hw5]
        clear hw5
        go_wp2_with fail
        refine CP.mono ?_
        rintro e6 w6 ⟨u6, rfl, o6, b6⟩
        clear CP c53
        obtain ⟨a6, c6, hu6⟩ : ∃ a c, u6 = .slice a ln c := by obtain ⟨a, c, h⟩ := o6.slice; rw [HLN.out] at h; exact ⟨a, c, h⟩
        subst hu6
        have r6 := HR5.out.below b6 HR5.out.lt
        have j6 := HJ5.out.below b6
        have c63 : w6.cell? ⟨w.heap.size, 3, none⟩ = some (.slice va ln vc) := by rw [r6.cell]; rfl
        have f6 := r6.frozen
        obtain ⟨w7, hw7⟩ : ∃ w7, w7 = w6.setCell ⟨w.heap.size, 3, none⟩ (.slice a6 ln c6) := ⟨_, rfl⟩
        have r7 : Row w7 w.heap.size 25 #[.int .u64 (pi : Int), .int .i64 (n : Int), .bool pl, .slice a6 ln c6] := by rw [hw7]; exact r6.setCell (k := 3) _
        have hth : tb ≠ w.heap.size := by omega
        have hvb : ∀ j, Value.ownBlock (.slice aM nM cM) = some j → j ≠ w.heap.size := fun j hj => by have := HVM.out j hj; omega
        have hoth : ∀ k, k ≠ w.heap.size → w7.heap[k]? = w6.heap[k]? := fun k hk => by rw [hw7]; exact Below.heap_setCell _ _ _ _ hk
        have q7 : OwnQ N w7 (.slice aM nM cM) qq := j6.own.same (fun g hg => hoth g (hvb g hg)) fun q hq => (j6.own.own q hq).same fun g hg => hoth g (own_ne (j6.own.own q hq) r6 (by decide) g hg)
        have j7 : JR N w7 tb true s1 (.slice aM nM cM) qq := ⟨j6.row.same (hoth tb hth), q7, j6.ls, j6.nl⟩
        have o7 : OwnB N w7 (.slice a6 ln c6) pd := (o6.less (Nat.le_trans HN.out HB5.out.size)).same fun g hg => hoth g (own_ne o6 r6 (by decide) g hg)
        have B7 : Bq tb (Value.ownBlock (.slice aL nL cL)) w w7 := by
          have := HB5.out.then' b6
          refine ⟨by rw [hw7]; exact this.os, by rw [hw7]; exact this.tape, by rw [hw7]; exact this.output, by rw [hw7]; simpa [World.setCell] using this.size, fun k hk h1 h2 => (hoth k (by omega)).trans (this.block k hk h1 h2)⟩
        have HJ7 := Box'.mk j7
        have HR7 := Box'.mk r7
        have HB7 := Box'.mk B7
        have HO7 := Box'.mk o7
        clear r6 j6 r7 hth hvb hoth q7 j7 o7 B7 o6 b6 HJ5 HB5 HR5
        go_upto_region 10 with fail
        rw [← hw7]
        clear hw7 c63 f6
        have hGB : ∀ w1, w7.grownBy w1 (Value.ownBlock (.slice aM nM cM)) → ∀ k, k < w7.heap.size → (∀ j, Value.ownBlock (.slice aM nM cM) = some j → k ≠ j) → w1.heap[k]? = w7.heap[k]? := fun w1 hg k hk h => hg.block k hk (fun e => h k e.symm rfl)
        have htr : ∀ j, Value.ownBlock (.slice aM nM cM) = some j → tb ≠ j := fun j hj => by obtain ⟨_, cur, r⟩ := HJ7.out.own.lt j hj; exact row_ne HJ7.out.row r (by decide)
        have hpr : ∀ j, Value.ownBlock (.slice aM nM cM) = some j → w.heap.size ≠ j := fun j hj => by have := HVM.out j hj; omega
        have hC1 : ∀ w1, w7.grownBy w1 (Value.ownBlock (.slice aM nM cM)) → w1.cell? ⟨tb, 1, none⟩ = some (.slice aM nM cM) := fun w1 hg => by rw [(HJ7.out.row.same (hGB w1 hg tb HJ7.out.row.lt htr)).cell]; rfl
        have hFZ : ∀ w1, w7.grownBy w1 (Value.ownBlock (.slice aM nM cM)) → ∀ j, w1.frozen? ⟨tb, j, none⟩ = false := fun w1 hg j => HJ7.out.row.frz (hGB w1 hg tb HJ7.out.row.lt htr) j
        have hP : ∀ w1, w7.grownBy w1 (Value.ownBlock (.slice aM nM cM)) → Row w1 w.heap.size 25 #[.int .u64 (pi : Int), .int .i64 (n : Int), .bool pl, .slice a6 ln c6] := fun w1 hg => HR7.out.same (hGB w1 hg _ HR7.out.lt hpr)
        refine wp_mono (rkReg N tb w.heap.size pi n nM cM ln c6 pl aM a6 pd qq _ _ _ _ _ _ _ _ _ _ _ _ _ _ _ _ _ _ _ _ _ _ _ _ _ _ _ _ _ _ _ _ _ _ _ _ _ _ _ _ _ _ _ _ _ _ _ _ _ _ _ _ _ _ _ _ _ _ _ _ _ _ _ _ _ _ _ _ _ _ _ _ _ _ _ _ _ _ _ _ _ _ _ _ _ _ _ _ _ _ _ _ _ _ _ _ _ _ _ _ _ _ _ _ _ _ _ _ _ (Nat.le_trans HN.out HB7.out.size) ⟨HJ7.out.own, HO7.out⟩ hC1 hFZ hP (by rw [HJ7.out.len]; omega)) ?_
        rintro r a' w9 ⟨rfl, v76, v77, v78, v79, v80, v81, v82, v83, v84, v85, rfl, vd8, w8, g8, o8, rfl⟩
        clear hC1 hFZ hP
        have r8 := HJ7.out.row.same (hGB w8 g8 tb HJ7.out.row.lt htr)
        have p8 := HR7.out.same (hGB w8 g8 _ HR7.out.lt hpr)
        obtain ⟨w6', hw6'⟩ : ∃ w6', w6' = w8.setCell ⟨tb, 1, none⟩ vd8 := ⟨_, rfl⟩
        rw [← hw6']
        have HJW : Box' (JR N w6' tb true ⟨s1.id, s1.ended, s1.L ++ [⟨n, pl, pd⟩]⟩ vd8 (qq ++ [(⟨pi, (n : Int), pl, pd⟩, .slice a6 ln c6)])) := ⟨by
          refine ⟨?_, ?_, ?_, HTN.out⟩
          · rw [hw6']; exact r8.setCell (k := 1) vd8
          · rw [hw6']
            exact o8.same (fun g hg => Below.heap_setCell _ _ _ _ (by obtain ⟨_, cur, r⟩ := o8.lt g hg; exact row_ne r r8 (by decide))) fun q hq => (o8.own q hq).same fun g hg => Below.heap_setCell _ _ _ _ (own_ne (o8.own q hq) r8 (by decide) g hg)
          · rw [List.map_append, List.map_append, HJ7.out.ls]
            congr 1
            simp only [List.map_cons, List.map_nil, toP]
            rw [HE1.out.2]⟩
        have HBB : Box' (Bq tb (Value.ownBlock (.slice aL nL cL)) w w6') := ⟨by
          refine HB7.out.then (r' := Value.ownBlock (.slice aM nM cM)) ?_ HVN.out
          rw [hw6']
          exact ⟨g8.os, g8.tape, g8.output, by simpa [World.setCell] using g8.size, fun k hk h1 h2 => (Below.heap_setCell _ _ _ _ h1).trans (g8.block k hk (fun e => h2 e.symm))⟩⟩
        have HPW : Box' (Row w6' w.heap.size 25 #[.int .u64 (pi : Int), .int .i64 (n : Int), .bool pl, .slice a6 ln c6]) := ⟨by rw [hw6']; exact p8.setOther _ _ (by show w.heap.size ≠ tb; omega)⟩
        have HJO := HJO2
        clear hw6' r8 p8 g8 o8 hGB htr hpr HJ7 HR7 HB7 HO7
        generalize hs2 : (⟨s1.id, s1.ended, s1.L ++ [⟨n, pl, pd⟩]⟩ : Jn) = s2 at *
        have HRL2 : Box' (R = match whF s2.L with | none => (s2, [], false, 0) | some k => (⟨pi, true, []⟩, tog s2.L k, true, 0)) := ⟨by rw [← hs2]; rw [← hs2] at HRL; exact HRL.out⟩
        clear hs2 HRL HJO2
        have HRL := HRL2
        clear HRL2
        generalize qq ++ [((⟨pi, (n : Int), pl, pd⟩ : Prt), Value.slice a6 ln c6)] = q2 at *
        go_upto_region 11 with fail
        have HFW := HJO.out.few
        have HWK : Box' (whF s2.L = whG s2.L 256 0) := ⟨rfl⟩
        have HTG : Box' (∀ k, k ≤ 256 → (tog s2.L k).length ≤ 262144) := ⟨fun k hk => by have := tog_len HJO.out.len k; omega⟩
        go_wp2_with fail
        go_loopw [9, 10] (fun u iv wr => ∃ (k : Nat) (d : List UInt8), iv = .int .i64 (k : Int) ∧ k ≤ 256 ∧ Box' (d = tog s2.L k) ∧ Box' (whF s2.L = whG s2.L (256 - k) k) ∧ Box' (OwnB w6'.heap.size wr u d) ∧ Box' (Below w6'.heap.size w6' wr)) (fun _ iv _ => 256 - (intOf iv).toNat)
        case atStart => exact ⟨0, [], rfl, by omega, ⟨rfl⟩, HWK, ⟨OwnB.nil _ _⟩, ⟨Below.refl _ _⟩⟩
        case round =>
          clear HWK
          obtain ⟨k, d, rfl, hk, HD, HWK, HU, HBW⟩ := hrel
          have jr := HJW.out.below HBW.out
          obtain ⟨au, cu, hu⟩ := HU.out.slice
          subst hu
          have HDL : Box' (d.length ≤ 262144) := ⟨by rw [HD.out]; exact HTG.out k hk⟩
          by_cases hlt : k < 256
          · have HWS : Box' (whF s2.L = match get s2.L k with | none => none | some x => if x.last then some (k + 1) else whG s2.L (256 - (k + 1)) (k + 1)) := ⟨by
              rw [HWK.out, show 256 - k = (256 - (k + 1)) + 1 by omega, whG]
              cases get s2.L k <;> rfl⟩
            have HAS := has_any N wr tb true s2 _ q2 jr HFW k
            generalize hdl : d.length = dl at *
            have HE := Box'.mk hdl
            clear hdl
            go_wp2_with fail
            refine HAS.mono ?_
            intro e4 w4 hh
            obtain ⟨hm, b4⟩ := hh
            clear HAS
            cases hg : get s2.L k with
            | none =>
              rw [hg] at hm
              simp only at hm
              subst hm
              have hwn : whF s2.L = none := by rw [HWS.out, hg]
              have e := HRL.out
              rw [hwn] at e
              simp only at e
              subst e
              have HB4 : Box' (Below w6'.heap.size w6' w4) := ⟨HBW.out.trans (b4.mono HBW.out.size)⟩
              obtain ⟨w5, hw5⟩ : ∃ w5, w5 = (w4.alloc (.cells #[.int .u64 0, .int .i64 0, .bool false, .slice none 0 0] 25)).setRow w4.heap.size #[.int .u64 0, .int .i64 0, .bool false, .slice none 0 0] := ⟨_, rfl⟩
              have HB5 : Box' (Below w6'.heap.size w6' w5) := ⟨by rw [hw5]; exact below_setRow (HB4.out.alloc HB4.out.size _) HB4.out.size _⟩
              clear b4 HB4 HBW HWS HWK hwn hg HU HRL
              go_wp2_with (refine wpList_store_row rfl 25 (.tmp 11) (.tmp 94) rfl _ rfl _ rfl 25 4 (Room.new _ _ _ _ rfl) Try.info25 rfl zp_one ?_)
              rw [← hw5]
              clear hw5
              go_ret3
              exact ⟨_, true, _, _, rfl, OwnB.nil _ _, HJW.out.below HB5.out, (fun h => by cases h), HBB.out.then' HB5.out⟩
            | some x =>
              rw [hg] at hm
              simp only at hm
              obtain ⟨vq, hmem, he4⟩ := hm
              subst he4
              have hoq : OwnB N w4 vq x.d := (((HJW.out.below HBW.out).own.own _ hmem).below b4)
              obtain ⟨aq, cq, hvq⟩ : ∃ aq cq, vq = .slice aq x.d.length cq := hoq.slice
              subst hvq
              have HWX : Box' (whF s2.L = if x.last then some (k + 1) else whG s2.L (256 - (k + 1)) (k + 1)) := ⟨by rw [HWS.out, hg]⟩
              have HTX : Box' (d ++ x.d = tog s2.L (k + 1)) := ⟨by rw [HD.out, tog, hg]; rfl⟩
              have hxl := HJO.out.len x (get_some hg).1
              have HB4 : Box' (Below w6'.heap.size w6' w4) := ⟨HBW.out.trans (b4.mono HBW.out.size)⟩
              have HU4 := Box'.mk (HU.out.below b4)
              obtain ⟨w5, hw5⟩ : ∃ w5, w5 = (w4.alloc (.cells #[.int .u64 0, .int .i64 0, .bool false, .slice none 0 0] 25)).setRow w4.heap.size #[.int .u64 (s2.id : Int), .int .i64 (x.n : Int), .bool x.last, .slice aq x.d.length cq] := ⟨_, rfl⟩
              have b5 : Below w4.heap.size w4 w5 := by rw [hw5]; exact below_setRow ((Below.refl _ _).alloc (Nat.le_refl _) _) (Nat.le_refl _) _
              have r5 : Row w5 w4.heap.size 25 #[.int .u64 (s2.id : Int), .int .i64 (x.n : Int), .bool x.last, .slice aq x.d.length cq] := by rw [hw5]; exact (Row.new w4 25 #[.int .u64 0, .int .i64 0, .bool false, .slice none 0 0]).setRow _
              have HI5 := Box'.mk ((hoq.below b5).inB)
              have HU5 := Box'.mk (HU4.out.below b5)
              have HB5 : Box' (Below w6'.heap.size w6' w5) := ⟨HB4.out.trans (b5.mono HB4.out.size)⟩
              have HR5 := Box'.mk r5
              have c53 : w5.cell? ⟨w4.heap.size, 3, none⟩ = some (.slice aq x.d.length cq) := by rw [r5.cell]; rfl
              have hmx : d.length + x.d.length ≤ 140737488355328 := by have h1 := HDL.out; have h2 := HE.out; omega
              have HMX := Box'.mk hmx
              unfold pv toP
              simp only
              clear b4 b5 r5 HB4 HBW HWS HWK hg HU HU4 hoq hmem hmx
              generalize hxq : x.d.length = xq at *
              have HXQ := Box'.mk hxq
              clear hxq
              go_upto_region 16 with (refine wpList_store_row rfl 25 (.tmp 11) (.tmp 94) rfl _ rfl _ rfl 25 4 (Room.new _ _ _ _ rfl) Try.info25 rfl (pt_one _ _ _ _ _ _) ?_)
              rw [← hw5]
              clear hw5
              generalize w4.heap.size = qb at *
              have hz5 := HB5.out.size
              cases hxl2 : x.last with
              | true =>
                rw [hxl2] at HR5 HWX
                simp only [if_true] at HWX
                have e := HRL.out
                rw [HWX.out] at e
                simp only at e
                subst e
                clear HRL HWX
                have REST6 : Box' (∀ wz, Fr w6'.heap.size w5 wz → wz.cell? ⟨qb, 2, none⟩ = some (.bool true) ∧ wz.cell? ⟨w.heap.size, 0, none⟩ = some (.int .u64 (pi : Int)) ∧ Room wz tb 48 4 ∧ Below w6'.heap.size w6' wz ∧ ∃ c, Row wz tb 48 c) := ⟨fun wz f6 => by
                  have r6 := f6.row HR5.out (by decide)
                  have rp := f6.row (HPW.out.below HB5.out HPW.out.lt) (by decide)
                  have rt := f6.row ((HJW.out.below HB5.out).row) (by decide)
                  exact ⟨by rw [r6.cell]; rfl, by rw [rp.cell]; rfl, ⟨_, rt, rfl⟩, HB5.out.trans (f6.below HB5.out.size), _, rt⟩⟩
                go_wp2_with (first
                  | (refine wpList_app rfl (.tmp 98) (.tmp 100) rfl w6'.heap.size _ hz5 _ d rfl HU5.out _ x.d rfl HI5.out (by rw [HXQ.out]; exact HMX.out) ?_; intro v6 wz o6 f6; obtain ⟨c62, cp0, rm6, B6, ct, rt⟩ := REST6.out wz f6; have O6 := Box'.mk o6; have RM6 := Box'.mk rm6; have HB6 := Box'.mk B6; have RT6 := Box'.mk rt; clear o6 f6 rm6 B6 rt REST6; obtain ⟨a6, c6, hv6⟩ := O6.out.slice; subst hv6; generalize hl6 : (d ++ x.d).length = l6 at *; clear hl6)
                  | (refine wpList_store_row rfl 48 (.tmp 108) (.tmp 107) rfl tb rfl _ rfl 48 4 RM6.out Try.info48 rfl (jn_one _ _ _ _ _ _) ?_))
                have o7 : OwnB w6'.heap.size (wz.setRow tb #[.int .u64 (pi : Int), .slice none 0 0, .bool true, .bool true]) (.slice a6 l6 c6) (tog s2.L (k + 1)) := by
                  have := O6.out
                  rw [HTX.out] at this
                  exact this.same fun g hg => setRow_other _ _ _ _ (own_ne this RT6.out (by decide) g hg)
                go_ret3
                exact ⟨_, true, _, _, rfl, o7.less HBB.out.size, JR.new N wz tb _ RT6.out HTN.out pi true, (fun h => by cases h), (HBB.out.then' HB6.out).then (r' := none) (Bq.setRow wz _) (fun j h => by cases h)⟩
              | false =>
                rw [hxl2] at HR5 HWX
                simp only [Bool.false_eq_true, if_false] at HWX
                have REST6 : Box' (∀ wz, Fr w6'.heap.size w5 wz → wz.cell? ⟨qb, 2, none⟩ = some (.bool false) ∧ Below w6'.heap.size w6' wz) := ⟨fun wz f6 => by
                  have r6 := f6.row HR5.out (by decide)
                  exact ⟨by rw [r6.cell]; rfl, HB5.out.trans (f6.below HB5.out.size)⟩⟩
                go_wp2_with (refine wpList_app rfl (.tmp 98) (.tmp 100) rfl w6'.heap.size _ hz5 _ d rfl HU5.out _ x.d rfl HI5.out (by rw [HXQ.out]; exact HMX.out) ?_; intro v6 wz o6 f6; obtain ⟨c62, B6⟩ := REST6.out wz f6; have O6 := Box'.mk o6; have HB6 := Box'.mk B6; clear o6 f6 B6 REST6)
                exact ⟨⟨k + 1, d ++ x.d, by go_num, by omega, HTX, HWX, O6, HB6⟩, by simp [intOf]; omega⟩
          · obtain rfl : k = 256 := by omega
            have hwn : whF s2.L = none := by rw [HWK.out]; rfl
            have e := HRL.out
            rw [hwn] at e
            simp only at e
            subst e
            have HB5 := HBW
            clear HBW HWK hwn HU HRL
            generalize d.length = dl at *
            go_wp2_with fail
            go_ret3
            exact ⟨_, true, _, _, rfl, OwnB.nil _ _, HJW.out.below HB5.out, (fun h => by cases h), HBB.out.then' HB5.out⟩
    | true =>
      clear HANY
      by_cases hlt : pi < s.id
      · have e := HT2.out
        rw [if_pos hlt] at e
        subst e
        clear HT2
        go_quiet (fail)
        go_wp2_with fail
        go_ret3
        exact ⟨_, true, _, _, rfl, OwnB.nil _ _, HJ2.out.below (Below.drewN (Below.refl _ _) _), (fun h => by cases h), Bq.of (Below.drewN HB2.out _)⟩
      · by_cases hgt : s.id < pi
        · have HRR : Box' (R = tkR ⟨pi, false, []⟩ ⟨pi, n, pl, pd⟩) := ⟨by rw [HT2.out, if_neg hlt, if_pos hgt]⟩
          have hne : ¬ (pi = s.id) := by omega
          have hneI : ¬ ((pi : Int) = (s.id : Int)) := by omega
          have hneB : ((pi : Int) == (s.id : Int)) = false := by simp; omega
          clear HT2
          go_quiet (fail)
          go_wp2_with fail
          go_quiet (fail)
          generalize hq : w2.drewN _ = wq0
          generalize hq2 : wq0.drewN _ = wq
          have bq : Below w2.heap.size w2 wq := by rw [← hq2, ← hq]; exact Below.drewN (Below.drewN (Below.refl _ _) _) _
          have HJq := Box'.mk (HJ2.out.below bq)
          have HBq := Box'.mk (HB2.out.trans (bq.mono HB2.out.size))
          have HRq := Box'.mk (HR2.out.below bq HR2.out.lt)
          clear hq hq2 bq HJ2 HB2 HR2 c0 c2 c3 cp0
          have cp0 : wq.cell? ⟨w.heap.size, 0, none⟩ = some (.int .u64 (pi : Int)) := by rw [HRq.out.cell]; rfl
          have RMq : Box' (Room wq tb 48 4) := ⟨⟨_, HJq.out.row, rfl⟩⟩
          obtain ⟨w3, hw3⟩ : ∃ w3, w3 = wq.setRow tb #[.int .u64 (pi : Int), .slice none 0 0, .bool true, .bool false] := ⟨_, rfl⟩
          have HJ3 : Box' (JR N w3 tb true ⟨pi, false, []⟩ (.slice none 0 0) []) := ⟨by rw [hw3]; exact JR.new N wq tb _ HJq.out.row HTN.out pi false⟩
          have HB3 : Box' (Bq tb (Value.ownBlock (.slice aL nL cL)) w w3) := ⟨by rw [hw3]; exact (Bq.of HBq.out).then (r' := none) (Bq.setRow wq _) (fun j h => by cases h)⟩
          have HR3 : Box' (Row w3 w.heap.size 25 #[.int .u64 (pi : Int), .int .i64 (n : Int), .bool pl, .slice va ln vc]) := ⟨by rw [hw3]; exact HRq.out.setRowOther _ _ (by omega)⟩
          go_upto_region 7 with (refine wpList_store_row rfl 48 (.tmp 62) (.tmp 61) rfl tb rfl _ rfl 48 4 RMq.out Try.info48 rfl (jn_one _ _ _ _ _ _) ?_)
          rw [← hw3]
          clear hw3 HJq HBq HRq cp0 RMq
          obtain ⟨s1, hs1⟩ : ∃ s1, s1 = Jn.mk pi false [] := ⟨_, rfl⟩
          have HI1 : Box' (JIn s1) := ⟨by rw [hs1]; exact JIn.new pi hpi⟩
          have HE1 : Box' (s1.ended = false ∧ s1.id = pi) := ⟨by rw [hs1]; exact ⟨rfl, rfl⟩⟩
          rw [← hs1] at HJ3 HRR
          clear hs1
          obtain ⟨aM, nM, cM, hvM⟩ : ∃ a n c, (Value.slice none 0 0) = .slice a n c := ⟨_, _, _, rfl⟩
          rw [hvM] at HJ3
          have HVM : Box' (∀ j, Value.ownBlock (.slice aM nM cM) = some j → j < w.heap.size) := ⟨fun j hj => by rw [← hvM] at hj; simp [Value.ownBlock] at hj⟩
          have HVN : Box' (∀ j, Value.ownBlock (.slice aM nM cM) = some j → w.heap.size ≤ j ∨ Value.ownBlock (.slice aL nL cL) = some j) := ⟨fun j hj => by rw [← hvM] at hj; simp [Value.ownBlock] at hj⟩
          clear hvM HIN
          generalize hqq : ([] : List (Prt × Value)) = qq at HJ3
          clear hqq
          have HFW1 := HI1.out.ok.few
          have cp1 : w3.cell? ⟨w.heap.size, 1, none⟩ = some (.int .i64 (n : Int)) := by rw [HR3.out.cell]; rfl
          have HAS := has_any N w3 tb true s1 _ qq HJ3.out HFW1 n
          have HTR : Box' (R = match get s1.L n with | some _ => (s1, [], false, 0) | none => match whF (s1.L ++ [⟨n, pl, pd⟩]) with | none => (⟨s1.id, s1.ended, s1.L ++ [⟨n, pl, pd⟩]⟩, [], false, 0) | some k => (⟨s1.id, true, []⟩, tog (s1.L ++ [⟨n, pl, pd⟩]) k, true, 0)) := ⟨by
            rw [HRR.out, tkR, if_neg (by rw [HE1.out.1]; simp)]
            simp only [Int.toNat_natCast]
            cases get s1.L n with
            | some y => rfl
            | none =>
              simp only
              cases whF (s1.L ++ [⟨n, pl, pd⟩]) with
              | none => rfl
              | some k => rfl⟩
          go_wp2_with fail
          refine HAS.mono ?_
          intro e4 w4 hh
          obtain ⟨hm, b4⟩ := hh
          clear HAS cp1 HRR
          cases hg : get s1.L n with
          | some y =>
            rw [hg] at hm
            simp only at hm
            obtain ⟨vy, hmy, he4⟩ := hm
            subst he4
            have HRL : Box' (R = match whF s1.L with | none => (s1, [], false, 0) | some k => (⟨pi, true, []⟩, tog s1.L k, true, 0)) := ⟨by rw [HTR.out, hg, HI1.out.run HE1.out.1]⟩
            obtain ⟨ay, ny, cy, hvy⟩ : ∃ a n c, vy = .slice a n c := by obtain ⟨a, c, h⟩ := (HJ3.out.own.own _ hmy).slice; exact ⟨_, _, _, h⟩
            subst hvy
            obtain ⟨w6, hw6⟩ : ∃ w6, w6 = (w4.alloc (.cells #[.int .u64 0, .int .i64 0, .bool false, .slice none 0 0] 25)).setRow w4.heap.size #[.int .u64 (s1.id : Int), .int .i64 (y.n : Int), .bool y.last, .slice ay ny cy] := ⟨_, rfl⟩
            have b6 : Below w4.heap.size w4 w6 := by rw [hw6]; exact below_setRow ((Below.refl _ _).alloc (Nat.le_refl _) _) (Nat.le_refl _) _
            have b46 : Below w3.heap.size w3 w6 := b4.trans (b6.mono b4.size)
            have HJW := Box'.mk (HJ3.out.below b46)
            have HBB : Box' (Bq tb (Value.ownBlock (.slice aL nL cL)) w w6) := ⟨HB3.out.then' b46⟩
            have HPW := Box'.mk (HR3.out.below b46 HR3.out.lt)
            have HJO := Box'.mk HI1.out.ok
            unfold pv toP
            simp only
            clear b4 b6 b46 HTR hg hmy HJ3 HB3 HR3 HI1
            go_upto_region 11 with (refine wpList_store_row rfl 25 (.tmp 7) (.tmp 68) rfl _ rfl _ rfl 25 4 (Room.new _ _ _ _ rfl) Try.info25 rfl (pt_one _ _ _ _ _ _) ?_)
            rw [← hw6]
            clear hw6
            have HFW := HJO.out.few
            have HWK : Box' (whF s1.L = whG s1.L 256 0) := ⟨rfl⟩
            have HTG : Box' (∀ k, k ≤ 256 → (tog s1.L k).length ≤ 262144) := ⟨fun k hk => by have := tog_len HJO.out.len k; omega⟩
            go_wp2_with fail
            go_loopw [9, 10] (fun u iv wr => ∃ (k : Nat) (d : List UInt8), iv = .int .i64 (k : Int) ∧ k ≤ 256 ∧ Box' (d = tog s1.L k) ∧ Box' (whF s1.L = whG s1.L (256 - k) k) ∧ Box' (OwnB w6.heap.size wr u d) ∧ Box' (Below w6.heap.size w6 wr)) (fun _ iv _ => 256 - (intOf iv).toNat)
            case atStart => exact ⟨0, [], rfl, by omega, ⟨rfl⟩, HWK, ⟨OwnB.nil _ _⟩, ⟨Below.refl _ _⟩⟩
            case round =>
              clear HWK
              obtain ⟨k, d, rfl, hk, HD, HWK, HU, HBW⟩ := hrel
              have jr := HJW.out.below HBW.out
              obtain ⟨au, cu, hu⟩ := HU.out.slice
              subst hu
              have HDL : Box' (d.length ≤ 262144) := ⟨by rw [HD.out]; exact HTG.out k hk⟩
              by_cases hlt : k < 256
              · have HWS : Box' (whF s1.L = match get s1.L k with | none => none | some x => if x.last then some (k + 1) else whG s1.L (256 - (k + 1)) (k + 1)) := ⟨by
                  rw [HWK.out, show 256 - k = (256 - (k + 1)) + 1 by omega, whG]
                  cases get s1.L k <;> rfl⟩
                have HAS := has_any N wr tb true s1 _ qq jr HFW k
                generalize hdl : d.length = dl at *
                have HE := Box'.mk hdl
                clear hdl
                go_wp2_with fail
                refine HAS.mono ?_
                intro e4 w4 hh
                obtain ⟨hm, b4⟩ := hh
                clear HAS
                cases hg : get s1.L k with
                | none =>
                  rw [hg] at hm
                  simp only at hm
                  subst hm
                  have hwn : whF s1.L = none := by rw [HWS.out, hg]
                  have e := HRL.out
                  rw [hwn] at e
                  simp only at e
                  subst e
                  have HB4 : Box' (Below w6.heap.size w6 w4) := ⟨HBW.out.trans (b4.mono HBW.out.size)⟩
                  obtain ⟨w5, hw5⟩ : ∃ w5, w5 = (w4.alloc (.cells #[.int .u64 0, .int .i64 0, .bool false, .slice none 0 0] 25)).setRow w4.heap.size #[.int .u64 0, .int .i64 0, .bool false, .slice none 0 0] := ⟨_, rfl⟩
                  have HB5 : Box' (Below w6.heap.size w6 w5) := ⟨by rw [hw5]; exact below_setRow (HB4.out.alloc HB4.out.size _) HB4.out.size _⟩
                  clear b4 HB4 HBW HWS HWK hwn hg HU HRL
                  go_wp2_with (refine wpList_store_row rfl 25 (.tmp 11) (.tmp 94) rfl _ rfl _ rfl 25 4 (Room.new _ _ _ _ rfl) Try.info25 rfl zp_one ?_)
                  rw [← hw5]
                  clear hw5
                  go_ret3
                  exact ⟨_, true, _, _, rfl, OwnB.nil _ _, HJW.out.below HB5.out, (fun h => by cases h), HBB.out.then' HB5.out⟩
                | some x =>
                  rw [hg] at hm
                  simp only at hm
                  obtain ⟨vq, hmem, he4⟩ := hm
                  subst he4
                  have hoq : OwnB N w4 vq x.d := (((HJW.out.below HBW.out).own.own _ hmem).below b4)
                  obtain ⟨aq, cq, hvq⟩ : ∃ aq cq, vq = .slice aq x.d.length cq := hoq.slice
                  subst hvq
                  have HWX : Box' (whF s1.L = if x.last then some (k + 1) else whG s1.L (256 - (k + 1)) (k + 1)) := ⟨by rw [HWS.out, hg]⟩
                  have HTX : Box' (d ++ x.d = tog s1.L (k + 1)) := ⟨by rw [HD.out, tog, hg]; rfl⟩
                  have hxl := HJO.out.len x (get_some hg).1
                  have HB4 : Box' (Below w6.heap.size w6 w4) := ⟨HBW.out.trans (b4.mono HBW.out.size)⟩
                  have HU4 := Box'.mk (HU.out.below b4)
                  obtain ⟨w5, hw5⟩ : ∃ w5, w5 = (w4.alloc (.cells #[.int .u64 0, .int .i64 0, .bool false, .slice none 0 0] 25)).setRow w4.heap.size #[.int .u64 (s1.id : Int), .int .i64 (x.n : Int), .bool x.last, .slice aq x.d.length cq] := ⟨_, rfl⟩
                  have b5 : Below w4.heap.size w4 w5 := by rw [hw5]; exact below_setRow ((Below.refl _ _).alloc (Nat.le_refl _) _) (Nat.le_refl _) _
                  have r5 : Row w5 w4.heap.size 25 #[.int .u64 (s1.id : Int), .int .i64 (x.n : Int), .bool x.last, .slice aq x.d.length cq] := by rw [hw5]; exact (Row.new w4 25 #[.int .u64 0, .int .i64 0, .bool false, .slice none 0 0]).setRow _
                  have HI5 := Box'.mk ((hoq.below b5).inB)
                  have HU5 := Box'.mk (HU4.out.below b5)
                  have HB5 : Box' (Below w6.heap.size w6 w5) := ⟨HB4.out.trans (b5.mono HB4.out.size)⟩
                  have HR5 := Box'.mk r5
                  have c53 : w5.cell? ⟨w4.heap.size, 3, none⟩ = some (.slice aq x.d.length cq) := by rw [r5.cell]; rfl
                  have hmx : d.length + x.d.length ≤ 140737488355328 := by have h1 := HDL.out; have h2 := HE.out; omega
                  have HMX := Box'.mk hmx
                  unfold pv toP
                  simp only
                  clear b4 b5 r5 HB4 HBW HWS HWK hg HU HU4 hoq hmem hmx
                  generalize hxq : x.d.length = xq at *
                  have HXQ := Box'.mk hxq
                  clear hxq
                  go_upto_region 16 with (refine wpList_store_row rfl 25 (.tmp 11) (.tmp 94) rfl _ rfl _ rfl 25 4 (Room.new _ _ _ _ rfl) Try.info25 rfl (pt_one _ _ _ _ _ _) ?_)
                  rw [← hw5]
                  clear hw5
                  generalize w4.heap.size = qb at *
                  have hz5 := HB5.out.size
                  cases hxl2 : x.last with
                  | true =>
                    rw [hxl2] at HR5 HWX
                    simp only [if_true] at HWX
                    have e := HRL.out
                    rw [HWX.out] at e
                    simp only at e
                    subst e
                    clear HRL HWX
                    have REST6 : Box' (∀ wz, Fr w6.heap.size w5 wz → wz.cell? ⟨qb, 2, none⟩ = some (.bool true) ∧ wz.cell? ⟨w.heap.size, 0, none⟩ = some (.int .u64 (pi : Int)) ∧ Room wz tb 48 4 ∧ Below w6.heap.size w6 wz ∧ ∃ c, Row wz tb 48 c) := ⟨fun wz f6 => by
                      have r6 := f6.row HR5.out (by decide)
                      have rp := f6.row (HPW.out.below HB5.out HPW.out.lt) (by decide)
                      have rt := f6.row ((HJW.out.below HB5.out).row) (by decide)
                      exact ⟨by rw [r6.cell]; rfl, by rw [rp.cell]; rfl, ⟨_, rt, rfl⟩, HB5.out.trans (f6.below HB5.out.size), _, rt⟩⟩
                    go_wp2_with (first
                      | (refine wpList_app rfl (.tmp 98) (.tmp 100) rfl w6.heap.size _ hz5 _ d rfl HU5.out _ x.d rfl HI5.out (by rw [HXQ.out]; exact HMX.out) ?_; intro v6 wz o6 f6; obtain ⟨c62, cp0, rm6, B6, ct, rt⟩ := REST6.out wz f6; have O6 := Box'.mk o6; have RM6 := Box'.mk rm6; have HB6 := Box'.mk B6; have RT6 := Box'.mk rt; clear o6 f6 rm6 B6 rt REST6; obtain ⟨a6, c6, hv6⟩ := O6.out.slice; subst hv6; generalize hl6 : (d ++ x.d).length = l6 at *; clear hl6)
                      | (refine wpList_store_row rfl 48 (.tmp 108) (.tmp 107) rfl tb rfl _ rfl 48 4 RM6.out Try.info48 rfl (jn_one _ _ _ _ _ _) ?_))
                    have o7 : OwnB w6.heap.size (wz.setRow tb #[.int .u64 (pi : Int), .slice none 0 0, .bool true, .bool true]) (.slice a6 l6 c6) (tog s1.L (k + 1)) := by
                      have := O6.out
                      rw [HTX.out] at this
                      exact this.same fun g hg => setRow_other _ _ _ _ (own_ne this RT6.out (by decide) g hg)
                    go_ret3
                    exact ⟨_, true, _, _, rfl, o7.less HBB.out.size, JR.new N wz tb _ RT6.out HTN.out pi true, (fun h => by cases h), (HBB.out.then' HB6.out).then (r' := none) (Bq.setRow wz _) (fun j h => by cases h)⟩
                  | false =>
                    rw [hxl2] at HR5 HWX
                    simp only [Bool.false_eq_true, if_false] at HWX
                    have REST6 : Box' (∀ wz, Fr w6.heap.size w5 wz → wz.cell? ⟨qb, 2, none⟩ = some (.bool false) ∧ Below w6.heap.size w6 wz) := ⟨fun wz f6 => by
                      have r6 := f6.row HR5.out (by decide)
                      exact ⟨by rw [r6.cell]; rfl, HB5.out.trans (f6.below HB5.out.size)⟩⟩
                    go_wp2_with (refine wpList_app rfl (.tmp 98) (.tmp 100) rfl w6.heap.size _ hz5 _ d rfl HU5.out _ x.d rfl HI5.out (by rw [HXQ.out]; exact HMX.out) ?_; intro v6 wz o6 f6; obtain ⟨c62, B6⟩ := REST6.out wz f6; have O6 := Box'.mk o6; have HB6 := Box'.mk B6; clear o6 f6 B6 REST6)
                    exact ⟨⟨k + 1, d ++ x.d, by go_num, by omega, HTX, HWX, O6, HB6⟩, by simp [intOf]; omega⟩
              · obtain rfl : k = 256 := by omega
                have hwn : whF s1.L = none := by rw [HWK.out]; rfl
                have e := HRL.out
                rw [hwn] at e
                simp only at e
                subst e
                have HB5 := HBW
                clear HBW HWK hwn HU HRL
                generalize d.length = dl at *
                go_wp2_with fail
                go_ret3
                exact ⟨_, true, _, _, rfl, OwnB.nil _ _, HJW.out.below HB5.out, (fun h => by cases h), HBB.out.then' HB5.out⟩
          | none =>
            rw [hg] at hm
            simp only at hm
            subst hm
            have HRL : Box' (R = match whF (s1.L ++ [⟨n, pl, pd⟩]) with | none => (⟨s1.id, s1.ended, s1.L ++ [⟨n, pl, pd⟩]⟩, [], false, 0) | some k => (⟨pi, true, []⟩, tog (s1.L ++ [⟨n, pl, pd⟩]) k, true, 0)) := ⟨by rw [HTR.out, hg, HE1.out.2]⟩
            have HJO2 : Box' (JOk ⟨s1.id, s1.ended, s1.L ++ [⟨n, pl, pd⟩]⟩) := ⟨HI1.out.ok.put n pl pd hn (by rw [HLN.out]; exact hl) hg _⟩
            obtain ⟨w5, hw5⟩ : ∃ w5, w5 = (w4.alloc (.cells #[.int .u64 0, .int .i64 0, .bool false, .slice none 0 0] 25)).setRow w4.heap.size #[.int .u64 0, .int .i64 0, .bool false, .slice none 0 0] := ⟨_, rfl⟩
            have b5 : Below w4.heap.size w4 w5 := by rw [hw5]; exact below_setRow ((Below.refl _ _).alloc (Nat.le_refl _) _) (Nat.le_refl _) _
            have b45 : Below w3.heap.size w3 w5 := b4.trans (b5.mono b4.size)
            have HJ5 := Box'.mk (HJ3.out.below b45)
            have HB5 : Box' (Bq tb (Value.ownBlock (.slice aL nL cL)) w w5) := ⟨HB3.out.then' b45⟩
            have HR5 := Box'.mk (HR3.out.below b45 HR3.out.lt)
            have hBN : Below N w w5 := HB5.out.below HN.out HTN.out HOL.out
            have CP := copy_any (· < N) (.slice va ln vc) pd w5 (HBT.out.below hBN (fun b hb => hb)) (fun b hb => Nat.lt_of_lt_of_le hb (Nat.le_trans HN.out HB5.out.size)) (by rw [HLN.out]; omega)
            have c53 : w5.cell? ⟨w.heap.size, 3, none⟩ = some (.slice va ln vc) := by rw [HR5.out.cell]; rfl
            clear b4 b5 b45 HTR HJ3 HB3 HR3 hBN
            go_upto_region 8 with (refine wpList_store_row rfl 25 (.tmp 7) (.tmp 68) rfl _ rfl _ rfl 25 4 (Room.new _ _ _ _ rfl) Try.info25 rfl zp_one ?_)
            rw [← hw5]
            clear hw5
            go_wp2_with fail
            refine CP.mono ?_
            rintro e6 w6 ⟨u6, rfl, o6, b6⟩
            clear CP c53
            obtain ⟨a6, c6, hu6⟩ : ∃ a c, u6 = .slice a ln c := by obtain ⟨a, c, h⟩ := o6.slice; rw [HLN.out] at h; exact ⟨a, c, h⟩
            subst hu6
            have r6 := HR5.out.below b6 HR5.out.lt
            have j6 := HJ5.out.below b6
            have c63 : w6.cell? ⟨w.heap.size, 3, none⟩ = some (.slice va ln vc) := by rw [r6.cell]; rfl
            have f6 := r6.frozen
            obtain ⟨w7, hw7⟩ : ∃ w7, w7 = w6.setCell ⟨w.heap.size, 3, none⟩ (.slice a6 ln c6) := ⟨_, rfl⟩
            have r7 : Row w7 w.heap.size 25 #[.int .u64 (pi : Int), .int .i64 (n : Int), .bool pl, .slice a6 ln c6] := by rw [hw7]; exact r6.setCell (k := 3) _
            have hth : tb ≠ w.heap.size := by omega
            have hvb : ∀ j, Value.ownBlock (.slice aM nM cM) = some j → j ≠ w.heap.size := fun j hj => by have := HVM.out j hj; omega
            have hoth : ∀ k, k ≠ w.heap.size → w7.heap[k]? = w6.heap[k]? := fun k hk => by rw [hw7]; exact Below.heap_setCell _ _ _ _ hk
            have q7 : OwnQ N w7 (.slice aM nM cM) qq := j6.own.same (fun g hg => hoth g (hvb g hg)) fun q hq => (j6.own.own q hq).same fun g hg => hoth g (own_ne (j6.own.own q hq) r6 (by decide) g hg)
            have j7 : JR N w7 tb true s1 (.slice aM nM cM) qq := ⟨j6.row.same (hoth tb hth), q7, j6.ls, j6.nl⟩
            have o7 : OwnB N w7 (.slice a6 ln c6) pd := (o6.less (Nat.le_trans HN.out HB5.out.size)).same fun g hg => hoth g (own_ne o6 r6 (by decide) g hg)
            have B7 : Bq tb (Value.ownBlock (.slice aL nL cL)) w w7 := by
              have := HB5.out.then' b6
              refine ⟨by rw [hw7]; exact this.os, by rw [hw7]; exact this.tape, by rw [hw7]; exact this.output, by rw [hw7]; simpa [World.setCell] using this.size, fun k hk h1 h2 => (hoth k (by omega)).trans (this.block k hk h1 h2)⟩
            have HJ7 := Box'.mk j7
            have HR7 := Box'.mk r7
            have HB7 := Box'.mk B7
            have HO7 := Box'.mk o7
            clear r6 j6 r7 hth hvb hoth q7 j7 o7 B7 o6 b6 HJ5 HB5 HR5
            go_upto_region 10 with fail
            rw [← hw7]
            clear hw7 c63 f6
            have hGB : ∀ w1, w7.grownBy w1 (Value.ownBlock (.slice aM nM cM)) → ∀ k, k < w7.heap.size → (∀ j, Value.ownBlock (.slice aM nM cM) = some j → k ≠ j) → w1.heap[k]? = w7.heap[k]? := fun w1 hg k hk h => hg.block k hk (fun e => h k e.symm rfl)
            have htr : ∀ j, Value.ownBlock (.slice aM nM cM) = some j → tb ≠ j := fun j hj => by obtain ⟨_, cur, r⟩ := HJ7.out.own.lt j hj; exact row_ne HJ7.out.row r (by decide)
            have hpr : ∀ j, Value.ownBlock (.slice aM nM cM) = some j → w.heap.size ≠ j := fun j hj => by have := HVM.out j hj; omega
            have hC1 : ∀ w1, w7.grownBy w1 (Value.ownBlock (.slice aM nM cM)) → w1.cell? ⟨tb, 1, none⟩ = some (.slice aM nM cM) := fun w1 hg => by rw [(HJ7.out.row.same (hGB w1 hg tb HJ7.out.row.lt htr)).cell]; rfl
            have hFZ : ∀ w1, w7.grownBy w1 (Value.ownBlock (.slice aM nM cM)) → ∀ j, w1.frozen? ⟨tb, j, none⟩ = false := fun w1 hg j => HJ7.out.row.frz (hGB w1 hg tb HJ7.out.row.lt htr) j
            have hP : ∀ w1, w7.grownBy w1 (Value.ownBlock (.slice aM nM cM)) → Row w1 w.heap.size 25 #[.int .u64 (pi : Int), .int .i64 (n : Int), .bool pl, .slice a6 ln c6] := fun w1 hg => HR7.out.same (hGB w1 hg _ HR7.out.lt hpr)
            refine wp_mono (rkReg N tb w.heap.size pi n nM cM ln c6 pl aM a6 pd qq _ _ _ _ _ _ _ _ _ _ _ _ _ _ _ _ _ _ _ _ _ _ _ _ _ _ _ _ _ _ _ _ _ _ _ _ _ _ _ _ _ _ _ _ _ _ _ _ _ _ _ _ _ _ _ _ _ _ _ _ _ _ _ _ _ _ _ _ _ _ _ _ _ _ _ _ _ _ _ _ _ _ _ _ _ _ _ _ _ _ _ _ _ _ _ _ _ _ _ _ _ _ _ _ _ _ _ _ _ (Nat.le_trans HN.out HB7.out.size) ⟨HJ7.out.own, HO7.out⟩ hC1 hFZ hP (by rw [HJ7.out.len]; omega)) ?_
            rintro r a' w9 ⟨rfl, v76, v77, v78, v79, v80, v81, v82, v83, v84, v85, rfl, vd8, w8, g8, o8, rfl⟩
            clear hC1 hFZ hP
            have r8 := HJ7.out.row.same (hGB w8 g8 tb HJ7.out.row.lt htr)
            have p8 := HR7.out.same (hGB w8 g8 _ HR7.out.lt hpr)
            obtain ⟨w6', hw6'⟩ : ∃ w6', w6' = w8.setCell ⟨tb, 1, none⟩ vd8 := ⟨_, rfl⟩
            rw [← hw6']
            have HJW : Box' (JR N w6' tb true ⟨s1.id, s1.ended, s1.L ++ [⟨n, pl, pd⟩]⟩ vd8 (qq ++ [(⟨pi, (n : Int), pl, pd⟩, .slice a6 ln c6)])) := ⟨by
              refine ⟨?_, ?_, ?_, HTN.out⟩
              · rw [hw6']; exact r8.setCell (k := 1) vd8
              · rw [hw6']
                exact o8.same (fun g hg => Below.heap_setCell _ _ _ _ (by obtain ⟨_, cur, r⟩ := o8.lt g hg; exact row_ne r r8 (by decide))) fun q hq => (o8.own q hq).same fun g hg => Below.heap_setCell _ _ _ _ (own_ne (o8.own q hq) r8 (by decide) g hg)
              · rw [List.map_append, List.map_append, HJ7.out.ls]
                congr 1
                simp only [List.map_cons, List.map_nil, toP]
                rw [HE1.out.2]⟩
            have HBB : Box' (Bq tb (Value.ownBlock (.slice aL nL cL)) w w6') := ⟨by
              refine HB7.out.then (r' := Value.ownBlock (.slice aM nM cM)) ?_ HVN.out
              rw [hw6']
              exact ⟨g8.os, g8.tape, g8.output, by simpa [World.setCell] using g8.size, fun k hk h1 h2 => (Below.heap_setCell _ _ _ _ h1).trans (g8.block k hk (fun e => h2 e.symm))⟩⟩
            have HPW : Box' (Row w6' w.heap.size 25 #[.int .u64 (pi : Int), .int .i64 (n : Int), .bool pl, .slice a6 ln c6]) := ⟨by rw [hw6']; exact p8.setOther _ _ (by show w.heap.size ≠ tb; omega)⟩
            have HJO := HJO2
            clear hw6' r8 p8 g8 o8 hGB htr hpr HJ7 HR7 HB7 HO7
            generalize hs2 : (⟨s1.id, s1.ended, s1.L ++ [⟨n, pl, pd⟩]⟩ : Jn) = s2 at *
            have HRL2 : Box' (R = match whF s2.L with | none => (s2, [], false, 0) | some k => (⟨pi, true, []⟩, tog s2.L k, true, 0)) := ⟨by rw [← hs2]; rw [← hs2] at HRL; exact HRL.out⟩
            clear hs2 HRL HJO2
            have HRL := HRL2
            clear HRL2
            generalize qq ++ [((⟨pi, (n : Int), pl, pd⟩ : Prt), Value.slice a6 ln c6)] = q2 at *
            go_upto_region 11 with fail
            have HFW := HJO.out.few
            have HWK : Box' (whF s2.L = whG s2.L 256 0) := ⟨rfl⟩
            have HTG : Box' (∀ k, k ≤ 256 → (tog s2.L k).length ≤ 262144) := ⟨fun k hk => by have := tog_len HJO.out.len k; omega⟩
            go_wp2_with fail
            go_loopw [9, 10] (fun u iv wr => ∃ (k : Nat) (d : List UInt8), iv = .int .i64 (k : Int) ∧ k ≤ 256 ∧ Box' (d = tog s2.L k) ∧ Box' (whF s2.L = whG s2.L (256 - k) k) ∧ Box' (OwnB w6'.heap.size wr u d) ∧ Box' (Below w6'.heap.size w6' wr)) (fun _ iv _ => 256 - (intOf iv).toNat)
            case atStart => exact ⟨0, [], rfl, by omega, ⟨rfl⟩, HWK, ⟨OwnB.nil _ _⟩, ⟨Below.refl _ _⟩⟩
            case round =>
              clear HWK
              obtain ⟨k, d, rfl, hk, HD, HWK, HU, HBW⟩ := hrel
              have jr := HJW.out.below HBW.out
              obtain ⟨au, cu, hu⟩ := HU.out.slice
              subst hu
              have HDL : Box' (d.length ≤ 262144) := ⟨by rw [HD.out]; exact HTG.out k hk⟩
              by_cases hlt : k < 256
              · have HWS : Box' (whF s2.L = match get s2.L k with | none => none | some x => if x.last then some (k + 1) else whG s2.L (256 - (k + 1)) (k + 1)) := ⟨by
                  rw [HWK.out, show 256 - k = (256 - (k + 1)) + 1 by omega, whG]
                  cases get s2.L k <;> rfl⟩
                have HAS := has_any N wr tb true s2 _ q2 jr HFW k
                generalize hdl : d.length = dl at *
                have HE := Box'.mk hdl
                clear hdl
                go_wp2_with fail
                refine HAS.mono ?_
                intro e4 w4 hh
                obtain ⟨hm, b4⟩ := hh
                clear HAS
                cases hg : get s2.L k with
                | none =>
                  rw [hg] at hm
                  simp only at hm
                  subst hm
                  have hwn : whF s2.L = none := by rw [HWS.out, hg]
                  have e := HRL.out
                  rw [hwn] at e
                  simp only at e
                  subst e
                  have HB4 : Box' (Below w6'.heap.size w6' w4) := ⟨HBW.out.trans (b4.mono HBW.out.size)⟩
                  obtain ⟨w5, hw5⟩ : ∃ w5, w5 = (w4.alloc (.cells #[.int .u64 0, .int .i64 0, .bool false, .slice none 0 0] 25)).setRow w4.heap.size #[.int .u64 0, .int .i64 0, .bool false, .slice none 0 0] := ⟨_, rfl⟩
                  have HB5 : Box' (Below w6'.heap.size w6' w5) := ⟨by rw [hw5]; exact below_setRow (HB4.out.alloc HB4.out.size _) HB4.out.size _⟩
                  clear b4 HB4 HBW HWS HWK hwn hg HU HRL
                  go_wp2_with (refine wpList_store_row rfl 25 (.tmp 11) (.tmp 94) rfl _ rfl _ rfl 25 4 (Room.new _ _ _ _ rfl) Try.info25 rfl zp_one ?_)
                  rw [← hw5]
                  clear hw5
                  go_ret3
                  exact ⟨_, true, _, _, rfl, OwnB.nil _ _, HJW.out.below HB5.out, (fun h => by cases h), HBB.out.then' HB5.out⟩
                | some x =>
                  rw [hg] at hm
                  simp only at hm
                  obtain ⟨vq, hmem, he4⟩ := hm
                  subst he4
                  have hoq : OwnB N w4 vq x.d := (((HJW.out.below HBW.out).own.own _ hmem).below b4)
                  obtain ⟨aq, cq, hvq⟩ : ∃ aq cq, vq = .slice aq x.d.length cq := hoq.slice
                  subst hvq
                  have HWX : Box' (whF s2.L = if x.last then some (k + 1) else whG s2.L (256 - (k + 1)) (k + 1)) := ⟨by rw [HWS.out, hg]⟩
                  have HTX : Box' (d ++ x.d = tog s2.L (k + 1)) := ⟨by rw [HD.out, tog, hg]; rfl⟩
                  have hxl := HJO.out.len x (get_some hg).1
                  have HB4 : Box' (Below w6'.heap.size w6' w4) := ⟨HBW.out.trans (b4.mono HBW.out.size)⟩
                  have HU4 := Box'.mk (HU.out.below b4)
                  obtain ⟨w5, hw5⟩ : ∃ w5, w5 = (w4.alloc (.cells #[.int .u64 0, .int .i64 0, .bool false, .slice none 0 0] 25)).setRow w4.heap.size #[.int .u64 (s2.id : Int), .int .i64 (x.n : Int), .bool x.last, .slice aq x.d.length cq] := ⟨_, rfl⟩
                  have b5 : Below w4.heap.size w4 w5 := by rw [hw5]; exact below_setRow ((Below.refl _ _).alloc (Nat.le_refl _) _) (Nat.le_refl _) _
                  have r5 : Row w5 w4.heap.size 25 #[.int .u64 (s2.id : Int), .int .i64 (x.n : Int), .bool x.last, .slice aq x.d.length cq] := by rw [hw5]; exact (Row.new w4 25 #[.int .u64 0, .int .i64 0, .bool false, .slice none 0 0]).setRow _
                  have HI5 := Box'.mk ((hoq.below b5).inB)
                  have HU5 := Box'.mk (HU4.out.below b5)
                  have HB5 : Box' (Below w6'.heap.size w6' w5) := ⟨HB4.out.trans (b5.mono HB4.out.size)⟩
                  have HR5 := Box'.mk r5
                  have c53 : w5.cell? ⟨w4.heap.size, 3, none⟩ = some (.slice aq x.d.length cq) := by rw [r5.cell]; rfl
                  have hmx : d.length + x.d.length ≤ 140737488355328 := by have h1 := HDL.out; have h2 := HE.out; omega
                  have HMX := Box'.mk hmx
                  unfold pv toP
                  simp only
                  clear b4 b5 r5 HB4 HBW HWS HWK hg HU HU4 hoq hmem hmx
                  generalize hxq : x.d.length = xq at *
                  have HXQ := Box'.mk hxq
                  clear hxq
                  go_upto_region 16 with (refine wpList_store_row rfl 25 (.tmp 11) (.tmp 94) rfl _ rfl _ rfl 25 4 (Room.new _ _ _ _ rfl) Try.info25 rfl (pt_one _ _ _ _ _ _) ?_)
                  rw [← hw5]
                  clear hw5
                  generalize w4.heap.size = qb at *
                  have hz5 := HB5.out.size
                  cases hxl2 : x.last with
                  | true =>
                    rw [hxl2] at HR5 HWX
                    simp only [if_true] at HWX
                    have e := HRL.out
                    rw [HWX.out] at e
                    simp only at e
                    subst e
                    clear HRL HWX
                    have REST6 : Box' (∀ wz, Fr w6'.heap.size w5 wz → wz.cell? ⟨qb, 2, none⟩ = some (.bool true) ∧ wz.cell? ⟨w.heap.size, 0, none⟩ = some (.int .u64 (pi : Int)) ∧ Room wz tb 48 4 ∧ Below w6'.heap.size w6' wz ∧ ∃ c, Row wz tb 48 c) := ⟨fun wz f6 => by
                      have r6 := f6.row HR5.out (by decide)
                      have rp := f6.row (HPW.out.below HB5.out HPW.out.lt) (by decide)
                      have rt := f6.row ((HJW.out.below HB5.out).row) (by decide)
                      exact ⟨by rw [r6.cell]; rfl, by rw [rp.cell]; rfl, ⟨_, rt, rfl⟩, HB5.out.trans (f6.below HB5.out.size), _, rt⟩⟩
                    go_wp2_with (first
                      | (refine wpList_app rfl (.tmp 98) (.tmp 100) rfl w6'.heap.size _ hz5 _ d rfl HU5.out _ x.d rfl HI5.out (by rw [HXQ.out]; exact HMX.out) ?_; intro v6 wz o6 f6; obtain ⟨c62, cp0, rm6, B6, ct, rt⟩ := REST6.out wz f6; have O6 := Box'.mk o6; have RM6 := Box'.mk rm6; have HB6 := Box'.mk B6; have RT6 := Box'.mk rt; clear o6 f6 rm6 B6 rt REST6; obtain ⟨a6, c6, hv6⟩ := O6.out.slice; subst hv6; generalize hl6 : (d ++ x.d).length = l6 at *; clear hl6)
                      | (refine wpList_store_row rfl 48 (.tmp 108) (.tmp 107) rfl tb rfl _ rfl 48 4 RM6.out Try.info48 rfl (jn_one _ _ _ _ _ _) ?_))
                    have o7 : OwnB w6'.heap.size (wz.setRow tb #[.int .u64 (pi : Int), .slice none 0 0, .bool true, .bool true]) (.slice a6 l6 c6) (tog s2.L (k + 1)) := by
                      have := O6.out
                      rw [HTX.out] at this
                      exact this.same fun g hg => setRow_other _ _ _ _ (own_ne this RT6.out (by decide) g hg)
                    go_ret3
                    exact ⟨_, true, _, _, rfl, o7.less HBB.out.size, JR.new N wz tb _ RT6.out HTN.out pi true, (fun h => by cases h), (HBB.out.then' HB6.out).then (r' := none) (Bq.setRow wz _) (fun j h => by cases h)⟩
                  | false =>
                    rw [hxl2] at HR5 HWX
                    simp only [Bool.false_eq_true, if_false] at HWX
                    have REST6 : Box' (∀ wz, Fr w6'.heap.size w5 wz → wz.cell? ⟨qb, 2, none⟩ = some (.bool false) ∧ Below w6'.heap.size w6' wz) := ⟨fun wz f6 => by
                      have r6 := f6.row HR5.out (by decide)
                      exact ⟨by rw [r6.cell]; rfl, HB5.out.trans (f6.below HB5.out.size)⟩⟩
                    go_wp2_with (refine wpList_app rfl (.tmp 98) (.tmp 100) rfl w6'.heap.size _ hz5 _ d rfl HU5.out _ x.d rfl HI5.out (by rw [HXQ.out]; exact HMX.out) ?_; intro v6 wz o6 f6; obtain ⟨c62, B6⟩ := REST6.out wz f6; have O6 := Box'.mk o6; have HB6 := Box'.mk B6; clear o6 f6 B6 REST6)
                    exact ⟨⟨k + 1, d ++ x.d, by go_num, by omega, HTX, HWX, O6, HB6⟩, by simp [intOf]; omega⟩
              · obtain rfl : k = 256 := by omega
                have hwn : whF s2.L = none := by rw [HWK.out]; rfl
                have e := HRL.out
                rw [hwn] at e
                simp only at e
                subst e
                have HB5 := HBW
                clear HBW HWK hwn HU HRL
                generalize d.length = dl at *
                go_wp2_with fail
                go_ret3
                exact ⟨_, true, _, _, rfl, OwnB.nil _ _, HJW.out.below HB5.out, (fun h => by cases h), HBB.out.then' HB5.out⟩
        · have hpe : pi = s.id := by omega
          have HRR : Box' (R = tkR s ⟨pi, n, pl, pd⟩) := ⟨by rw [HT2.out, if_neg hlt, if_neg hgt]⟩
          clear HT2
          cases hen : s.ended with
          | true =>
            have e := HRR.out
            unfold tkR at e
            rw [hen, if_pos rfl] at e
            subst e
            rw [hen] at c3
            clear HRR
            go_quiet (fail)
            go_wp2_with fail
            go_ret3
            exact ⟨_, true, _, _, rfl, OwnB.nil _ _, HJ2.out.below (Below.drewN (Below.refl _ _) _), (fun h => by cases h), Bq.of (Below.drewN HB2.out _)⟩
          | false =>
            rw [hen] at c3
            go_quiet (fail)
            go_wp2_with fail
            go_quiet (fail)
            generalize hq : w2.drewN _ = wq0
            generalize hq2 : wq0.drewN _ = w3
            have bq : Below w2.heap.size w2 w3 := by rw [← hq2, ← hq]; exact Below.drewN (Below.drewN (Below.refl _ _) _) _
            have HJ3 := Box'.mk (HJ2.out.below bq)
            have HB3 : Box' (Bq tb (Value.ownBlock (.slice aL nL cL)) w w3) := ⟨(Bq.of HB2.out).then' bq⟩
            have HR3 := Box'.mk (HR2.out.below bq HR2.out.lt)
            clear hq hq2 bq HJ2 HB2 HR2 c0 c2 c3 cp0
            go_upto_region 7 with fail
            have HI1 := HIN
            have HE1 : Box' (s.ended = false ∧ s.id = pi) := ⟨hen, hpe.symm⟩
            clear hpe hlt hgt hen
            have HVM := HVL
            have HVN : Box' (∀ j, Value.ownBlock (.slice aL nL cL) = some j → w.heap.size ≤ j ∨ Value.ownBlock (.slice aL nL cL) = some j) := ⟨fun j hj => .inr hj⟩
            have HFW1 := HI1.out.ok.few
            have cp1 : w3.cell? ⟨w.heap.size, 1, none⟩ = some (.int .i64 (n : Int)) := by rw [HR3.out.cell]; rfl
            have HAS := has_any N w3 tb true s _ qs HJ3.out HFW1 n
            have HTR : Box' (R = match get s.L n with | some _ => (s, [], false, 0) | none => match whF (s.L ++ [⟨n, pl, pd⟩]) with | none => (⟨s.id, s.ended, s.L ++ [⟨n, pl, pd⟩]⟩, [], false, 0) | some k => (⟨s.id, true, []⟩, tog (s.L ++ [⟨n, pl, pd⟩]) k, true, 0)) := ⟨by
              rw [HRR.out, tkR, if_neg (by rw [HE1.out.1]; simp)]
              simp only [Int.toNat_natCast]
              cases get s.L n with
              | some y => rfl
              | none =>
                simp only
                cases whF (s.L ++ [⟨n, pl, pd⟩]) with
                | none => rfl
                | some k => rfl⟩
            go_wp2_with fail
            refine HAS.mono ?_
            intro e4 w4 hh
            obtain ⟨hm, b4⟩ := hh
            clear HAS cp1 HRR
            cases hg : get s.L n with
            | some y =>
              rw [hg] at hm
              simp only at hm
              obtain ⟨vy, hmy, he4⟩ := hm
              subst he4
              have HRL : Box' (R = match whF s.L with | none => (s, [], false, 0) | some k => (⟨pi, true, []⟩, tog s.L k, true, 0)) := ⟨by rw [HTR.out, hg, HI1.out.run HE1.out.1]⟩
              obtain ⟨ay, ny, cy, hvy⟩ : ∃ a n c, vy = .slice a n c := by obtain ⟨a, c, h⟩ := (HJ3.out.own.own _ hmy).slice; exact ⟨_, _, _, h⟩
              subst hvy
              obtain ⟨w6, hw6⟩ : ∃ w6, w6 = (w4.alloc (.cells #[.int .u64 0, .int .i64 0, .bool false, .slice none 0 0] 25)).setRow w4.heap.size #[.int .u64 (s.id : Int), .int .i64 (y.n : Int), .bool y.last, .slice ay ny cy] := ⟨_, rfl⟩
              have b6 : Below w4.heap.size w4 w6 := by rw [hw6]; exact below_setRow ((Below.refl _ _).alloc (Nat.le_refl _) _) (Nat.le_refl _) _
              have b46 : Below w3.heap.size w3 w6 := b4.trans (b6.mono b4.size)
              have HJW := Box'.mk (HJ3.out.below b46)
              have HBB : Box' (Bq tb (Value.ownBlock (.slice aL nL cL)) w w6) := ⟨HB3.out.then' b46⟩
              have HPW := Box'.mk (HR3.out.below b46 HR3.out.lt)
              have HJO := Box'.mk HI1.out.ok
              unfold pv toP
              simp only
              clear b4 b6 b46 HTR hg hmy HJ3 HB3 HR3 HI1
              go_upto_region 11 with (refine wpList_store_row rfl 25 (.tmp 7) (.tmp 68) rfl _ rfl _ rfl 25 4 (Room.new _ _ _ _ rfl) Try.info25 rfl (pt_one _ _ _ _ _ _) ?_)
              rw [← hw6]
              clear hw6
              have HFW := HJO.out.few
              have HWK : Box' (whF s.L = whG s.L 256 0) := ⟨rfl⟩
              have HTG : Box' (∀ k, k ≤ 256 → (tog s.L k).length ≤ 262144) := ⟨fun k hk => by have := tog_len HJO.out.len k; omega⟩
              go_wp2_with fail
              go_loopw [9, 10] (fun u iv wr => ∃ (k : Nat) (d : List UInt8), iv = .int .i64 (k : Int) ∧ k ≤ 256 ∧ Box' (d = tog s.L k) ∧ Box' (whF s.L = whG s.L (256 - k) k) ∧ Box' (OwnB w6.heap.size wr u d) ∧ Box' (Below w6.heap.size w6 wr)) (fun _ iv _ => 256 - (intOf iv).toNat)
              case atStart => exact ⟨0, [], rfl, by omega, ⟨rfl⟩, HWK, ⟨OwnB.nil _ _⟩, ⟨Below.refl _ _⟩⟩
              case round =>
                clear HWK
                obtain ⟨k, d, rfl, hk, HD, HWK, HU, HBW⟩ := hrel
                have jr := HJW.out.below HBW.out
                obtain ⟨au, cu, hu⟩ := HU.out.slice
                subst hu
                have HDL : Box' (d.length ≤ 262144) := ⟨by rw [HD.out]; exact HTG.out k hk⟩
                by_cases hlt : k < 256
                · have HWS : Box' (whF s.L = match get s.L k with | none => none | some x => if x.last then some (k + 1) else whG s.L (256 - (k + 1)) (k + 1)) := ⟨by
                    rw [HWK.out, show 256 - k = (256 - (k + 1)) + 1 by omega, whG]
                    cases get s.L k <;> rfl⟩
                  have HAS := has_any N wr tb true s _ qs jr HFW k
                  generalize hdl : d.length = dl at *
                  have HE := Box'.mk hdl
                  clear hdl
                  go_wp2_with fail
                  refine HAS.mono ?_
                  intro e4 w4 hh
                  obtain ⟨hm, b4⟩ := hh
                  clear HAS
                  cases hg : get s.L k with
                  | none =>
                    rw [hg] at hm
                    simp only at hm
                    subst hm
                    have hwn : whF s.L = none := by rw [HWS.out, hg]
                    have e := HRL.out
                    rw [hwn] at e
                    simp only at e
                    subst e
                    have HB4 : Box' (Below w6.heap.size w6 w4) := ⟨HBW.out.trans (b4.mono HBW.out.size)⟩
                    obtain ⟨w5, hw5⟩ : ∃ w5, w5 = (w4.alloc (.cells #[.int .u64 0, .int .i64 0, .bool false, .slice none 0 0] 25)).setRow w4.heap.size #[.int .u64 0, .int .i64 0, .bool false, .slice none 0 0] := ⟨_, rfl⟩
                    have HB5 : Box' (Below w6.heap.size w6 w5) := ⟨by rw [hw5]; exact below_setRow (HB4.out.alloc HB4.out.size _) HB4.out.size _⟩
                    clear b4 HB4 HBW HWS HWK hwn hg HU HRL
                    go_wp2_with (refine wpList_store_row rfl 25 (.tmp 11) (.tmp 94) rfl _ rfl _ rfl 25 4 (Room.new _ _ _ _ rfl) Try.info25 rfl zp_one ?_)
                    rw [← hw5]
                    clear hw5
                    go_ret3
                    exact ⟨_, true, _, _, rfl, OwnB.nil _ _, HJW.out.below HB5.out, (fun h => by cases h), HBB.out.then' HB5.out⟩
                  | some x =>
                    rw [hg] at hm
                    simp only at hm
                    obtain ⟨vq, hmem, he4⟩ := hm
                    subst he4
                    have hoq : OwnB N w4 vq x.d := (((HJW.out.below HBW.out).own.own _ hmem).below b4)
                    obtain ⟨aq, cq, hvq⟩ : ∃ aq cq, vq = .slice aq x.d.length cq := hoq.slice
                    subst hvq
                    have HWX : Box' (whF s.L = if x.last then some (k + 1) else whG s.L (256 - (k + 1)) (k + 1)) := ⟨by rw [HWS.out, hg]⟩
                    have HTX : Box' (d ++ x.d = tog s.L (k + 1)) := ⟨by rw [HD.out, tog, hg]; rfl⟩
                    have hxl := HJO.out.len x (get_some hg).1
                    have HB4 : Box' (Below w6.heap.size w6 w4) := ⟨HBW.out.trans (b4.mono HBW.out.size)⟩
                    have HU4 := Box'.mk (HU.out.below b4)
                    obtain ⟨w5, hw5⟩ : ∃ w5, w5 = (w4.alloc (.cells #[.int .u64 0, .int .i64 0, .bool false, .slice none 0 0] 25)).setRow w4.heap.size #[.int .u64 (s.id : Int), .int .i64 (x.n : Int), .bool x.last, .slice aq x.d.length cq] := ⟨_, rfl⟩
                    have b5 : Below w4.heap.size w4 w5 := by rw [hw5]; exact below_setRow ((Below.refl _ _).alloc (Nat.le_refl _) _) (Nat.le_refl _) _
                    have r5 : Row w5 w4.heap.size 25 #[.int .u64 (s.id : Int), .int .i64 (x.n : Int), .bool x.last, .slice aq x.d.length cq] := by rw [hw5]; exact (Row.new w4 25 #[.int .u64 0, .int .i64 0, .bool false, .slice none 0 0]).setRow _
                    have HI5 := Box'.mk ((hoq.below b5).inB)
                    have HU5 := Box'.mk (HU4.out.below b5)
                    have HB5 : Box' (Below w6.heap.size w6 w5) := ⟨HB4.out.trans (b5.mono HB4.out.size)⟩
                    have HR5 := Box'.mk r5
                    have c53 : w5.cell? ⟨w4.heap.size, 3, none⟩ = some (.slice aq x.d.length cq) := by rw [r5.cell]; rfl
                    have hmx : d.length + x.d.length ≤ 140737488355328 := by have h1 := HDL.out; have h2 := HE.out; omega
                    have HMX := Box'.mk hmx
                    unfold pv toP
                    simp only
                    clear b4 b5 r5 HB4 HBW HWS HWK hg HU HU4 hoq hmem hmx
                    generalize hxq : x.d.length = xq at *
                    have HXQ := Box'.mk hxq
                    clear hxq
                    go_upto_region 16 with (refine wpList_store_row rfl 25 (.tmp 11) (.tmp 94) rfl _ rfl _ rfl 25 4 (Room.new _ _ _ _ rfl) Try.info25 rfl (pt_one _ _ _ _ _ _) ?_)
                    rw [← hw5]
                    clear hw5
                    generalize w4.heap.size = qb at *
                    have hz5 := HB5.out.size
                    cases hxl2 : x.last with
                    | true =>
                      rw [hxl2] at HR5 HWX
                      simp only [if_true] at HWX
                      have e := HRL.out
                      rw [HWX.out] at e
                      simp only at e
                      subst e
                      clear HRL HWX
                      have REST6 : Box' (∀ wz, Fr w6.heap.size w5 wz → wz.cell? ⟨qb, 2, none⟩ = some (.bool true) ∧ wz.cell? ⟨w.heap.size, 0, none⟩ = some (.int .u64 (pi : Int)) ∧ Room wz tb 48 4 ∧ Below w6.heap.size w6 wz ∧ ∃ c, Row wz tb 48 c) := ⟨fun wz f6 => by
                        have r6 := f6.row HR5.out (by decide)
                        have rp := f6.row (HPW.out.below HB5.out HPW.out.lt) (by decide)
                        have rt := f6.row ((HJW.out.below HB5.out).row) (by decide)
                        exact ⟨by rw [r6.cell]; rfl, by rw [rp.cell]; rfl, ⟨_, rt, rfl⟩, HB5.out.trans (f6.below HB5.out.size), _, rt⟩⟩
                      go_wp2_with (first
                        | (refine wpList_app rfl (.tmp 98) (.tmp 100) rfl w6.heap.size _ hz5 _ d rfl HU5.out _ x.d rfl HI5.out (by rw [HXQ.out]; exact HMX.out) ?_; intro v6 wz o6 f6; obtain ⟨c62, cp0, rm6, B6, ct, rt⟩ := REST6.out wz f6; have O6 := Box'.mk o6; have RM6 := Box'.mk rm6; have HB6 := Box'.mk B6; have RT6 := Box'.mk rt; clear o6 f6 rm6 B6 rt REST6; obtain ⟨a6, c6, hv6⟩ := O6.out.slice; subst hv6; generalize hl6 : (d ++ x.d).length = l6 at *; clear hl6)
                        | (refine wpList_store_row rfl 48 (.tmp 108) (.tmp 107) rfl tb rfl _ rfl 48 4 RM6.out Try.info48 rfl (jn_one _ _ _ _ _ _) ?_))
                      have o7 : OwnB w6.heap.size (wz.setRow tb #[.int .u64 (pi : Int), .slice none 0 0, .bool true, .bool true]) (.slice a6 l6 c6) (tog s.L (k + 1)) := by
                        have := O6.out
                        rw [HTX.out] at this
                        exact this.same fun g hg => setRow_other _ _ _ _ (own_ne this RT6.out (by decide) g hg)
                      go_ret3
                      exact ⟨_, true, _, _, rfl, o7.less HBB.out.size, JR.new N wz tb _ RT6.out HTN.out pi true, (fun h => by cases h), (HBB.out.then' HB6.out).then (r' := none) (Bq.setRow wz _) (fun j h => by cases h)⟩
                    | false =>
                      rw [hxl2] at HR5 HWX
                      simp only [Bool.false_eq_true, if_false] at HWX
                      have REST6 : Box' (∀ wz, Fr w6.heap.size w5 wz → wz.cell? ⟨qb, 2, none⟩ = some (.bool false) ∧ Below w6.heap.size w6 wz) := ⟨fun wz f6 => by
                        have r6 := f6.row HR5.out (by decide)
                        exact ⟨by rw [r6.cell]; rfl, HB5.out.trans (f6.below HB5.out.size)⟩⟩
                      go_wp2_with (refine wpList_app rfl (.tmp 98) (.tmp 100) rfl w6.heap.size _ hz5 _ d rfl HU5.out _ x.d rfl HI5.out (by rw [HXQ.out]; exact HMX.out) ?_; intro v6 wz o6 f6; obtain ⟨c62, B6⟩ := REST6.out wz f6; have O6 := Box'.mk o6; have HB6 := Box'.mk B6; clear o6 f6 B6 REST6)
                      exact ⟨⟨k + 1, d ++ x.d, by go_num, by omega, HTX, HWX, O6, HB6⟩, by simp [intOf]; omega⟩
                · obtain rfl : k = 256 := by omega
                  have hwn : whF s.L = none := by rw [HWK.out]; rfl
                  have e := HRL.out
                  rw [hwn] at e
                  simp only at e
                  subst e
                  have HB5 := HBW
                  clear HBW HWK hwn HU HRL
                  generalize d.length = dl at *
                  go_wp2_with fail
                  go_ret3
                  exact ⟨_, true, _, _, rfl, OwnB.nil _ _, HJW.out.below HB5.out, (fun h => by cases h), HBB.out.then' HB5.out⟩
            | none =>
              rw [hg] at hm
              simp only at hm
              subst hm
              have HRL : Box' (R = match whF (s.L ++ [⟨n, pl, pd⟩]) with | none => (⟨s.id, s.ended, s.L ++ [⟨n, pl, pd⟩]⟩, [], false, 0) | some k => (⟨pi, true, []⟩, tog (s.L ++ [⟨n, pl, pd⟩]) k, true, 0)) := ⟨by rw [HTR.out, hg, HE1.out.2]⟩
              have HJO2 : Box' (JOk ⟨s.id, s.ended, s.L ++ [⟨n, pl, pd⟩]⟩) := ⟨HI1.out.ok.put n pl pd hn (by rw [HLN.out]; exact hl) hg _⟩
              obtain ⟨w5, hw5⟩ : ∃ w5, w5 = (w4.alloc (.cells #[.int .u64 0, .int .i64 0, .bool false, .slice none 0 0] 25)).setRow w4.heap.size #[.int .u64 0, .int .i64 0, .bool false, .slice none 0 0] := ⟨_, rfl⟩
              have b5 : Below w4.heap.size w4 w5 := by rw [hw5]; exact below_setRow ((Below.refl _ _).alloc (Nat.le_refl _) _) (Nat.le_refl _) _
              have b45 : Below w3.heap.size w3 w5 := b4.trans (b5.mono b4.size)
              have HJ5 := Box'.mk (HJ3.out.below b45)
              have HB5 : Box' (Bq tb (Value.ownBlock (.slice aL nL cL)) w w5) := ⟨HB3.out.then' b45⟩
              have HR5 := Box'.mk (HR3.out.below b45 HR3.out.lt)
              have hBN : Below N w w5 := HB5.out.below HN.out HTN.out HOL.out
              have CP := copy_any (· < N) (.slice va ln vc) pd w5 (HBT.out.below hBN (fun b hb => hb)) (fun b hb => Nat.lt_of_lt_of_le hb (Nat.le_trans HN.out HB5.out.size)) (by rw [HLN.out]; omega)
              have c53 : w5.cell? ⟨w.heap.size, 3, none⟩ = some (.slice va ln vc) := by rw [HR5.out.cell]; rfl
              clear b4 b5 b45 HTR HJ3 HB3 HR3 hBN
              go_upto_region 8 with (refine wpList_store_row rfl 25 (.tmp 7) (.tmp 68) rfl _ rfl _ rfl 25 4 (Room.new _ _ _ _ rfl) Try.info25 rfl zp_one ?_)
              rw [← hw5]
              clear hw5
              go_wp2_with fail
              refine CP.mono ?_
              rintro e6 w6 ⟨u6, rfl, o6, b6⟩
              clear CP c53
              obtain ⟨a6, c6, hu6⟩ : ∃ a c, u6 = .slice a ln c := by obtain ⟨a, c, h⟩ := o6.slice; rw [HLN.out] at h; exact ⟨a, c, h⟩
              subst hu6
              have r6 := HR5.out.below b6 HR5.out.lt
              have j6 := HJ5.out.below b6
              have c63 : w6.cell? ⟨w.heap.size, 3, none⟩ = some (.slice va ln vc) := by rw [r6.cell]; rfl
              have f6 := r6.frozen
              obtain ⟨w7, hw7⟩ : ∃ w7, w7 = w6.setCell ⟨w.heap.size, 3, none⟩ (.slice a6 ln c6) := ⟨_, rfl⟩
              have r7 : Row w7 w.heap.size 25 #[.int .u64 (pi : Int), .int .i64 (n : Int), .bool pl, .slice a6 ln c6] := by rw [hw7]; exact r6.setCell (k := 3) _
              have hth : tb ≠ w.heap.size := by omega
              have hvb : ∀ j, Value.ownBlock (.slice aL nL cL) = some j → j ≠ w.heap.size := fun j hj => by have := HVM.out j hj; omega
              have hoth : ∀ k, k ≠ w.heap.size → w7.heap[k]? = w6.heap[k]? := fun k hk => by rw [hw7]; exact Below.heap_setCell _ _ _ _ hk
              have q7 : OwnQ N w7 (.slice aL nL cL) qs := j6.own.same (fun g hg => hoth g (hvb g hg)) fun q hq => (j6.own.own q hq).same fun g hg => hoth g (own_ne (j6.own.own q hq) r6 (by decide) g hg)
              have j7 : JR N w7 tb true s (.slice aL nL cL) qs := ⟨j6.row.same (hoth tb hth), q7, j6.ls, j6.nl⟩
              have o7 : OwnB N w7 (.slice a6 ln c6) pd := (o6.less (Nat.le_trans HN.out HB5.out.size)).same fun g hg => hoth g (own_ne o6 r6 (by decide) g hg)
              have B7 : Bq tb (Value.ownBlock (.slice aL nL cL)) w w7 := by
                have := HB5.out.then' b6
                refine ⟨by rw [hw7]; exact this.os, by rw [hw7]; exact this.tape, by rw [hw7]; exact this.output, by rw [hw7]; simpa [World.setCell] using this.size, fun k hk h1 h2 => (hoth k (by omega)).trans (this.block k hk h1 h2)⟩
              have HJ7 := Box'.mk j7
              have HR7 := Box'.mk r7
              have HB7 := Box'.mk B7
              have HO7 := Box'.mk o7
              clear r6 j6 r7 hth hvb hoth q7 j7 o7 B7 o6 b6 HJ5 HB5 HR5
              go_upto_region 10 with fail
              rw [← hw7]
              clear hw7 c63 f6
              have hGB : ∀ w1, w7.grownBy w1 (Value.ownBlock (.slice aL nL cL)) → ∀ k, k < w7.heap.size → (∀ j, Value.ownBlock (.slice aL nL cL) = some j → k ≠ j) → w1.heap[k]? = w7.heap[k]? := fun w1 hg k hk h => hg.block k hk (fun e => h k e.symm rfl)
              have htr : ∀ j, Value.ownBlock (.slice aL nL cL) = some j → tb ≠ j := fun j hj => by obtain ⟨_, cur, r⟩ := HJ7.out.own.lt j hj; exact row_ne HJ7.out.row r (by decide)
              have hpr : ∀ j, Value.ownBlock (.slice aL nL cL) = some j → w.heap.size ≠ j := fun j hj => by have := HVM.out j hj; omega
              have hC1 : ∀ w1, w7.grownBy w1 (Value.ownBlock (.slice aL nL cL)) → w1.cell? ⟨tb, 1, none⟩ = some (.slice aL nL cL) := fun w1 hg => by rw [(HJ7.out.row.same (hGB w1 hg tb HJ7.out.row.lt htr)).cell]; rfl
              have hFZ : ∀ w1, w7.grownBy w1 (Value.ownBlock (.slice aL nL cL)) → ∀ j, w1.frozen? ⟨tb, j, none⟩ = false := fun w1 hg j => HJ7.out.row.frz (hGB w1 hg tb HJ7.out.row.lt htr) j
              have hP : ∀ w1, w7.grownBy w1 (Value.ownBlock (.slice aL nL cL)) → Row w1 w.heap.size 25 #[.int .u64 (pi : Int), .int .i64 (n : Int), .bool pl, .slice a6 ln c6] := fun w1 hg => HR7.out.same (hGB w1 hg _ HR7.out.lt hpr)
              refine wp_mono (rkReg N tb w.heap.size pi n nL cL ln c6 pl aL a6 pd qs _ _ _ _ _ _ _ _ _ _ _ _ _ _ _ _ _ _ _ _ _ _ _ _ _ _ _ _ _ _ _ _ _ _ _ _ _ _ _ _ _ _ _ _ _ _ _ _ _ _ _ _ _ _ _ _ _ _ _ _ _ _ _ _ _ _ _ _ _ _ _ _ _ _ _ _ _ _ _ _ _ _ _ _ _ _ _ _ _ _ _ _ _ _ _ _ _ _ _ _ _ _ _ _ _ _ _ _ _ (Nat.le_trans HN.out HB7.out.size) ⟨HJ7.out.own, HO7.out⟩ hC1 hFZ hP (by rw [HJ7.out.len]; omega)) ?_
              rintro r a' w9 ⟨rfl, v76, v77, v78, v79, v80, v81, v82, v83, v84, v85, rfl, vd8, w8, g8, o8, rfl⟩
              clear hC1 hFZ hP
              have r8 := HJ7.out.row.same (hGB w8 g8 tb HJ7.out.row.lt htr)
              have p8 := HR7.out.same (hGB w8 g8 _ HR7.out.lt hpr)
              obtain ⟨w6', hw6'⟩ : ∃ w6', w6' = w8.setCell ⟨tb, 1, none⟩ vd8 := ⟨_, rfl⟩
              rw [← hw6']
              have HJW : Box' (JR N w6' tb true ⟨s.id, s.ended, s.L ++ [⟨n, pl, pd⟩]⟩ vd8 (qs ++ [(⟨pi, (n : Int), pl, pd⟩, .slice a6 ln c6)])) := ⟨by
                refine ⟨?_, ?_, ?_, HTN.out⟩
                · rw [hw6']; exact r8.setCell (k := 1) vd8
                · rw [hw6']
                  exact o8.same (fun g hg => Below.heap_setCell _ _ _ _ (by obtain ⟨_, cur, r⟩ := o8.lt g hg; exact row_ne r r8 (by decide))) fun q hq => (o8.own q hq).same fun g hg => Below.heap_setCell _ _ _ _ (own_ne (o8.own q hq) r8 (by decide) g hg)
                · rw [List.map_append, List.map_append, HJ7.out.ls]
                  congr 1
                  simp only [List.map_cons, List.map_nil, toP]
                  rw [HE1.out.2]⟩
              have HBB : Box' (Bq tb (Value.ownBlock (.slice aL nL cL)) w w6') := ⟨by
                refine HB7.out.then (r' := Value.ownBlock (.slice aL nL cL)) ?_ HVN.out
                rw [hw6']
                exact ⟨g8.os, g8.tape, g8.output, by simpa [World.setCell] using g8.size, fun k hk h1 h2 => (Below.heap_setCell _ _ _ _ h1).trans (g8.block k hk (fun e => h2 e.symm))⟩⟩
              have HPW : Box' (Row w6' w.heap.size 25 #[.int .u64 (pi : Int), .int .i64 (n : Int), .bool pl, .slice a6 ln c6]) := ⟨by rw [hw6']; exact p8.setOther _ _ (by show w.heap.size ≠ tb; omega)⟩
              have HJO := HJO2
              clear hw6' r8 p8 g8 o8 hGB htr hpr HJ7 HR7 HB7 HO7
              generalize hs2 : (⟨s.id, s.ended, s.L ++ [⟨n, pl, pd⟩]⟩ : Jn) = s2 at *
              have HRL2 : Box' (R = match whF s2.L with | none => (s2, [], false, 0) | some k => (⟨pi, true, []⟩, tog s2.L k, true, 0)) := ⟨by rw [← hs2]; rw [← hs2] at HRL; exact HRL.out⟩
              clear hs2 HRL HJO2
              have HRL := HRL2
              clear HRL2
              generalize qs ++ [((⟨pi, (n : Int), pl, pd⟩ : Prt), Value.slice a6 ln c6)] = q2 at *
              go_upto_region 11 with fail
              have HFW := HJO.out.few
              have HWK : Box' (whF s2.L = whG s2.L 256 0) := ⟨rfl⟩
              have HTG : Box' (∀ k, k ≤ 256 → (tog s2.L k).length ≤ 262144) := ⟨fun k hk => by have := tog_len HJO.out.len k; omega⟩
              go_wp2_with fail
              go_loopw [9, 10] (fun u iv wr => ∃ (k : Nat) (d : List UInt8), iv = .int .i64 (k : Int) ∧ k ≤ 256 ∧ Box' (d = tog s2.L k) ∧ Box' (whF s2.L = whG s2.L (256 - k) k) ∧ Box' (OwnB w6'.heap.size wr u d) ∧ Box' (Below w6'.heap.size w6' wr)) (fun _ iv _ => 256 - (intOf iv).toNat)
              case atStart => exact ⟨0, [], rfl, by omega, ⟨rfl⟩, HWK, ⟨OwnB.nil _ _⟩, ⟨Below.refl _ _⟩⟩
              case round =>
                clear HWK
                obtain ⟨k, d, rfl, hk, HD, HWK, HU, HBW⟩ := hrel
                have jr := HJW.out.below HBW.out
                obtain ⟨au, cu, hu⟩ := HU.out.slice
                subst hu
                have HDL : Box' (d.length ≤ 262144) := ⟨by rw [HD.out]; exact HTG.out k hk⟩
                by_cases hlt : k < 256
                · have HWS : Box' (whF s2.L = match get s2.L k with | none => none | some x => if x.last then some (k + 1) else whG s2.L (256 - (k + 1)) (k + 1)) := ⟨by
                    rw [HWK.out, show 256 - k = (256 - (k + 1)) + 1 by omega, whG]
                    cases get s2.L k <;> rfl⟩
                  have HAS := has_any N wr tb true s2 _ q2 jr HFW k
                  generalize hdl : d.length = dl at *
                  have HE := Box'.mk hdl
                  clear hdl
                  go_wp2_with fail
                  refine HAS.mono ?_
                  intro e4 w4 hh
                  obtain ⟨hm, b4⟩ := hh
                  clear HAS
                  cases hg : get s2.L k with
                  | none =>
                    rw [hg] at hm
                    simp only at hm
                    subst hm
                    have hwn : whF s2.L = none := by rw [HWS.out, hg]
                    have e := HRL.out
                    rw [hwn] at e
                    simp only at e
                    subst e
                    have HB4 : Box' (Below w6'.heap.size w6' w4) := ⟨HBW.out.trans (b4.mono HBW.out.size)⟩
                    obtain ⟨w5, hw5⟩ : ∃ w5, w5 = (w4.alloc (.cells #[.int .u64 0, .int .i64 0, .bool false, .slice none 0 0] 25)).setRow w4.heap.size #[.int .u64 0, .int .i64 0, .bool false, .slice none 0 0] := ⟨_, rfl⟩
                    have HB5 : Box' (Below w6'.heap.size w6' w5) := ⟨by rw [hw5]; exact below_setRow (HB4.out.alloc HB4.out.size _) HB4.out.size _⟩
                    clear b4 HB4 HBW HWS HWK hwn hg HU HRL
                    go_wp2_with (refine wpList_store_row rfl 25 (.tmp 11) (.tmp 94) rfl _ rfl _ rfl 25 4 (Room.new _ _ _ _ rfl) Try.info25 rfl zp_one ?_)
                    rw [← hw5]
                    clear hw5
                    go_ret3
                    exact ⟨_, true, _, _, rfl, OwnB.nil _ _, HJW.out.below HB5.out, (fun h => by cases h), HBB.out.then' HB5.out⟩
                  | some x =>
                    rw [hg] at hm
                    simp only at hm
                    obtain ⟨vq, hmem, he4⟩ := hm
                    subst he4
                    have hoq : OwnB N w4 vq x.d := (((HJW.out.below HBW.out).own.own _ hmem).below b4)
                    obtain ⟨aq, cq, hvq⟩ : ∃ aq cq, vq = .slice aq x.d.length cq := hoq.slice
                    subst hvq
                    have HWX : Box' (whF s2.L = if x.last then some (k + 1) else whG s2.L (256 - (k + 1)) (k + 1)) := ⟨by rw [HWS.out, hg]⟩
                    have HTX : Box' (d ++ x.d = tog s2.L (k + 1)) := ⟨by rw [HD.out, tog, hg]; rfl⟩
                    have hxl := HJO.out.len x (get_some hg).1
                    have HB4 : Box' (Below w6'.heap.size w6' w4) := ⟨HBW.out.trans (b4.mono HBW.out.size)⟩
                    have HU4 := Box'.mk (HU.out.below b4)
                    obtain ⟨w5, hw5⟩ : ∃ w5, w5 = (w4.alloc (.cells #[.int .u64 0, .int .i64 0, .bool false, .slice none 0 0] 25)).setRow w4.heap.size #[.int .u64 (s2.id : Int), .int .i64 (x.n : Int), .bool x.last, .slice aq x.d.length cq] := ⟨_, rfl⟩
                    have b5 : Below w4.heap.size w4 w5 := by rw [hw5]; exact below_setRow ((Below.refl _ _).alloc (Nat.le_refl _) _) (Nat.le_refl _) _
                    have r5 : Row w5 w4.heap.size 25 #[.int .u64 (s2.id : Int), .int .i64 (x.n : Int), .bool x.last, .slice aq x.d.length cq] := by rw [hw5]; exact (Row.new w4 25 #[.int .u64 0, .int .i64 0, .bool false, .slice none 0 0]).setRow _
                    have HI5 := Box'.mk ((hoq.below b5).inB)
                    have HU5 := Box'.mk (HU4.out.below b5)
                    have HB5 : Box' (Below w6'.heap.size w6' w5) := ⟨HB4.out.trans (b5.mono HB4.out.size)⟩
                    have HR5 := Box'.mk r5
                    have c53 : w5.cell? ⟨w4.heap.size, 3, none⟩ = some (.slice aq x.d.length cq) := by rw [r5.cell]; rfl
                    have hmx : d.length + x.d.length ≤ 140737488355328 := by have h1 := HDL.out; have h2 := HE.out; omega
                    have HMX := Box'.mk hmx
                    unfold pv toP
                    simp only
                    clear b4 b5 r5 HB4 HBW HWS HWK hg HU HU4 hoq hmem hmx
                    generalize hxq : x.d.length = xq at *
                    have HXQ := Box'.mk hxq
                    clear hxq
                    go_upto_region 16 with (refine wpList_store_row rfl 25 (.tmp 11) (.tmp 94) rfl _ rfl _ rfl 25 4 (Room.new _ _ _ _ rfl) Try.info25 rfl (pt_one _ _ _ _ _ _) ?_)
                    rw [← hw5]
                    clear hw5
                    generalize w4.heap.size = qb at *
                    have hz5 := HB5.out.size
                    cases hxl2 : x.last with
                    | true =>
                      rw [hxl2] at HR5 HWX
                      simp only [if_true] at HWX
                      have e := HRL.out
                      rw [HWX.out] at e
                      simp only at e
                      subst e
                      clear HRL HWX
                      have REST6 : Box' (∀ wz, Fr w6'.heap.size w5 wz → wz.cell? ⟨qb, 2, none⟩ = some (.bool true) ∧ wz.cell? ⟨w.heap.size, 0, none⟩ = some (.int .u64 (pi : Int)) ∧ Room wz tb 48 4 ∧ Below w6'.heap.size w6' wz ∧ ∃ c, Row wz tb 48 c) := ⟨fun wz f6 => by
                        have r6 := f6.row HR5.out (by decide)
                        have rp := f6.row (HPW.out.below HB5.out HPW.out.lt) (by decide)
                        have rt := f6.row ((HJW.out.below HB5.out).row) (by decide)
                        exact ⟨by rw [r6.cell]; rfl, by rw [rp.cell]; rfl, ⟨_, rt, rfl⟩, HB5.out.trans (f6.below HB5.out.size), _, rt⟩⟩
                      go_wp2_with (first
                        | (refine wpList_app rfl (.tmp 98) (.tmp 100) rfl w6'.heap.size _ hz5 _ d rfl HU5.out _ x.d rfl HI5.out (by rw [HXQ.out]; exact HMX.out) ?_; intro v6 wz o6 f6; obtain ⟨c62, cp0, rm6, B6, ct, rt⟩ := REST6.out wz f6; have O6 := Box'.mk o6; have RM6 := Box'.mk rm6; have HB6 := Box'.mk B6; have RT6 := Box'.mk rt; clear o6 f6 rm6 B6 rt REST6; obtain ⟨a6, c6, hv6⟩ := O6.out.slice; subst hv6; generalize hl6 : (d ++ x.d).length = l6 at *; clear hl6)
                        | (refine wpList_store_row rfl 48 (.tmp 108) (.tmp 107) rfl tb rfl _ rfl 48 4 RM6.out Try.info48 rfl (jn_one _ _ _ _ _ _) ?_))
                      have o7 : OwnB w6'.heap.size (wz.setRow tb #[.int .u64 (pi : Int), .slice none 0 0, .bool true, .bool true]) (.slice a6 l6 c6) (tog s2.L (k + 1)) := by
                        have := O6.out
                        rw [HTX.out] at this
                        exact this.same fun g hg => setRow_other _ _ _ _ (own_ne this RT6.out (by decide) g hg)
                      go_ret3
                      exact ⟨_, true, _, _, rfl, o7.less HBB.out.size, JR.new N wz tb _ RT6.out HTN.out pi true, (fun h => by cases h), (HBB.out.then' HB6.out).then (r' := none) (Bq.setRow wz _) (fun j h => by cases h)⟩
                    | false =>
                      rw [hxl2] at HR5 HWX
                      simp only [Bool.false_eq_true, if_false] at HWX
                      have REST6 : Box' (∀ wz, Fr w6'.heap.size w5 wz → wz.cell? ⟨qb, 2, none⟩ = some (.bool false) ∧ Below w6'.heap.size w6' wz) := ⟨fun wz f6 => by
                        have r6 := f6.row HR5.out (by decide)
                        exact ⟨by rw [r6.cell]; rfl, HB5.out.trans (f6.below HB5.out.size)⟩⟩
                      go_wp2_with (refine wpList_app rfl (.tmp 98) (.tmp 100) rfl w6'.heap.size _ hz5 _ d rfl HU5.out _ x.d rfl HI5.out (by rw [HXQ.out]; exact HMX.out) ?_; intro v6 wz o6 f6; obtain ⟨c62, B6⟩ := REST6.out wz f6; have O6 := Box'.mk o6; have HB6 := Box'.mk B6; clear o6 f6 B6 REST6)
                      exact ⟨⟨k + 1, d ++ x.d, by go_num, by omega, HTX, HWX, O6, HB6⟩, by simp [intOf]; omega⟩
                · obtain rfl : k = 256 := by omega
                  have hwn : whF s2.L = none := by rw [HWK.out]; rfl
                  have e := HRL.out
                  rw [hwn] at e
                  simp only at e
                  subst e
                  have HB5 := HBW
                  clear HBW HWK hwn HU HRL
                  generalize d.length = dl at *
                  go_wp2_with fail
                  go_ret3
                  exact ⟨_, true, _, _, rfl, OwnB.nil _ _, HJW.out.below HB5.out, (fun h => by cases h), HBB.out.then' HB5.out⟩
end Go.Proofs.Ythmcmdojnnbefaa
