/- The walk of SspAlike. -/
import Derived.Test.YtikkekdmahdgaaaSg
import Derived.Test.YtikkekdmahdgaaaRn
namespace Go.Proofs.Ytikkekdmahdgaaa
set_option maxRecDepth 100000
open Go.RowKit Go.BigFrame
set_option linter.unusedSimpArgs false
set_option linter.unusedVariables false
set_option maxRecDepth 100000
set_option maxHeartbeats 4000000

/-- Texts, bytes that came in. -/
def TxL (N : Nat) (w : World) (v : Value) (ws : List (List UInt8)) : Prop := ∃ a c, v = .slice a ws.length c ∧ ws.length ≤ c ∧ ∀ k, k < ws.length → ∃ b o, a = some ⟨b, o, none⟩ ∧ b < N ∧ w.cell? ⟨b, o + k, none⟩ = some (.string ⟨(ws.getD k []).toArray⟩)
def ByL (N : Nat) (w : World) (v : Value) (ds : List UInt8) : Prop := ∃ a c, v = .slice a ds.length c ∧ ds.length ≤ c ∧ ∀ k, k < ds.length → ∃ b o, a = some ⟨b, o, none⟩ ∧ b < N ∧ w.cell? ⟨b, o + k, none⟩ = some (.int .u8 ((ds.getD k 0).toNat : Int))
def wrdK (ws : List (List UInt8)) (k : Nat) : Nat := ((ws.take k).map List.length).sum
theorem wrdK_step (ws : List (List UInt8)) (k : Nat) (h : k < ws.length) : wrdK ws (k + 1) = wrdK ws k + (ws.getD k []).length := by
  unfold wrdK
  rw [List.take_add_one, List.getElem?_eq_getElem h, show ws.getD k [] = ws[k] by simp [h]]
  simp only [Option.toList, List.map_append, List.map_cons, List.map_nil, List.sum_append, List.sum_cons, List.sum_nil, Nat.add_zero]
theorem wrdK_le (ws : List (List UInt8)) (k : Nat) : wrdK ws k ≤ wrdK ws ws.length := by
  unfold wrdK
  rw [List.take_length]
  have e : ws.map List.length = (ws.take k).map List.length ++ (ws.drop k).map List.length := by rw [← List.map_append, List.take_append_drop]
  rw [e, List.sum_append]; omega
theorem wrdK_far (ws : List (List UInt8)) (k : Nat) : wrdK ws k + (ws.getD k []).length ≤ wrdK ws ws.length := by
  rcases Nat.lt_or_ge k ws.length with h | h
  · rw [← wrdK_step ws k h]; exact wrdK_le ws _
  · have e : ws.getD k [] = [] := by simp [List.getD_eq_getElem?_getD, List.getElem?_eq_none h]
    rw [e]; exact wrdK_le ws k
theorem wrdK_past (ws : List (List UInt8)) (k : Nat) (h : ws.length ≤ k) : wrdK ws (k + 1) = wrdK ws k := by
  unfold wrdK
  rw [List.take_of_length_le (by omega), List.take_of_length_le h]
theorem wrdK_next (ws : List (List UInt8)) (k : Nat) : wrdK ws k + (ws.getD k []).length ≤ wrdK ws (k + 1) := by
  rcases Nat.lt_or_ge k ws.length with h | h
  · rw [wrdK_step ws k h]; exact Nat.le_refl _
  · rw [wrdK_past ws k h, show ws.getD k [] = [] by simp [List.getD_eq_getElem?_getD, List.getElem?_eq_none h]]; simp
theorem Iv.wide {M A A' : Nat} {nw lt : UInt64} {all : List UInt8} {s : Sd} {l : List Rw} {had : List (List UInt8)} {sent : List (Ins × Value)} (h : Iv M A nw lt all s l had sent) (hA : A ≤ A') : Iv M A' nw lt all s l had sent :=
  ⟨h.now, h.hd, h.sn, h.rc, h.gd, h.lt, h.seen, Nat.le_trans h.an hA, h.hn, h.sl, h.l32⟩
/-- What stands at the head of a round. -/
structure Hd (RS : World → (Nat → Prop) → Nat → Sd → Prop) (RR : World → (Nat → Prop) → Nat → List Rw → Prop) (w0 wr : World) (p1 p2 k : Nat) (ws : List (List UInt8)) (v7 v8 v9 v10 v11 : Value) : Prop where
  x : ∃ (F1 F2 D : Nat → Prop) (nw lt : UInt64) (all : List UInt8) (s : Sd) (l : List Rw) (had : List (List UInt8)) (sent : List (Ins × Value)) (ah aq : Option Addr) (ch cs : Nat), v7 = .int .u64 (nw.toNat : Int) ∧ v8 = .int .u64 (lt.toNat : Int) ∧ v9 = .string ⟨all.toArray⟩ ∧ v10 = .slice ah had.length ch ∧ v11 = .slice aq sent.length cs ∧
    Al RS RR w0.heap.size wr p1 p2 F1 F2 D (.slice ah had.length ch) (.slice aq sent.length cs) s l had sent ∧ Iv k (wrdK ws k) nw lt all s l had sent ∧ Below w0.heap.size w0 wr ∧ nw.toNat ≤ 256 * k
set_option maxHeartbeats 4000000 in
theorem alike_walk (RS : World → (Nat → Prop) → Nat → Sd → Prop) (RR : World → (Nat → Prop) → Nat → List Rw → Prop) (KS : KeepR RS) (KR : KeepR RR) (HN : NewSC 8 RS) (HM : NewRC 18 RR) (HS : SetSC 10 RS) (HK : TickSC 13 RS) (HA : AckSC 11 RS) (HT : TakeRF 20 RR) (HL : LateRC 22 RR) (HC : ∀ w, Calls Try.prog 17 #[] w fun e w' => e = .returned (.bool true) ∧ Below w.heap.size w w')
    (w : World) (v0 v1 : Value) (ws : List (List UInt8)) (ds : List UInt8) (h0 : TxL w.heap.size w v0 ws) (h1 : ByL w.heap.size w v1 ds) (hm : ws.length ≤ 1048576) (hn : ds.length ≤ 1048576) (hsum : wrdK ws ws.length ≤ 4398046511104) :
    Calls Try.prog 6 #[v0, v1] w fun e w' => e = .returned (.bool true) ∧ Below w.heap.size w w' := by
  obtain ⟨av, cv, rfl, hcv, hv⟩ := h0
  obtain ⟨ad, cd, rfl, hcd, hdd⟩ := h1
  have WN := Box'.mk (wrdK_next ws)
  have WF := Box'.mk (fun k => Nat.le_trans (wrdK_far ws k) hsum)
  have HV := Box'.mk hv
  have HD := Box'.mk hdd
  have AN := Box'.mk HC
  clear hv hdd HC hsum
  have n1 := HN [] w
  unfold sT at n1
  generalize hmm : ws.length = m at *
  generalize hnn : ds.length = n at *
  have G0 := Box'.mk (fun (wr : World) p1 p2 bw ow k ch cs ah aq v2 v3 v18 v19 v20 v21 v22 v23 v24 v25 v26 v27 v28 v141 F1 F2 D nw lt all s l had sent d M A hM tk hA nw2 hn2 a1 a2 a3 a4 a5 Q hQ => al_0 RS RR KS KR HA HL HT HK HS w wr p1 p2 bw ow n cd k ch cs ah aq av m cv v2 v3 v18 v19 v20 v21 v22 v23 v24 v25 v26 v27 v28 v141 F1 F2 D nw lt all s l had sent d M A hM tk hA nw2 hn2 a1 a2 a3 a4 hn hcd hm hcv a5 Q hQ)
  go_enter Try.func6, Try.ntmps6
  go_wp2_with fail
  refine n1.mono ?_
  rintro e w1 ⟨p1, F1, rfl, hP, hB, hF⟩
  have P1 := Box'.mk hP
  have B1 := Box'.mk hB
  have G1 := Box'.mk hF
  clear n1 hP hB hF HN
  have n2 := HM [] w1
  unfold sT at n2
  dsimp only
  go_wp2_with fail
  refine n2.mono ?_
  rintro e w2 ⟨p2, F2, rfl, hP, hB, hF⟩
  obtain ⟨w3, hw3⟩ : ∃ w3, w3 = w2.alloc (.cells #[.string ⟨#[]⟩] 9) := ⟨_, rfl⟩
  have b3 : Below w2.heap.size w2 w3 := by rw [hw3]; exact (Below.refl _ _).alloc (Nat.le_refl _) _
  have l1 := KS.2 _ _ _ _ P1.out
  have l2 := KR.2 _ _ _ _ hP
  have B3 := Box'.mk (B1.out.trans ((hB.mono B1.out.size).trans (b3.mono (Nat.le_trans B1.out.size hB.size))))
  have A1 := KS.below (KS.below P1.out hB) b3
  have A2 := KR.below hP b3
  have O3 : OwnT w.heap.size w3 (.slice (some ⟨w2.heap.size, 0, none⟩) 1 1) [[]] := by
    rw [hw3]
    exact ⟨rfl, .inr ⟨w2.heap.size, 1, #[.string ⟨#[]⟩], rfl, Nat.le_trans B1.out.size hB.size, heap_alloc_last w2 _, Nat.le_refl _, by unfold maxLen; omega, rfl, rfl⟩⟩
  have AL : Al RS RR w.heap.size w3 p1 p2 F1 F2 (fun _ => False) (.slice (some ⟨w2.heap.size, 0, none⟩) 1 1) (.slice none 0 0) (newS []) [⟨0, [], 0⟩] [[]] [] :=
    ⟨A1, A2, O3, ⟨rfl, .inl ⟨rfl, rfl⟩⟩, (fun p hp => by cases hp), (fun g hg => by
      have hg : w2.heap.size = g := by simpa [Value.ownBlock] using hg
      exact ⟨(fun q => by have := l1 g q; have := hB.size; omega), (fun q => by have := l2 g q; omega), (fun q => q)⟩), (fun g hg => by simp [Value.ownBlock] at hg), (fun g hg hq => by simp [Value.ownBlock] at hq), (fun g q => q.elim), (fun g q1 q2 => by have := l1 g q1; have := hF g q2; omega), (fun g q => G1.out g q), (fun g q => Nat.le_trans B1.out.size (hF g q)), B3.out.size⟩
  obtain ⟨s1, s2, s3⟩ := alike_start
  have IV : Iv 0 (wrdK ws 0) 0 0 [] (newS []) [⟨0, [], 0⟩] [[]] [] := ⟨rfl, s1, s2, s3, fun p hp => by simp at hp, Nat.zero_le _, Nat.le_refl _, Nat.zero_le _, Nat.le_refl _, Nat.le_refl _, by decide⟩
  have HH : Box' (Hd RS RR w w3 p1 p2 0 ws (.int .u64 0) (.int .u64 0) (.string ⟨#[]⟩) (.slice (some ⟨w2.heap.size, 0, none⟩) 1 1) (.slice none 0 0)) := ⟨⟨⟨F1, F2, _, 0, 0, [], _, _, [[]], [], _, _, _, _, rfl, rfl, rfl, rfl, rfl, AL, IV, B3.out, by decide⟩⟩⟩
  clear n2 hP hB hF P1 B1 G1 b3 l1 l2 B3 A1 A2 O3 AL IV s1 s2 s3
  dsimp only
  go_wp2_with fail
  rw [← hw3]
  clear hw3
  go_loopw [7, 8, 9, 10, 11, 12] (fun v7 v8 v9 v10 v11 i wr => ∃ k : Nat, i = .int .i64 (k : Int) ∧ k ≤ n ∧ Box' (Hd RS RR w wr p1 p2 k ws v7 v8 v9 v10 v11)) (fun _ _ _ _ _ i _ => n - (intOf i).toNat)
  case atStart => exact ⟨0, rfl, Nat.zero_le _, HH⟩
  case round =>
    clear HH
    obtain ⟨k, rfl, hk, ⟨⟨F1, F2, D, nw, lt, all, s, l, had, sent, ah, aq, ch, cs, rfl, rfl, rfl, rfl, rfl, AL, IV, BB, hnw⟩⟩⟩ := hrel
    by_cases hkn : k < n
    · obtain ⟨bw, ow, rfl, hbw, hcw⟩ := HD.out k hkn
      have HW : ∀ wx, Below w.heap.size w wx → wx.cell? ⟨bw, ow + k, none⟩ = some (.int .u8 ((ds.getD k 0).toNat : Int)) := fun wx hb => (hb.cell (p := ⟨bw, ow + k, none⟩) hbw).trans hcw
      have HX : k < m → ∃ b o, av = some ⟨b, o, none⟩ ∧ ∀ wx, Below w.heap.size w wx → wx.cell? ⟨b, o + k, none⟩ = some (.string ⟨(ws.getD k []).toArray⟩) := fun h => by
        obtain ⟨b, o, q1, q2, q3⟩ := HV.out k h
        exact ⟨b, o, q1, fun wx hb => (hb.cell (p := ⟨b, o + k, none⟩) q2).trans q3⟩
      have hd := (ds.getD k 0).toNat_lt
      have hn2 : (nw + UInt64.ofNat (ds.getD k 0).toNat).toNat = nw.toNat + (ds.getD k 0).toNat := by
        rw [UInt64.toNat_add, UInt64.toNat_ofNat']
        omega
      have hb2 : (nw + UInt64.ofNat (ds.getD k 0).toNat).toNat ≤ 256 * (k + 1) := by rw [hn2]; omega
      have G1 := G0.out wr p1 p2 bw ow k ch cs ah aq undef undef (.agg #[.string ⟨#[]⟩]) (.pointer (some ⟨p1, 0, none⟩)) (.agg #[.string ⟨#[]⟩]) (.pointer (some ⟨p2, 0, none⟩)) (.pointer (some ⟨p1, 0, none⟩)) (.bool false) (.bool false) (.pointer (some ⟨p2, 0, none⟩)) (.bool false) (.bool false) (.slice (some ⟨w2.heap.size, 0, none⟩) 1 1) undef F1 F2 D nw lt all s l had sent (ds.getD k 0) k (wrdK ws k) (by omega) (ws.getD k []) (WF.out k) (nw + UInt64.ofNat (ds.getD k 0).toNat) hn2 AL IV BB hkn HW HX
      generalize nw + UInt64.ofNat (ds.getD k 0).toNat = nw2 at *
      have HB2 := Box'.mk hb2
      have WNX := Box'.mk (WN.out k)
      have G1 := Box'.mk G1
      clear G0 hn2 hb2 HW HX AL IV BB HD HV WN WF AN hcw hbw
      refine wp_seq_k fun K1 hK1 => ?_
      have HK1 := Box'.mk hK1
      clear hK1
      go_wp2_with fail
      refine HK1.out _ _ ?_
      refine wp_seq_k fun K2 hK2 => ?_
      have HK2 := Box'.mk hK2
      clear hK2
      refine wp_block ?_
      show Code.wp Try.prog (cB (cL (sR (cP (cB (sR (cL (sR (sR (sR (sR (sR (sR (sR (Try.f6.body.getD .skip))))))))))))))) _ _ _
      refine G1.out _ ?_ _ _ _ _ _ _ _ _ _ _ _ _ _ _ _ _ _ _ _ _ _ _ _ _ _ _ _ _ _ _ _ _ _ _ _ _ _ _ _ _ _ _ _ _ _ _ _ _ _ _ _ _ _ _ _ _ _ _ _ _ _ _ _ _ _ _ _ _ _ _ _ _ _ _ _ _ _ _ _ _ _ _ _ _ _ _ _ _ _ _ _ _ _ _ _ _ _ _ _ _ _ _ _ _ _ _ _ _ _ _ _ _ _ _ _ _ _ _ 
      intro u4 u13 u14 u15 u16 u17 u29 u30 u31 u32 u33 u34 u35 u36 u37 u38 u39 u40 u41 u42 u43 u44 u45 u46 u47 u48 u49 u50 u51 u52 u53 u54 u55 u56 u57 u58 u59 u60 u61 u62 u63 u64 u65 u66 u67 u68 u69 u70 u71 u72 u73 u74 u75 u76 u77 u78 u79 u80 u81 u82 u83 u84 u85 u86 u87 u88 u89 u90 u91 u92 u93 u94 u95 u96 u97 u98 u99 u100 u101 u102 u103 u104 u105 u106 u107 u108 u109 u110 u111 u112 u113 u114 u115 u116 u117 u118 u119 u120 u121 u122 u123 u124 u125 u126 u127 u128 u129 u130 u131 u132 u133 u134 u135 u136 u137 u138 u139 u140 w' F1' F2' D' s' l' had' sent' ah' aq' ch' cs' a1 a2 a3
      refine HK2.out _ _ ?_
      have HF : Box' (Hd RS RR w w' p1 p2 (k + 1) ws (.int .u64 (nw2.toNat : Int)) (.int .u64 ((lastR l').n.toNat : Int)) (.string ⟨(if k < m then all ++ ws.getD k [] else all).toArray⟩) (.slice ah' had'.length ch') (.slice aq' sent'.length cs')) := ⟨⟨⟨F1', F2', D', nw2, _, _, s', l', had', sent', ah', aq', ch', cs', rfl, rfl, rfl, rfl, rfl, a1, a2.wide WNX.out, a3, HB2.out⟩⟩⟩
      clear a1 a2 a3 HB2 WNX G1 HK1 HK2
      generalize (if k < m then all ++ ws.getD k [] else all) = al2 at *
      generalize (lastR l').n.toNat = lt2 at *
      generalize had'.length = hl2 at *
      generalize sent'.length = sl2 at *
      go_wp2_with fail
      exact ⟨⟨k + 1, by go_num, by omega, HF⟩, by simp [intOf]; omega⟩
    · obtain rfl : n = k := by omega
      have an := AN.out wr
      have BB2 := Box'.mk BB
      clear AL IV BB G0 HD HV WN WF
      go_wp2_with fail
      refine an.mono ?_
      rintro e w9 ⟨rfl, b9⟩
      have B9 := Box'.mk (BB2.out.trans (b9.mono BB2.out.size))
      clear an b9
      dsimp only
      go_wp2_with fail
      go_ret
      exact ⟨rfl, B9.out⟩
end Go.Proofs.Ytikkekdmahdgaaa
