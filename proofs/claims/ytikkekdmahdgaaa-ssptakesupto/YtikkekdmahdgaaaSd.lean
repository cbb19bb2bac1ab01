/- SspAlike's round from what the receiver is handed on. -/
import Derived.Test.YtikkekdmahdgaaaSc
namespace Go.Proofs.Ytikkekdmahdgaaa
set_option maxRecDepth 100000
open Go.RowKit Go.BigFrame
set_option linter.unusedSimpArgs false
set_option linter.unusedVariables false
set_option maxRecDepth 100000
set_option maxHeartbeats 4000000

/-- The slice v has the bytes l, none of them in a block of F. -/
def InF (F : Nat → Prop) (w : World) (v : Value) (l : List UInt8) : Prop := ∃ a c, v = .slice a l.length c ∧ l.length ≤ c ∧ ∀ j, j < l.length → ∃ b o, a = some ⟨b, o, none⟩ ∧ b < w.heap.size ∧ ¬ F b ∧ w.cell? ⟨b, o + j, none⟩ = some (B (l.getD j 0))
theorem InX.inF {S F : Nat → Prop} {w : World} {v : Value} {l : List UInt8} (h : InX S w v l) (hs : ∀ b, S b → b < w.heap.size ∧ ¬ F b) : InF F w v l := by
  rcases h with ⟨rfl, rfl⟩ | ⟨b, o, c, h1, h2, h3, h4⟩
  · exact ⟨_, _, rfl, Nat.le_refl _, fun j hj => by simp at hj⟩
  · refine ⟨_, c, h1, h2, fun j hj => ⟨b, o, rfl, ?_⟩⟩
    rcases h3 with rfl | h3
    · simp at hj
    · refine ⟨(hs b h3).1, (hs b h3).2, h4 j _ ?_⟩
      rw [List.getElem?_map, List.getElem?_eq_getElem hj, show l.getD j 0 = l[j] by simp [hj]]
      rfl
/-- What is asked of a receiver's taking, wherever the bytes lie. -/
def TakeRF (f : Nat) (R : World → (Nat → Prop) → Nat → List Rw → Prop) : Prop := ∀ (w : World) (F : Nat → Prop) (p : Nat) (l : List Rw) (x : Ins) (vb : Value), R w F p l → 0 < l.length → l.length ≤ 32 → InF F w vb x.dif → x.dif.length ≤ 4398046511104 → (∀ y, y ∈ l → y.t.length ≤ 4398046511104) →
  Calls Try.prog f #[.pointer (some ⟨p, 0, none⟩), .agg (insA x vb)] w fun e w' => ∃ F', e = .returned (.tuple #[.bool (takeF l x).2.1, .int .i64 (takeF l x).2.2]) ∧ R w' F' p (takeF l x).1 ∧ Tch F w w' ∧ ∀ k, F' k → F k ∨ w.heap.size ≤ k
section
variable {M A : Nat} {nw lt : UInt64} {all : List UInt8} {s : Sd} {l : List Rw} {had : List (List UInt8)} {sent : List (Ins × Value)}
theorem Iv.txt (h : Iv M A nw lt all s l had sent) : ∀ i, i < had.length → (had.getD i []).length ≤ A := fun i hi => Nat.le_trans (h.hd.up i hi).length_le h.an
theorem Iv.dif (h : Iv M A nw lt all s l had sent) {x : Ins} (g : GdI had x) : x.dif.length ≤ A := by
  have := h.txt _ g.lt
  rw [← g.dif, List.length_append] at this
  omega
theorem Iv.take (h : Iv M A nw lt all s l had sent) {x : Ins} (g : GdI had x) : Iv M A nw lt all s (takeF l x).1 had sent := by
  obtain ⟨q1, q2⟩ := take_ok x h.rc g
  exact ⟨h.now, h.hd, h.sn, q1, h.gd, Nat.le_trans h.lt q2, h.seen, h.an, h.hn, h.sl, (takeF_len l x h.l32 h.rc.pos).1⟩
end
theorem al_5 (RS : World → (Nat → Prop) → Nat → Sd → Prop) (RR : World → (Nat → Prop) → Nat → List Rw → Prop) (KS : KeepR RS) (KR : KeepR RR) (HA : AckSC 11 RS) (HL : LateRC 22 RR) (HT : TakeRF 20 RR)
    (w0 wr : World) (p1 p2 bw ow n cw k ch cs : Nat) (ah aq : Option Addr) (vw : Value) (v2 v3 v18 v19 v20 v21 v22 v23 v24 v25 v26 v27 v28 v141 : Value) (F1 F2 D : Nat → Prop) (nw lt : UInt64) (all : List UInt8) (s : Sd) (l : List Rw) (had : List (List UInt8)) (sent : List (Ins × Value)) (d : UInt8) (M A : Nat) (hM : M ≤ 1048576) (hA : A ≤ 4398046511104)
    (HAl : Al RS RR w0.heap.size wr p1 p2 F1 F2 D (.slice ah had.length ch) (.slice aq sent.length cs) s l had sent) (HI : Iv M A nw lt all s l had sent) (hb : Below w0.heap.size w0 wr) (hkn : k < n) (hnn : n ≤ 1048576) (hcw : n ≤ cw)
    (HW : ∀ wx, Below w0.heap.size w0 wx → wx.cell? ⟨bw, ow + k, none⟩ = some (.int .u8 (d.toNat : Int))) (Q : Exit → Act → World → Prop)
    (hQ : ∀ (u4 u13 u14 u15 u16 u17 u29 u30 u31 u32 u33 u34 u35 u36 u37 u38 u39 u40 u41 u42 u43 u44 u45 u46 u47 u48 u49 u50 u51 u52 u53 u54 u55 u56 u57 u58 u59 u60 u61 u62 u63 u64 u65 u66 u67 u68 u69 u70 u71 u72 u73 u74 u75 u76 u77 u78 u79 u80 u81 u82 u83 u84 u85 u86 u87 u88 u89 u90 u91 u92 u93 u94 u95 u96 u97 u98 u99 u100 u101 u102 u103 u104 u105 u106 u107 u108 u109 u110 u111 u112 u113 u114 u115 u116 u117 u118 u119 u120 u121 u122 u123 u124 u125 u126 u127 u128 u129 u130 u131 u132 u133 u134 u135 u136 u137 u138 u139 u140 : Value) (w' : World) (F1' F2' : Nat → Prop) (s' : Sd) (l' : List Rw), Al RS RR w0.heap.size w' p1 p2 F1' F2' D (.slice ah had.length ch) (.slice aq sent.length cs) s' l' had sent → Iv M A nw (lastR l').n all s' l' had sent → Below w0.heap.size w0 w' → Q .normal ⟨#[vw, .slice (some ⟨bw, ow, none⟩) n cw, v2, v3, u4, .pointer (some ⟨p1, 0, none⟩), .pointer (some ⟨p2, 0, none⟩), .int .u64 (nw.toNat : Int), .int .u64 ((lastR l').n.toNat : Int), .string ⟨all.toArray⟩, .slice ah had.length ch, .slice aq sent.length cs, .int .i64 (k : Int), u13, u14, u15, u16, u17, v18, v19, v20, v21, v22, v23, v24, v25, v26, v27, v28, u29, u30, u31, u32, u33, u34, u35, u36, u37, u38, u39, u40, u41, u42, u43, u44, u45, u46, u47, u48, u49, u50, u51, u52, u53, u54, u55, u56, u57, u58, u59, u60, u61, u62, u63, u64, u65, u66, u67, u68, u69, u70, u71, u72, u73, u74, u75, u76, u77, u78, u79, u80, u81, u82, u83, u84, u85, u86, u87, u88, u89, u90, u91, u92, u93, u94, u95, u96, u97, u98, u99, u100, u101, u102, u103, u104, u105, u106, u107, u108, u109, u110, u111, u112, u113, u114, u115, u116, u117, u118, u119, u120, u121, u122, u123, u124, u125, u126, u127, u128, u129, u130, u131, u132, u133, u134, u135, u136, u137, u138, u139, u140, v141], []⟩ w') :
    ∀ (u4 u13 u14 u15 u16 u17 u29 u30 u31 u32 u33 u34 u35 u36 u37 u38 u39 u40 u41 u42 u43 u44 u45 u46 u47 u48 u49 u50 u51 u52 u53 u54 u55 u56 u57 u58 u59 u60 u61 u62 u63 u64 u65 u66 u67 u68 u69 u70 u71 u72 u73 u74 u75 u76 u77 u78 u79 u80 u81 u82 u83 u84 u85 u86 u87 u88 u89 u90 u91 u92 u93 u94 u95 u96 u97 u98 u99 u100 u101 u102 u103 u104 u105 u106 u107 u108 u109 u110 u111 u112 u113 u114 u115 u116 u117 u118 u119 u120 u121 u122 u123 u124 u125 u126 u127 u128 u129 u130 u131 u132 u133 u134 u135 u136 u137 u138 u139 u140 : Value), Code.wp Try.prog (sR (sR (sR (sR (sR (cB (cL (sR (cP (cB (sR (cL (sR (sR (sR (sR (sR (sR (sR (Try.f6.body.getD .skip)))))))))))))))))))) Q ⟨#[vw, .slice (some ⟨bw, ow, none⟩) n cw, v2, v3, u4, .pointer (some ⟨p1, 0, none⟩), .pointer (some ⟨p2, 0, none⟩), .int .u64 (nw.toNat : Int), .int .u64 (lt.toNat : Int), .string ⟨all.toArray⟩, .slice ah had.length ch, .slice aq sent.length cs, .int .i64 (k : Int), u13, u14, u15, u16, u17, v18, v19, v20, v21, v22, v23, v24, v25, v26, v27, v28, u29, u30, u31, u32, u33, u34, u35, u36, u37, u38, u39, u40, u41, u42, u43, u44, u45, u46, u47, u48, u49, u50, u51, u52, u53, u54, u55, u56, u57, u58, u59, u60, u61, u62, u63, u64, u65, u66, u67, u68, u69, u70, u71, u72, u73, u74, u75, u76, u77, u78, u79, u80, u81, u82, u83, u84, u85, u86, u87, u88, u89, u90, u91, u92, u93, u94, u95, u96, u97, u98, u99, u100, u101, u102, u103, u104, u105, u106, u107, u108, u109, u110, u111, u112, u113, u114, u115, u116, u117, u118, u119, u120, u121, u122, u123, u124, u125, u126, u127, u128, u129, u130, u131, u132, u133, u134, u135, u136, u137, u138, u139, u140, v141], []⟩ wr := by
  intro u4 u13 u14 u15 u16 u17 u29 u30 u31 u32 u33 u34 u35 u36 u37 u38 u39 u40 u41 u42 u43 u44 u45 u46 u47 u48 u49 u50 u51 u52 u53 u54 u55 u56 u57 u58 u59 u60 u61 u62 u63 u64 u65 u66 u67 u68 u69 u70 u71 u72 u73 u74 u75 u76 u77 u78 u79 u80 u81 u82 u83 u84 u85 u86 u87 u88 u89 u90 u91 u92 u93 u94 u95 u96 u97 u98 u99 u100 u101 u102 u103 u104 u105 u106 u107 u108 u109 u110 u111 u112 u113 u114 u115 u116 u117 u118 u119 u120 u121 u122 u123 u124 u125 u126 u127 u128 u129 u130 u131 u132 u133 u134 u135 u136 u137 u138 u139 u140
  conv => arg 2; whnf
  have T6 : Box' (∀ (wx : World) (F2' : Nat → Prop) (l' : List Rw), Al RS RR w0.heap.size wx p1 p2 F1 F2' D (.slice ah had.length ch) (.slice aq sent.length cs) s l' had sent → Iv M A nw lt all s l' had sent → Below w0.heap.size w0 wx → ∀ (u4 u13 u14 u15 u16 u17 u29 u30 u31 u32 u33 u34 u35 u36 u37 u38 u39 u40 u41 u42 u43 u44 u45 u46 u47 u48 u49 u50 u51 u52 u53 u54 u55 u56 u57 u58 u59 u60 u61 u62 u63 u64 u65 u66 u67 u68 u69 u70 u71 u72 u73 u74 u75 u76 u77 u78 u79 u80 u81 u82 u83 u84 u85 u86 u87 u88 u89 u90 u91 u92 u93 u94 u95 u96 u97 u98 u99 u100 u101 u102 u103 u104 u105 u106 u107 u108 u109 u110 u111 u112 u113 u114 u115 u116 u117 u118 u119 u120 u121 u122 u123 u124 u125 u126 u127 u128 u129 u130 u131 u132 u133 u134 u135 u136 u137 u138 u139 u140 : Value), Code.wp Try.prog (sR (sR (sR (sR (sR (sR (cB (cL (sR (cP (cB (sR (cL (sR (sR (sR (sR (sR (sR (sR (Try.f6.body.getD .skip))))))))))))))))))))) Q ⟨#[vw, .slice (some ⟨bw, ow, none⟩) n cw, v2, v3, u4, .pointer (some ⟨p1, 0, none⟩), .pointer (some ⟨p2, 0, none⟩), .int .u64 (nw.toNat : Int), .int .u64 (lt.toNat : Int), .string ⟨all.toArray⟩, .slice ah had.length ch, .slice aq sent.length cs, .int .i64 (k : Int), u13, u14, u15, u16, u17, v18, v19, v20, v21, v22, v23, v24, v25, v26, v27, v28, u29, u30, u31, u32, u33, u34, u35, u36, u37, u38, u39, u40, u41, u42, u43, u44, u45, u46, u47, u48, u49, u50, u51, u52, u53, u54, u55, u56, u57, u58, u59, u60, u61, u62, u63, u64, u65, u66, u67, u68, u69, u70, u71, u72, u73, u74, u75, u76, u77, u78, u79, u80, u81, u82, u83, u84, u85, u86, u87, u88, u89, u90, u91, u92, u93, u94, u95, u96, u97, u98, u99, u100, u101, u102, u103, u104, u105, u106, u107, u108, u109, u110, u111, u112, u113, u114, u115, u116, u117, u118, u119, u120, u121, u122, u123, u124, u125, u126, u127, u128, u129, u130, u131, u132, u133, u134, u135, u136, u137, u138, u139, u140, v141], []⟩ wx) := ⟨fun wx F2' l' a1 a2 a3 => al_6 RS RR KS KR HA HL w0 wx p1 p2 bw ow n cw k ch cs ah aq vw v2 v3 v18 v19 v20 v21 v22 v23 v24 v25 v26 v27 v28 v141 F1 F2' D nw lt all s l' had sent d M A hM a1 a2 a3 hkn hnn hcw HW Q (fun u4 u13 u14 u15 u16 u17 u29 u30 u31 u32 u33 u34 u35 u36 u37 u38 u39 u40 u41 u42 u43 u44 u45 u46 u47 u48 u49 u50 u51 u52 u53 u54 u55 u56 u57 u58 u59 u60 u61 u62 u63 u64 u65 u66 u67 u68 u69 u70 u71 u72 u73 u74 u75 u76 u77 u78 u79 u80 u81 u82 u83 u84 u85 u86 u87 u88 u89 u90 u91 u92 u93 u94 u95 u96 u97 u98 u99 u100 u101 u102 u103 u104 u105 u106 u107 u108 u109 u110 u111 u112 u113 u114 u115 u116 u117 u118 u119 u120 u121 u122 u123 u124 u125 u126 u127 u128 u129 u130 u131 u132 u133 u134 u135 u136 u137 u138 u139 u140 w' F1' s' b1 b2 b3 => hQ u4 u13 u14 u15 u16 u17 u29 u30 u31 u32 u33 u34 u35 u36 u37 u38 u39 u40 u41 u42 u43 u44 u45 u46 u47 u48 u49 u50 u51 u52 u53 u54 u55 u56 u57 u58 u59 u60 u61 u62 u63 u64 u65 u66 u67 u68 u69 u70 u71 u72 u73 u74 u75 u76 u77 u78 u79 u80 u81 u82 u83 u84 u85 u86 u87 u88 u89 u90 u91 u92 u93 u94 u95 u96 u97 u98 u99 u100 u101 u102 u103 u104 u105 u106 u107 u108 u109 u110 u111 u112 u113 u114 u115 u116 u117 u118 u119 u120 u121 u122 u123 u124 u125 u126 u127 u128 u129 u130 u131 u132 u133 u134 u135 u136 u137 u138 u139 u140 w' F1' F2' s' l' b1 b2 b3)⟩
  clear hQ
  have HB := Box'.mk hb
  have AL := Box'.mk HAl
  have IV := Box'.mk HI
  have HWB := Box'.mk HW
  have hw := HW wr hb
  have hd := d.toNat_lt
  have hsl := HI.sl
  clear hb HAl HW HI
  refine wp_seq_k fun K hK => ?_
  have HK := Box'.mk hK
  clear hK
  generalize hm : sent.length = m at *
  have HM := Box'.mk hm
  clear hm
  by_cases h0 : m = 0
  · subst h0
    go_wp2_with fail
    refine HK.out _ _ ?_
    exact T6.out _ _ _ AL.out IV.out HB.out _ _ _ _ _ _ _ _ _ _ _ _ _ _ _ _ _ _ _ _ _ _ _ _ _ _ _ _ _ _ _ _ _ _ _ _ _ _ _ _ _ _ _ _ _ _ _ _ _ _ _ _ _ _ _ _ _ _ _ _ _ _ _ _ _ _ _ _ _ _ _ _ _ _ _ _ _ _ _ _ _ _ _ _ _ _ _ _ _ _ _ _ _ _ _ _ _ _ _ _ _ _ _ _ _ _ _ _ _ _ _ _ _ _ _ _ _ _ 
  · have h0' : (0 : Int) < (m : Int) := by omega
    by_cases h3 : d.toNat % 3 = 0
    · have h3' : ¬ (0 : Int) < (d.toNat : Int) % 3 := by omega
      go_wp2_with fail
      refine HK.out _ _ ?_
      exact T6.out _ _ _ AL.out IV.out HB.out _ _ _ _ _ _ _ _ _ _ _ _ _ _ _ _ _ _ _ _ _ _ _ _ _ _ _ _ _ _ _ _ _ _ _ _ _ _ _ _ _ _ _ _ _ _ _ _ _ _ _ _ _ _ _ _ _ _ _ _ _ _ _ _ _ _ _ _ _ _ _ _ _ _ _ _ _ _ _ _ _ _ _ _ _ _ _ _ _ _ _ _ _ _ _ _ _ _ _ _ _ _ _ _ _ _ _ _ _ _ _ _ _ _ _ _ _ _ 
    · have h3' : (0 : Int) < (d.toNat : Int) % 3 := by omega
      obtain ⟨j, hj⟩ : ∃ j, j = (d.toNat * 7 + k) % m := ⟨_, rfl⟩
      have hjm : j < m := by rw [hj]; exact Nat.mod_lt _ (by omega)
      have hjI : ((d.toNat : Int) * 7 + (k : Int)) % (m : Int) = (j : Int) := by rw [hj]; simp
      obtain ⟨gs, cs2, e1, e2, e3, e4⟩ := AL.out.sr.cell (k := j) (by rw [HM.out]; exact hjm)
      have hmem : sent.getD j (Ins.none, .slice none 0 0) ∈ sent := by
        rw [show sent.getD j (Ins.none, .slice none 0 0) = sent[j]'(by rw [HM.out]; exact hjm) by simp [show j < sent.length by rw [HM.out]; exact hjm]]
        exact List.getElem_mem _
      have gx := IV.out.gd _ hmem
      have dx := AL.out.sd _ hmem
      generalize sent.getD j (Ins.none, .slice none 0 0) = y at *
      obtain ⟨x, vb⟩ := y
      simp only at gx dx
      rw [HM.out] at e1 e2
      injection e1 with e5 e6 e7
      subst e5 e7
      have c0 := e4 0 (by omega)
      have c1 := e4 1 (by omega)
      have c2 := e4 2 (by omega)
      have c3 := e4 3 (by omega)
      have c4 := e4 4 (by omega)
      have tk := HT wr F2 p2 l x vb AL.out.b IV.out.rc.pos IV.out.l32 (dx.inF fun b hb => ⟨(AL.out.d1 b hb).1, (AL.out.d1 b hb).2.2⟩) (by have := IV.out.dif gx; omega) (fun y hy => by have := IV.out.rc.rows y hy; rw [this.2]; have := IV.out.txt _ this.1; omega)
      have IV2 := Box'.mk (IV.out.take gx)
      obtain ⟨av, cv, rfl⟩ := dx.slice
      simp only [insA, uV, List.getElem?_toArray, List.getElem?_cons_zero, List.getElem?_cons_succ, Nat.add_zero] at c0 c1 c2 c3 c4 tk
      clear e3 e4 e6 hmem gx dx hj
      generalize takeF l x = R at *
      obtain ⟨l', r1, r2⟩ := R
      obtain ⟨xo, xn, xa, xt, xd⟩ := x
      simp only at c0 c1 c2 c3 c4 tk IV2
      go_wp2_with fail
      refine tk.mono ?_
      rintro e w3 ⟨F3, rfl, hP, hT, hN⟩
      have AL3 := Box'.mk (AL.out.two KS KR hP hT hN)
      have B3 := Box'.mk (HB.out.trans (hT.below AL.out.hN AL.out.n2))
      clear tk hP hT hN
      go_wp2_with fail
      refine HK.out _ _ ?_
      exact T6.out _ _ _ AL3.out IV2.out B3.out _ _ _ _ _ _ _ _ _ _ _ _ _ _ _ _ _ _ _ _ _ _ _ _ _ _ _ _ _ _ _ _ _ _ _ _ _ _ _ _ _ _ _ _ _ _ _ _ _ _ _ _ _ _ _ _ _ _ _ _ _ _ _ _ _ _ _ _ _ _ _ _ _ _ _ _ _ _ _ _ _ _ _ _ _ _ _ _ _ _ _ _ _ _ _ _ _ _ _ _ _ _ _ _ _ _ _ _ _ _ _ _ _ _ _ _ _ _ 
end Go.Proofs.Ytikkekdmahdgaaa
