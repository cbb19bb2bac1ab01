/- SspAlike's whole round. -/
import Derived.Test.YtikkekdmahdgaaaSf
namespace Go.Proofs.Ytikkekdmahdgaaa
set_option maxRecDepth 100000
open Go.RowKit Go.BigFrame
set_option linter.unusedSimpArgs false
set_option linter.unusedVariables false
set_option maxRecDepth 100000
set_option maxHeartbeats 4000000

theorem wpList_cat {ops : Array Oper} {rest : List Oper} {op : Oper} {a : Act} {w : World} {Q : Exit → Act → World → Prop} (hgd : op.guard = none) (x y : Tmp) (ho : op.op = .binOp .add 9 (.tmp x) (.tmp y) 9) (s t : List UInt8) (hx : a.eval (.tmp x) = .string ⟨s.toArray⟩) (hy : a.eval (.tmp y) = .string ⟨t.toArray⟩) (hl : s.length + t.length ≤ 4398046511104)
    (h : wpList Try.prog ops Q rest (a.put op.dst (.string ⟨(s ++ t).toArray⟩)) w) : wpList Try.prog ops Q (op :: rest) a w :=
  wpList_plain hgd fun K hK => wp_valE (.string ⟨(s ++ t).toArray⟩) (by
    have hx' : a.tmps[x]?.getD undef = .string ⟨s.toArray⟩ := by simpa [Act.eval] using hx
    have hy' : a.tmps[y]?.getD undef = .string ⟨t.toArray⟩ := by simpa [Act.eval] using hy
    unfold execOp; simp [ho, hx', hy', go_sem, str_app]; omega) (hK _ _ h)
theorem al_0 (RS : World → (Nat → Prop) → Nat → Sd → Prop) (RR : World → (Nat → Prop) → Nat → List Rw → Prop) (KS : KeepR RS) (KR : KeepR RR) (HA : AckSC 11 RS) (HL : LateRC 22 RR) (HT : TakeRF 20 RR) (HK : TickSC 13 RS) (HS : SetSC 10 RS)
    (w0 wr : World) (p1 p2 bw ow n cw k ch cs : Nat) (ah aq : Option Addr) (av : Option Addr) (m cv : Nat) (v2 v3 v18 v19 v20 v21 v22 v23 v24 v25 v26 v27 v28 v141 : Value) (F1 F2 D : Nat → Prop) (nw lt : UInt64) (all : List UInt8) (s : Sd) (l : List Rw) (had : List (List UInt8)) (sent : List (Ins × Value)) (d : UInt8) (M A : Nat) (hM : M < 1048576) (tk : List UInt8) (hA : A + tk.length ≤ 4398046511104) (nw2 : UInt64) (hn2 : nw2.toNat = nw.toNat + d.toNat)
    (HAl : Al RS RR w0.heap.size wr p1 p2 F1 F2 D (.slice ah had.length ch) (.slice aq sent.length cs) s l had sent) (HI : Iv M A nw lt all s l had sent) (hb : Below w0.heap.size w0 wr) (hkn : k < n) (hnn : n ≤ 1048576) (hcw : n ≤ cw) (hmm : m ≤ 1048576) (hcv : m ≤ cv)
    (HW : ∀ wx, Below w0.heap.size w0 wx → wx.cell? ⟨bw, ow + k, none⟩ = some (.int .u8 (d.toNat : Int))) (HV : k < m → ∃ b o, av = some ⟨b, o, none⟩ ∧ ∀ wx, Below w0.heap.size w0 wx → wx.cell? ⟨b, o + k, none⟩ = some (.string ⟨tk.toArray⟩)) (Q : Exit → Act → World → Prop)
    (hQ : ∀ (u4 u13 u14 u15 u16 u17 u29 u30 u31 u32 u33 u34 u35 u36 u37 u38 u39 u40 u41 u42 u43 u44 u45 u46 u47 u48 u49 u50 u51 u52 u53 u54 u55 u56 u57 u58 u59 u60 u61 u62 u63 u64 u65 u66 u67 u68 u69 u70 u71 u72 u73 u74 u75 u76 u77 u78 u79 u80 u81 u82 u83 u84 u85 u86 u87 u88 u89 u90 u91 u92 u93 u94 u95 u96 u97 u98 u99 u100 u101 u102 u103 u104 u105 u106 u107 u108 u109 u110 u111 u112 u113 u114 u115 u116 u117 u118 u119 u120 u121 u122 u123 u124 u125 u126 u127 u128 u129 u130 u131 u132 u133 u134 u135 u136 u137 u138 u139 u140 : Value) (w' : World) (F1' F2' D' : Nat → Prop) (s' : Sd) (l' : List Rw) (had' : List (List UInt8)) (sent' : List (Ins × Value)) (ah' aq' : Option Addr) (ch' cs' : Nat), Al RS RR w0.heap.size w' p1 p2 F1' F2' D' (.slice ah' had'.length ch') (.slice aq' sent'.length cs') s' l' had' sent' → Iv (M + 1) (A + tk.length) nw2 (lastR l').n (if k < m then all ++ tk else all) s' l' had' sent' → Below w0.heap.size w0 w' → Q .normal ⟨#[.slice av m cv, .slice (some ⟨bw, ow, none⟩) n cw, v2, v3, u4, .pointer (some ⟨p1, 0, none⟩), .pointer (some ⟨p2, 0, none⟩), .int .u64 (nw2.toNat : Int), .int .u64 ((lastR l').n.toNat : Int), .string ⟨(if k < m then all ++ tk else all).toArray⟩, .slice ah' had'.length ch', .slice aq' sent'.length cs', .int .i64 (k : Int), u13, u14, u15, u16, u17, v18, v19, v20, v21, v22, v23, v24, v25, v26, v27, v28, u29, u30, u31, u32, u33, u34, u35, u36, u37, u38, u39, u40, u41, u42, u43, u44, u45, u46, u47, u48, u49, u50, u51, u52, u53, u54, u55, u56, u57, u58, u59, u60, u61, u62, u63, u64, u65, u66, u67, u68, u69, u70, u71, u72, u73, u74, u75, u76, u77, u78, u79, u80, u81, u82, u83, u84, u85, u86, u87, u88, u89, u90, u91, u92, u93, u94, u95, u96, u97, u98, u99, u100, u101, u102, u103, u104, u105, u106, u107, u108, u109, u110, u111, u112, u113, u114, u115, u116, u117, u118, u119, u120, u121, u122, u123, u124, u125, u126, u127, u128, u129, u130, u131, u132, u133, u134, u135, u136, u137, u138, u139, u140, v141], []⟩ w') :
    ∀ (u4 u13 u14 u15 u16 u17 u29 u30 u31 u32 u33 u34 u35 u36 u37 u38 u39 u40 u41 u42 u43 u44 u45 u46 u47 u48 u49 u50 u51 u52 u53 u54 u55 u56 u57 u58 u59 u60 u61 u62 u63 u64 u65 u66 u67 u68 u69 u70 u71 u72 u73 u74 u75 u76 u77 u78 u79 u80 u81 u82 u83 u84 u85 u86 u87 u88 u89 u90 u91 u92 u93 u94 u95 u96 u97 u98 u99 u100 u101 u102 u103 u104 u105 u106 u107 u108 u109 u110 u111 u112 u113 u114 u115 u116 u117 u118 u119 u120 u121 u122 u123 u124 u125 u126 u127 u128 u129 u130 u131 u132 u133 u134 u135 u136 u137 u138 u139 u140 : Value), Code.wp Try.prog (cB (cL (sR (cP (cB (sR (cL (sR (sR (sR (sR (sR (sR (sR (Try.f6.body.getD .skip))))))))))))))) Q ⟨#[.slice av m cv, .slice (some ⟨bw, ow, none⟩) n cw, v2, v3, u4, .pointer (some ⟨p1, 0, none⟩), .pointer (some ⟨p2, 0, none⟩), .int .u64 (nw.toNat : Int), .int .u64 (lt.toNat : Int), .string ⟨all.toArray⟩, .slice ah had.length ch, .slice aq sent.length cs, .int .i64 (k : Int), u13, u14, u15, u16, u17, v18, v19, v20, v21, v22, v23, v24, v25, v26, v27, v28, u29, u30, u31, u32, u33, u34, u35, u36, u37, u38, u39, u40, u41, u42, u43, u44, u45, u46, u47, u48, u49, u50, u51, u52, u53, u54, u55, u56, u57, u58, u59, u60, u61, u62, u63, u64, u65, u66, u67, u68, u69, u70, u71, u72, u73, u74, u75, u76, u77, u78, u79, u80, u81, u82, u83, u84, u85, u86, u87, u88, u89, u90, u91, u92, u93, u94, u95, u96, u97, u98, u99, u100, u101, u102, u103, u104, u105, u106, u107, u108, u109, u110, u111, u112, u113, u114, u115, u116, u117, u118, u119, u120, u121, u122, u123, u124, u125, u126, u127, u128, u129, u130, u131, u132, u133, u134, u135, u136, u137, u138, u139, u140, v141], []⟩ wr := by
  intro u4 u13 u14 u15 u16 u17 u29 u30 u31 u32 u33 u34 u35 u36 u37 u38 u39 u40 u41 u42 u43 u44 u45 u46 u47 u48 u49 u50 u51 u52 u53 u54 u55 u56 u57 u58 u59 u60 u61 u62 u63 u64 u65 u66 u67 u68 u69 u70 u71 u72 u73 u74 u75 u76 u77 u78 u79 u80 u81 u82 u83 u84 u85 u86 u87 u88 u89 u90 u91 u92 u93 u94 u95 u96 u97 u98 u99 u100 u101 u102 u103 u104 u105 u106 u107 u108 u109 u110 u111 u112 u113 u114 u115 u116 u117 u118 u119 u120 u121 u122 u123 u124 u125 u126 u127 u128 u129 u130 u131 u132 u133 u134 u135 u136 u137 u138 u139 u140
  conv => arg 2; whnf
  have T1 := Box'.mk (fun (wx : World) (F1' : Nat → Prop) (s1 : Sd) (all1 : List UInt8) (e : (if k < m then all ++ tk else all) = all1) a1 a2 a3 => al_1 RS RR KS KR HA HL HT HK w0 wx p1 p2 bw ow n cw k ch cs ah aq (.slice av m cv) v2 v3 v18 v19 v20 v21 v22 v23 v24 v25 v26 v27 v28 v141 F1' F2 D nw lt all1 s1 l had sent d M (A + tk.length) hM hA nw2 hn2 a1 a2 a3 hkn hnn hcw HW Q (by subst e; exact hQ))
  have HB := Box'.mk hb
  have AL := Box'.mk HAl
  have IV := Box'.mk HI
  have HV := Box'.mk HV
  clear hQ hb HAl HW HI hn2
  refine wp_seq_k fun K1 hK1 => ?_
  have HK1 := Box'.mk hK1
  clear hK1
  by_cases hkm : k < m
  · obtain ⟨b, o, rfl, hc⟩ := HV.out hkm
    have c0 := hc wr HB.out
    have st := HS wr F1 p1 s (all ++ tk) AL.out.a
    have hal := IV.out.an
    have IV2 : Box' (Iv M (A + tk.length) nw lt (all ++ tk) { s with now := all ++ tk } l had sent) := ⟨⟨rfl, IV.out.hd.more tk, IV.out.sn, IV.out.rc, IV.out.gd, IV.out.lt, IV.out.seen, by rw [List.length_append]; omega, IV.out.hn, IV.out.sl, IV.out.l32⟩⟩
    have EQ : Box' ((if k < m then all ++ tk else all) = all ++ tk) := ⟨if_pos hkm⟩
    have HAT : Box' (all.length + tk.length ≤ 4398046511104) := ⟨by omega⟩
    unfold sT at st
    clear HV hc IV hal
    go_wp2_with (first
      | (refine wpList_cat rfl 39 43 rfl all tk rfl rfl HAT.out ?_)
      | fail)
    refine st.mono ?_
    rintro e w1 ⟨F', rfl, hP, hT, hN⟩
    have AL1 := Box'.mk (AL.out.one KS KR hP hT hN)
    have B1 := Box'.mk (HB.out.trans (hT.below AL.out.hN AL.out.n1))
    clear st hP hT hN AL HB c0
    go_wp2_with fail
    refine HK1.out _ _ ?_
    exact T1.out w1 F' _ _ EQ.out AL1.out IV2.out B1.out _ _ _ _ _ _ _ _ _ _ _ _ _ _ _ _ _ _ _ _ _ _ _ _ _ _ _ _ _ _ _ _ _ _ _ _ _ _ _ _ _ _ _ _ _ _ _ _ _ _ _ _ _ _ _ _ _ _ _ _ _ _ _ _ _ _ _ _ _ _ _ _ _ _ _ _ _ _ _ _ _ _ _ _ _ _ _ _ _ _ _ _ _ _ _ _ _ _ _ _ _ _ _ _ _ _ _ _ _ _ _ _ _ _ _ _ _ _ 
  · have IV2 : Box' (Iv M (A + tk.length) nw lt all s l had sent) := ⟨⟨IV.out.now, IV.out.hd, IV.out.sn, IV.out.rc, IV.out.gd, IV.out.lt, IV.out.seen, by have := IV.out.an; omega, IV.out.hn, IV.out.sl, IV.out.l32⟩⟩
    have EQ : Box' ((if k < m then all ++ tk else all) = all) := ⟨if_neg hkm⟩
    clear HV IV
    go_wp2_with fail
    refine HK1.out _ _ ?_
    exact T1.out wr F1 _ _ EQ.out AL.out IV2.out HB.out _ _ _ _ _ _ _ _ _ _ _ _ _ _ _ _ _ _ _ _ _ _ _ _ _ _ _ _ _ _ _ _ _ _ _ _ _ _ _ _ _ _ _ _ _ _ _ _ _ _ _ _ _ _ _ _ _ _ _ _ _ _ _ _ _ _ _ _ _ _ _ _ _ _ _ _ _ _ _ _ _ _ _ _ _ _ _ _ _ _ _ _ _ _ _ _ _ _ _ _ _ _ _ _ _ _ _ _ _ _ _ _ _ _ _ _ _ _ 
end Go.Proofs.Ytikkekdmahdgaaa
