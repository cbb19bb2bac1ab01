/- SspAlike's round from the time on. -/
import Derived.Test.YtikkekdmahdgaaaSe
namespace Go.Proofs.Ytikkekdmahdgaaa
set_option maxRecDepth 100000
open Go.RowKit Go.BigFrame
set_option linter.unusedSimpArgs false
set_option linter.unusedVariables false
set_option maxRecDepth 100000
set_option maxHeartbeats 4000000

section
variable {M A : Nat} {nw nw2 lt : UInt64} {all : List UInt8} {s s1 : Sd} {l : List Rw} {had : List (List UInt8)} {sent : List (Ins × Value)}
theorem Iv.told (h : Iv M A nw lt all s l had sent) (q1 : s1.now = s.now) (q2 : s1.seen = nw2) (q3 : SnL had s1.l) : Iv (M + 1) A nw2 lt all s1 l had sent :=
  ⟨q1.trans h.now, h.hd, q3, h.rc, h.gd, h.lt, by rw [q2]; exact Nat.le_refl _, h.an, by have := h.hn; omega, by have := h.sl; omega, h.l32⟩
theorem Iv.again (h : Iv M A nw lt all s l had sent) (q1 : s1.now = s.now) (q2 : s1.seen = nw2) (q3 : SnL had s1.l) (x : Ins) (vb : Value) (g : GdI had x) : Iv (M + 1) A nw2 lt all s1 l had (sent ++ [(x, vb)]) :=
  ⟨q1.trans h.now, h.hd, q3, h.rc, fun p hp => by
    rcases List.mem_append.1 hp with q | q
    · exact h.gd p q
    · rw [List.mem_singleton] at q; rw [q]; exact g, h.lt, by rw [q2]; exact Nat.le_refl _, h.an, by have := h.hn; omega, by rw [List.length_append, List.length_singleton]; have := h.sl; omega, h.l32⟩
theorem Iv.fresh (h : Iv M A nw lt all s l had sent) (q1 : s1.now = s.now) (q2 : s1.seen = nw2) (q3 : SnL (had ++ [s.now]) s1.l) (x : Ins) (vb : Value) (g : GdI (had ++ [s.now]) x) : Iv (M + 1) A nw2 lt all s1 l (had ++ [all]) (sent ++ [(x, vb)]) := by
  rw [h.now] at q3 g
  exact ⟨q1.trans h.now, h.hd.put, q3, h.rc.more all, fun p hp => by
    rcases List.mem_append.1 hp with q | q
    · exact (h.gd p q).more all
    · rw [List.mem_singleton] at q; rw [q]; exact g, h.lt, by rw [q2]; exact Nat.le_refl _, h.an, by rw [List.length_append, List.length_singleton]; have := h.hn; omega, by rw [List.length_append, List.length_singleton]; have := h.sl; omega, h.l32⟩
end
theorem al_1 (RS : World → (Nat → Prop) → Nat → Sd → Prop) (RR : World → (Nat → Prop) → Nat → List Rw → Prop) (KS : KeepR RS) (KR : KeepR RR) (HA : AckSC 11 RS) (HL : LateRC 22 RR) (HT : TakeRF 20 RR) (HK : TickSC 13 RS)
    (w0 wr : World) (p1 p2 bw ow n cw k ch cs : Nat) (ah aq : Option Addr) (vw : Value) (v2 v3 v18 v19 v20 v21 v22 v23 v24 v25 v26 v27 v28 v141 : Value) (F1 F2 D : Nat → Prop) (nw lt : UInt64) (all : List UInt8) (s : Sd) (l : List Rw) (had : List (List UInt8)) (sent : List (Ins × Value)) (d : UInt8) (M A : Nat) (hM : M < 1048576) (hA : A ≤ 4398046511104) (nw2 : UInt64) (hn2 : nw2.toNat = nw.toNat + d.toNat)
    (HAl : Al RS RR w0.heap.size wr p1 p2 F1 F2 D (.slice ah had.length ch) (.slice aq sent.length cs) s l had sent) (HI : Iv M A nw lt all s l had sent) (hb : Below w0.heap.size w0 wr) (hkn : k < n) (hnn : n ≤ 1048576) (hcw : n ≤ cw)
    (HW : ∀ wx, Below w0.heap.size w0 wx → wx.cell? ⟨bw, ow + k, none⟩ = some (.int .u8 (d.toNat : Int))) (Q : Exit → Act → World → Prop)
    (hQ : ∀ (u4 u13 u14 u15 u16 u17 u29 u30 u31 u32 u33 u34 u35 u36 u37 u38 u39 u40 u41 u42 u43 u44 u45 u46 u47 u48 u49 u50 u51 u52 u53 u54 u55 u56 u57 u58 u59 u60 u61 u62 u63 u64 u65 u66 u67 u68 u69 u70 u71 u72 u73 u74 u75 u76 u77 u78 u79 u80 u81 u82 u83 u84 u85 u86 u87 u88 u89 u90 u91 u92 u93 u94 u95 u96 u97 u98 u99 u100 u101 u102 u103 u104 u105 u106 u107 u108 u109 u110 u111 u112 u113 u114 u115 u116 u117 u118 u119 u120 u121 u122 u123 u124 u125 u126 u127 u128 u129 u130 u131 u132 u133 u134 u135 u136 u137 u138 u139 u140 : Value) (w' : World) (F1' F2' D' : Nat → Prop) (s' : Sd) (l' : List Rw) (had' : List (List UInt8)) (sent' : List (Ins × Value)) (ah' aq' : Option Addr) (ch' cs' : Nat), Al RS RR w0.heap.size w' p1 p2 F1' F2' D' (.slice ah' had'.length ch') (.slice aq' sent'.length cs') s' l' had' sent' → Iv (M + 1) A nw2 (lastR l').n all s' l' had' sent' → Below w0.heap.size w0 w' → Q .normal ⟨#[vw, .slice (some ⟨bw, ow, none⟩) n cw, v2, v3, u4, .pointer (some ⟨p1, 0, none⟩), .pointer (some ⟨p2, 0, none⟩), .int .u64 (nw2.toNat : Int), .int .u64 ((lastR l').n.toNat : Int), .string ⟨all.toArray⟩, .slice ah' had'.length ch', .slice aq' sent'.length cs', .int .i64 (k : Int), u13, u14, u15, u16, u17, v18, v19, v20, v21, v22, v23, v24, v25, v26, v27, v28, u29, u30, u31, u32, u33, u34, u35, u36, u37, u38, u39, u40, u41, u42, u43, u44, u45, u46, u47, u48, u49, u50, u51, u52, u53, u54, u55, u56, u57, u58, u59, u60, u61, u62, u63, u64, u65, u66, u67, u68, u69, u70, u71, u72, u73, u74, u75, u76, u77, u78, u79, u80, u81, u82, u83, u84, u85, u86, u87, u88, u89, u90, u91, u92, u93, u94, u95, u96, u97, u98, u99, u100, u101, u102, u103, u104, u105, u106, u107, u108, u109, u110, u111, u112, u113, u114, u115, u116, u117, u118, u119, u120, u121, u122, u123, u124, u125, u126, u127, u128, u129, u130, u131, u132, u133, u134, u135, u136, u137, u138, u139, u140, v141], []⟩ w') :
    ∀ (u4 u13 u14 u15 u16 u17 u29 u30 u31 u32 u33 u34 u35 u36 u37 u38 u39 u40 u41 u42 u43 u44 u45 u46 u47 u48 u49 u50 u51 u52 u53 u54 u55 u56 u57 u58 u59 u60 u61 u62 u63 u64 u65 u66 u67 u68 u69 u70 u71 u72 u73 u74 u75 u76 u77 u78 u79 u80 u81 u82 u83 u84 u85 u86 u87 u88 u89 u90 u91 u92 u93 u94 u95 u96 u97 u98 u99 u100 u101 u102 u103 u104 u105 u106 u107 u108 u109 u110 u111 u112 u113 u114 u115 u116 u117 u118 u119 u120 u121 u122 u123 u124 u125 u126 u127 u128 u129 u130 u131 u132 u133 u134 u135 u136 u137 u138 u139 u140 : Value), Code.wp Try.prog (sR (cB (cL (sR (cP (cB (sR (cL (sR (sR (sR (sR (sR (sR (sR (Try.f6.body.getD .skip)))))))))))))))) Q ⟨#[vw, .slice (some ⟨bw, ow, none⟩) n cw, v2, v3, u4, .pointer (some ⟨p1, 0, none⟩), .pointer (some ⟨p2, 0, none⟩), .int .u64 (nw.toNat : Int), .int .u64 (lt.toNat : Int), .string ⟨all.toArray⟩, .slice ah had.length ch, .slice aq sent.length cs, .int .i64 (k : Int), u13, u14, u15, u16, u17, v18, v19, v20, v21, v22, v23, v24, v25, v26, v27, v28, u29, u30, u31, u32, u33, u34, u35, u36, u37, u38, u39, u40, u41, u42, u43, u44, u45, u46, u47, u48, u49, u50, u51, u52, u53, u54, u55, u56, u57, u58, u59, u60, u61, u62, u63, u64, u65, u66, u67, u68, u69, u70, u71, u72, u73, u74, u75, u76, u77, u78, u79, u80, u81, u82, u83, u84, u85, u86, u87, u88, u89, u90, u91, u92, u93, u94, u95, u96, u97, u98, u99, u100, u101, u102, u103, u104, u105, u106, u107, u108, u109, u110, u111, u112, u113, u114, u115, u116, u117, u118, u119, u120, u121, u122, u123, u124, u125, u126, u127, u128, u129, u130, u131, u132, u133, u134, u135, u136, u137, u138, u139, u140, v141], []⟩ wr := by
  intro u4 u13 u14 u15 u16 u17 u29 u30 u31 u32 u33 u34 u35 u36 u37 u38 u39 u40 u41 u42 u43 u44 u45 u46 u47 u48 u49 u50 u51 u52 u53 u54 u55 u56 u57 u58 u59 u60 u61 u62 u63 u64 u65 u66 u67 u68 u69 u70 u71 u72 u73 u74 u75 u76 u77 u78 u79 u80 u81 u82 u83 u84 u85 u86 u87 u88 u89 u90 u91 u92 u93 u94 u95 u96 u97 u98 u99 u100 u101 u102 u103 u104 u105 u106 u107 u108 u109 u110 u111 u112 u113 u114 u115 u116 u117 u118 u119 u120 u121 u122 u123 u124 u125 u126 u127 u128 u129 u130 u131 u132 u133 u134 u135 u136 u137 u138 u139 u140
  conv => arg 2; whnf
  have hw2 := nw2.toNat_lt
  have hI2 : (nw.toNat : Int) + (d.toNat : Int) = (nw2.toNat : Int) := by omega
  have hw := HW wr hb
  have hd := d.toNat_lt
  have TO := tick_ok s nw2 20 90 HI.sn (by rw [HI.now]; exact HI.hd) (by omega) (by omega) (by rw [hn2]; have := HI.seen; omega) (by have := HI.hn; omega)
  have tk := HK wr F1 p1 s nw2 20 90 HAl.a HI.sn.pos HI.sn.len (by rw [HI.now]; have := HI.an; omega) (fun y hy => by
    obtain ⟨j, hj, rfl⟩ := List.getElem_of_mem hy
    have h1 := HI.sn.rows j hj
    rw [show s.l.getD j Rw.zero = s.l[j] by simp [hj]] at h1
    refine ⟨by rw [h1.2]; have := HI.txt _ h1.1; omega, ?_⟩
    have := h1.1
    have := HI.hn
    omega) (by decide) (by decide) (by decide) (by decide)
  have HC : Box' (∀ vb, (((tickF s nw2 20 90).2.2.1 = false ∧ Iv (M + 1) A nw2 lt all (tickF s nw2 20 90).1 l had sent) ∨ ((tickF s nw2 20 90).2.2.1 = true ∧ (tickF s nw2 20 90).2.1.n.toNat = had.length ∧ Iv (M + 1) A nw2 lt all (tickF s nw2 20 90).1 l (had ++ [all]) (sent ++ [((tickF s nw2 20 90).2.1, vb)])) ∨ ((tickF s nw2 20 90).2.2.1 = true ∧ (tickF s nw2 20 90).2.1.n.toNat + 1 = had.length ∧ Iv (M + 1) A nw2 lt all (tickF s nw2 20 90).1 l had (sent ++ [((tickF s nw2 20 90).2.1, vb)])))) := ⟨fun vb => by
    obtain ⟨_, q1, q2, q⟩ := TO
    rcases q with ⟨q, r⟩ | ⟨q, r1, r2, r3⟩ | ⟨q, r1, r2, r3⟩
    · exact .inl ⟨q, HI.told q1 q2 r⟩
    · exact .inr (.inl ⟨q, r1, HI.fresh q1 q2 r2 _ vb r3⟩)
    · exact .inr (.inr ⟨q, r1, HI.again q1 q2 r2 _ vb r3⟩)⟩
  have E0 := TO.1
  have T4 := Box'.mk (fun (wx : World) (F1' : Nat → Prop) (s1 : Sd) (bx : Nat) (ok : Bool) (x : Ins) (vb : Value) (D2 : Nat → Prop) a1 a2 a3 a4 a5 a6 a7 => al_4 RS RR KS KR HA HL HT w0 wx p1 p2 bw ow n cw k ch cs ah aq vw v2 v3 v18 v19 v20 v21 v22 v23 v24 v25 v26 v27 v28 v141 F1' F2 D nw2 lt all s1 l had sent d (M + 1) A (by omega) hA bx ok x vb D2 a1 a2 hkn hnn hcw a3 a4 a5 a6 a7 HW Q hQ)
  have HB := Box'.mk hb
  have AL := Box'.mk HAl
  clear hQ hb HAl HW HI TO hn2
  generalize tickF s nw2 20 90 = R at *
  obtain ⟨s1, x, ok, e0⟩ := R
  simp only at E0 tk HC
  subst E0
  unfold uV at tk
  refine wp_seq_k fun K1 hK1 => ?_
  have HK1 := Box'.mk hK1
  clear hK1
  go_wp2_with fail
  refine HK1.out _ _ ?_
  refine wp_seq_k fun K2 hK2 => ?_
  have HK2 := Box'.mk hK2
  clear hK2
  go_wp2_with fail
  refine tk.mono ?_
  rintro e w1 ⟨F', vb, rfl, hP, hX, hT, hN⟩
  obtain ⟨av, cv, rfl⟩ := hX.slice
  have AL1 := Box'.mk (AL.out.one KS KR hP hT hN)
  have B1 := Box'.mk (HB.out.trans (hT.below AL.out.hN AL.out.n1))
  obtain ⟨w2, hw2⟩ : ∃ w2, w2 = w1.alloc (.cells #[.int .u64 (x.o.toNat : Int), .int .u64 (x.n.toNat : Int), .int .u64 (x.ack.toNat : Int), .int .u64 (x.thr.toNat : Int), .slice av x.dif.length cv] 41) := ⟨_, rfl⟩
  have b2 : Below w1.heap.size w1 w2 := by rw [hw2]; exact (Below.refl _ _).alloc (Nat.le_refl _) _
  have R2 : Box' (Row w2 w1.heap.size 41 (insA x (.slice av x.dif.length cv))) := ⟨by rw [hw2]; exact Row.new _ _ _⟩
  have AL2 := Box'.mk (AL1.out.below KS KR b2)
  have B2 := Box'.mk (B1.out.trans (b2.mono AL1.out.hN))
  have X2 : Box' (InX (fun b => wr.heap.size ≤ b ∧ b < w1.heap.size ∧ ¬ F' b) w2 (.slice av x.dif.length cv) x.dif) := ⟨hX.keep fun b hb => ⟨hb, b2.block b hb.2.1⟩⟩
  have H2 : Box' (∀ g, (wr.heap.size ≤ g ∧ g < w1.heap.size ∧ ¬ F' g) → g < w2.heap.size ∧ ¬ F' g ∧ ¬ F2 g ∧ (Value.slice ah had.length ch).ownBlock ≠ some g ∧ (Value.slice aq sent.length cs).ownBlock ≠ some g) := ⟨fun g hg => ⟨Nat.lt_of_lt_of_le hg.2.1 b2.size, hg.2.2, fun q => by have := KR.2 _ _ _ _ AL.out.b g q; omega, fun q => by have := (own_lt AL.out.hr g q).2; omega, fun q => by have := (own_lt AL.out.sr g q).2; omega⟩⟩
  have NX : Box' ((Value.slice aq sent.length cs).ownBlock ≠ some w1.heap.size) := ⟨fun q => by have := (own_lt AL1.out.sr _ q).2; omega⟩
  have HC := Box'.mk (HC.out (.slice av x.dif.length cv))
  unfold insA uV
  clear tk hP hX hT hN AL AL1 HB B1 b2
  go_wp2_with fail
  refine HK2.out _ _ ?_
  refine wp_seq_k fun K3 hK3 => ?_
  have HK3 := Box'.mk hK3
  clear hK3
  go_wp2_with fail
  refine HK3.out _ _ ?_
  rw [← hw2]
  exact T4.out w2 F' s1 _ ok x (.slice av x.dif.length cv) _ AL2.out B2.out HC.out H2.out X2.out R2.out NX.out _ _ _ _ _ _ _ _ _ _ _ _ _ _ _ _ _ _ _ _ _ _ _ _ _ _ _ _ _ _ _ _ _ _ _ _ _ _ _ _ _ _ _ _ _ _ _ _ _ _ _ _ _ _ _ _ _ _ _ _ _ _ _ _ _ _ _ _ _ _ _ _ _ _ _ _ _ _ _ _ _ _ _ _ _ _ _ _ _ _ _ _ _ _ _ _ _ _ _ _ _ _ _ _ _ _ _ _ _ _ _ _ _ _ _ _ 
end Go.Proofs.Ytikkekdmahdgaaa
