/- SspAlike's round from the receiver's latest state on. -/
import Derived.Test.YtikkekdmahdgaaaSb
import Derived.Test.YtikkekdmahdgaaaRq
namespace Go.Proofs.Ytikkekdmahdgaaa
set_option maxRecDepth 100000
open Go.RowKit Go.BigFrame
set_option linter.unusedSimpArgs false
set_option linter.unusedVariables false
set_option maxRecDepth 100000
set_option maxHeartbeats 4000000

def sR : Code → Code
  | .seq _ b => b
  | c => c
def cL : Code → Code
  | .seq a _ => a
  | c => c
def cB : Code → Code
  | .block _ c => c
  | c => c
def cP : Code → Code
  | .loop c => c
  | c => c
/-- What holds of what was had, told and taken. -/
structure Iv (M A : Nat) (nw lt : UInt64) (all : List UInt8) (s : Sd) (l : List Rw) (had : List (List UInt8)) (sent : List (Ins × Value)) : Prop where
  now : s.now = all
  hd : HdI had all
  sn : SnL had s.l
  rc : RcI had l
  gd : ∀ p, p ∈ sent → GdI had p.1
  lt : lt.toNat ≤ (lastR l).n.toNat
  seen : s.seen.toNat ≤ nw.toNat
  an : all.length ≤ A
  hn : had.length ≤ M + 1
  sl : sent.length ≤ M
  l32 : l.length ≤ 32
theorem al_6 (RS : World → (Nat → Prop) → Nat → Sd → Prop) (RR : World → (Nat → Prop) → Nat → List Rw → Prop) (KS : KeepR RS) (KR : KeepR RR) (HA : AckSC 11 RS) (HL : LateRC 22 RR)
    (w0 wr : World) (p1 p2 bw ow n cw k ch cs : Nat) (ah aq : Option Addr) (vw : Value) (v2 v3 v18 v19 v20 v21 v22 v23 v24 v25 v26 v27 v28 v141 : Value) (F1 F2 D : Nat → Prop) (nw lt : UInt64) (all : List UInt8) (s : Sd) (l : List Rw) (had : List (List UInt8)) (sent : List (Ins × Value)) (d : UInt8) (M A : Nat) (hM : M ≤ 1048576)
    (HAl : Al RS RR w0.heap.size wr p1 p2 F1 F2 D (.slice ah had.length ch) (.slice aq sent.length cs) s l had sent) (HI : Iv M A nw lt all s l had sent) (hb : Below w0.heap.size w0 wr) (hkn : k < n) (hnn : n ≤ 1048576) (hcw : n ≤ cw)
    (HW : ∀ wx, Below w0.heap.size w0 wx → wx.cell? ⟨bw, ow + k, none⟩ = some (.int .u8 (d.toNat : Int))) (Q : Exit → Act → World → Prop)
    (hQ : ∀ (u4 u13 u14 u15 u16 u17 u29 u30 u31 u32 u33 u34 u35 u36 u37 u38 u39 u40 u41 u42 u43 u44 u45 u46 u47 u48 u49 u50 u51 u52 u53 u54 u55 u56 u57 u58 u59 u60 u61 u62 u63 u64 u65 u66 u67 u68 u69 u70 u71 u72 u73 u74 u75 u76 u77 u78 u79 u80 u81 u82 u83 u84 u85 u86 u87 u88 u89 u90 u91 u92 u93 u94 u95 u96 u97 u98 u99 u100 u101 u102 u103 u104 u105 u106 u107 u108 u109 u110 u111 u112 u113 u114 u115 u116 u117 u118 u119 u120 u121 u122 u123 u124 u125 u126 u127 u128 u129 u130 u131 u132 u133 u134 u135 u136 u137 u138 u139 u140 : Value) (w' : World) (F1' : Nat → Prop) (s' : Sd), Al RS RR w0.heap.size w' p1 p2 F1' F2 D (.slice ah had.length ch) (.slice aq sent.length cs) s' l had sent → Iv M A nw (lastR l).n all s' l had sent → Below w0.heap.size w0 w' → Q .normal ⟨#[vw, .slice (some ⟨bw, ow, none⟩) n cw, v2, v3, u4, .pointer (some ⟨p1, 0, none⟩), .pointer (some ⟨p2, 0, none⟩), .int .u64 (nw.toNat : Int), .int .u64 ((lastR l).n.toNat : Int), .string ⟨all.toArray⟩, .slice ah had.length ch, .slice aq sent.length cs, .int .i64 (k : Int), u13, u14, u15, u16, u17, v18, v19, v20, v21, v22, v23, v24, v25, v26, v27, v28, u29, u30, u31, u32, u33, u34, u35, u36, u37, u38, u39, u40, u41, u42, u43, u44, u45, u46, u47, u48, u49, u50, u51, u52, u53, u54, u55, u56, u57, u58, u59, u60, u61, u62, u63, u64, u65, u66, u67, u68, u69, u70, u71, u72, u73, u74, u75, u76, u77, u78, u79, u80, u81, u82, u83, u84, u85, u86, u87, u88, u89, u90, u91, u92, u93, u94, u95, u96, u97, u98, u99, u100, u101, u102, u103, u104, u105, u106, u107, u108, u109, u110, u111, u112, u113, u114, u115, u116, u117, u118, u119, u120, u121, u122, u123, u124, u125, u126, u127, u128, u129, u130, u131, u132, u133, u134, u135, u136, u137, u138, u139, u140, v141], []⟩ w') :
    ∀ (u4 u13 u14 u15 u16 u17 u29 u30 u31 u32 u33 u34 u35 u36 u37 u38 u39 u40 u41 u42 u43 u44 u45 u46 u47 u48 u49 u50 u51 u52 u53 u54 u55 u56 u57 u58 u59 u60 u61 u62 u63 u64 u65 u66 u67 u68 u69 u70 u71 u72 u73 u74 u75 u76 u77 u78 u79 u80 u81 u82 u83 u84 u85 u86 u87 u88 u89 u90 u91 u92 u93 u94 u95 u96 u97 u98 u99 u100 u101 u102 u103 u104 u105 u106 u107 u108 u109 u110 u111 u112 u113 u114 u115 u116 u117 u118 u119 u120 u121 u122 u123 u124 u125 u126 u127 u128 u129 u130 u131 u132 u133 u134 u135 u136 u137 u138 u139 u140 : Value), Code.wp Try.prog (sR (sR (sR (sR (sR (sR (cB (cL (sR (cP (cB (sR (cL (sR (sR (sR (sR (sR (sR (sR (Try.f6.body.getD .skip))))))))))))))))))))) Q ⟨#[vw, .slice (some ⟨bw, ow, none⟩) n cw, v2, v3, u4, .pointer (some ⟨p1, 0, none⟩), .pointer (some ⟨p2, 0, none⟩), .int .u64 (nw.toNat : Int), .int .u64 (lt.toNat : Int), .string ⟨all.toArray⟩, .slice ah had.length ch, .slice aq sent.length cs, .int .i64 (k : Int), u13, u14, u15, u16, u17, v18, v19, v20, v21, v22, v23, v24, v25, v26, v27, v28, u29, u30, u31, u32, u33, u34, u35, u36, u37, u38, u39, u40, u41, u42, u43, u44, u45, u46, u47, u48, u49, u50, u51, u52, u53, u54, u55, u56, u57, u58, u59, u60, u61, u62, u63, u64, u65, u66, u67, u68, u69, u70, u71, u72, u73, u74, u75, u76, u77, u78, u79, u80, u81, u82, u83, u84, u85, u86, u87, u88, u89, u90, u91, u92, u93, u94, u95, u96, u97, u98, u99, u100, u101, u102, u103, u104, u105, u106, u107, u108, u109, u110, u111, u112, u113, u114, u115, u116, u117, u118, u119, u120, u121, u122, u123, u124, u125, u126, u127, u128, u129, u130, u131, u132, u133, u134, u135, u136, u137, u138, u139, u140, v141], []⟩ wr := by
  intro u4 u13 u14 u15 u16 u17 u29 u30 u31 u32 u33 u34 u35 u36 u37 u38 u39 u40 u41 u42 u43 u44 u45 u46 u47 u48 u49 u50 u51 u52 u53 u54 u55 u56 u57 u58 u59 u60 u61 u62 u63 u64 u65 u66 u67 u68 u69 u70 u71 u72 u73 u74 u75 u76 u77 u78 u79 u80 u81 u82 u83 u84 u85 u86 u87 u88 u89 u90 u91 u92 u93 u94 u95 u96 u97 u98 u99 u100 u101 u102 u103 u104 u105 u106 u107 u108 u109 u110 u111 u112 u113 u114 u115 u116 u117 u118 u119 u120 u121 u122 u123 u124 u125 u126 u127 u128 u129 u130 u131 u132 u133 u134 u135 u136 u137 u138 u139 u140
  conv => arg 2; whnf
  have hlp := HI.rc.pos
  have hl32 := HI.l32
  have l1 := HL wr F2 p2 l HAl.b hlp hl32
  have hz0 : lastR l = l.getD (l.length - 1) Rw.zero := rfl
  rw [← hz0] at l1
  have hzr := HI.rc.rows (lastR l) (lastR_mem hlp)
  have hlt := HI.lt
  have hhn := HI.hn
  have HI2 : Box' (∀ s' : Sd, SnL had s'.l → s'.now = s.now → s'.seen = s.seen → Iv M A nw (lastR l).n all s' l had sent) := ⟨fun s' q1 q2 q3 => ⟨by rw [q2]; exact HI.now, HI.hd, q1, HI.rc, HI.gd, Nat.le_refl _, by rw [q3]; exact HI.seen, HI.an, HI.hn, HI.sl, HI.l32⟩⟩
  have SP : Box' (0 < s.l.length ∧ s.l.length ≤ 32 ∧ SnL had s.l) := ⟨HI.sn.pos, HI.sn.len, HI.sn⟩
  have HQ := Box'.mk hQ
  have HB := Box'.mk hb
  have AL := Box'.mk HAl
  have HWB := Box'.mk HW
  clear hQ hb HAl HW HI hz0
  generalize hz : lastR l = z at *
  clear hz
  unfold uV sT at l1
  have hzn := z.n.toNat_lt
  go_wp2_with fail
  refine l1.mono ?_
  rintro e w1 ⟨rfl, b1⟩
  have AL1 := Box'.mk (AL.out.below KS KR b1)
  have B1 := Box'.mk (HB.out.trans (b1.mono AL.out.hN))
  clear l1 b1 AL HB
  go_upto_region 25 with fail
  obtain ⟨w2, hw2⟩ : ∃ w2, w2 = w1.alloc (.cells #[.string ⟨z.t.toArray⟩] 26) := ⟨_, rfl⟩
  rw [← hw2]
  have b2 : Below w1.heap.size w1 w2 := by rw [hw2]; exact (Below.refl _ _).alloc (Nat.le_refl _) _
  have r2 : Row w2 w1.heap.size 26 #[.string ⟨z.t.toArray⟩] := by rw [hw2]; exact Row.new _ _ _
  have AL2 := Box'.mk (AL1.out.below KS KR b2)
  have B2 := Box'.mk (B1.out.trans (b2.mono AL1.out.hN))
  have X6 : Box' (∀ wa, Below w2.heap.size w2 wa → wa.cell? ⟨w1.heap.size, 0, none⟩ = some (.string ⟨z.t.toArray⟩)) := ⟨fun wa hb => (r2.below hb r2.lt).cell 0⟩
  obtain ⟨gh, ch2, e1, e2, e3, e4⟩ := AL2.out.hr.cell hzr.1
  injection e1 with e5 e6 e7
  subst e5 e7
  have T6 : Box' (∀ wa, Below w2.heap.size w2 wa → wa.cell? ⟨gh, z.n.toNat, none⟩ = some (.string ⟨z.t.toArray⟩)) := ⟨fun wa hb => by rw [hb.cell (p := ⟨gh, z.n.toNat, none⟩) e3, e4, ← hzr.2]; rfl⟩
  have hzl : (z.n.toNat : Int) < (had.length : Int) := by have := hzr.1; omega
  have hltI : (lt.toNat : Int) ≤ (z.n.toNat : Int) := by omega
  have hhI : (had.length : Int) ≤ 1048577 := by omega
  clear hw2 b2 r2 AL1 B1 e3 e4 e6 hzr hlt
  generalize hhl : had.length = hn at *
  have HHL := Box'.mk hhl
  clear hhl
  have HQ2 := HQ
  refine wp_region_lex (fun wa => Below w2.heap.size w2 wa) (by kernel_rfl) (by kernel_rfl) (Below.refl _ _).drew ?_
  go_big_quiet_want
  go_big_quiet_op
  first | go_big_quiet_on | (refine ⟨_, fun _ _ => rfl, ?_⟩; go_big_quiet_on) | (refine ⟨_, fun _ _ _ => rfl, ?_⟩; go_big_quiet_on)
  go_big_quiet_want
  go_big_quiet_op
  first | go_big_quiet_on | (refine ⟨_, fun _ _ => rfl, ?_⟩; go_big_quiet_on) | (refine ⟨_, fun _ _ _ => rfl, ?_⟩; go_big_quiet_on)
  go_big_quiet_want
  refine qC_of (.bool false) (fun wq hC => by unfold execOp; simp [go_sem] <;> first | assumption | omega) ?_
  simp only [Act.put, List.setIfInBounds_toArray, List.set_cons_succ, List.set_cons_zero]
  go_big_quiet_on
  go_big_quiet_want
  go_big_quiet_op
  first | go_big_quiet_on | (refine ⟨_, fun _ _ => rfl, ?_⟩; go_big_quiet_on) | (refine ⟨_, fun _ _ _ => rfl, ?_⟩; go_big_quiet_on)
  go_big_quiet_want
  go_big_quiet_op
  first | go_big_quiet_on | (refine ⟨_, fun _ _ => rfl, ?_⟩; go_big_quiet_on) | (refine ⟨_, fun _ _ _ => rfl, ?_⟩; go_big_quiet_on)
  go_big_quiet_want
  go_big_quiet_op
  first | go_big_quiet_on | (refine ⟨_, fun _ _ => rfl, ?_⟩; go_big_quiet_on) | (refine ⟨_, fun _ _ _ => rfl, ?_⟩; go_big_quiet_on)
  go_big_quiet_want
  go_big_quiet_op
  first | go_big_quiet_on | (refine ⟨_, fun _ _ => rfl, ?_⟩; go_big_quiet_on) | (refine ⟨_, fun _ _ _ => rfl, ?_⟩; go_big_quiet_on)
  go_big_quiet_want
  go_big_quiet_op
  first | go_big_quiet_on | (refine ⟨_, fun _ _ => rfl, ?_⟩; go_big_quiet_on) | (refine ⟨_, fun _ _ _ => rfl, ?_⟩; go_big_quiet_on)
  go_big_quiet_want
  refine qC_of (.bool false) (fun wq hC => by unfold execOp; simp [go_sem] <;> first | assumption | omega) ?_
  simp only [Act.put, List.setIfInBounds_toArray, List.set_cons_succ, List.set_cons_zero]
  go_big_quiet_on
  go_big_quiet_want
  go_big_quiet_op
  first | go_big_quiet_on | (refine ⟨_, fun _ _ => rfl, ?_⟩; go_big_quiet_on) | (refine ⟨_, fun _ _ _ => rfl, ?_⟩; go_big_quiet_on)
  go_big_quiet_want
  go_big_quiet_op
  first | go_big_quiet_on | (refine ⟨_, fun _ _ => rfl, ?_⟩; go_big_quiet_on) | (refine ⟨_, fun _ _ _ => rfl, ?_⟩; go_big_quiet_on)
  go_big_quiet_want
  go_big_quiet_op
  first | go_big_quiet_on | (refine ⟨_, fun _ _ => rfl, ?_⟩; go_big_quiet_on) | (refine ⟨_, fun _ _ _ => rfl, ?_⟩; go_big_quiet_on)
  go_big_quiet_want
  refine qC_load9 (.tmp 123) rfl w1.heap.size (0) _ rfl X6.out ?_
  simp only [Act.put, List.setIfInBounds_toArray, List.set_cons_succ, List.set_cons_zero]
  go_big_quiet_on
  go_big_quiet_want
  go_big_quiet_op
  first | go_big_quiet_on | (refine ⟨_, fun _ _ => rfl, ?_⟩; go_big_quiet_on) | (refine ⟨_, fun _ _ _ => rfl, ?_⟩; go_big_quiet_on)
  go_big_quiet_want
  go_big_quiet_op
  first | go_big_quiet_on | (refine ⟨_, fun _ _ => rfl, ?_⟩; go_big_quiet_on) | (refine ⟨_, fun _ _ _ => rfl, ?_⟩; go_big_quiet_on)
  go_big_quiet_want
  go_big_quiet_op
  first | go_big_quiet_on | (refine ⟨_, fun _ _ => rfl, ?_⟩; go_big_quiet_on) | (refine ⟨_, fun _ _ _ => rfl, ?_⟩; go_big_quiet_on)
  go_big_quiet_want
  refine qC_load9 (.tmp 127) rfl gh (z.n.toNat) _ rfl T6.out ?_
  simp only [Act.put, List.setIfInBounds_toArray, List.set_cons_succ, List.set_cons_zero]
  go_big_quiet_on
  go_big_quiet_want
  refine qC_of (.bool false) (fun wq hC => by unfold execOp; simp [go_sem]) ?_
  simp only [Act.put, List.setIfInBounds_toArray, List.set_cons_succ, List.set_cons_zero]
  go_big_quiet_on
  go_big_quiet_want
  go_big_quiet_op
  first | go_big_quiet_on | (refine ⟨_, fun _ _ => rfl, ?_⟩; go_big_quiet_on) | (refine ⟨_, fun _ _ _ => rfl, ?_⟩; go_big_quiet_on)
  refine wpQuiet_nil ?_
  intro wz hz
  have AL3 := Box'.mk (AL2.out.below KS KR hz)
  have B3 := Box'.mk (B2.out.trans (hz.mono AL2.out.hN))
  have hw := HWB.out wz B3.out
  have hd := d.toNat_lt
  clear hz AL2 B2 X6 T6 HWB HQ
  by_cases h5 : d.toNat % 5 = 0
  · have h5' : (d.toNat : Int) % 5 = 0 := by omega
    have ak := HA wz F1 p1 s z.n AL3.out.a SP.out.1 SP.out.2.1
    have AO := ack_ok s z.n SP.out.2.2
    have HI3 := Box'.mk (HI2.out _ AO.1 AO.2.1 AO.2.2)
    unfold uV at ak
    clear HI2 AO SP
    generalize ackF s z.n = R at *
    obtain ⟨s', r⟩ := R
    go_wp2_with fail
    refine ak.mono ?_
    rintro e w4 ⟨F4, rfl, hP, hT, hN⟩
    have AL4 := Box'.mk (AL3.out.one KS KR hP hT hN)
    have B4 := Box'.mk (B3.out.trans (hT.below AL3.out.hN AL3.out.n1))
    clear ak hP hT hN AL3 B3
    go_wp2_with fail
    exact HQ2.out _ _ _ _ _ _ _ _ _ _ _ _ _ _ _ _ _ _ _ _ _ _ _ _ _ _ _ _ _ _ _ _ _ _ _ _ _ _ _ _ _ _ _ _ _ _ _ _ _ _ _ _ _ _ _ _ _ _ _ _ _ _ _ _ _ _ _ _ _ _ _ _ _ _ _ _ _ _ _ _ _ _ _ _ _ _ _ _ _ _ _ _ _ _ _ _ _ _ _ _ _ _ _ _ _ _ _ _ _ _ _ _ _ _ _ _ _ _ _ _ _ AL4.out HI3.out B4.out
  · have h5' : ¬ (d.toNat : Int) % 5 = 0 := by omega
    have HI3 := Box'.mk (HI2.out s SP.out.2.2 rfl rfl)
    clear HI2 SP
    go_wp2_with fail
    exact HQ2.out _ _ _ _ _ _ _ _ _ _ _ _ _ _ _ _ _ _ _ _ _ _ _ _ _ _ _ _ _ _ _ _ _ _ _ _ _ _ _ _ _ _ _ _ _ _ _ _ _ _ _ _ _ _ _ _ _ _ _ _ _ _ _ _ _ _ _ _ _ _ _ _ _ _ _ _ _ _ _ _ _ _ _ _ _ _ _ _ _ _ _ _ _ _ _ _ _ _ _ _ _ _ _ _ _ _ _ _ _ _ _ _ _ _ _ _ _ _ _ _ _ AL3.out HI3.out B3.out
end Go.Proofs.Ytikkekdmahdgaaa
