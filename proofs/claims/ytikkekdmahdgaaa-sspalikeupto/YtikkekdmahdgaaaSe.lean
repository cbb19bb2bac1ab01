/- SspAlike's round from what the sender told on. -/
import Derived.Test.YtikkekdmahdgaaaSd
namespace Go.Proofs.Ytikkekdmahdgaaa
set_option maxRecDepth 100000
open Go.RowKit Go.BigFrame
set_option linter.unusedSimpArgs false
set_option linter.unusedVariables false
set_option maxRecDepth 100000
set_option maxHeartbeats 400000

theorem al_4 (RS : World → (Nat → Prop) → Nat → Sd → Prop) (RR : World → (Nat → Prop) → Nat → List Rw → Prop) (KS : KeepR RS) (KR : KeepR RR) (HA : AckSC 11 RS) (HL : LateRC 22 RR) (HT : TakeRF 20 RR)
    (w0 wr : World) (p1 p2 bw ow n cw k ch cs : Nat) (ah aq : Option Addr) (vw : Value) (v2 v3 v18 v19 v20 v21 v22 v23 v24 v25 v26 v27 v28 v141 : Value) (F1 F2 D : Nat → Prop) (nw lt : UInt64) (all : List UInt8) (s : Sd) (l : List Rw) (had : List (List UInt8)) (sent : List (Ins × Value)) (d : UInt8) (M A : Nat) (hM : M ≤ 1048576) (hA : A ≤ 4398046511104) (bx : Nat) (ok : Bool) (x : Ins) (vb : Value) (D2 : Nat → Prop)
    (HAl : Al RS RR w0.heap.size wr p1 p2 F1 F2 D (.slice ah had.length ch) (.slice aq sent.length cs) s l had sent) (hb : Below w0.heap.size w0 wr) (hkn : k < n) (hnn : n ≤ 1048576) (hcw : n ≤ cw)
    (HC : (ok = false ∧ Iv M A nw lt all s l had sent) ∨ (ok = true ∧ x.n.toNat = had.length ∧ Iv M A nw lt all s l (had ++ [all]) (sent ++ [(x, vb)])) ∨ (ok = true ∧ x.n.toNat + 1 = had.length ∧ Iv M A nw lt all s l had (sent ++ [(x, vb)])))
    (h2 : ∀ g, D2 g → g < wr.heap.size ∧ ¬ F1 g ∧ ¬ F2 g ∧ (Value.slice ah had.length ch).ownBlock ≠ some g ∧ (Value.slice aq sent.length cs).ownBlock ≠ some g) (hx : InX D2 wr vb x.dif)
    (hr : Row wr bx 41 (insA x vb)) (hbx : (Value.slice aq sent.length cs).ownBlock ≠ some bx)
    (HW : ∀ wx, Below w0.heap.size w0 wx → wx.cell? ⟨bw, ow + k, none⟩ = some (.int .u8 (d.toNat : Int))) (Q : Exit → Act → World → Prop)
    (hQ : ∀ (u4 u13 u14 u15 u16 u17 u29 u30 u31 u32 u33 u34 u35 u36 u37 u38 u39 u40 u41 u42 u43 u44 u45 u46 u47 u48 u49 u50 u51 u52 u53 u54 u55 u56 u57 u58 u59 u60 u61 u62 u63 u64 u65 u66 u67 u68 u69 u70 u71 u72 u73 u74 u75 u76 u77 u78 u79 u80 u81 u82 u83 u84 u85 u86 u87 u88 u89 u90 u91 u92 u93 u94 u95 u96 u97 u98 u99 u100 u101 u102 u103 u104 u105 u106 u107 u108 u109 u110 u111 u112 u113 u114 u115 u116 u117 u118 u119 u120 u121 u122 u123 u124 u125 u126 u127 u128 u129 u130 u131 u132 u133 u134 u135 u136 u137 u138 u139 u140 : Value) (w' : World) (F1' F2' D' : Nat → Prop) (s' : Sd) (l' : List Rw) (had' : List (List UInt8)) (sent' : List (Ins × Value)) (ah' aq' : Option Addr) (ch' cs' : Nat), Al RS RR w0.heap.size w' p1 p2 F1' F2' D' (.slice ah' had'.length ch') (.slice aq' sent'.length cs') s' l' had' sent' → Iv M A nw (lastR l').n all s' l' had' sent' → Below w0.heap.size w0 w' → Q .normal ⟨#[vw, .slice (some ⟨bw, ow, none⟩) n cw, v2, v3, u4, .pointer (some ⟨p1, 0, none⟩), .pointer (some ⟨p2, 0, none⟩), .int .u64 (nw.toNat : Int), .int .u64 ((lastR l').n.toNat : Int), .string ⟨all.toArray⟩, .slice ah' had'.length ch', .slice aq' sent'.length cs', .int .i64 (k : Int), u13, u14, u15, u16, u17, v18, v19, v20, v21, v22, v23, v24, v25, v26, v27, v28, u29, u30, u31, u32, u33, u34, u35, u36, u37, u38, u39, u40, u41, u42, u43, u44, u45, u46, u47, u48, u49, u50, u51, u52, u53, u54, u55, u56, u57, u58, u59, u60, u61, u62, u63, u64, u65, u66, u67, u68, u69, u70, u71, u72, u73, u74, u75, u76, u77, u78, u79, u80, u81, u82, u83, u84, u85, u86, u87, u88, u89, u90, u91, u92, u93, u94, u95, u96, u97, u98, u99, u100, u101, u102, u103, u104, u105, u106, u107, u108, u109, u110, u111, u112, u113, u114, u115, u116, u117, u118, u119, u120, u121, u122, u123, u124, u125, u126, u127, u128, u129, u130, u131, u132, u133, u134, u135, u136, u137, u138, u139, u140, v141], []⟩ w') :
    ∀ (u4 u15 u16 u17 u29 u30 u31 u32 u33 u34 u35 u36 u37 u38 u39 u40 u41 u42 u43 u44 u45 u46 u47 u48 u49 u50 u51 u52 u53 u54 u55 u56 u57 u58 u59 u60 u61 u62 u63 u64 u65 u66 u67 u68 u69 u70 u71 u72 u73 u74 u75 u76 u77 u78 u79 u80 u81 u82 u83 u84 u85 u86 u87 u88 u89 u90 u91 u92 u93 u94 u95 u96 u97 u98 u99 u100 u101 u102 u103 u104 u105 u106 u107 u108 u109 u110 u111 u112 u113 u114 u115 u116 u117 u118 u119 u120 u121 u122 u123 u124 u125 u126 u127 u128 u129 u130 u131 u132 u133 u134 u135 u136 u137 u138 u139 u140 : Value), Code.wp Try.prog (sR (sR (sR (sR (cB (cL (sR (cP (cB (sR (cL (sR (sR (sR (sR (sR (sR (sR (Try.f6.body.getD .skip))))))))))))))))))) Q ⟨#[vw, .slice (some ⟨bw, ow, none⟩) n cw, v2, v3, u4, .pointer (some ⟨p1, 0, none⟩), .pointer (some ⟨p2, 0, none⟩), .int .u64 (nw.toNat : Int), .int .u64 (lt.toNat : Int), .string ⟨all.toArray⟩, .slice ah had.length ch, .slice aq sent.length cs, .int .i64 (k : Int), .pointer (some ⟨bx, 0, none⟩), .bool ok, u15, u16, u17, v18, v19, v20, v21, v22, v23, v24, v25, v26, v27, v28, u29, u30, u31, u32, u33, u34, u35, u36, u37, u38, u39, u40, u41, u42, u43, u44, u45, u46, u47, u48, u49, u50, u51, u52, u53, u54, u55, u56, u57, u58, u59, u60, u61, u62, u63, u64, u65, u66, u67, u68, u69, u70, u71, u72, u73, u74, u75, u76, u77, u78, u79, u80, u81, u82, u83, u84, u85, u86, u87, u88, u89, u90, u91, u92, u93, u94, u95, u96, u97, u98, u99, u100, u101, u102, u103, u104, u105, u106, u107, u108, u109, u110, u111, u112, u113, u114, u115, u116, u117, u118, u119, u120, u121, u122, u123, u124, u125, u126, u127, u128, u129, u130, u131, u132, u133, u134, u135, u136, u137, u138, u139, u140, v141], []⟩ wr := by
  intro u4 u15 u16 u17 u29 u30 u31 u32 u33 u34 u35 u36 u37 u38 u39 u40 u41 u42 u43 u44 u45 u46 u47 u48 u49 u50 u51 u52 u53 u54 u55 u56 u57 u58 u59 u60 u61 u62 u63 u64 u65 u66 u67 u68 u69 u70 u71 u72 u73 u74 u75 u76 u77 u78 u79 u80 u81 u82 u83 u84 u85 u86 u87 u88 u89 u90 u91 u92 u93 u94 u95 u96 u97 u98 u99 u100 u101 u102 u103 u104 u105 u106 u107 u108 u109 u110 u111 u112 u113 u114 u115 u116 u117 u118 u119 u120 u121 u122 u123 u124 u125 u126 u127 u128 u129 u130 u131 u132 u133 u134 u135 u136 u137 u138 u139 u140
  conv => arg 2; whnf
  have T5 : Box' (∀ (wx : World) (D' : Nat → Prop) (had' : List (List UInt8)) (sent' : List (Ins × Value)) (ah' aq' : Option Addr) (ch' cs' : Nat), Al RS RR w0.heap.size wx p1 p2 F1 F2 D' (.slice ah' had'.length ch') (.slice aq' sent'.length cs') s l had' sent' → Iv M A nw lt all s l had' sent' → Below w0.heap.size w0 wx → ∀ (u4 u13 u14 u15 u16 u17 u29 u30 u31 u32 u33 u34 u35 u36 u37 u38 u39 u40 u41 u42 u43 u44 u45 u46 u47 u48 u49 u50 u51 u52 u53 u54 u55 u56 u57 u58 u59 u60 u61 u62 u63 u64 u65 u66 u67 u68 u69 u70 u71 u72 u73 u74 u75 u76 u77 u78 u79 u80 u81 u82 u83 u84 u85 u86 u87 u88 u89 u90 u91 u92 u93 u94 u95 u96 u97 u98 u99 u100 u101 u102 u103 u104 u105 u106 u107 u108 u109 u110 u111 u112 u113 u114 u115 u116 u117 u118 u119 u120 u121 u122 u123 u124 u125 u126 u127 u128 u129 u130 u131 u132 u133 u134 u135 u136 u137 u138 u139 u140 : Value), Code.wp Try.prog (sR (sR (sR (sR (sR (cB (cL (sR (cP (cB (sR (cL (sR (sR (sR (sR (sR (sR (sR (Try.f6.body.getD .skip)))))))))))))))))))) Q ⟨#[vw, .slice (some ⟨bw, ow, none⟩) n cw, v2, v3, u4, .pointer (some ⟨p1, 0, none⟩), .pointer (some ⟨p2, 0, none⟩), .int .u64 (nw.toNat : Int), .int .u64 (lt.toNat : Int), .string ⟨all.toArray⟩, .slice ah' had'.length ch', .slice aq' sent'.length cs', .int .i64 (k : Int), u13, u14, u15, u16, u17, v18, v19, v20, v21, v22, v23, v24, v25, v26, v27, v28, u29, u30, u31, u32, u33, u34, u35, u36, u37, u38, u39, u40, u41, u42, u43, u44, u45, u46, u47, u48, u49, u50, u51, u52, u53, u54, u55, u56, u57, u58, u59, u60, u61, u62, u63, u64, u65, u66, u67, u68, u69, u70, u71, u72, u73, u74, u75, u76, u77, u78, u79, u80, u81, u82, u83, u84, u85, u86, u87, u88, u89, u90, u91, u92, u93, u94, u95, u96, u97, u98, u99, u100, u101, u102, u103, u104, u105, u106, u107, u108, u109, u110, u111, u112, u113, u114, u115, u116, u117, u118, u119, u120, u121, u122, u123, u124, u125, u126, u127, u128, u129, u130, u131, u132, u133, u134, u135, u136, u137, u138, u139, u140, v141], []⟩ wx) := ⟨fun wx D' had' sent' ah' aq' ch' cs' a1 a2 a3 => al_5 RS RR KS KR HA HL HT w0 wx p1 p2 bw ow n cw k ch' cs' ah' aq' vw v2 v3 v18 v19 v20 v21 v22 v23 v24 v25 v26 v27 v28 v141 F1 F2 D' nw lt all s l had' sent' d M A hM hA a1 a2 a3 hkn hnn hcw HW Q (fun u4 u13 u14 u15 u16 u17 u29 u30 u31 u32 u33 u34 u35 u36 u37 u38 u39 u40 u41 u42 u43 u44 u45 u46 u47 u48 u49 u50 u51 u52 u53 u54 u55 u56 u57 u58 u59 u60 u61 u62 u63 u64 u65 u66 u67 u68 u69 u70 u71 u72 u73 u74 u75 u76 u77 u78 u79 u80 u81 u82 u83 u84 u85 u86 u87 u88 u89 u90 u91 u92 u93 u94 u95 u96 u97 u98 u99 u100 u101 u102 u103 u104 u105 u106 u107 u108 u109 u110 u111 u112 u113 u114 u115 u116 u117 u118 u119 u120 u121 u122 u123 u124 u125 u126 u127 u128 u129 u130 u131 u132 u133 u134 u135 u136 u137 u138 u139 u140 w' F1' F2' s' l' b1 b2 b3 => hQ u4 u13 u14 u15 u16 u17 u29 u30 u31 u32 u33 u34 u35 u36 u37 u38 u39 u40 u41 u42 u43 u44 u45 u46 u47 u48 u49 u50 u51 u52 u53 u54 u55 u56 u57 u58 u59 u60 u61 u62 u63 u64 u65 u66 u67 u68 u69 u70 u71 u72 u73 u74 u75 u76 u77 u78 u79 u80 u81 u82 u83 u84 u85 u86 u87 u88 u89 u90 u91 u92 u93 u94 u95 u96 u97 u98 u99 u100 u101 u102 u103 u104 u105 u106 u107 u108 u109 u110 u111 u112 u113 u114 u115 u116 u117 u118 u119 u120 u121 u122 u123 u124 u125 u126 u127 u128 u129 u130 u131 u132 u133 u134 u135 u136 u137 u138 u139 u140 w' F1' F2' D' s' l' had' sent' ah' aq' ch' cs' b1 b2 b3)⟩
  clear hQ
  have HB := Box'.mk hb
  have AL := Box'.mk HAl
  clear hb HAl HW
  refine wp_seq_k fun K hK => ?_
  have HK := Box'.mk hK
  clear hK
  by_cases hok : ok = false
  · subst hok
    have IV : Box' (Iv M A nw lt all s l had sent) := ⟨by rcases HC with q | q | q; exact q.2; cases q.1; cases q.1⟩
    clear HC h2 hx hr hbx
    go_wp2_with fail
    refine HK.out _ _ ?_
    exact T5.out _ _ _ _ _ _ _ _ AL.out IV.out HB.out _ _ _ _ _ _ _ _ _ _ _ _ _ _ _ _ _ _ _ _ _ _ _ _ _ _ _ _ _ _ _ _ _ _ _ _ _ _ _ _ _ _ _ _ _ _ _ _ _ _ _ _ _ _ _ _ _ _ _ _ _ _ _ _ _ _ _ _ _ _ _ _ _ _ _ _ _ _ _ _ _ _ _ _ _ _ _ _ _ _ _ _ _ _ _ _ _ _ _ _ _ _ _ _ _ _ _ _ _ _ _ _ _ _ _ _ _ _ 
  · obtain rfl : ok = true := by simpa using hok
    obtain ⟨av, cv, rfl⟩ := hx.slice
    have AM := AL.out.more D2 h2
    obtain ⟨w4, hw4⟩ : ∃ w4, w4 = wr.alloc (.cells #[.int .u64 (x.o.toNat : Int), .int .u64 (x.n.toNat : Int), .int .u64 (x.ack.toNat : Int), .int .u64 (x.thr.toNat : Int), .slice av x.dif.length cv] 41) := ⟨_, rfl⟩
    have b4 : Below wr.heap.size wr w4 := by rw [hw4]; exact (Below.refl _ _).alloc (Nat.le_refl _) _
    have R4 : Box' (Row w4 wr.heap.size 41 (insA x (.slice av x.dif.length cv))) := ⟨by rw [hw4]; exact Row.new _ _ _⟩
    have AL4 := Box'.mk (AM.below KS KR b4)
    have B4 := Box'.mk (HB.out.trans (b4.mono AM.hN))
    have RB := Box'.mk (hr.below b4 hr.lt)
    have HBX := Box'.mk hbx
    have IX : Box' (InX (fun g => D g ∨ D2 g) w4 (.slice av x.dif.length cv) x.dif) := ⟨hx.keep fun g hg => ⟨.inr hg, b4.block g (h2 g hg).1⟩⟩
    have RR0 : Box' (Row wr bx 41 #[.int .u64 (x.o.toNat : Int), .int .u64 (x.n.toNat : Int), .int .u64 (x.ack.toNat : Int), .int .u64 (x.thr.toNat : Int), .slice av x.dif.length cv]) := ⟨hr⟩
    have HC' : (x.n.toNat = had.length ∧ Iv M A nw lt all s l (had ++ [all]) (sent ++ [(x, .slice av x.dif.length cv)])) ∨ (x.n.toNat + 1 = had.length ∧ Iv M A nw lt all s l had (sent ++ [(x, .slice av x.dif.length cv)])) := by
      rcases HC with q | q | q
      · cases q.1
      · exact .inl q.2
      · exact .inr q.2
    have HSL : Box' (sent.length ≤ 1048576 ∧ had.length ≤ 1048577) := ⟨by
      rcases HC' with q | q
      · have h1 := q.2.sl; have h2 := q.2.hn
        rw [List.length_append, List.length_singleton] at h1 h2
        omega
      · have h1 := q.2.sl; have h2 := q.2.hn
        rw [List.length_append, List.length_singleton] at h1
        omega⟩
    have HCB := Box'.mk HC'
    have HN4 : Box' (w0.heap.size ≤ w4.heap.size) := ⟨AL4.out.hN⟩
    clear HC HC' h2 hx hr hbx AM b4 AL HB hok
    go_upto_region 20 with (first
      | (refine wpList_load_row rfl 41 (.tmp 13) rfl bx rfl 41 _ RR0.out _ Try.underlying41 rfl 5 (by kernel_rfl) rfl ?_)
      | (rw [← hw4]; refine wpList_appIn rfl (.tmp 66) (.tmp 68) rfl w0.heap.size HN4.out _ sent rfl AL4.out.sr x (.slice av x.dif.length cv) rfl _ 1 rfl R4.out HSL.out.1 ?_; intro v5 w5 o5 g5 a5
         have g5' : w4.grownBy w5 (Value.slice aq sent.length cs).ownBlock := g5
         have a5' : v5.ownBlock = (Value.slice aq sent.length cs).ownBlock ∨ v5.ownBlock = some w4.heap.size := a5
         have AL5 := Box'.mk (AL4.out.push KS KR x (.slice av x.dif.length cv) IX.out o5 g5' a5')
         have RB5 := Box'.mk (RB.out.same (g5'.block bx RB.out.lt (fun e => HBX.out e.symm)))
         have B5 : Box' (Below w0.heap.size w0 w5) := ⟨B4.out.trans ⟨g5'.os, g5'.tape, g5'.output, g5'.size, fun q hq => g5'.block q (by have := HN4.out; omega) fun e => by have := (own_lt AL4.out.sr q e.symm).1; omega⟩⟩
         obtain ⟨aq5, cs5, rfl, _⟩ := own_slice o5
         clear o5 g5 a5 g5' a5' AL4 B4 RB HBX IX R4 RR0 HN4 hw4)
      | fail)
    have k1 : w5.cell? ⟨bx, 1, none⟩ = some (.int .u64 (x.n.toNat : Int)) := by rw [RB5.out.cell]; rfl
    have hhI : (had.length : Int) ≤ 1048577 := by have := HSL.out.2; omega
    have hxn := x.n.toNat_lt
    clear RB5
    rcases HCB.out with ⟨q1, q2⟩ | ⟨q1, q2⟩
    · rw [q1] at k1
      have IV := Box'.mk q2
      have hhl : had.length ≤ 1048576 := by have := q2.hn; rw [List.length_append, List.length_singleton] at this; omega
      obtain ⟨w6, hw6⟩ : ∃ w6, w6 = w5.alloc (.cells #[.string ⟨all.toArray⟩] 9) := ⟨_, rfl⟩
      have b6 : Below w5.heap.size w5 w6 := by rw [hw6]; exact (Below.refl _ _).alloc (Nat.le_refl _) _
      have r6 : Row w6 w5.heap.size 9 #[.string ⟨all.toArray⟩] := by rw [hw6]; exact Row.new _ _ _
      have AL6 := Box'.mk (AL5.out.below KS KR b6)
      have B6 := Box'.mk (B5.out.trans (b6.mono AL5.out.hN))
      have C6 : Box' (w6.cell? ⟨w5.heap.size, 0, none⟩ = some (sT all)) := ⟨r6.cell 0⟩
      have HN6 : Box' (w0.heap.size ≤ w6.heap.size) := ⟨AL6.out.hN⟩
      clear HCB q1 q2 b6 r6 AL5 B5 HSL
      go_wp2_with (first
        | (rw [← hw6]; refine wpList_appT rfl (.tmp 76) (.tmp 78) rfl w0.heap.size HN6.out _ had rfl AL6.out.hr all _ 1 rfl C6.out hhl ?_; intro v7 w7 o7 g7 a7
           have g7' : w6.grownBy w7 (Value.slice ah had.length ch).ownBlock := g7
           have a7' : v7.ownBlock = (Value.slice ah had.length ch).ownBlock ∨ v7.ownBlock = some w6.heap.size := a7
           have AL7 := Box'.mk (AL6.out.putT KS KR all o7 g7' a7')
           have B7 : Box' (Below w0.heap.size w0 w7) := ⟨B6.out.trans ⟨g7'.os, g7'.tape, g7'.output, g7'.size, fun q hq => g7'.block q (by have := HN6.out; omega) fun e => by have := (own_lt AL6.out.hr q e.symm).1; omega⟩⟩
           obtain ⟨ah7, ch7, rfl, _⟩ := own_slice o7
           clear o7 g7 a7 g7' a7' AL6 B6 C6 HN6 hw6)
        | fail)
      refine HK.out _ _ ?_
      have T7 := T5.out _ _ _ _ _ _ _ _ AL7.out IV.out B7.out
      rw [show (had ++ [all]).length = had.length + 1 by simp, show (sent ++ [(x, Value.slice av x.dif.length cv)]).length = sent.length + 1 by simp] at T7
      exact T7 _ _ _ _ _ _ _ _ _ _ _ _ _ _ _ _ _ _ _ _ _ _ _ _ _ _ _ _ _ _ _ _ _ _ _ _ _ _ _ _ _ _ _ _ _ _ _ _ _ _ _ _ _ _ _ _ _ _ _ _ _ _ _ _ _ _ _ _ _ _ _ _ _ _ _ _ _ _ _ _ _ _ _ _ _ _ _ _ _ _ _ _ _ _ _ _ _ _ _ _ _ _ _ _ _ _ _ _ _ _ _ _ _ _ _ _ _ _ 
    · have IV := Box'.mk q2
      have hne : ¬ (x.n.toNat : Int) = (had.length : Int) := by omega
      clear HCB q1 q2 HSL
      go_wp2_with fail
      refine HK.out _ _ ?_
      have T7 := T5.out _ _ _ _ _ _ _ _ AL5.out IV.out B5.out
      rw [show (sent ++ [(x, Value.slice av x.dif.length cv)]).length = sent.length + 1 by simp] at T7
      exact T7 _ _ _ _ _ _ _ _ _ _ _ _ _ _ _ _ _ _ _ _ _ _ _ _ _ _ _ _ _ _ _ _ _ _ _ _ _ _ _ _ _ _ _ _ _ _ _ _ _ _ _ _ _ _ _ _ _ _ _ _ _ _ _ _ _ _ _ _ _ _ _ _ _ _ _ _ _ _ _ _ _ _ _ _ _ _ _ _ _ _ _ _ _ _ _ _ _ _ _ _ _ _ _ _ _ _ _ _ _ _ _ _ _ _ _ _ _ _ 
end Go.Proofs.Ytikkekdmahdgaaa
