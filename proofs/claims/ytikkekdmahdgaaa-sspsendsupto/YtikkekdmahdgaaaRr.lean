/- The reference's Tick, from region 10 on. -/
import Derived.Test.YtikkekdmahdgaaaRp
import Derived.Test.YtikkekdmahdgaaaRq
namespace Go.Proofs.Ytikkekdmahdgaaa
open Go.RowKit Go.BigFrame
set_option linter.unusedSimpArgs false
set_option linter.unusedVariables false
set_option maxRecDepth 100000

theorem grown_ownR (N : Nat) (w : World) (l : List Rw) (cap : Nat) (h1 : l.length ≤ cap) (h2 : cap ≤ maxLen) (hN : N ≤ w.heap.size) (z : Value) (hz : z.cells.size = 3) :
    OwnR N (w.drew.alloc (.cells ((rowsC l).toArray ++ Builtin.zeroCells z.cells (cap - l.length)) 50)) (.slice (some ⟨w.heap.size, 0, none⟩) l.length cap) l := by
  refine ⟨rowsC_len l, .inr ⟨w.heap.size, cap, _, rfl, hN, heap_alloc_last w.drew _, h1, h2, ?_, ?_⟩⟩
  · rw [Array.size_append, size_zeroCells, hz, List.size_toArray, rowsC_len]; omega
  · rw [Array.toList_append, ← rowsC_len l]
    exact List.take_left
theorem run_app0R (w : World) (N : Nat) (hN : N ≤ w.heap.size) (g : Nat) (l : List Rw) (h0 : 0 < l.length) (h32 : l.length ≤ 32) (a : Addr) (n c : Nat) (hn : l.length = n) (hc : ∀ j u, (rowsC l)[j]? = some u → w.cell? (a.add j) = some u) (ty : TypeId) :
    ∃ v' w', (Builtin.append_ #[32, 32] ty #[.slice (some ⟨g, 0, none⟩) 0 0, .slice (some a) n c]).run Try.prog w = .ok v' w' ∧ OwnR N w' v' l ∧ Below w.heap.size w w' := by
  subst hn
  obtain ⟨i, h1, h2, h3, h4⟩ := infoR
  have hr' := run_append_grow (P := Try.prog) w 32 ty 50 i _ Try.under32 h1 h2 ⟨g, 0, none⟩ 0 0 [] (by simp) (fun j u hu => by simp at hu) a l.length c (rowsC l) (by rw [h3]; exact rowsC_len l) hc (by omega) (by omega) (by rw [h4]; exact growslice_fits (by omega) (by omega))
  refine ⟨_, _, hr', ?_, ((Below.refl w.heap.size w).drew).alloc (Nat.le_refl _) _⟩
  have := grown_ownR N w l (grownCap w (0 + l.length) 0 50) (Nat.le_trans (by omega) (grownCap_ge w (0 + l.length) 0 50)) (grownCap_le_maxLen _ _ _ _ (by unfold maxLen; omega)) hN (.agg #[.int .u64 0, .string ⟨#[]⟩, .int .u64 0]) rfl
  simpa using this
theorem wp_app2 {op : Oper} {a : Act} {w w' : World} {K : Act → World → Prop} {Q : Exit → Act → World → Prop} (v x y : Value) (s t : Operand) (ho : op.op = .call { callee := .builtin .append, args := #[s, t], argTypes := #[32, 32] }) (hx : a.eval s = x) (hy : a.eval t = y) (hrun : (Builtin.append_ #[32, 32] op.type #[x, y]).run Try.prog w = .ok v w') (h : K (a.put op.dst v) w') : op.wp Try.prog a w K Q := by
  unfold Oper.wp execOp
  simp only [ho, resolve, invoke, builtin, Sem.run_bind, Sem.run_pure, Result.andThen_ok, List.map_toArray, List.map_cons, List.map_nil, hx, hy, hrun]
  exact h

theorem wp_build0 {op : Oper} {a : Act} {w : World} {K : Act → World → Prop} {Q : Exit → Act → World → Prop} (ho : op.op = .buildSlice 32 0 #[]) (h : K (a.put op.dst (.slice (some ⟨w.heap.size, 0, none⟩) 0 0)) (w.alloc (.cells #[] 50))) : op.wp Try.prog a w K Q := by
  unfold Oper.wp execOp
  simp [ho, go_sem]
  exact h
theorem wp_build1 {op : Oper} {a : Act} {w : World} {K : Act → World → Prop} {Q : Exit → Act → World → Prop} (t : Tmp) (ho : op.op = .buildSlice 32 1 #[(0, .tmp t)]) (x y z : Value) (hx : a.eval (.tmp t) = .agg #[x, y, z]) (h : K (a.put op.dst (.slice (some ⟨w.heap.size, 0, none⟩) 1 1)) (w.alloc (.cells #[x, y, z] 50))) : op.wp Try.prog a w K Q := by
  unfold Oper.wp execOp
  have hx' : a.tmps[t]?.getD undef = .agg #[x, y, z] := by simpa [Act.eval] using hx
  simp [ho, go_sem, hx']
  exact h
theorem inc_toNat (n : UInt64) : ((n + 1).toNat : Int) = ((n.toNat : Int) + 1) % 18446744073709551616 := by
  rw [UInt64.toNat_add]; simp

set_option maxHeartbeats 8000000 in
theorem tick_7 (w w7 : World) (p p8 b11 g n c : Nat) (s : Sd) (F : Nat → Prop) (hF : F = fun k => k = p ∨ (Value.slice (some ⟨g, 0, none⟩) n c).ownBlock = some k) (now : UInt64) (fr : Bool) (H0 : SnR w F p s) (hp : p < w.heap.size) (hr : Row w p 34 (sdA s (.slice (some ⟨g, 0, none⟩) n c))) (ho : OwnR 0 w (.slice (some ⟨g, 0, none⟩) n c) s.l) (hb : Below w.heap.size w w7) (hln : s.l.length = n)
    (h1 : 0 < s.l.length) (h2 : s.l.length ≤ 32) (hfr : fr = true → s.l.length < 32) (hp8 : w.heap.size ≤ p8) (hz : Row w7 p8 41 (insA Ins.none (.slice none 0 0))) (h11 : w.heap.size ≤ b11) (hl : Row w7 b11 50 (rC (lastR s.l)).toArray) (ht : ∀ y, y ∈ s.l → y.t.length ≤ 4398046511104) (htn : s.now.length ≤ 4398046511104) (u2 u3 u4 u5 u6 u7 u13 u14 u15 u16 u17 u18 u19 u20 u21 u22 u23 u24 u25 u26 u27 u28 u29 u30 u31 u32 u33 u34 u35 u36 u37 u38 u39 u40 u41 u42 u43 u44 u45 u46 u47 u48 u49 u50 u51 u52 u53 u54 u55 u56 u57 u58 u59 u60 u61 u62 u63 u64 u65 u66 u67 u68 u69 u70 u71 u72 u73 u74 u75 u76 u77 u78 u79 u80 u81 u82 u83 u84 u85 u86 u87 u88 u89 u90 u91 u92 u93 u94 u95 u96 u97 u98 u99 u100 u101 u102 u103 u104 u105 u106 u107 u108 u109 u110 u111 u112 u113 u114 u115 u116 u117 u118 u119 u120 u121 u122 u123 u124 u125 u126 u127 u128 u129 u130 u131 u132 u133 u134 u135 u136 u137 u138 u139 u140 u141 u142 u143 u144 u145 u146 u147 u148 u149 u150 u151 u152 u153 u154 u155 u156 u157 u158 u159 u160 u161 u162 u163 u164 u165 u166 u167 u168 u169 u170 u171 u172 u173 u174 u175 u176 u177 u178 u179 u180 u181 u182 u183 u184 u185 u186 u187 u188 u189 u190 u191 u192 u193 u194 u195 u196 u197 u198 u199 u200 u201 : Value) :
    Code.wp Try.prog (seqR (seqR (seqR (seqR (seqR (seqR (seqR (Try.f14.body.getD .skip)))))))) (bodyPost Try.prog Try.f14 fun e w' => (∃ F' vb, e = .returned (.tuple #[.agg (insA (sndF s now (if fr = true then s.l ++ [Rw.mk ((lastR s.l).n + 1) s.now 0] else s.l)).2.1 vb), .bool (sndF s now (if fr = true then s.l ++ [Rw.mk ((lastR s.l).n + 1) s.now 0] else s.l)).2.2.1, .int .i64 (sndF s now (if fr = true then s.l ++ [Rw.mk ((lastR s.l).n + 1) s.now 0] else s.l)).2.2.2]) ∧ SnR w' F' p (sndF s now (if fr = true then s.l ++ [Rw.mk ((lastR s.l).n + 1) s.now 0] else s.l)).1 ∧ InX (fun b => w.heap.size ≤ b ∧ b < w'.heap.size ∧ ¬ F' b) w' vb (sndF s now (if fr = true then s.l ++ [Rw.mk ((lastR s.l).n + 1) s.now 0] else s.l)).2.1.dif ∧ Tch F w w' ∧ ∀ k, F' k → F k ∨ w.heap.size ≤ k)) ⟨List.toArray (.pointer (some ⟨p, 0, none⟩) :: .int .u64 (now.toNat : Int) :: u2 :: u3 :: u4 :: u5 :: u6 :: u7 :: .pointer (some ⟨p8, 0, none⟩) :: .bool false :: .int .i64 0 :: .pointer (some ⟨b11, 0, none⟩) :: .bool fr :: u13 :: u14 :: u15 :: u16 :: u17 :: u18 :: u19 :: u20 :: u21 :: u22 :: u23 :: u24 :: u25 :: u26 :: u27 :: u28 :: u29 :: u30 :: u31 :: u32 :: u33 :: u34 :: u35 :: u36 :: u37 :: u38 :: u39 :: u40 :: u41 :: u42 :: u43 :: u44 :: u45 :: u46 :: u47 :: u48 :: u49 :: u50 :: u51 :: u52 :: u53 :: u54 :: u55 :: u56 :: u57 :: u58 :: u59 :: u60 :: u61 :: u62 :: u63 :: u64 :: u65 :: u66 :: u67 :: u68 :: u69 :: u70 :: u71 :: u72 :: u73 :: u74 :: u75 :: u76 :: u77 :: u78 :: u79 :: u80 :: u81 :: u82 :: u83 :: u84 :: u85 :: u86 :: u87 :: u88 :: u89 :: u90 :: u91 :: u92 :: u93 :: u94 :: u95 :: u96 :: u97 :: u98 :: u99 :: u100 :: u101 :: u102 :: u103 :: u104 :: u105 :: u106 :: u107 :: u108 :: u109 :: u110 :: u111 :: u112 :: u113 :: u114 :: u115 :: u116 :: u117 :: u118 :: u119 :: u120 :: u121 :: u122 :: u123 :: u124 :: u125 :: u126 :: u127 :: u128 :: u129 :: u130 :: u131 :: u132 :: u133 :: u134 :: u135 :: u136 :: u137 :: u138 :: u139 :: u140 :: u141 :: u142 :: u143 :: u144 :: u145 :: u146 :: u147 :: u148 :: u149 :: u150 :: u151 :: u152 :: u153 :: u154 :: u155 :: u156 :: u157 :: u158 :: u159 :: u160 :: u161 :: u162 :: u163 :: u164 :: u165 :: u166 :: u167 :: u168 :: u169 :: u170 :: u171 :: u172 :: u173 :: u174 :: u175 :: u176 :: u177 :: u178 :: u179 :: u180 :: u181 :: u182 :: u183 :: u184 :: u185 :: u186 :: u187 :: u188 :: u189 :: u190 :: u191 :: u192 :: u193 :: u194 :: u195 :: u196 :: u197 :: u198 :: u199 :: u200 :: u201 :: []), []⟩ w7 := by
  conv => arg 2; whnf
  have r7 := hr.below hb hp
  have o7 := ho.below hb
  have c1 : w7.cell? ⟨p, 1, none⟩ = some (.slice (some ⟨g, 0, none⟩) n c) := r7.cell 1
  cases fr with
  | false =>
    have T9 := fun (u2 u3 u4 u5 u6 u7 : Value) => tick_9 w w7 p p8 g n c s (.slice (some ⟨g, 0, none⟩) n c) F hF s.l now H0 hp r7 hb hln o7 (fun _ => rfl) h1 h2 hp8 hz ht u2 u3 u4 u5 u6 u7
    have T9 := Box'.mk T9
    clear H0 hr ho r7 o7 hz hl ht htn
    refine wp_seq_k fun K hK => ?_
    have HK := Box'.mk hK
    clear hK
    go_wp2_with fail
    refine HK.out _ _ ?_
    refine wp_seq_k fun K2 hK2 => ?_
    have HK2 := Box'.mk hK2
    clear hK2
    go_wp2_with fail
    refine HK2.out _ _ ?_
    exact T9.out _ _ _ _ _ _ _ _ _ _ _ _ _ _ _ _ _ _ _ _ _ _ _ _ _ _ _ _ _ _ _ _ _ _ _ _ _ _ _ _ _ _ _ _ _ _ _ _ _ _ _ _ _ _ _ _ _ _ _ _ _ _ _ _ _ _ _ _ _ _ _ _ _ _ _ _ _ _ _ _ _ _ _ _ _ _ _ _ _ _ _ _ _ _ _ _ _ _ _ _ _ _ _ _ _ _ _ _ _ _ _ _ _ _ _ _ _ _ _ _ _ _ _ _ _ _ _ _ _ _ _ _ _ _ _ _ _ _ _ _ _ _ _ _ _ _ _ _ _ _ _ _ _ _ _ _ _ _ _ _ _ _ _ _ _ _ _ _ _ _ _ _ _ _ _ _ _ _ _ _ _ _ _ _ _ _ _ _ _ _ _ _ _ _ _ _
  | true =>
    have hfr := hfr rfl
    obtain ⟨g', c', e1, _, _, hg2, hcl⟩ := ho.cells h1
    have hgg : g = g' := by injection e1 with q1 _ _; injection q1 with q1; injection q1 with q1
    subst hgg
    have C1 : Box' (∀ wa, Below w7.heap.size w7 wa → wa.cell? ⟨p, 1, none⟩ = some (.slice (some ⟨g, 0, none⟩) n c)) := ⟨fun wa hb => (r7.below hb r7.lt).cell 1⟩
    have C0 : Box' (∀ wa, Below w7.heap.size w7 wa → wa.cell? ⟨p, 0, none⟩ = some (.string ⟨s.now.toArray⟩)) := ⟨fun wa hb => (r7.below hb r7.lt).cell 0⟩
    have L0 : Box' (∀ wa, Below w7.heap.size w7 wa → wa.cell? ⟨b11, 0, none⟩ = some (.int .u64 ((lastR s.l).n.toNat : Int))) := ⟨fun wa hb => (hl.below hb hl.lt).cell 0⟩
    have CL : Box' (∀ wa, Below w7.heap.size w7 wa → ∀ j u, (rowsC s.l)[j]? = some u → wa.cell? ⟨g, j, none⟩ = some u) := ⟨fun wa hb7 j u hu => (hb7.cell (p := ⟨g, j, none⟩) (Nat.lt_of_lt_of_le hg2 hb.size)).trans ((hb.cell (p := ⟨g, j, none⟩) hg2).trans (hcl j u hu))⟩
    have hlast : (s.l ++ [Rw.mk ((lastR s.l).n + 1) s.now 0]).length = n + 1 := by rw [List.length_append, hln]; rfl
    have T9 := Box'.mk (fun (w9 : World) (gl cl : Nat) (hb9 : Below w7.heap.size w7 w9) (ho9 : OwnR w7.heap.size w9 (.slice (some ⟨gl, 0, none⟩) (n + 1) cl) (s.l ++ [Rw.mk ((lastR s.l).n + 1) s.now 0])) (hgl : w7.heap.size ≤ gl) => tick_9 w w9 p p8 gl (n + 1) cl s (.slice (some ⟨g, 0, none⟩) n c) F hF (s.l ++ [Rw.mk ((lastR s.l).n + 1) s.now 0]) now H0 hp (r7.below hb9 r7.lt) (hb.trans (hb9.mono hb.size)) hlast (ho9.less (Nat.zero_le _)) (fun q => by have := hb.size; omega) (by simp) (by simp only [List.length_append, List.length_cons, List.length_nil]; omega) hp8 (hz.below hb9 hz.lt) (fun y hy => by
      rw [List.mem_append, List.mem_singleton] at hy
      rcases hy with hy | hy
      · exact ht y hy
      · rw [hy]; exact htn))
    have hl0 := h1
    have hl32 := h2
    rw [if_pos rfl]
    clear H0 hr ho r7 o7 hz hl ht htn h1 h2 hcl hg2 e1
    refine wp_seq_k fun K hK => ?_
    have HK := Box'.mk hK
    clear hK
    go_wp2_with fail
    refine HK.out _ _ ?_
    refine wp_seq_k fun K2 hK2 => ?_
    have HK2 := Box'.mk hK2
    clear hK2 c1
    obtain ⟨tn, e1⟩ : ∃ tn, s.now = tn := ⟨_, rfl⟩
    obtain ⟨ln, e2⟩ : ∃ ln, (lastR s.l).n = ln := ⟨_, rfl⟩
    obtain ⟨l, e3⟩ : ∃ l, s.l = l := ⟨_, rfl⟩
    rw [e1] at C0
    rw [e2] at L0
    rw [e3] at CL hl0 hl32 hln hfr
    have E1 := Box'.mk e1
    have E2 := Box'.mk e2
    have E3 := Box'.mk e3
    clear e1 e2 e3 hlast
    have hlnn := ln.toNat_lt
    go_upto_region 12 with (fail)
    refine wp_region_grow 15 (by kernel_rfl) (by kernel_rfl) (fun wa wb => Below wa.heap.size wa wb) (fun wa => Below w7.heap.size w7 wa) (fun kc wa v => match kc with
      | 0 => ∃ b, v = .slice (some ⟨b, 0, none⟩) 0 0
      | 1 => v = .pointer (some ⟨p, 0, none⟩)
      | 2 => v = .pointer (some ⟨p, 0, none⟩)
      | 3 => v = .pointer (some ⟨p, 1, none⟩)
      | 4 => v = .slice (some ⟨g, 0, none⟩) n c
      | 5 => OwnR w7.heap.size wa v l
      | 6 => v = .pointer (some ⟨b11, 0, none⟩)
      | 7 => v = .int .u64 (ln.toNat : Int)
      | 8 => v = .int .u64 ((ln + 1).toNat : Int)
      | 9 => v = .pointer (some ⟨p, 0, none⟩)
      | 10 => v = .pointer (some ⟨p, 0, none⟩)
      | 11 => v = .pointer (some ⟨p, 0, none⟩)
      | 12 => v = .string ⟨tn.toArray⟩
      | 13 => v = .agg #[.int .u64 ((ln + 1).toNat : Int), .string ⟨tn.toArray⟩, .int .u64 0]
      | 14 => ∃ b, v = .slice (some ⟨b, 0, none⟩) 1 1 ∧ b < wa.heap.size ∧ ∀ j u, (rowsC [Rw.mk (ln + 1) tn 0])[j]? = some u → wa.cell? ⟨b, j, none⟩ = some u
      | _ => True) ?_ ?_ ?_ ?_ ?_
    · intro wa wb hb q; exact q.trans (hb.mono q.size)
    · intro kc v wa wb hC1 hb h
      match kc, h with
      | 0, h => exact h
      | 1, h => exact h
      | 2, h => exact h
      | 3, h => exact h
      | 4, h => exact h
      | 5, h => exact OwnR.below h hb
      | 6, h => exact h
      | 7, h => exact h
      | 8, h => exact h
      | 9, h => exact h
      | 10, h => exact h
      | 11, h => exact h
      | 12, h => exact h
      | 13, h => exact h
      | 14, h => exact let ⟨b, h1, h2, h3⟩ := h; ⟨b, h1, Nat.lt_of_lt_of_le h2 hb.size, fun j u hu => (hb.cell (p := ⟨b, j, none⟩) h2).trans (h3 j u hu)⟩
      | kc + 15, h => trivial
    · exact (Below.refl _ _).drew
    · refine ⟨?_, ?_, ?_, ?_, ?_, ?_, ?_, ?_, ?_, ?_, ?_, ?_, ?_, ?_, ?_, trivial⟩
      · intro f wq hC hd KK hK
        simp only [List.take_succ_cons, List.take_zero, setAll, List.setIfInBounds_toArray, List.set_cons_succ, List.set_cons_zero, Nat.zero_add, Nat.reduceAdd] at hK ⊢
        refine wp_build0 rfl ?_
        exact hK _ _ ⟨_, rfl⟩ ((Below.refl _ _).alloc (Nat.le_refl _) _)
      · intro f wq hC hd KK hK
        simp only [List.take_succ_cons, List.take_zero, setAll, List.setIfInBounds_toArray, List.set_cons_succ, List.set_cons_zero, Nat.zero_add, Nat.reduceAdd] at hK ⊢
        refine wp_of_quiet rfl ?_
        go_big_quiet_step (fail)
        exact wpQuiet_nil (hK _ _ rfl (Below.refl _ _))
      · intro f wq hC hd KK hK
        have g1 : f 1 = .pointer (some ⟨p, 0, none⟩) := hd 1 (by kernel_rfl)
        simp only [List.take_succ_cons, List.take_zero, setAll, List.setIfInBounds_toArray, List.set_cons_succ, List.set_cons_zero, Nat.zero_add, Nat.reduceAdd, g1] at hK ⊢
        refine wp_of_quiet rfl ?_
        go_big_quiet_step (fail)
        exact wpQuiet_nil (hK _ _ rfl (Below.refl _ _))
      · intro f wq hC hd KK hK
        have g2 : f 2 = .pointer (some ⟨p, 0, none⟩) := hd 2 (by kernel_rfl)
        simp only [List.take_succ_cons, List.take_zero, setAll, List.setIfInBounds_toArray, List.set_cons_succ, List.set_cons_zero, Nat.zero_add, Nat.reduceAdd, g2] at hK ⊢
        refine wp_of_quiet rfl ?_
        go_big_quiet_step (fail)
        exact wpQuiet_nil (hK _ _ rfl (Below.refl _ _))
      · intro f wq hC hd KK hK
        have g3 : f 3 = .pointer (some ⟨p, 1, none⟩) := hd 3 (by kernel_rfl)
        have cx := C1.out wq hC
        simp only [List.take_succ_cons, List.take_zero, setAll, List.setIfInBounds_toArray, List.set_cons_succ, List.set_cons_zero, Nat.zero_add, Nat.reduceAdd, g3] at hK ⊢
        refine wp_of_quiet rfl ?_
        go_big_quiet_step (fail)
        exact wpQuiet_nil (hK _ _ rfl (Below.refl _ _))
      · intro f wq hC hd KK hK
        have g4 : f 4 = .slice (some ⟨g, 0, none⟩) n c := hd 4 (by kernel_rfl)
        obtain ⟨b0, e0⟩ : ∃ b, f 0 = .slice (some ⟨b, 0, none⟩) 0 0 := hd 0 (by kernel_rfl)
        simp only [List.take_succ_cons, List.take_zero, setAll, List.setIfInBounds_toArray, List.set_cons_succ, List.set_cons_zero, Nat.zero_add, Nat.reduceAdd, g4] at hK ⊢
        simp only [e0] at hK ⊢
        obtain ⟨v', w', hrun, ho', hb'⟩ := run_app0R wq w7.heap.size hC.size b0 l hl0 hl32 ⟨g, 0, none⟩ n c hln (fun j u hu => by rw [Addr.add_mid, Nat.zero_add]; exact CL.out wq hC j u hu) 32
        exact wp_app2 v' _ _ (.tmp 122) (.tmp 126) rfl rfl rfl hrun (hK _ _ ho' hb')
      · intro f wq hC hd KK hK
        simp only [List.take_succ_cons, List.take_zero, setAll, List.setIfInBounds_toArray, List.set_cons_succ, List.set_cons_zero, Nat.zero_add, Nat.reduceAdd] at hK ⊢
        refine wp_of_quiet rfl ?_
        go_big_quiet_step (fail)
        exact wpQuiet_nil (hK _ _ rfl (Below.refl _ _))
      · intro f wq hC hd KK hK
        have g6 : f 6 = .pointer (some ⟨b11, 0, none⟩) := hd 6 (by kernel_rfl)
        have cx := L0.out wq hC
        simp only [List.take_succ_cons, List.take_zero, setAll, List.setIfInBounds_toArray, List.set_cons_succ, List.set_cons_zero, Nat.zero_add, Nat.reduceAdd, g6] at hK ⊢
        refine wp_of_quiet rfl ?_
        go_big_quiet_step (fail)
        exact wpQuiet_nil (hK _ _ rfl (Below.refl _ _))
      · intro f wq hC hd KK hK
        have g7 : f 7 = .int .u64 (ln.toNat : Int) := hd 7 (by kernel_rfl)
        simp only [List.take_succ_cons, List.take_zero, setAll, List.setIfInBounds_toArray, List.set_cons_succ, List.set_cons_zero, Nat.zero_add, Nat.reduceAdd, g7] at hK ⊢
        refine wp_valE (.int .u64 ((ln + 1).toNat : Int)) (by unfold execOp; simp [go_sem, inc_toNat]; rw [IntKind.wrap_u64]) (hK _ _ rfl (Below.refl _ _))
      · intro f wq hC hd KK hK
        simp only [List.take_succ_cons, List.take_zero, setAll, List.setIfInBounds_toArray, List.set_cons_succ, List.set_cons_zero, Nat.zero_add, Nat.reduceAdd] at hK ⊢
        refine wp_of_quiet rfl ?_
        go_big_quiet_step (fail)
        exact wpQuiet_nil (hK _ _ rfl (Below.refl _ _))
      · intro f wq hC hd KK hK
        have g9 : f 9 = .pointer (some ⟨p, 0, none⟩) := hd 9 (by kernel_rfl)
        simp only [List.take_succ_cons, List.take_zero, setAll, List.setIfInBounds_toArray, List.set_cons_succ, List.set_cons_zero, Nat.zero_add, Nat.reduceAdd, g9] at hK ⊢
        refine wp_of_quiet rfl ?_
        go_big_quiet_step (fail)
        exact wpQuiet_nil (hK _ _ rfl (Below.refl _ _))
      · intro f wq hC hd KK hK
        have g10 : f 10 = .pointer (some ⟨p, 0, none⟩) := hd 10 (by kernel_rfl)
        simp only [List.take_succ_cons, List.take_zero, setAll, List.setIfInBounds_toArray, List.set_cons_succ, List.set_cons_zero, Nat.zero_add, Nat.reduceAdd, g10] at hK ⊢
        refine wp_of_quiet rfl ?_
        go_big_quiet_step (fail)
        exact wpQuiet_nil (hK _ _ rfl (Below.refl _ _))
      · intro f wq hC hd KK hK
        have g11 : f 11 = .pointer (some ⟨p, 0, none⟩) := hd 11 (by kernel_rfl)
        have cx := C0.out wq hC
        simp only [List.take_succ_cons, List.take_zero, setAll, List.setIfInBounds_toArray, List.set_cons_succ, List.set_cons_zero, Nat.zero_add, Nat.reduceAdd, g11] at hK ⊢
        refine wp_of_quiet rfl ?_
        go_big_quiet_step (fail)
        exact wpQuiet_nil (hK _ _ rfl (Below.refl _ _))
      · intro f wq hC hd KK hK
        have g8 : f 8 = .int .u64 ((ln + 1).toNat : Int) := hd 8 (by kernel_rfl)
        have g12 : f 12 = .string ⟨tn.toArray⟩ := hd 12 (by kernel_rfl)
        simp only [List.take_succ_cons, List.take_zero, setAll, List.setIfInBounds_toArray, List.set_cons_succ, List.set_cons_zero, Nat.zero_add, Nat.reduceAdd, g8, g12] at hK ⊢
        refine wp_of_quiet rfl ?_
        go_big_quiet_step (fail)
        exact wpQuiet_nil (hK _ _ rfl (Below.refl _ _))
      · intro f wq hC hd KK hK
        have g13 : f 13 = .agg #[.int .u64 ((ln + 1).toNat : Int), .string ⟨tn.toArray⟩, .int .u64 0] := hd 13 (by kernel_rfl)
        simp only [List.take_succ_cons, List.take_zero, setAll, List.setIfInBounds_toArray, List.set_cons_succ, List.set_cons_zero, Nat.zero_add, Nat.reduceAdd, g13] at hK ⊢
        refine wp_build1 135 rfl _ _ _ rfl ?_
        exact hK _ _ ⟨_, rfl, by simp, fun j u hu => by have := one_cells wq (Rw.mk (ln + 1) tn 0) j u hu; rwa [Addr.add_mid, Nat.zero_add] at this⟩ ((Below.refl _ _).alloc (Nat.le_refl _) _)
    intro f wq hC hv
    have g1 : f 1 = .pointer (some ⟨p, 0, none⟩) := hv 1 (by decide)
    have g2 : f 2 = .pointer (some ⟨p, 0, none⟩) := hv 2 (by decide)
    have g3 : f 3 = .pointer (some ⟨p, 1, none⟩) := hv 3 (by decide)
    have g4 : f 4 = .slice (some ⟨g, 0, none⟩) n c := hv 4 (by decide)
    have g6 : f 6 = .pointer (some ⟨b11, 0, none⟩) := hv 6 (by decide)
    have g7 : f 7 = .int .u64 (ln.toNat : Int) := hv 7 (by decide)
    have g8 : f 8 = .int .u64 ((ln + 1).toNat : Int) := hv 8 (by decide)
    have g9 : f 9 = .pointer (some ⟨p, 0, none⟩) := hv 9 (by decide)
    have g10 : f 10 = .pointer (some ⟨p, 0, none⟩) := hv 10 (by decide)
    have g11 : f 11 = .pointer (some ⟨p, 0, none⟩) := hv 11 (by decide)
    have g12 : f 12 = .string ⟨tn.toArray⟩ := hv 12 (by decide)
    have g13 : f 13 = .agg #[.int .u64 ((ln + 1).toNat : Int), .string ⟨tn.toArray⟩, .int .u64 0] := hv 13 (by decide)
    have o5 : OwnR w7.heap.size wq (f 5) l := hv 5 (by decide)
    obtain ⟨bb, e14, hb14, hc14⟩ : ∃ b, f 14 = .slice (some ⟨b, 0, none⟩) 1 1 ∧ b < wq.heap.size ∧ ∀ j u, (rowsC [Rw.mk (ln + 1) tn 0])[j]? = some u → wq.cell? ⟨b, j, none⟩ = some u := hv 14 (by decide)
    simp only [List.take_succ_cons, List.take_zero, List.drop_succ_cons, List.drop_zero, setAll, List.setIfInBounds_toArray, List.set_cons_succ, List.set_cons_zero, Nat.zero_add, Nat.reduceAdd, g1, g2, g3, g4, g6, g7, g8, g9, g10, g11, g12, g13, e14]
    clear g1 g2 g3 g4 g6 g7 g8 g9 g10 g11 g12 g13 e14 hv
    obtain ⟨a5, c5, e5, _⟩ := o5.slice
    rw [e5] at o5 ⊢
    have O5 := Box'.mk o5
    have BQ := Box'.mk hC
    have hl4 : l.length + [Rw.mk (ln + 1) tn 0].length ≤ 1048576 := by simp only [List.length_cons, List.length_nil]; omega
    have hc15 : ∀ j u, (rowsC [Rw.mk (ln + 1) tn 0])[j]? = some u → wq.cell? ((⟨bb, 0, none⟩ : Addr).add j) = some u := fun j u hu => by rw [Addr.add_mid, Nat.zero_add]; exact hc14 j u hu
    have FN : Box' (∀ v4 w4, OwnR w7.heap.size w4 v4 (l ++ [Rw.mk (ln + 1) tn 0]) → Below w7.heap.size w7 w4 → ∃ gl cl, v4 = .slice (some ⟨gl, 0, none⟩) (n + 1) cl ∧ w7.heap.size ≤ gl) := ⟨fun v4 w4 o4 b4 => by
      obtain ⟨gl, cl, e4, _, h4, _, _⟩ := o4.cells (by simp)
      exact ⟨gl, cl, by rw [e4, List.length_append, hln]; rfl, h4⟩⟩
    clear hC o5 e5 hc14
    go_wp2_with (refine wpList_appR rfl (.tmp 127) (.tmp 136) rfl w7.heap.size BQ.out.size _ l [Rw.mk (ln + 1) tn 0] rfl O5.out ⟨bb, 0, none⟩ _ _ rfl rfl hc15 hl4 ?_
                 intro v4 w4 o4 g4
                 have b4 := grown_belowN g4 BQ.out O5.out BQ.out.size
                 obtain ⟨gl, cl, e4, hgl⟩ := FN.out v4 w4 o4 b4
                 subst e4
                 have O4 := Box'.mk o4
                 have B4 := Box'.mk b4
                 clear o4 b4 g4 hc15)
    refine HK2.out _ _ ?_
    have e1 := E1.out
    have e2 := E2.out
    have e3 := E3.out
    clear E1 E2 E3
    subst e1 e2 e3
    exact T9.out _ gl cl B4.out O4.out hgl _ _ _ _ _ _ _ _ _ _ _ _ _ _ _ _ _ _ _ _ _ _ _ _ _ _ _ _ _ _ _ _ _ _ _ _ _ _ _ _ _ _ _ _ _ _ _ _ _ _ _ _ _ _ _ _ _ _ _ _ _ _ _ _ _ _ _ _ _ _ _ _ _ _ _ _ _ _ _ _ _ _ _ _ _ _ _ _ _ _ _ _ _ _ _ _ _ _ _ _ _ _ _ _ _ _ _ _ _ _ _ _ _ _ _ _ _ _ _ _ _ _ _ _ _ _ _ _ _ _ _ _ _ _ _ _ _ _ _ _ _ _ _ _ _ _ _ _ _ _ _ _ _ _ _ _ _ _ _ _ _ _ _ _ _ _ _ _ _ _ _ _ _ _ _ _ _ _ _ _ _ _ _ _ _ _ _ _ _ _ _ _ _ _ _ _
end Go.Proofs.Ytikkekdmahdgaaa
