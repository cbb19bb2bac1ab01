/- The reference's Tick, from Suffix on. -/
import Derived.Test.YtikkekdmahdgaaaRm
import Derived.Lib.ConvBytes
namespace Go.Proofs.Ytikkekdmahdgaaa
open Go.RowKit Go.BigFrame
set_option linter.unusedSimpArgs false
set_option linter.unusedVariables false
set_option maxRecDepth 100000

def seqR : Code → Code
  | .seq _ b => b
  | c => c
/-- A text's bytes, laid anew. -/
theorem conv_str (w : World) (l : List UInt8) : ∃ v w', (convert 9 39 (.string ⟨l.toArray⟩)).run Try.prog w = .ok v w' ∧ Below w.heap.size w w' ∧ InX (fun b => b = w.heap.size) w' v l ∧ w'.heap.size = w.heap.size + 1 := by
  have hs : (⟨l.toArray⟩ : ByteArray).size = l.length := by simp [ByteArray.size]
  refine ⟨_, _, Go.Lib.run_convert_string_bytes (P := Try.prog) w 9 39 5 ⟨l.toArray⟩ Try.underlying9 Try.underlying39 Try.underlying5, ⟨rfl, rfl, rfl, by rw [Go.Lib.bytesWorld_size]; omega, fun k hk => Go.Lib.bytesWorld_at_old w 5 _ k hk⟩, .inr ⟨w.heap.size, 0, _, by rw [hs], grownCap_ge w l.length 0 5, .inr rfl, fun j u hu => ?_⟩, Go.Lib.bytesWorld_size _ _ _⟩
  have hj := (List.getElem?_eq_some_iff.1 hu).1
  rw [List.length_map] at hj
  rw [Nat.zero_add, Go.Lib.bytesWorld_cell w 5 ⟨l.toArray⟩ j (by rw [hs]; exact hj)]
  rw [List.getElem?_map, List.getElem?_eq_getElem hj] at hu
  simpa [B, hj] using hu
theorem results_row2 {P : Program} {w : World} {fn : Func} {p q r : Tmp} {ty : TypeId} (hf : fn.results = #[.cell p ty, .tmp q, .tmp r]) (tmps : Array Value) (b : Nat) (hx : tmps.getD p undef = .pointer (some ⟨b, 0, none⟩)) (v v2 : Value) (hq : tmps.getD q undef = v) (hr2 : tmps.getD r undef = v2)
    (t : TypeId) (c : Array Value) (hr : Row w b t c) (d : TypeDesc) (hu : P.underlying ty = some d) (hd : (match d with | .struct _ | .array _ _ => true | _ => false) = true) (n : Nat) (hi : (P.info? ty).map (·.size) = some n) (hn : c.size = n) :
    (results fn tmps).run P w = .ok (.tuple #[.agg c, v, v2]) w := by
  have hrun := run_loadVar_row (P := P) w b t ty c (0, 0) d hr hu hd (by rw [hn]; exact hi)
  have hx' : tmps[p]?.getD undef = .pointer (some ⟨b, 0, none⟩) := by simpa using hx
  have hq' : tmps[q]?.getD undef = v := by simpa using hq
  have hr' : tmps[r]?.getD undef = v2 := by simpa using hr2
  simp only [results, hf]
  simp [hx', hq', hr', asAddr, hrun]
theorem wp_conv {op : Oper} {a : Act} {w w' : World} {K : Act → World → Prop} {Q : Exit → Act → World → Prop} (v x : Value) (s : Operand) (ho : op.op = .convert 9 39 s) (hx : a.eval s = x) (hrun : (convert 9 39 x).run Try.prog w = .ok v w') (h : K (a.put op.dst v) w') : op.wp Try.prog a w K Q := by
  unfold Oper.wp execOp
  simp only [ho, hx, Sem.run_bind, hrun, Result.andThen_ok, Sem.run_pure]
  exact h
theorem set_last (l : List Rw) (now : UInt64) (h : 0 < l.length) : (rowsC l).set ((l.length - 1) * 3 + 2) (uV now) = rowsC (setA l now) := by
  obtain ⟨i, x, rfl⟩ : ∃ i x, l = i ++ [x] := ⟨l.dropLast, l.getLast (List.length_pos_iff.1 h), (List.dropLast_concat_getLast _).symm⟩
  have e1 : (i ++ [x]).length - 1 = i.length := by simp
  have e2 : lastR (i ++ [x]) = x := by unfold lastR; rw [e1]; simp [List.getD_eq_getElem?_getD]
  unfold setA
  rw [e1, e2, rowsC_app, List.set_append_right _ _ (by rw [rowsC_len]; omega), rowsC_len, show i.length * 3 + 2 - i.length * 3 = 2 by omega, List.set_append_right _ _ (Nat.le_refl _), Nat.sub_self, rowsC_app]
  rfl
theorem setA_len (l : List Rw) (now : UInt64) : (setA l now).length = l.length := by unfold setA; rw [List.length_set]
theorem OwnR.set {N : Nat} {w : World} {gl n cl : Nat} {l : List Rw} (h : OwnR N w (.slice (some ⟨gl, 0, none⟩) n cl) l) (hn : l.length = n) (h0 : 0 < l.length) (now : UInt64) : OwnR N (w.setCell ⟨gl, (n - 1) * 3 + 2, none⟩ (uV now)) (.slice (some ⟨gl, 0, none⟩) n cl) (setA l now) := by
  subst hn
  refine ⟨by rw [rowsC_len], .inr ?_⟩
  rcases h.2 with ⟨e, _⟩ | ⟨g, cap, cur, e1, e2, e3, e4, e5, e6, e7⟩
  · cases e
  · injection e1 with q1 q2 q3
    injection q1 with q1
    injection q1 with q1
    subst q1 q3
    refine ⟨gl, cl, _, by rw [setA_len], e2, (show Row w gl 50 cur from e3).setCell _ _, by rw [setA_len]; exact e4, e5, by simpa using e6, ?_⟩
    rw [setA_len, Array.toList_setIfInBounds, List.take_set, e7, set_last l now h0]

theorem setA_n (l : List Rw) (now : UInt64) (k : Nat) : ((setA l now).getD k Rw.zero).n = (l.getD k Rw.zero).n := by
  unfold setA
  by_cases hk : k = l.length - 1
  · subst hk
    by_cases h : l.length - 1 < l.length
    · simp [List.getD_eq_getElem?_getD, List.getElem?_set, h, lastR]
    · rw [List.getD_eq_getElem?_getD, List.getD_eq_getElem?_getD, List.getElem?_eq_none (by rw [List.length_set]; omega), List.getElem?_eq_none (by omega)]
  · rw [List.getD_eq_getElem?_getD, List.getD_eq_getElem?_getD, List.getElem?_set_ne (by omega)]
theorem OwnR.row {N : Nat} {w : World} {g n c : Nat} {l : List Rw} (h : OwnR N w (.slice (some ⟨g, 0, none⟩) n c) l) : ∃ cur, Row w g 50 cur := by
  rcases h.2 with ⟨e, _⟩ | ⟨g', cap, cur, e1, e2, e3, _⟩
  · cases e
  · injection e1 with q1 _ _
    injection q1 with q1
    injection q1 with q1
    subst q1
    exact ⟨cur, e3⟩
theorem row_ne {w : World} {a b : Nat} {t t' : TypeId} {c c' : Array Value} (h1 : Row w a t c) (h2 : Row w b t' c') (ht : t ≠ t') : a ≠ b := by
  rintro rfl
  unfold Row at h1 h2
  rw [h1] at h2
  simp at h2
  exact ht h2.2
theorem own_eq {g n c k : Nat} (h : (Value.slice (some ⟨g, 0, none⟩) n c).ownBlock = some k) : g = k := by simpa [Value.ownBlock] using h
theorem OwnR.other {N : Nat} {w : World} {g n c : Nat} {l : List Rw} (h : OwnR N w (.slice (some ⟨g, 0, none⟩) n c) l) (p : Addr) (v : Value) (hp : p.block ≠ g) : OwnR N (w.setCell p v) (.slice (some ⟨g, 0, none⟩) n c) l :=
  h.same fun k hk => Below.heap_setCell _ _ _ _ fun e => hp ((own_eq hk).trans e).symm
theorem Tch.setRow {F : Nat → Prop} {a b : World} (h : Tch F a b) (g : Nat) (c : Array Value) (hg : a.heap.size ≤ g) : Tch F a (b.setRow g c) :=
  ⟨h.os, h.tape, h.output, by simpa [World.setRow] using h.size, fun i hi hn => (setRow_other b g i c (by omega)).trans (h.block i hi hn)⟩

set_option maxHeartbeats 8000000 in
theorem tick_9 (w w9 : World) (p p8 gl n cl : Nat) (s : Sd) (v : Value) (F : Nat → Prop) (hF : F = fun k => k = p ∨ v.ownBlock = some k) (l : List Rw) (now : UInt64) (H0 : SnR w F p s) (hp : p < w.heap.size) (hr : Row w9 p 34 (sdA s v)) (hb : Below w.heap.size w w9) (hn : l.length = n)
    (ho : OwnR 0 w9 (.slice (some ⟨gl, 0, none⟩) n cl) l) (hg : gl < w.heap.size → v.ownBlock = some gl) (h1 : 0 < l.length) (h2 : l.length ≤ 32) (hp8 : w.heap.size ≤ p8) (hz : Row w9 p8 41 (insA Ins.none (.slice none 0 0))) (ht : ∀ y, y ∈ l → y.t.length ≤ 4398046511104) (u2 u3 u4 u5 u6 u7 u11 u12 u13 u14 u16 u17 u18 u19 u20 u21 u22 u23 u24 u25 u26 u27 u28 u29 u30 u31 u32 u33 u34 u35 u36 u37 u38 u39 u40 u41 u42 u43 u44 u45 u46 u47 u48 u49 u50 u51 u52 u53 u54 u55 u56 u57 u58 u59 u60 u61 u62 u63 u64 u65 u66 u67 u68 u69 u70 u71 u72 u73 u74 u75 u76 u77 u78 u79 u80 u81 u82 u83 u84 u85 u86 u87 u88 u89 u90 u91 u92 u93 u94 u95 u96 u97 u98 u99 u100 u101 u102 u103 u104 u105 u106 u107 u108 u109 u110 u111 u112 u113 u114 u115 u116 u117 u118 u119 u120 u121 u122 u123 u124 u125 u126 u127 u128 u129 u130 u131 u132 u133 u134 u135 u136 u137 u138 u139 u140 u141 u142 u143 u144 u145 u146 u147 u148 u149 u150 u151 u152 u153 u154 u155 u156 u157 u158 u159 u160 u161 u162 u163 u164 u165 u166 u167 u168 u169 u170 u171 u172 u173 u174 u175 u176 u177 u178 u179 u180 u181 u182 u183 u184 u185 u186 u187 u188 u189 u190 u191 u192 u193 u194 u195 u196 u197 u198 u199 u200 u201 : Value) :
    Code.wp Try.prog (seqR (seqR (seqR (seqR (seqR (seqR (seqR (seqR (seqR (Try.f14.body.getD .skip)))))))))) (bodyPost Try.prog Try.f14 fun e w' => (∃ F' vb, e = .returned (.tuple #[.agg (insA (sndF s now l).2.1 vb), .bool (sndF s now l).2.2.1, .int .i64 (sndF s now l).2.2.2]) ∧ SnR w' F' p (sndF s now l).1 ∧ InX (fun b => w.heap.size ≤ b ∧ b < w'.heap.size ∧ ¬ F' b) w' vb (sndF s now l).2.1.dif ∧ Tch F w w' ∧ ∀ k, F' k → F k ∨ w.heap.size ≤ k)) ⟨List.toArray (.pointer (some ⟨p, 0, none⟩) :: .int .u64 (now.toNat : Int) :: u2 :: u3 :: u4 :: u5 :: u6 :: u7 :: .pointer (some ⟨p8, 0, none⟩) :: .bool false :: .int .i64 0 :: u11 :: u12 :: u13 :: u14 :: .slice (some ⟨gl, 0, none⟩) n cl :: u16 :: u17 :: u18 :: u19 :: u20 :: u21 :: u22 :: u23 :: u24 :: u25 :: u26 :: u27 :: u28 :: u29 :: u30 :: u31 :: u32 :: u33 :: u34 :: u35 :: u36 :: u37 :: u38 :: u39 :: u40 :: u41 :: u42 :: u43 :: u44 :: u45 :: u46 :: u47 :: u48 :: u49 :: u50 :: u51 :: u52 :: u53 :: u54 :: u55 :: u56 :: u57 :: u58 :: u59 :: u60 :: u61 :: u62 :: u63 :: u64 :: u65 :: u66 :: u67 :: u68 :: u69 :: u70 :: u71 :: u72 :: u73 :: u74 :: u75 :: u76 :: u77 :: u78 :: u79 :: u80 :: u81 :: u82 :: u83 :: u84 :: u85 :: u86 :: u87 :: u88 :: u89 :: u90 :: u91 :: u92 :: u93 :: u94 :: u95 :: u96 :: u97 :: u98 :: u99 :: u100 :: u101 :: u102 :: u103 :: u104 :: u105 :: u106 :: u107 :: u108 :: u109 :: u110 :: u111 :: u112 :: u113 :: u114 :: u115 :: u116 :: u117 :: u118 :: u119 :: u120 :: u121 :: u122 :: u123 :: u124 :: u125 :: u126 :: u127 :: u128 :: u129 :: u130 :: u131 :: u132 :: u133 :: u134 :: u135 :: u136 :: u137 :: u138 :: u139 :: u140 :: u141 :: u142 :: u143 :: u144 :: u145 :: u146 :: u147 :: u148 :: u149 :: u150 :: u151 :: u152 :: u153 :: u154 :: u155 :: u156 :: u157 :: u158 :: u159 :: u160 :: u161 :: u162 :: u163 :: u164 :: u165 :: u166 :: u167 :: u168 :: u169 :: u170 :: u171 :: u172 :: u173 :: u174 :: u175 :: u176 :: u177 :: u178 :: u179 :: u180 :: u181 :: u182 :: u183 :: u184 :: u185 :: u186 :: u187 :: u188 :: u189 :: u190 :: u191 :: u192 :: u193 :: u194 :: u195 :: u196 :: u197 :: u198 :: u199 :: u200 :: u201 :: []), []⟩ w9 := by
  conv => arg 2; whnf
  have H0 := Box'.mk H0
  have BB := Box'.mk hb
  have RP := Box'.mk hr
  have OO := Box'.mk ho
  have RZ := Box'.mk hz
  have SF := Box'.mk (sndF.eq_1 s now l)
  obtain ⟨g, cap, e1, hcap, _, hg2, hcl⟩ := ho.cells h1
  have hgl : g = gl := by injection e1 with q1 _ _; injection q1 with q1; injection q1 with q1; exact q1.symm
  subst hgl
  clear e1
  have A0 : Box' (∀ wa, Below w9.heap.size w9 wa → wa.cell? ⟨g, 1, none⟩ = some (.string ⟨(l.getD 0 Rw.zero).t.toArray⟩)) := ⟨fun wa hb => (hb.cell (p := ⟨g, 1, none⟩) hg2).trans (hcl _ _ (rowsC_at l 0 h1).2.1)⟩
  have A1 : Box' (∀ wa, Below w9.heap.size w9 wa → wa.cell? ⟨g, (n - 1) * 3 + 1, none⟩ = some (.string ⟨(lastR l).t.toArray⟩)) := ⟨fun wa hb => (hb.cell (p := ⟨g, (n - 1) * 3 + 1, none⟩) hg2).trans (hcl _ _ (by rw [← hn]; exact (rowsC_at l (l.length - 1) (by omega)).2.1))⟩
  have SU := Box'.mk (suffix_any (l.getD 0 Rw.zero).t (lastR l).t (by have := ht _ (getD_mem h1); omega) (by have := ht _ (getD_mem (show l.length - 1 < l.length by omega)); unfold lastR; omega))
  have hncl : n ≤ cl := by obtain ⟨_, _, e, q⟩ := ho.slice; injection e with _ _ e; omega
  have hn0 : 0 < n := by omega
  have hn2 : n ≤ 32 := by omega
  unfold sT at SU
  generalize hta : (l.getD 0 Rw.zero).t = ta at *
  generalize htb : (lastR l).t = tb at *
  cases hok : (sufF ta tb).2 with
  | false =>
    have SE : Box' (sndF s now l = (s, Ins.none, false, 99)) := ⟨by rw [SF.out, if_neg (by rw [hok]; decide)]⟩
    rw [hok] at SU
    clear SF hta htb hok hcl hr hb ho hz ht
    generalize (sufF ta tb).1 = d at *
    go_upto_region 13 with (fail)
    refine wp_region_lex (fun wa => Below w9.heap.size w9 wa) (by kernel_rfl) (by kernel_rfl) (Below.refl _ _).drew ?_
    go_big_quiet_want
    go_big_quiet_op
    first | go_big_quiet_on | (refine ⟨_, fun _ _ => rfl, ?_⟩; go_big_quiet_on) | (refine ⟨_, fun _ _ _ => rfl, ?_⟩; go_big_quiet_on)
    go_big_quiet_want
    go_big_quiet_op
    first | go_big_quiet_on | (refine ⟨_, fun _ _ => rfl, ?_⟩; go_big_quiet_on) | (refine ⟨_, fun _ _ _ => rfl, ?_⟩; go_big_quiet_on)
    go_big_quiet_want
    go_big_quiet_op
    first | go_big_quiet_on | (refine ⟨_, fun _ _ => rfl, ?_⟩; go_big_quiet_on) | (refine ⟨_, fun _ _ _ => rfl, ?_⟩; go_big_quiet_on)
    go_big_quiet_want
    refine qC_load9 (.tmp 141) rfl g 1 _ rfl A0.out ?_
    simp only [Act.put, List.setIfInBounds_toArray, List.set_cons_succ, List.set_cons_zero]
    go_big_quiet_on
    go_big_quiet_want
    go_big_quiet_op
    first | go_big_quiet_on | (refine ⟨_, fun _ _ => rfl, ?_⟩; go_big_quiet_on) | (refine ⟨_, fun _ _ _ => rfl, ?_⟩; go_big_quiet_on)
    go_big_quiet_want
    go_big_quiet_op
    first | go_big_quiet_on | (refine ⟨_, fun _ _ => rfl, ?_⟩; go_big_quiet_on) | (refine ⟨_, fun _ _ _ => rfl, ?_⟩; go_big_quiet_on)
    go_big_quiet_want
    go_big_quiet_op
    first | go_big_quiet_on | (refine ⟨_, fun _ _ => rfl, ?_⟩; go_big_quiet_on) | (refine ⟨_, fun _ _ _ => rfl, ?_⟩; go_big_quiet_on)
    go_big_quiet_want
    go_big_quiet_op
    first | go_big_quiet_on | (refine ⟨_, fun _ _ => rfl, ?_⟩; go_big_quiet_on) | (refine ⟨_, fun _ _ _ => rfl, ?_⟩; go_big_quiet_on)
    go_big_quiet_want
    go_big_quiet_op
    first | go_big_quiet_on | (refine ⟨_, fun _ _ => rfl, ?_⟩; go_big_quiet_on) | (refine ⟨_, fun _ _ _ => rfl, ?_⟩; go_big_quiet_on)
    go_big_quiet_want
    go_big_quiet_op
    first | go_big_quiet_on | (refine ⟨_, fun _ _ => rfl, ?_⟩; go_big_quiet_on) | (refine ⟨_, fun _ _ _ => rfl, ?_⟩; go_big_quiet_on)
    go_big_quiet_want
    refine qC_load9 (.tmp 148) rfl g ((n - 1) * 3 + 1) _ rfl A1.out ?_
    simp only [Act.put, List.setIfInBounds_toArray, List.set_cons_succ, List.set_cons_zero]
    go_big_quiet_on
    go_big_quiet_want
    refine qC_call 32 #[.string ⟨ta.toArray⟩, .string ⟨tb.toArray⟩] (.tuple #[.string ⟨d.toArray⟩, .bool false]) (fun w => by simp [go_sem]) (fun wa hC => (SU.out wa).mono fun e w' h => ⟨h.1, by rw [h.2]; exact hC⟩) ?_
    simp only [Act.put, List.setIfInBounds_toArray, List.set_cons_succ, List.set_cons_zero]
    go_big_quiet_on
    go_big_quiet_want
    go_big_quiet_op
    first | go_big_quiet_on | (refine ⟨_, fun _ _ => rfl, ?_⟩; go_big_quiet_on) | (refine ⟨_, fun _ _ _ => rfl, ?_⟩; go_big_quiet_on)
    go_big_quiet_want
    go_big_quiet_op
    first | go_big_quiet_on | (refine ⟨_, fun _ _ => rfl, ?_⟩; go_big_quiet_on) | (refine ⟨_, fun _ _ _ => rfl, ?_⟩; go_big_quiet_on)
    go_big_quiet_want
    go_big_quiet_op
    first | go_big_quiet_on | (refine ⟨_, fun _ _ => rfl, ?_⟩; go_big_quiet_on) | (refine ⟨_, fun _ _ _ => rfl, ?_⟩; go_big_quiet_on)
    go_big_quiet_want
    go_big_quiet_op
    first | go_big_quiet_on | (refine ⟨_, fun _ _ => rfl, ?_⟩; go_big_quiet_on) | (refine ⟨_, fun _ _ _ => rfl, ?_⟩; go_big_quiet_on)
    go_big_quiet_want
    go_big_quiet_op
    first | go_big_quiet_on | (refine ⟨_, fun _ _ => rfl, ?_⟩; go_big_quiet_on) | (refine ⟨_, fun _ _ _ => rfl, ?_⟩; go_big_quiet_on)
    refine wpQuiet_nil ?_
    intro wz hz
    have BZ := Box'.mk hz
    have rm : Room wz p8 41 5 := (RZ.out.below hz RZ.out.lt).room rfl
    have e0 : insA Ins.none (.slice none 0 0) = #[.int .u64 0, .int .u64 0, .int .u64 0, .int .u64 0, .slice none 0 0] := rfl
    have rz := (RZ.out.below hz RZ.out.lt)
    rw [e0] at rz
    have RZ2 := Box'.mk (rm.setRow #[.int .u64 0, .int .u64 0, .int .u64 0, .int .u64 0, .slice none 0 0])
    clear hz A0 A1 SU e0
    go_wp2_with (first | (refine wpList_store_row rfl 41 (.tmp 8) (.tmp 155) rfl p8 rfl _ rfl 41 5 rm (by kernel_rfl) rfl (by simp [Value.oneCell']) ?_; clear rm rz) | fail)
    have bz : Below w.heap.size w (wz.setRow p8 #[.int .u64 0, .int .u64 0, .int .u64 0, .int .u64 0, .slice none 0 0]) := below_setRow (BB.out.trans (BZ.out.mono BB.out.size)) hp8 _
    refine bodyPost_ret (results_row2 rfl _ p8 rfl (.bool false) (.int .i64 99) rfl rfl 41 _ RZ2.out _ Try.underlying41 rfl 5 (by kernel_rfl) rfl) rfl ?_
    exact ⟨F, .slice none 0 0, by rw [SE.out]; rfl, by rw [SE.out]; exact H0.out.keep fun k hk => bz.block k (H0.out.lt k hk), by rw [SE.out]; exact .inl ⟨rfl, rfl⟩, Tch.of bz, fun k hk => .inl hk⟩
  | true =>
    have SE : Box' (sndF s now l = (⟨s.now, setA l now, true, now, now⟩, ⟨(l.getD 0 Rw.zero).n, (lastR l).n, 0, (l.getD 0 Rw.zero).n, (sufF ta tb).1⟩, true, 0)) := ⟨by rw [SF.out, if_pos hok]⟩
    rw [hok] at SU
    generalize hn0' : (l.getD 0 Rw.zero).n = n0 at *
    generalize hn1' : (lastR l).n = n1 at *
    have E0 : Box' (((setA l now).getD 0 Rw.zero).n = n0) := ⟨by rw [setA_n, hn0']⟩
    have E1 : Box' (((setA l now).getD (n - 1) Rw.zero).n = n1) := ⟨by rw [setA_n, ← hn1', ← hn]; rfl⟩
    clear SF hta htb hok hcl hr hb ho hz ht hn0' hn1'
    generalize (sufF ta tb).1 = d at *
    have hnow := now.toNat_lt
    go_upto_region 13 with (fail)
    refine wp_region_lex (fun wa => Below w9.heap.size w9 wa) (by kernel_rfl) (by kernel_rfl) (Below.refl _ _).drew ?_
    go_big_quiet_want
    go_big_quiet_op
    first | go_big_quiet_on | (refine ⟨_, fun _ _ => rfl, ?_⟩; go_big_quiet_on) | (refine ⟨_, fun _ _ _ => rfl, ?_⟩; go_big_quiet_on)
    go_big_quiet_want
    go_big_quiet_op
    first | go_big_quiet_on | (refine ⟨_, fun _ _ => rfl, ?_⟩; go_big_quiet_on) | (refine ⟨_, fun _ _ _ => rfl, ?_⟩; go_big_quiet_on)
    go_big_quiet_want
    go_big_quiet_op
    first | go_big_quiet_on | (refine ⟨_, fun _ _ => rfl, ?_⟩; go_big_quiet_on) | (refine ⟨_, fun _ _ _ => rfl, ?_⟩; go_big_quiet_on)
    go_big_quiet_want
    refine qC_load9 (.tmp 141) rfl g 1 _ rfl A0.out ?_
    simp only [Act.put, List.setIfInBounds_toArray, List.set_cons_succ, List.set_cons_zero]
    go_big_quiet_on
    go_big_quiet_want
    go_big_quiet_op
    first | go_big_quiet_on | (refine ⟨_, fun _ _ => rfl, ?_⟩; go_big_quiet_on) | (refine ⟨_, fun _ _ _ => rfl, ?_⟩; go_big_quiet_on)
    go_big_quiet_want
    go_big_quiet_op
    first | go_big_quiet_on | (refine ⟨_, fun _ _ => rfl, ?_⟩; go_big_quiet_on) | (refine ⟨_, fun _ _ _ => rfl, ?_⟩; go_big_quiet_on)
    go_big_quiet_want
    go_big_quiet_op
    first | go_big_quiet_on | (refine ⟨_, fun _ _ => rfl, ?_⟩; go_big_quiet_on) | (refine ⟨_, fun _ _ _ => rfl, ?_⟩; go_big_quiet_on)
    go_big_quiet_want
    go_big_quiet_op
    first | go_big_quiet_on | (refine ⟨_, fun _ _ => rfl, ?_⟩; go_big_quiet_on) | (refine ⟨_, fun _ _ _ => rfl, ?_⟩; go_big_quiet_on)
    go_big_quiet_want
    go_big_quiet_op
    first | go_big_quiet_on | (refine ⟨_, fun _ _ => rfl, ?_⟩; go_big_quiet_on) | (refine ⟨_, fun _ _ _ => rfl, ?_⟩; go_big_quiet_on)
    go_big_quiet_want
    go_big_quiet_op
    first | go_big_quiet_on | (refine ⟨_, fun _ _ => rfl, ?_⟩; go_big_quiet_on) | (refine ⟨_, fun _ _ _ => rfl, ?_⟩; go_big_quiet_on)
    go_big_quiet_want
    refine qC_load9 (.tmp 148) rfl g ((n - 1) * 3 + 1) _ rfl A1.out ?_
    simp only [Act.put, List.setIfInBounds_toArray, List.set_cons_succ, List.set_cons_zero]
    go_big_quiet_on
    go_big_quiet_want
    refine qC_call 32 #[.string ⟨ta.toArray⟩, .string ⟨tb.toArray⟩] (.tuple #[.string ⟨d.toArray⟩, .bool true]) (fun w => by simp [go_sem]) (fun wa hC => (SU.out wa).mono fun e w' h => ⟨h.1, by rw [h.2]; exact hC⟩) ?_
    simp only [Act.put, List.setIfInBounds_toArray, List.set_cons_succ, List.set_cons_zero]
    go_big_quiet_on
    go_big_quiet_want
    go_big_quiet_op
    first | go_big_quiet_on | (refine ⟨_, fun _ _ => rfl, ?_⟩; go_big_quiet_on) | (refine ⟨_, fun _ _ _ => rfl, ?_⟩; go_big_quiet_on)
    go_big_quiet_want
    go_big_quiet_op
    first | go_big_quiet_on | (refine ⟨_, fun _ _ => rfl, ?_⟩; go_big_quiet_on) | (refine ⟨_, fun _ _ _ => rfl, ?_⟩; go_big_quiet_on)
    go_big_quiet_want
    go_big_quiet_op
    first | go_big_quiet_on | (refine ⟨_, fun _ _ => rfl, ?_⟩; go_big_quiet_on) | (refine ⟨_, fun _ _ _ => rfl, ?_⟩; go_big_quiet_on)
    go_big_quiet_want
    go_big_quiet_op
    first | go_big_quiet_on | (refine ⟨_, fun _ _ => rfl, ?_⟩; go_big_quiet_on) | (refine ⟨_, fun _ _ _ => rfl, ?_⟩; go_big_quiet_on)
    go_big_quiet_want
    go_big_quiet_op
    first | go_big_quiet_on | (refine ⟨_, fun _ _ => rfl, ?_⟩; go_big_quiet_on) | (refine ⟨_, fun _ _ _ => rfl, ?_⟩; go_big_quiet_on)
    refine wpQuiet_nil ?_
    intro wz hz
    have rz := RP.out.below hz RP.out.lt
    obtain ⟨wA, hwA⟩ : ∃ wA, wA = (((wz.setCell ⟨p, 1, none⟩ (.slice (some ⟨g, 0, none⟩) n cl)).setCell ⟨p, 2, none⟩ (.bool true)).setCell ⟨p, 3, none⟩ (.int .u64 (now.toNat : Int))).setCell ⟨p, 4, none⟩ (.int .u64 (now.toNat : Int)) := ⟨_, rfl⟩
    have rA1 := rz.setCell 1 (.slice (some ⟨g, 0, none⟩) n cl)
    have rA2 := rA1.setCell 2 (.bool true)
    have rA3 := rA2.setCell 3 (.int .u64 (now.toNat : Int))
    have rA4 := rA3.setCell 4 (.int .u64 (now.toNat : Int))
    have c1 : wz.cell? ⟨p, 1, none⟩ = some v := rz.cell 1
    have z1 := rz.frozen 1
    have c2 : (wz.setCell ⟨p, 1, none⟩ (.slice (some ⟨g, 0, none⟩) n cl)).cell? ⟨p, 2, none⟩ = some (.bool s.any) := rA1.cell 2
    have z2 := rA1.frozen 2
    have c3 : ((wz.setCell ⟨p, 1, none⟩ (.slice (some ⟨g, 0, none⟩) n cl)).setCell ⟨p, 2, none⟩ (.bool true)).cell? ⟨p, 3, none⟩ = some (uV s.tm) := rA2.cell 3
    have z3 := rA2.frozen 3
    have c4 : (((wz.setCell ⟨p, 1, none⟩ (.slice (some ⟨g, 0, none⟩) n cl)).setCell ⟨p, 2, none⟩ (.bool true)).setCell ⟨p, 3, none⟩ (.int .u64 (now.toNat : Int))).cell? ⟨p, 4, none⟩ = some (uV s.seen) := rA3.cell 4
    have z4 := rA3.frozen 4
    rw [← hwA] at rA4
    have RA : Box' (Row wA p 34 (sdA ⟨s.now, setA l now, true, now, now⟩ (.slice (some ⟨g, 0, none⟩) n cl))) := ⟨rA4⟩
    obtain ⟨cur, rg⟩ := OO.out.row
    have hpg : p ≠ g := row_ne RP.out rg (by decide)
    have hg8 : p8 ≠ g := row_ne RZ.out rg (by decide)
    have hp8' : p ≠ p8 := by omega
    have OA : Box' (OwnR 0 wA (.slice (some ⟨g, 0, none⟩) n cl) l) := ⟨by rw [hwA]; exact ((((OO.out.below hz).other ⟨p, 1, none⟩ _ hpg).other ⟨p, 2, none⟩ _ hpg).other ⟨p, 3, none⟩ _ hpg).other ⟨p, 4, none⟩ _ hpg⟩
    have Fp : F p := by rw [hF]; exact .inl rfl
    have TA : Box' (Tch F w wA) := ⟨by rw [hwA]; exact ((((Tch.of (BB.out.trans (hz.mono BB.out.size))).set ⟨p, 1, none⟩ _ (.inl Fp)).set ⟨p, 2, none⟩ _ (.inl Fp)).set ⟨p, 3, none⟩ _ (.inl Fp)).set ⟨p, 4, none⟩ _ (.inl Fp)⟩
    have ZA : Box' (Row wA p8 41 (insA Ins.none (.slice none 0 0))) := ⟨by rw [hwA]; exact ((((RZ.out.below hz RZ.out.lt).setOther ⟨p, 1, none⟩ _ (Ne.symm hp8')).setOther ⟨p, 2, none⟩ _ (Ne.symm hp8')).setOther ⟨p, 3, none⟩ _ (Ne.symm hp8')).setOther ⟨p, 4, none⟩ _ (Ne.symm hp8')⟩
    have P1 : Box' (∀ wa, Below wA.heap.size wA wa → wa.cell? ⟨p, 1, none⟩ = some (.slice (some ⟨g, 0, none⟩) n cl)) := ⟨fun wa hb => (RA.out.below hb RA.out.lt).cell 1⟩
    clear hz rz rA1 rA2 rA3 rA4 rg A0 A1 SU OO RP RZ
    go_upto_region 17 with (fail)
    rw [← hwA]
    clear hwA c1 c2 c3 c4 z1 z2 z3 z4
    refine wp_region_grow 13 (by kernel_rfl) (by kernel_rfl) (fun wa wb => Below wa.heap.size wa wb) (fun wa => Below wA.heap.size wA wa) (fun kc wa v => match kc with
      | 0 => v = .pointer (some ⟨p, 0, none⟩)
      | 1 => v = .pointer (some ⟨p, 0, none⟩)
      | 2 => v = .pointer (some ⟨p, 1, none⟩)
      | 3 => v = .slice (some ⟨g, 0, none⟩) n cl
      | 4 => v = .pointer (some ⟨p, 0, none⟩)
      | 5 => v = .pointer (some ⟨p, 0, none⟩)
      | 6 => v = .pointer (some ⟨p, 1, none⟩)
      | 7 => v = .slice (some ⟨g, 0, none⟩) n cl
      | 8 => v = .int .i64 (n : Int)
      | 9 => v = .int .i64 ((n : Int) - 1)
      | 10 => v = .int .u64 (now.toNat : Int)
      | 11 => v = .pointer (some ⟨g, (n - 1) * 3, none⟩)
      | 12 => v = .pointer (some ⟨g, (n - 1) * 3 + 2, none⟩)
      | _ => True) ?_ ?_ ?_ ?_ ?_
    · intro wa wb hb q; exact q.trans (hb.mono q.size)
    · intro kc v wa wb hC1 hb h
      match kc, h with
      | 0, h => exact h
      | 1, h => exact h
      | 2, h => exact h
      | 3, h => exact h
      | 4, h => exact h
      | 5, h => exact h
      | 6, h => exact h
      | 7, h => exact h
      | 8, h => exact h
      | 9, h => exact h
      | 10, h => exact h
      | 11, h => exact h
      | 12, h => exact h
      | kc + 13, h => trivial
    · exact (Below.refl _ _).drew
    · refine ⟨?_, ?_, ?_, ?_, ?_, ?_, ?_, ?_, ?_, ?_, ?_, ?_, ?_, trivial⟩
      · intro f wq hC hd KK hK
        simp only [List.take_succ_cons, List.take_zero, setAll, List.setIfInBounds_toArray, List.set_cons_succ, List.set_cons_zero, Nat.zero_add, Nat.reduceAdd] at hK ⊢
        refine wp_of_quiet rfl ?_
        go_big_quiet_step (fail)
        exact wpQuiet_nil (hK _ _ rfl (Below.refl _ _))
      · intro f wq hC hd KK hK
        have g0 : f 0 = .pointer (some ⟨p, 0, none⟩) := hd 0 (by kernel_rfl)
        simp only [List.take_succ_cons, List.take_zero, setAll, List.setIfInBounds_toArray, List.set_cons_succ, List.set_cons_zero, Nat.zero_add, Nat.reduceAdd, g0] at hK ⊢
        refine wp_of_quiet rfl ?_
        go_big_quiet_step (fail)
        exact wpQuiet_nil (hK _ _ rfl (Below.refl _ _))
      · intro f wq hC hd KK hK
        have g1 : f 1 = .pointer (some ⟨p, 0, none⟩) := hd 1 (by kernel_rfl)
        simp only [List.take_succ_cons, List.take_zero, setAll, List.setIfInBounds_toArray, List.set_cons_succ, List.set_cons_zero, Nat.zero_add, Nat.reduceAdd, g1] at hK ⊢
        refine wp_of_quiet rfl ?_
        go_big_quiet_step (fail)
        exact wpQuiet_nil (hK _ _ rfl (Below.refl _ _))
      · intro f wq hC hd KK hK
        have g2 : f 2 = .pointer (some ⟨p, 1, none⟩) := hd 2 (by kernel_rfl)
        have cx := P1.out wq hC
        simp only [List.take_succ_cons, List.take_zero, setAll, List.setIfInBounds_toArray, List.set_cons_succ, List.set_cons_zero, Nat.zero_add, Nat.reduceAdd, g2] at hK ⊢
        refine wp_of_quiet rfl ?_
        go_big_quiet_step (fail)
        exact wpQuiet_nil (hK _ _ rfl (Below.refl _ _))
      · intro f wq hC hd KK hK
        simp only [List.take_succ_cons, List.take_zero, setAll, List.setIfInBounds_toArray, List.set_cons_succ, List.set_cons_zero, Nat.zero_add, Nat.reduceAdd] at hK ⊢
        refine wp_of_quiet rfl ?_
        go_big_quiet_step (fail)
        exact wpQuiet_nil (hK _ _ rfl (Below.refl _ _))
      · intro f wq hC hd KK hK
        have g4 : f 4 = .pointer (some ⟨p, 0, none⟩) := hd 4 (by kernel_rfl)
        simp only [List.take_succ_cons, List.take_zero, setAll, List.setIfInBounds_toArray, List.set_cons_succ, List.set_cons_zero, Nat.zero_add, Nat.reduceAdd, g4] at hK ⊢
        refine wp_of_quiet rfl ?_
        go_big_quiet_step (fail)
        exact wpQuiet_nil (hK _ _ rfl (Below.refl _ _))
      · intro f wq hC hd KK hK
        have g5 : f 5 = .pointer (some ⟨p, 0, none⟩) := hd 5 (by kernel_rfl)
        simp only [List.take_succ_cons, List.take_zero, setAll, List.setIfInBounds_toArray, List.set_cons_succ, List.set_cons_zero, Nat.zero_add, Nat.reduceAdd, g5] at hK ⊢
        refine wp_of_quiet rfl ?_
        go_big_quiet_step (fail)
        exact wpQuiet_nil (hK _ _ rfl (Below.refl _ _))
      · intro f wq hC hd KK hK
        have g6 : f 6 = .pointer (some ⟨p, 1, none⟩) := hd 6 (by kernel_rfl)
        have cx := P1.out wq hC
        simp only [List.take_succ_cons, List.take_zero, setAll, List.setIfInBounds_toArray, List.set_cons_succ, List.set_cons_zero, Nat.zero_add, Nat.reduceAdd, g6] at hK ⊢
        refine wp_of_quiet rfl ?_
        go_big_quiet_step (fail)
        exact wpQuiet_nil (hK _ _ rfl (Below.refl _ _))
      · intro f wq hC hd KK hK
        have g7 : f 7 = .slice (some ⟨g, 0, none⟩) n cl := hd 7 (by kernel_rfl)
        simp only [List.take_succ_cons, List.take_zero, setAll, List.setIfInBounds_toArray, List.set_cons_succ, List.set_cons_zero, Nat.zero_add, Nat.reduceAdd, g7] at hK ⊢
        refine wp_of_quiet rfl ?_
        go_big_quiet_step (fail)
        exact wpQuiet_nil (hK _ _ rfl (Below.refl _ _))
      · intro f wq hC hd KK hK
        have g8 : f 8 = .int .i64 (n : Int) := hd 8 (by kernel_rfl)
        simp only [List.take_succ_cons, List.take_zero, setAll, List.setIfInBounds_toArray, List.set_cons_succ, List.set_cons_zero, Nat.zero_add, Nat.reduceAdd, g8] at hK ⊢
        refine wp_of_quiet rfl ?_
        go_big_quiet_step (fail)
        exact wpQuiet_nil (hK _ _ rfl (Below.refl _ _))
      · intro f wq hC hd KK hK
        simp only [List.take_succ_cons, List.take_zero, setAll, List.setIfInBounds_toArray, List.set_cons_succ, List.set_cons_zero, Nat.zero_add, Nat.reduceAdd] at hK ⊢
        refine wp_of_quiet rfl ?_
        go_big_quiet_step (fail)
        exact wpQuiet_nil (hK _ _ rfl (Below.refl _ _))
      · intro f wq hC hd KK hK
        have g3 : f 3 = .slice (some ⟨g, 0, none⟩) n cl := hd 3 (by kernel_rfl)
        have g9 : f 9 = .int .i64 ((n : Int) - 1) := hd 9 (by kernel_rfl)
        simp only [List.take_succ_cons, List.take_zero, setAll, List.setIfInBounds_toArray, List.set_cons_succ, List.set_cons_zero, Nat.zero_add, Nat.reduceAdd, g3, g9] at hK ⊢
        refine wp_of_quiet rfl ?_
        go_big_quiet_step (fail)
        exact wpQuiet_nil (hK _ _ rfl (Below.refl _ _))
      · intro f wq hC hd KK hK
        have g11 : f 11 = .pointer (some ⟨g, (n - 1) * 3, none⟩) := hd 11 (by kernel_rfl)
        simp only [List.take_succ_cons, List.take_zero, setAll, List.setIfInBounds_toArray, List.set_cons_succ, List.set_cons_zero, Nat.zero_add, Nat.reduceAdd, g11] at hK ⊢
        refine wp_of_quiet rfl ?_
        go_big_quiet_step (fail)
        exact wpQuiet_nil (hK _ _ rfl (Below.refl _ _))
    intro f wq hC hv
    have g0 : f 0 = .pointer (some ⟨p, 0, none⟩) := hv 0 (by decide)
    have g1 : f 1 = .pointer (some ⟨p, 0, none⟩) := hv 1 (by decide)
    have g2 : f 2 = .pointer (some ⟨p, 1, none⟩) := hv 2 (by decide)
    have g3 : f 3 = .slice (some ⟨g, 0, none⟩) n cl := hv 3 (by decide)
    have g4 : f 4 = .pointer (some ⟨p, 0, none⟩) := hv 4 (by decide)
    have g5 : f 5 = .pointer (some ⟨p, 0, none⟩) := hv 5 (by decide)
    have g6 : f 6 = .pointer (some ⟨p, 1, none⟩) := hv 6 (by decide)
    have g7 : f 7 = .slice (some ⟨g, 0, none⟩) n cl := hv 7 (by decide)
    have g8 : f 8 = .int .i64 (n : Int) := hv 8 (by decide)
    have g9 : f 9 = .int .i64 ((n : Int) - 1) := hv 9 (by decide)
    have g10 : f 10 = .int .u64 (now.toNat : Int) := hv 10 (by decide)
    have g11 : f 11 = .pointer (some ⟨g, (n - 1) * 3, none⟩) := hv 11 (by decide)
    have g12 : f 12 = .pointer (some ⟨g, (n - 1) * 3 + 2, none⟩) := hv 12 (by decide)
    simp only [List.take_succ_cons, List.take_zero, List.drop_succ_cons, List.drop_zero, setAll, List.setIfInBounds_toArray, List.set_cons_succ, List.set_cons_zero, Nat.zero_add, Nat.reduceAdd, g0, g1, g2, g3, g4, g5, g6, g7, g8, g9, g10, g11, g12]
    clear g0 g1 g2 g3 g4 g5 g6 g7 g8 g9 g10 g11 g12 hv
    have BQ := Box'.mk hC
    have oq := OA.out.below BQ.out
    obtain ⟨cur, rq⟩ := oq.row
    obtain ⟨g', cap', e1, _, _, _, hcl⟩ := oq.cells h1
    have hgg : g = g' := by injection e1 with q1 _ _; injection q1 with q1; injection q1 with q1
    subst hgg
    have cs : wq.cell? ⟨g, (n - 1) * 3 + 2, none⟩ = some (uV (l.getD (l.length - 1) Rw.zero).a) := hcl _ _ (by rw [← hn]; exact (rowsC_at l (l.length - 1) (by omega)).2.2)
    have fs := rq.frozen ((n - 1) * 3 + 2)
    obtain ⟨wB, hwB⟩ : ∃ wB, wB = wq.setCell ⟨g, (n - 1) * 3 + 2, none⟩ (.int .u64 (now.toNat : Int)) := ⟨_, rfl⟩
    have OB : Box' (OwnR 0 wB (.slice (some ⟨g, 0, none⟩) n cl) (setA l now)) := ⟨by rw [hwB]; exact oq.set hn h1 now⟩
    have RB : Box' (Row wB p 34 (sdA ⟨s.now, setA l now, true, now, now⟩ (.slice (some ⟨g, 0, none⟩) n cl))) := ⟨by rw [hwB]; exact (RA.out.below BQ.out RA.out.lt).setOther ⟨g, (n - 1) * 3 + 2, none⟩ _ hpg⟩
    have ZB : Box' (Row wB p8 41 (insA Ins.none (.slice none 0 0))) := ⟨by rw [hwB]; exact (ZA.out.below BQ.out ZA.out.lt).setOther ⟨g, (n - 1) * 3 + 2, none⟩ _ hg8⟩
    have TB : Box' (Tch F w wB) := ⟨by
      rw [hwB]
      refine (TA.out.trans (Tch.of (F := F) BQ.out) (fun i h => .inl h)).set ⟨g, (n - 1) * 3 + 2, none⟩ _ ?_
      rcases Nat.lt_or_ge g w.heap.size with q | q
      · exact .inl (by rw [hF]; exact .inr (hg q))
      · exact .inr q⟩
    obtain ⟨g', cap', e2, _, _, hgB, hcl2⟩ := OB.out.cells (by rw [setA_len]; exact h1)
    have hgg : g = g' := by injection e2 with q1 _ _; injection q1 with q1; injection q1 with q1
    subst hgg
    have N0 : Box' (∀ wa, Below wB.heap.size wB wa → wa.cell? ⟨g, 0, none⟩ = some (.int .u64 (n0.toNat : Int))) := ⟨fun wa hb => (hb.cell (p := ⟨g, 0, none⟩) hgB).trans ((hcl2 _ _ (rowsC_at (setA l now) 0 (by rw [setA_len]; exact h1)).1).trans (by rw [E0.out]; rfl))⟩
    have N1 : Box' (∀ wa, Below wB.heap.size wB wa → wa.cell? ⟨g, (n - 1) * 3, none⟩ = some (.int .u64 (n1.toNat : Int))) := ⟨fun wa hb => (hb.cell (p := ⟨g, (n - 1) * 3, none⟩) hgB).trans ((hcl2 _ _ (rowsC_at (setA l now) (n - 1) (by rw [setA_len]; omega)).1).trans (by rw [E1.out]; rfl))⟩
    clear oq rq hcl hcl2 e1 e2 BQ RA OA TA ZA P1 E0 E1
    go_upto_region 18 with (fail)
    rw [← hwB]
    clear hwB cs fs
    refine wp_region_grow 18 (by kernel_rfl) (by kernel_rfl) (fun wa wb => Below wa.heap.size wa wb) (fun wa => Below wB.heap.size wB wa) (fun kc wa v => match kc with
      | 0 => v = .slice (some ⟨g, 0, none⟩) n cl
      | 1 => v = .pointer (some ⟨g, 0, none⟩)
      | 2 => v = .pointer (some ⟨g, 0, none⟩)
      | 3 => v = .int .u64 (n0.toNat : Int)
      | 4 => v = .slice (some ⟨g, 0, none⟩) n cl
      | 5 => v = .slice (some ⟨g, 0, none⟩) n cl
      | 6 => v = .int .i64 (n : Int)
      | 7 => v = .int .i64 ((n : Int) - 1)
      | 8 => v = .pointer (some ⟨g, (n - 1) * 3, none⟩)
      | 9 => v = .pointer (some ⟨g, (n - 1) * 3, none⟩)
      | 10 => v = .int .u64 (n1.toNat : Int)
      | 11 => v = .slice (some ⟨g, 0, none⟩) n cl
      | 12 => v = .pointer (some ⟨g, 0, none⟩)
      | 13 => v = .pointer (some ⟨g, 0, none⟩)
      | 14 => v = .int .u64 (n0.toNat : Int)
      | 15 => v = .string ⟨d.toArray⟩
      | 16 => InX (fun b => wB.heap.size ≤ b ∧ b < wa.heap.size) wa v d
      | 17 => ∃ vb, v = .agg #[.int .u64 (n0.toNat : Int), .int .u64 (n1.toNat : Int), .int .u64 0, .int .u64 (n0.toNat : Int), vb] ∧ InX (fun b => wB.heap.size ≤ b ∧ b < wa.heap.size) wa vb d
      | _ => True) ?_ ?_ ?_ ?_ ?_
    · intro wa wb hb q; exact q.trans (hb.mono q.size)
    · intro kc v wa wb hC1 hb h
      match kc, h with
      | 0, h => exact h
      | 1, h => exact h
      | 2, h => exact h
      | 3, h => exact h
      | 4, h => exact h
      | 5, h => exact h
      | 6, h => exact h
      | 7, h => exact h
      | 8, h => exact h
      | 9, h => exact h
      | 10, h => exact h
      | 11, h => exact h
      | 12, h => exact h
      | 13, h => exact h
      | 14, h => exact h
      | 15, h => exact h
      | 16, h => exact InX.keep h fun b ⟨h1, h2⟩ => ⟨⟨h1, Nat.lt_of_lt_of_le h2 hb.size⟩, hb.block b h2⟩
      | 17, h => exact let ⟨vb, h1, h2⟩ := h; ⟨vb, h1, h2.keep fun b ⟨h1, h2⟩ => ⟨⟨h1, Nat.lt_of_lt_of_le h2 hb.size⟩, hb.block b h2⟩⟩
      | kc + 18, h => trivial
    · exact (Below.refl _ _).drew
    · refine ⟨?_, ?_, ?_, ?_, ?_, ?_, ?_, ?_, ?_, ?_, ?_, ?_, ?_, ?_, ?_, ?_, ?_, ?_, trivial⟩
      · intro f wq hC hd KK hK
        simp only [List.take_succ_cons, List.take_zero, setAll, List.setIfInBounds_toArray, List.set_cons_succ, List.set_cons_zero, Nat.zero_add, Nat.reduceAdd] at hK ⊢
        refine wp_of_quiet rfl ?_
        go_big_quiet_step (fail)
        exact wpQuiet_nil (hK _ _ rfl (Below.refl _ _))
      · intro f wq hC hd KK hK
        have g0 : f 0 = .slice (some ⟨g, 0, none⟩) n cl := hd 0 (by kernel_rfl)
        simp only [List.take_succ_cons, List.take_zero, setAll, List.setIfInBounds_toArray, List.set_cons_succ, List.set_cons_zero, Nat.zero_add, Nat.reduceAdd, g0] at hK ⊢
        refine wp_of_quiet rfl ?_
        go_big_quiet_step (fail)
        exact wpQuiet_nil (hK _ _ rfl (Below.refl _ _))
      · intro f wq hC hd KK hK
        have g1 : f 1 = .pointer (some ⟨g, 0, none⟩) := hd 1 (by kernel_rfl)
        simp only [List.take_succ_cons, List.take_zero, setAll, List.setIfInBounds_toArray, List.set_cons_succ, List.set_cons_zero, Nat.zero_add, Nat.reduceAdd, g1] at hK ⊢
        refine wp_of_quiet rfl ?_
        go_big_quiet_step (fail)
        exact wpQuiet_nil (hK _ _ rfl (Below.refl _ _))
      · intro f wq hC hd KK hK
        have g2 : f 2 = .pointer (some ⟨g, 0, none⟩) := hd 2 (by kernel_rfl)
        have cx := (N0.out wq hC)
        simp only [List.take_succ_cons, List.take_zero, setAll, List.setIfInBounds_toArray, List.set_cons_succ, List.set_cons_zero, Nat.zero_add, Nat.reduceAdd, g2] at hK ⊢
        refine wp_of_quiet rfl ?_
        go_big_quiet_step (fail)
        exact wpQuiet_nil (hK _ _ rfl (Below.refl _ _))
      · intro f wq hC hd KK hK
        simp only [List.take_succ_cons, List.take_zero, setAll, List.setIfInBounds_toArray, List.set_cons_succ, List.set_cons_zero, Nat.zero_add, Nat.reduceAdd] at hK ⊢
        refine wp_of_quiet rfl ?_
        go_big_quiet_step (fail)
        exact wpQuiet_nil (hK _ _ rfl (Below.refl _ _))
      · intro f wq hC hd KK hK
        simp only [List.take_succ_cons, List.take_zero, setAll, List.setIfInBounds_toArray, List.set_cons_succ, List.set_cons_zero, Nat.zero_add, Nat.reduceAdd] at hK ⊢
        refine wp_of_quiet rfl ?_
        go_big_quiet_step (fail)
        exact wpQuiet_nil (hK _ _ rfl (Below.refl _ _))
      · intro f wq hC hd KK hK
        have g5 : f 5 = .slice (some ⟨g, 0, none⟩) n cl := hd 5 (by kernel_rfl)
        simp only [List.take_succ_cons, List.take_zero, setAll, List.setIfInBounds_toArray, List.set_cons_succ, List.set_cons_zero, Nat.zero_add, Nat.reduceAdd, g5] at hK ⊢
        refine wp_of_quiet rfl ?_
        go_big_quiet_step (fail)
        exact wpQuiet_nil (hK _ _ rfl (Below.refl _ _))
      · intro f wq hC hd KK hK
        have g6 : f 6 = .int .i64 (n : Int) := hd 6 (by kernel_rfl)
        simp only [List.take_succ_cons, List.take_zero, setAll, List.setIfInBounds_toArray, List.set_cons_succ, List.set_cons_zero, Nat.zero_add, Nat.reduceAdd, g6] at hK ⊢
        refine wp_of_quiet rfl ?_
        go_big_quiet_step (fail)
        exact wpQuiet_nil (hK _ _ rfl (Below.refl _ _))
      · intro f wq hC hd KK hK
        have g4 : f 4 = .slice (some ⟨g, 0, none⟩) n cl := hd 4 (by kernel_rfl)
        have g7 : f 7 = .int .i64 ((n : Int) - 1) := hd 7 (by kernel_rfl)
        simp only [List.take_succ_cons, List.take_zero, setAll, List.setIfInBounds_toArray, List.set_cons_succ, List.set_cons_zero, Nat.zero_add, Nat.reduceAdd, g4, g7] at hK ⊢
        refine wp_of_quiet rfl ?_
        go_big_quiet_step (fail)
        exact wpQuiet_nil (hK _ _ rfl (Below.refl _ _))
      · intro f wq hC hd KK hK
        have g8 : f 8 = .pointer (some ⟨g, (n - 1) * 3, none⟩) := hd 8 (by kernel_rfl)
        simp only [List.take_succ_cons, List.take_zero, setAll, List.setIfInBounds_toArray, List.set_cons_succ, List.set_cons_zero, Nat.zero_add, Nat.reduceAdd, g8] at hK ⊢
        refine wp_of_quiet rfl ?_
        go_big_quiet_step (fail)
        exact wpQuiet_nil (hK _ _ rfl (Below.refl _ _))
      · intro f wq hC hd KK hK
        have g9 : f 9 = .pointer (some ⟨g, (n - 1) * 3, none⟩) := hd 9 (by kernel_rfl)
        have cx := (N1.out wq hC)
        simp only [List.take_succ_cons, List.take_zero, setAll, List.setIfInBounds_toArray, List.set_cons_succ, List.set_cons_zero, Nat.zero_add, Nat.reduceAdd, g9] at hK ⊢
        refine wp_of_quiet rfl ?_
        go_big_quiet_step (fail)
        exact wpQuiet_nil (hK _ _ rfl (Below.refl _ _))
      · intro f wq hC hd KK hK
        simp only [List.take_succ_cons, List.take_zero, setAll, List.setIfInBounds_toArray, List.set_cons_succ, List.set_cons_zero, Nat.zero_add, Nat.reduceAdd] at hK ⊢
        refine wp_of_quiet rfl ?_
        go_big_quiet_step (fail)
        exact wpQuiet_nil (hK _ _ rfl (Below.refl _ _))
      · intro f wq hC hd KK hK
        have g11 : f 11 = .slice (some ⟨g, 0, none⟩) n cl := hd 11 (by kernel_rfl)
        simp only [List.take_succ_cons, List.take_zero, setAll, List.setIfInBounds_toArray, List.set_cons_succ, List.set_cons_zero, Nat.zero_add, Nat.reduceAdd, g11] at hK ⊢
        refine wp_of_quiet rfl ?_
        go_big_quiet_step (fail)
        exact wpQuiet_nil (hK _ _ rfl (Below.refl _ _))
      · intro f wq hC hd KK hK
        have g12 : f 12 = .pointer (some ⟨g, 0, none⟩) := hd 12 (by kernel_rfl)
        simp only [List.take_succ_cons, List.take_zero, setAll, List.setIfInBounds_toArray, List.set_cons_succ, List.set_cons_zero, Nat.zero_add, Nat.reduceAdd, g12] at hK ⊢
        refine wp_of_quiet rfl ?_
        go_big_quiet_step (fail)
        exact wpQuiet_nil (hK _ _ rfl (Below.refl _ _))
      · intro f wq hC hd KK hK
        have g13 : f 13 = .pointer (some ⟨g, 0, none⟩) := hd 13 (by kernel_rfl)
        have cx := (N0.out wq hC)
        simp only [List.take_succ_cons, List.take_zero, setAll, List.setIfInBounds_toArray, List.set_cons_succ, List.set_cons_zero, Nat.zero_add, Nat.reduceAdd, g13] at hK ⊢
        refine wp_of_quiet rfl ?_
        go_big_quiet_step (fail)
        exact wpQuiet_nil (hK _ _ rfl (Below.refl _ _))
      · intro f wq hC hd KK hK
        simp only [List.take_succ_cons, List.take_zero, setAll, List.setIfInBounds_toArray, List.set_cons_succ, List.set_cons_zero, Nat.zero_add, Nat.reduceAdd] at hK ⊢
        refine wp_of_quiet rfl ?_
        go_big_quiet_step (fail)
        exact wpQuiet_nil (hK _ _ rfl (Below.refl _ _))
      · intro f wq hC hd KK hK
        have g15 : f 15 = .string ⟨d.toArray⟩ := hd 15 (by kernel_rfl)
        simp only [List.take_succ_cons, List.take_zero, setAll, List.setIfInBounds_toArray, List.set_cons_succ, List.set_cons_zero, Nat.zero_add, Nat.reduceAdd, g15] at hK ⊢
        obtain ⟨vq, wz, hrun, hbz, hiz, hsz⟩ := conv_str wq d
        exact wp_conv vq _ (.tmp 199) rfl rfl hrun (hK _ _ (hiz.keep fun b hb => ⟨⟨by rw [hb]; exact hC.size, by rw [hb, hsz]; omega⟩, rfl⟩) hbz)
      · intro f wq hC hd KK hK
        have g3 : f 3 = .int .u64 (n0.toNat : Int) := hd 3 (by kernel_rfl)
        have g10 : f 10 = .int .u64 (n1.toNat : Int) := hd 10 (by kernel_rfl)
        have g14 : f 14 = .int .u64 (n0.toNat : Int) := hd 14 (by kernel_rfl)
        have ix : InX (fun b => wB.heap.size ≤ b ∧ b < wq.heap.size) wq (f 16) d := hd 16 (by kernel_rfl)
        obtain ⟨ai, ci, ei⟩ := ix.slice
        rw [ei] at ix
        simp only [List.take_succ_cons, List.take_zero, setAll, List.setIfInBounds_toArray, List.set_cons_succ, List.set_cons_zero, Nat.zero_add, Nat.reduceAdd, g3, g10, g14] at hK ⊢
        simp only [ei] at hK ⊢
        refine wp_of_quiet rfl ?_
        go_big_quiet_step (fail)
        exact wpQuiet_nil (hK _ _ ⟨_, rfl, ix⟩ (Below.refl _ _))
    · intro f wq hC hv
      have g0 : f 0 = .slice (some ⟨g, 0, none⟩) n cl := hv 0 (by decide)
      have g1 : f 1 = .pointer (some ⟨g, 0, none⟩) := hv 1 (by decide)
      have g2 : f 2 = .pointer (some ⟨g, 0, none⟩) := hv 2 (by decide)
      have g3 : f 3 = .int .u64 (n0.toNat : Int) := hv 3 (by decide)
      have g4 : f 4 = .slice (some ⟨g, 0, none⟩) n cl := hv 4 (by decide)
      have g5 : f 5 = .slice (some ⟨g, 0, none⟩) n cl := hv 5 (by decide)
      have g6 : f 6 = .int .i64 (n : Int) := hv 6 (by decide)
      have g7 : f 7 = .int .i64 ((n : Int) - 1) := hv 7 (by decide)
      have g8 : f 8 = .pointer (some ⟨g, (n - 1) * 3, none⟩) := hv 8 (by decide)
      have g9 : f 9 = .pointer (some ⟨g, (n - 1) * 3, none⟩) := hv 9 (by decide)
      have g10 : f 10 = .int .u64 (n1.toNat : Int) := hv 10 (by decide)
      have g11 : f 11 = .slice (some ⟨g, 0, none⟩) n cl := hv 11 (by decide)
      have g12 : f 12 = .pointer (some ⟨g, 0, none⟩) := hv 12 (by decide)
      have g13 : f 13 = .pointer (some ⟨g, 0, none⟩) := hv 13 (by decide)
      have g14 : f 14 = .int .u64 (n0.toNat : Int) := hv 14 (by decide)
      have g15 : f 15 = .string ⟨d.toArray⟩ := hv 15 (by decide)
      obtain ⟨vb, hvb, hiv⟩ : ∃ vb, f 17 = .agg #[.int .u64 (n0.toNat : Int), .int .u64 (n1.toNat : Int), .int .u64 0, .int .u64 (n0.toNat : Int), vb] ∧ InX (fun b => wB.heap.size ≤ b ∧ b < wq.heap.size) wq vb d := hv 17 (by decide)
      simp only [List.take_succ_cons, List.take_zero, List.drop_succ_cons, List.drop_zero, setAll, List.setIfInBounds_toArray, List.set_cons_succ, List.set_cons_zero, Nat.zero_add, Nat.reduceAdd, g0, g1, g2, g3, g4, g5, g6, g7, g8, g9, g10, g11, g12, g13, g14, g15, hvb]
      clear g0 g1 g2 g3 g4 g5 g6 g7 g8 g9 g10 g11 g12 g13 g14 g15 hvb hv
      have BQ := Box'.mk hC
      obtain ⟨ab, cb, rfl⟩ := hiv.slice
      have IV := Box'.mk hiv
      clear hC hiv
      obtain ⟨wC, hwC⟩ : ∃ wC, wC = wq.setRow p8 #[.int .u64 (n0.toNat : Int), .int .u64 (n1.toNat : Int), .int .u64 0, .int .u64 (n0.toNat : Int), .slice ab d.length cb] := ⟨_, rfl⟩
      have rm : Room wq p8 41 5 := (ZB.out.below BQ.out ZB.out.lt).room rfl
      have RC : Box' (Row wC p8 41 #[.int .u64 (n0.toNat : Int), .int .u64 (n1.toNat : Int), .int .u64 0, .int .u64 (n0.toNat : Int), .slice ab d.length cb]) := ⟨by rw [hwC]; exact rm.setRow _⟩
      have PC : Box' (Row wC p 34 (sdA ⟨s.now, setA l now, true, now, now⟩ (.slice (some ⟨g, 0, none⟩) n cl))) := ⟨by rw [hwC]; exact (RB.out.below BQ.out RB.out.lt).setRowOther p8 _ hp8'⟩
      have OC : Box' (OwnR 0 wC (.slice (some ⟨g, 0, none⟩) n cl) (setA l now)) := ⟨by rw [hwC]; exact (OB.out.below BQ.out).same fun k hk => setRow_other _ _ _ _ (own_eq hk ▸ Ne.symm hg8)⟩
      have TC : Box' (Tch F w wC) := ⟨by rw [hwC]; exact (TB.out.trans (Tch.of (F := F) BQ.out) (fun i h => .inl h)).setRow p8 _ hp8⟩
      have hsz : wC.heap.size = wq.heap.size := by rw [hwC]; simp [World.setRow]
      have IC : Box' (InX (fun b => w.heap.size ≤ b ∧ b < wC.heap.size ∧ ¬ (b = p ∨ (Value.slice (some ⟨g, 0, none⟩) n cl).ownBlock = some b)) wC (.slice ab d.length cb) d) := ⟨IV.out.keep fun b ⟨h1, h2⟩ => ⟨⟨by have := TB.out.size; omega, by rw [hsz]; exact h2, fun q => by
        have := RB.out.lt
        rcases q with q | q
        · omega
        · have : g = b := by simpa [Value.ownBlock] using q
          omega⟩, by rw [hwC]; exact setRow_other _ _ _ _ (by have := ZB.out.lt; omega)⟩⟩
      clear BQ IV RB OB TB ZB N0 N1 hsz
      go_wp2_with (first | (refine wpList_store_row rfl 41 (.tmp 8) (.tmp 201) rfl p8 rfl _ rfl 41 5 rm (by kernel_rfl) rfl (by simp [Value.oneCell']) ?_; rw [← hwC]; clear rm hwC) | fail)
      refine bodyPost_ret (results_row2 rfl _ p8 rfl (.bool true) (.int .i64 0) rfl rfl 41 _ RC.out _ Try.underlying41 rfl 5 (by kernel_rfl) rfl) rfl ?_
      refine ⟨fun k => k = p ∨ (Value.slice (some ⟨g, 0, none⟩) n cl).ownBlock = some k, .slice ab d.length cb, by rw [SE.out]; rfl, by rw [SE.out]; exact ⟨_, rfl, PC.out, OC.out, by show 0 < (setA l now).length; rw [setA_len]; exact h1, by show (setA l now).length ≤ 32; rw [setA_len]; exact h2⟩, by rw [SE.out]; exact IC.out, TC.out, fun k hk => ?_⟩
      rcases hk with rfl | hk
      · exact .inl Fp
      · have : g = k := by simpa [Value.ownBlock] using hk
        subst this
        rcases Nat.lt_or_ge g w.heap.size with q | q
        · exact .inl (by rw [hF]; exact .inr (hg q))
        · exact .inr q
end Go.Proofs.Ytikkekdmahdgaaa
