/- A number is put into a row. -/
import Derived.Test.YtlekleeckcdcgaaGreatYo
import Derived.Test.YtlekleeckcdcgaaGreatXh
namespace Go.Proofs.YtlekleeckcdcgaaGreat
open Go.RowKit Go.BigFrame
set_option linter.unusedVariables false
set_option linter.unusedSimpArgs false
set_option maxHeartbeats 8000000
set_option maxRecDepth 100000
theorem run_cutN (b o n c lo : Nat) (h : lo ≤ n) (h2 : n ≤ c) (h3 : lo < c) (w : World) : (Instr.sliceAt 27 (.slice (some ⟨b, o, none⟩) n c) (some (.int .i64 (lo : Int))) none none).run Tryz.prog w = .ok (.slice (some ⟨b, o + lo, none⟩) (n - lo) (c - lo)) w := by
 have e : Tryz.prog.elem 27 = 3 := by kernel_rfl
 rw [run_sliceAt_slice w 27 _ _ _ _ (by kernel_rfl), run_slice_l w 27 _ n c (by kernel_rfl) _ _ (by omega) (by omega), e, size3]
 simp only [Result.andThen_ok, Int.toNat_natCast, sliced, if_neg (show ¬ c = lo by omega), Option.map_some, Addr.add_mid, Nat.mul_one]
theorem run_cutNh (b o n c hi : Nat) (h : hi ≤ c) (h0 : 0 < c) (w : World) : (Instr.sliceAt 27 (.slice (some ⟨b, o, none⟩) n c) none (some (.int .i64 (hi : Int))) none).run Tryz.prog w = .ok (.slice (some ⟨b, o, none⟩) hi c) w := by
 have e : Tryz.prog.elem 27 = 3 := by kernel_rfl
 rw [run_sliceAt_slice w 27 _ _ _ _ (by kernel_rfl), run_slice_h w 27 _ n c (by kernel_rfl) _ _ (by omega) (by omega)]
 simp [e, size3, sliced, Addr.add_mid]
theorem run_append_zeros (w : World) (ty : TypeId) (b i n k : Nat) (olds : List Value) (hlo : olds.length = i) (holds : ∀ j v, olds[j]? = some v → w.cell? ((⟨b, 0, none⟩ : Addr).add j) = some v) (hg : n < i + k) (hk : 0 < k) (hs : i + k ≤ 1000000) (hn : n ≤ 1000000) :
  (Builtin.append_ #[27, 3] ty #[.slice (some ⟨b, 0, none⟩) i n, .int .i64 (k : Int)]).run Tryz.prog w =
   .ok (.slice (some ⟨w.heap.size, 0, none⟩) (i + k) (grownCap w (i + k) n 3)) (w.drew.alloc (.cells (olds.toArray ++ Builtin.zeroCells #[.int .i64 0] k ++ Builtin.zeroCells #[.int .i64 0] (grownCap w (i + k) n 3 - (i + k))) 3)) := by
 obtain ⟨inf, h1, h2, h3, h4⟩ := info3N
 have hn' : ¬ (i + k ≤ n) := by omega
 have hfit := growslice_fits (need := i + k) (old := n) (bytes := 8) hg (by omega)
 have h48' : ¬ (281474976710656 < Builtin.nextslicecap (i + k) n * 8) := by omega
 have hfo := run_firstCells_some (P := Tryz.prog) w.drew 1 i ⟨b, 0, none⟩ i n olds (by omega) (by simpa using holds)
 have hw : IntKind.i64.wrap (k : Int) = (k : Int) := by simp [IntKind.wrap, IntKind.bits, IntKind.signed]; omega
 have hk0 : ¬ k = 0 := by omega
 have q1 : ¬ ((k : Int) < 0) := by omega
 have q2 : ¬ (281474976710656 < (k : Int) * 8) := by omega
 have q3 : ¬ (9223372036854775807 < (i : Int) + (k : Int)) := by omega
 have q4 : ¬ ((k : Int) ≤ 0) := by omega
 have q5 : max (k : Int) 0 = (k : Int) := by omega
 have q6 : ¬ k ≤ 0 := by omega
 simp [Builtin.append_, run_underlying Tryz.underlying27, run_underlying Tryz.underlying3, sizeOf, typeInfo, zeroValue, h1, h2, h3, h4, hn', h48', Question.forced, hfo, newRow, grownCap, hw, q1, q2, q3, hk0, q4, q5, q6, asInt, asIntOf, Value.cells]
section
variable {ops : Array Oper} {rest : List Oper} {op : Oper} {a : Act} {w : World} {Q : Exit → Act → World → Prop}
theorem wpList_appZ (hgd : op.guard = none) (s x : Operand) (ho : op.op = .call { callee := .builtin .append, args := #[s, x], argTypes := #[27, 3] }) (b i n k : Nat) (z : Int) (olds : List Value) (hs : a.eval s = .slice (some ⟨b, 0, none⟩) i n) (hx : a.eval x = .int .i64 z) (hz : z = (k : Int))
  (hlo : olds.length = i) (holds : ∀ j v, olds[j]? = some v → w.cell? ((⟨b, 0, none⟩ : Addr).add j) = some v) (hg : n < i + k) (hk : 0 < k) (hs2 : i + k ≤ 1000000) (hn : n ≤ 1000000)
  (h : ∀ cap cur, i + k ≤ cap → cap ≤ maxLen → cur.size = cap → cur.toList.take i = olds → wpList Tryz.prog ops Q rest (a.put op.dst (.slice (some ⟨w.heap.size, 0, none⟩) (i + k) cap)) (w.drew.alloc (.cells cur 3))) : wpList Tryz.prog ops Q (op :: rest) a w := by
 subst hz
 refine wpList_plain hgd fun K hK => ?_
 have hr := run_append_zeros w op.type b i n k olds hlo holds hg hk hs2 hn
 have hge := grownCap_ge w (i + k) n 3
 have hle := grownCap_le_maxLen w (i + k) n 3 (by unfold maxLen; omega)
 unfold Oper.wp execOp
 simp only [ho, resolve, invoke, builtin, Sem.run_bind, Sem.run_pure, Result.andThen_ok, List.map_toArray, List.map_cons, List.map_nil, hs, hx, hr]
 refine hK _ _ (h _ _ hge hle ?_ ?_)
 ·simp only [Array.size_append, List.size_toArray, size_zeroCells, hlo]
  simp
  omega
 ·simp only [Array.toList_append, List.append_assoc]
  rw [← hlo]
  exact List.take_left
theorem wpList_cpN (hgd : op.guard = none) (s x : Operand) (ho : op.op = .call { callee := .builtin .copy, args := #[s, x], argTypes := #[27, 27] }) (g o dl dc sl sc : Nat) (ad : Addr) (cur : Array Value) (cs : List Value) (hs : a.eval s = .slice (some ⟨g, o, none⟩) dl dc) (hx : a.eval x = .slice (some ad) sl sc)
  (hr : Row w g 3 cur) (hn : cs.length = Nat.min sl dl) (hsrc : ∀ j v, cs[j]? = some v → w.cell? (ad.add j) = some v) (hfit : o + cs.length ≤ cur.size) (h1 : ∀ v ∈ cs, v.oneCell' = true)
  (h : ∀ cur', cur' = (cur.toList.take o ++ cs ++ cur.toList.drop (o + cs.length)).toArray → wpList Tryz.prog ops Q rest (a.put op.dst (goInt cs.length)) (w.setRow g cur')) : wpList Tryz.prog ops Q (op :: rest) a w := by
 obtain ⟨i, i1, i2, i3, i4⟩ := info3N
 have hrun := run_copy_row (P := Tryz.prog) w 27 27 op.type 3 g o dl dc ad sl sc cur 3 cs Tryz.underlying27 (by rw [i1]; simp [i3]) hr hn hsrc hfit h1
 refine wpList_plain hgd fun K hK => ?_
 unfold Oper.wp execOp
 simp only [ho, resolve, invoke, builtin, Sem.run_bind, Sem.run_pure, Result.andThen_ok, List.map_toArray, List.map_cons, List.map_nil, hs, hx, hrun]
 exact hK _ _ (h _ rfl)
end
theorem insert_mid (b q n ii : Nat) (d : List Int) (c : Int) (w : World) (hd : d.length = n) (hn : n ≤ 100000) (hi : ii < n) (hc : ∀ j, j < n → w.cell? ⟨b, j, none⟩ = some (.int .i64 (d.getD j 0))) (hbq : b < w.heap.size ∧ q < w.heap.size) (hq : w.cell? ⟨q, 0, none⟩ = some (.int .i64 c)) :
  Calls Tryz.prog 142 #[.slice (some ⟨b, 0, none⟩) n n, .int .i64 (ii : Int), .slice (some ⟨q, 0, none⟩) 1 1] w fun e w' => ∃ v, e = .returned v ∧ OwnN w.heap.size w' v (d.take ii ++ c :: d.drop ii) ∧ Below w.heap.size w w' := by
 obtain ⟨k, hk⟩ : ∃ k, k = n + 1 - ii := ⟨_, rfl⟩
 have kz : Box' ((n : Int) + 1 - (ii : Int) = (k : Int)) := ⟨by omega⟩
 have k1 : n < ii + k := by omega
 have k2 : 0 < k := by omega
 have k3 : ii + k ≤ 1000000 := by omega
 have k4 : n ≤ 1000000 := by omega
 have hlo : Box' (((d.take ii).map (Value.int .i64)).length = ii) := ⟨by simp; omega⟩
 have CO : Box' (∀ j v, ((d.take ii).map (Value.int .i64))[j]? = some v → w.cell? ((⟨b, 0, none⟩ : Addr).add j) = some v) := ⟨fun j v hv => by
  have hj : j < ii := by have := (List.getElem?_eq_some_iff.1 hv).1; simp at this; omega
  rw [Addr.add_mid, Nat.zero_add, hc j (by omega), ← hv]
  rw [List.getElem?_map, List.getElem?_take, if_pos hj, List.getElem?_eq_getElem (by omega), List.getD_eq_getElem?_getD, List.getElem?_eq_getElem (by omega)]
  rfl⟩
 have CD : Box' (∀ wx, Below w.heap.size w wx → ∀ j v, ((d.drop ii).map (Value.int .i64))[j]? = some v → wx.cell? ((⟨b, ii, none⟩ : Addr).add j) = some v) := ⟨fun wx hb j v hv => by
  have hj : j < n - ii := by have := (List.getElem?_eq_some_iff.1 hv).1; simp at this; omega
  rw [Addr.add_mid, hb.cell (p := ⟨b, ii + j, none⟩) hbq.1, hc (ii + j) (by omega), ← hv]
  rw [List.getElem?_map, List.getElem?_drop, List.getElem?_eq_getElem (by omega), List.getD_eq_getElem?_getD, List.getElem?_eq_getElem (by omega)]
  rfl⟩
 have CQ : Box' (∀ wx, Below w.heap.size w wx → ∀ j v, ([Value.int .i64 c] : List Value)[j]? = some v → wx.cell? ((⟨q, 0, none⟩ : Addr).add j) = some v) := ⟨fun wx hb j v hv => by
  have hj : j = 0 := by have := (List.getElem?_eq_some_iff.1 hv).1; simp at this; omega
  subst hj
  rw [Addr.add_mid, Nat.zero_add, hb.cell (p := ⟨q, 0, none⟩) hbq.2, hq, ← hv]
  rfl⟩
 have HD := Box'.mk hd
 have HK := Box'.mk hk
 have LL : Box' ((d.take ii ++ c :: d.drop ii).length = n + 1) := ⟨by simp; omega⟩
 have LN : Box' (((d.drop ii).map (Value.int .i64)).length = Nat.min (n - ii) (n - ii)) := ⟨by simp [hd]⟩
 clear hd hc hq hbq hk
 go_enter Tryz.func142, Tryz.ntmps142
 have neq : ¬ (ii : Int) = (n : Int) := by omega
 go_upto_region 10 with (first
  | (refine wpList_slice rfl 27 (.tmp 10) (some (.tmp 11)) none none rfl (.slice (some ⟨b, 0 + ii, none⟩) (n - ii) (n - ii)) ?_ ?_; · exact run_cutN b 0 n n ii (by omega) (by omega) (by omega) _)
  | (refine wpList_slice rfl 27 (.tmp 32) none (some (.tmp 33)) none rfl (.slice (some ⟨b, 0, none⟩) ii n) ?_ ?_; · exact run_cutNh b 0 n n ii (by omega) (by omega) _)
  | (refine wpList_appZ rfl (.tmp 34) (.tmp 39) rfl b ii n k _ ((d.take ii).map (Value.int .i64)) rfl rfl kz.out hlo.out CO.out k1 k2 k3 k4 ?_; intro cap cur0 q1 q2 q3 q4))
 have R1 : Box' (Row (w.alloc (.cells cur0 3)).drew w.heap.size 3 cur0) := ⟨(Row.new w 3 cur0).drew⟩
 have T1 : Box' (Below w.heap.size w (w.alloc (.cells cur0 3)).drew) := ⟨((Below.refl w.heap.size w).alloc (Nat.le_refl _) _).drew⟩
 generalize (w.alloc (.cells cur0 3)).drew = w1 at *
 have HG : Box' (w.heap.size ≤ w.heap.size) := ⟨Nat.le_refl _⟩
 have HM := Box'.mk q2
 have E0 := Box'.mk q4
 have hfit0 : Box' (ii + ([Value.int .i64 c] : List Value).length ≤ cur0.size) := ⟨by simp; omega⟩
 have mn : Box' (([Value.int .i64 c] : List Value).length = Nat.min 1 k) := ⟨by simp only [List.length_singleton]; exact (Nat.min_eq_left k2).symm⟩
 have ON : Box' (∀ v ∈ ([Value.int .i64 c] : List Value), v.oneCell' = true) := ⟨fun v hv => by rw [List.mem_singleton.1 hv]; rfl⟩
 have CQ1 := Box'.mk (CQ.out _ T1.out)
 have Q3 := Box'.mk q3
 clear q2 q3 q4 CQ
 go_upto_region 11 with (first
  | (refine wpList_slice rfl 27 (.tmp 41) (some (.tmp 42)) none none rfl (.slice (some ⟨w.heap.size, 0 + ii, none⟩) (ii + k - ii) (cap - ii)) ?_ ?_; · exact run_cutN w.heap.size 0 (ii + k) cap ii (by omega) (by omega) (by omega) _)
  | (refine wpList_cpN rfl (.tmp 43) (.tmp 44) rfl w.heap.size ii k (cap - ii) 1 1 ⟨q, 0, none⟩ cur0 [.int .i64 c] rfl rfl R1.out mn.out CQ1.out hfit0.out ON.out ?_; intro cur1 hcur1))
 have R2 : Box' (Row (w1.setRow w.heap.size cur1) w.heap.size 3 cur1) := ⟨R1.out.setRow _⟩
 have T2 : Box' (Below w.heap.size w (w1.setRow w.heap.size cur1)) := ⟨below_setRow T1.out (Nat.le_refl _) _⟩
 have E1 : Box' (cur1.toList.take (ii + 1) = (d.take ii).map (Value.int .i64) ++ [.int .i64 c]) := ⟨by
  rw [hcur1, E0.out, List.toList_toArray]
  have hl : ((d.take ii).map (Value.int .i64) ++ [Value.int .i64 c]).length = ii + 1 := by rw [List.length_append, hlo.out]; rfl
  rw [← hl]
  exact List.take_left⟩
 have S1 : Box' (cur1.size = cap) := ⟨by
  have q3 := Q3.out
  rw [hcur1]
  simp only [List.size_toArray, List.length_append, List.length_take, List.length_drop, Array.length_toList, List.length_singleton]
  omega⟩
 have LF : Box' (ii + 1 + ((d.drop ii).map (Value.int .i64)).length ≤ cur1.size) := ⟨by rw [S1.out]; simp [HD.out]; omega⟩
 clear hcur1 R1 T1 CQ1 hfit0 mn E0 Q3
 generalize (w1.setRow w.heap.size cur1) = w2 at *
 refine wp_region_walk 8 (by kernel_rfl) (by kernel_rfl) (fun D f wa => (Below w2.heap.size w2 wa) ∧ ∀ i, D i = true → (fun kc => kc == 999) i = false → f i = (fun kc => match kc with
   | 0 => .slice (some ⟨w.heap.size, 0, none⟩) (ii + k) cap
   | 1 => .int .i64 (ii : Int)
   | 2 => .int .i64 1
   | 3 => .int .i64 ((ii + 1 : Nat) : Int)
   | 4 => .slice (some ⟨w.heap.size, ii + 1, none⟩) (n - ii) (cap - (ii + 1))
   | 5 => .slice (some ⟨b, 0, none⟩) n n
   | 6 => .int .i64 (ii : Int)
   | 7 => .slice (some ⟨b, ii, none⟩) (n - ii) (n - ii)
   | _ => undef) i) ?_ ?_ ?_
 ·exact fun f => ⟨bR.drew, fun i h => by cases h⟩
 ·refine ⟨?a0, ?a1, ?a2, ?a3, ?a4, ?a5, ?a6, ?a7, trivial⟩
  all_goals intro D f wq hJ hD hd KK hK
  all_goals have G := fun j h h2 => hJ.2 j (hd j h) h2
  all_goals simp (disch := decide +kernel) only [tkS, tkZ, setAll, siB, stS, stZ, Nat.zero_add, Nat.reduceAdd, G] at hK ⊢
  case a3 =>
   refine wp_of_quiet rfl ?_
   go_big_quiet_step (fail)
   exact wpQuiet_nil (hK _ _ ⟨hJ.1, vals_upd hJ.2 (.inr (congrArg (Value.int .i64) (by omega)))⟩)
  case a4 =>
   have hc4 := run_cutN w.heap.size 0 (ii + k) cap (ii + 1) (by omega) (by omega) (by omega) wq
   rw [Nat.zero_add, show ii + k - (ii + 1) = n - ii by have := HK.out; omega] at hc4
   exact wp_val (.slice (some ⟨w.heap.size, ii + 1, none⟩) (n - ii) (cap - (ii + 1))) (slice_op 27 (.tmp 46) (some (.tmp 49)) none none rfl _ _ hc4) (hK _ _ ⟨hJ.1, vals_upd hJ.2 (.inr rfl)⟩)
  case a7 =>
   have hc4 := run_cutN b 0 n n ii (by omega) (by omega) (by omega) wq
   rw [Nat.zero_add] at hc4
   exact wp_val (.slice (some ⟨b, ii, none⟩) (n - ii) (n - ii)) (slice_op 27 (.tmp 51) (some (.tmp 52)) none none rfl _ _ hc4) (hK _ _ ⟨hJ.1, vals_upd hJ.2 (.inr rfl)⟩)
  all_goals (refine wp_of_quiet rfl ?_; go_big_quiet_step (fail); exact wpQuiet_nil (hK _ _ ⟨hJ.1, vals_upd hJ.2 (.inr rfl)⟩))
 ·intro D f wz hD hJ
  have hW := hJ.1
  have P := fun j h h2 => hJ.2 j (hD j h) h2
  clear hJ hD
  simp (disch := decide) only [tkS, tkZ, List.drop_succ_cons, List.drop_zero, setAll, siB, stS, stZ, Nat.zero_add, Nat.reduceAdd, P]
  clear P
  have RZ := Box'.mk (R2.out.below hW R2.out.lt)
  have TZ : Box' (Below w.heap.size w wz) := ⟨T2.out.trans (hW.mono T2.out.size)⟩
  have CZ : Box' (∀ j v, ((d.drop ii).map (Value.int .i64))[j]? = some v → wz.cell? ((⟨b, ii, none⟩ : Addr).add j) = some v) := ⟨CD.out wz TZ.out⟩
  clear hW R2 T2
  go_wp2_with ((refine wpList_cpN rfl (.tmp 50) (.tmp 53) rfl w.heap.size (ii + 1) (n - ii) (cap - (ii + 1)) (n - ii) (n - ii) ⟨b, ii, none⟩ cur1 ((d.drop ii).map (Value.int .i64)) rfl rfl RZ.out LN.out CZ.out LF.out (one_In _) ?_; intro cur2 hcur2))
  go_wp2_with fail
  go_ret
  have hk2 : ((d.drop ii).map (Value.int .i64)).length = n - ii := by simp [HD.out]
  refine ⟨_, rfl, ⟨?_, .inr ⟨w.heap.size, cap, _, ?_, HG.out, RZ.out.setRow _, ?_, HM.out, ?_, ?_⟩⟩, below_setRow TZ.out HG.out _⟩
  ·simp
  ·rw [LL.out, show ii + k = n + 1 by have := HK.out; omega]; rfl
  ·rw [LL.out]; have := HK.out; omega
  ·have hs := S1.out
   have hd := HD.out
   simp only [List.size_toArray, List.length_append, List.length_take, List.length_drop, List.length_map, Array.length_toList]
   omega
  ·rw [List.toList_toArray, E1.out, LL.out]
   have hl : ((d.take ii).map (Value.int .i64) ++ [Value.int .i64 c] ++ (d.map (Value.int .i64)).drop ii).length = (n + 1) * 1 := by
    simp [HD.out]; omega
   rw [← List.append_assoc, ← hl, List.take_left]
   simp [List.map_drop]
end Go.Proofs.YtlekleeckcdcgaaGreat
