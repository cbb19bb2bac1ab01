/- Lists of bytes put one behind the other: the walk of joined. -/
import Derived.Test.YtepepoabbbjmgaaKb
namespace Go.Proofs.Ytepepoabbbjmgaa
open Go.RowKit Go.BigFrame
set_option linter.unusedSimpArgs false
set_option linter.unusedVariables false

/-- The slice v has the lists of bytes ps: each to be read. -/
def Bss (N : Nat) (w : World) (v : Value) (ps : List (List UInt8)) : Prop :=
  ∃ a c, v = .slice a ps.length c ∧ ps.length ≤ c ∧ ∀ k, k < ps.length → ∃ b o u, a = some ⟨b, o, none⟩ ∧ b < N ∧ w.cell? ⟨b, o + k, none⟩ = some u ∧ InE N w u (ps.getD k [])
theorem Bss.below {N M : Nat} {w w' : World} {v : Value} {ps : List (List UInt8)} (h : Bss N w v ps) (hb : Below M w w') (hN : N ≤ M) : Bss N w' v ps := by
  obtain ⟨a, c, h1, h2, h3⟩ := h
  refine ⟨a, c, h1, h2, fun k hk => ?_⟩
  obtain ⟨b, o, u, q1, q2, q3, q4⟩ := h3 k hk
  exact ⟨b, o, u, q1, q2, by rw [hb.cell (p := ⟨b, o + k, none⟩) (Nat.lt_of_lt_of_le q2 hN)]; exact q3, q4.below hb hN⟩
def totL (ps : List (List UInt8)) (k : Nat) : Nat := ((ps.take k).flatten).length
theorem flat_step (ps : List (List UInt8)) (k : Nat) (h : k < ps.length) : (ps.take (k + 1)).flatten = (ps.take k).flatten ++ ps.getD k [] := by
  rw [List.take_add_one, List.getElem?_eq_getElem h, show ps.getD k [] = ps[k] by simp [h]]
  simp only [Option.toList, List.flatten_append, List.flatten_cons, List.flatten_nil, List.append_nil]
theorem totL_step (ps : List (List UInt8)) (k : Nat) (h : k < ps.length) : totL ps (k + 1) = totL ps k + (ps.getD k []).length := by
  unfold totL; rw [flat_step ps k h, List.length_append]
theorem totL_le (ps : List (List UInt8)) (k : Nat) : totL ps k ≤ ps.flatten.length := by
  unfold totL
  have e : ps.flatten = (ps.take k).flatten ++ (ps.drop k).flatten := by rw [← List.flatten_append, List.take_append_drop]
  rw [e, List.length_append]; omega
theorem totL_all (ps : List (List UInt8)) (k : Nat) (h : k = ps.length) : (ps.take k).flatten = ps.flatten := by rw [h, List.take_length]
theorem madeB (n : Nat) : madeCells #[.int .u8 0] n = ag (List.replicate n 0) := by
  unfold ag madeCells
  apply Array.ext'
  simp only [List.map_replicate, Array.toList_map, Array.toList_range]
  apply List.ext_getElem
  · simp
  · intro i h1 h2
    have : i % (#[Value.int .u8 0] : Array Value).size = 0 := Nat.mod_one i
    simp only [List.getElem_map, List.getElem_range, List.getElem_replicate, this]
    rfl
theorem infoB : ∃ i, Try.prog.info? 5 = some i ∧ i.zero = some (.int .u8 0) ∧ i.size = 1 ∧ i.bytes = 1 := ⟨_, rfl, rfl, rfl, rfl⟩
/-- so many bytes are made -/
theorem wpList_makeB {ops : Array Oper} {rest : List Oper} {op : Oper} {a : Act} {w : World} {Q : Exit → Act → World → Prop}
    (hgd : op.guard = none) (x y : Operand) (ho : op.op = .makeSlice 23 x y) (L C : Int) (n : Nat) (hx : a.eval x = .int .i64 L) (hy : a.eval y = .int .i64 C) (hL : L = (n : Int)) (hC : C = (n : Int)) (hn : n ≤ 140737488355328)
    (h : wpList Try.prog ops Q rest (a.put op.dst (.slice (some ⟨w.heap.size, 0, none⟩) n n)) (w.alloc (.cells (ag (List.replicate n 0)) 5))) : wpList Try.prog ops Q (op :: rest) a w := by
  obtain ⟨i, h1, h2, h3, h4⟩ := infoB
  have hrun := run_make (P := Try.prog) w 23 5 i _ Try.underlying23 h1 h2 .i64 .i64 (n : Int) (n : Int) (by omega) (Int.le_refl _) (by rw [h4]; omega) (by omega)
  rw [h3, Int.toNat_natCast, Nat.mul_one, show (Value.int .u8 0).cells = #[.int .u8 0] from rfl, madeB] at hrun
  refine wpList_plain hgd fun K hK' => ?_
  subst hL hC
  unfold Oper.wp
  simp only [execOp, ho, hx, hy, Sem.run_bind, hrun, Result.andThen_ok]
  exact hK' _ _ h
theorem wpList_cut {ops : Array Oper} {rest : List Oper} {op : Oper} {a : Act} {w : World} {Q : Exit → Act → World → Prop} (hgd : op.guard = none) (t : TypeId) (x : Operand) (lo hi mx : Option Operand) (ho : op.op = .slice t x lo hi mx) (v : Value)
    (h : (Instr.sliceAt t (a.eval x) (lo.map a.eval) (hi.map a.eval) (mx.map a.eval)).run Try.prog w = .ok v w) (hk : wpList Try.prog ops Q rest (a.put op.dst v) w) : wpList Try.prog ops Q (op :: rest) a w := by
  refine wpList_plain hgd fun K hK => ?_
  unfold Oper.wp execOp
  simp only [ho, Sem.run_bind, h, Result.andThen_ok, Sem.run_pure]
  exact hK _ _ hk
theorem sizeB (w : World) : (sizeOf 5).run Try.prog w = .ok 1 w := by
  obtain ⟨i, h1, _, h2, _⟩ := infoB
  simp [sizeOf, typeInfo, h1, h2]
theorem elemB : Try.prog.elem 23 = 5 := by kernel_rfl
theorem cut_from (g T k : Nat) (h : k ≤ T) (w : World) : ∃ dp, (Instr.sliceAt 23 (.slice (some ⟨g, 0, none⟩) T T) (some (.int .i64 (k : Int))) none none).run Try.prog w = .ok (.slice dp (T - k) (T - k)) w ∧ (0 < T - k → dp = some ⟨g, k, none⟩) := by
  refine ⟨if T = k then some ⟨g, 0, none⟩ else some ⟨g, k, none⟩, ?_, fun h => if_neg (by omega)⟩
  rw [run_sliceAt_slice w 23 _ _ _ _ (by kernel_rfl), run_slice_l w 23 _ T T (by kernel_rfl) _ _ (by omega) (by omega), elemB, sizeB]
  simp only [Result.andThen_ok, Int.toNat_natCast, sliced, Option.map_some, Addr.add_mid, Nat.zero_add, Nat.mul_one]
theorem cut_to (g T k : Nat) (h : k ≤ T) (w : World) : (Instr.sliceAt 23 (.slice (some ⟨g, 0, none⟩) T T) none (some (.int .i64 (k : Int))) (some (.int .i64 (k : Int)))).run Try.prog w = .ok (.slice (some ⟨g, 0, none⟩) k k) w := by
  rw [run_sliceAt_slice w 23 _ _ _ _ (by kernel_rfl), run_slice_hm w 23 _ T T (by kernel_rfl) _ _ _ _ (by omega) (by omega) (by omega), elemB, sizeB]
  simp only [Result.andThen_ok, Int.toNat_natCast, sliced]
  by_cases hk : k = 0 <;> simp [hk, Addr.add]
theorem splice_fill (D p : List UInt8) (m : Nat) (h : p.length ≤ m) : splice ((D ++ List.replicate m 0).map B) D.length (p.map B) = ((D ++ p) ++ List.replicate (m - p.length) 0).map B := by
  have e : (D ++ List.replicate m (0 : UInt8)).drop (D.length + p.length) = List.replicate (m - p.length) 0 := by
    rw [← List.drop_drop, List.drop_left, List.drop_replicate]
  unfold splice
  rw [List.length_map, ← List.map_take, ← List.map_drop, ← List.map_append, ← List.map_append, e, List.take_left, List.append_assoc]
theorem wpList_copyB {ops : Array Oper} {rest : List Oper} {o : Oper} {a : Act} {w : World} {Q : Exit → Act → World → Prop} (hgd : o.guard = none) (d s : Operand)
    (ho : o.op = .call { callee := .builtin .copy, args := #[d, s], argTypes := #[23, 23] }) (dp : Option Addr) (m : Nat) (vs : Value) (D p : List UInt8) (g N : Nat) (hd : a.eval d = .slice dp m m) (hs : a.eval s = vs) (hdp : 0 < m → dp = some ⟨g, D.length, none⟩)
    (hi : InE N w vs p) (hpm : p.length ≤ m) (hg : Row w g 5 (ag (D ++ List.replicate m 0))) (B0 : Nat) (w0 : World) (hb : Below B0 w0 w) (hBg : B0 ≤ g)
    (h : ∀ w', Row w' g 5 (ag ((D ++ p) ++ List.replicate (m - p.length) 0)) → Below B0 w0 w' → wpList Try.prog ops Q rest (a.put o.dst (.int .i64 (p.length : Int))) w') : wpList Try.prog ops Q (o :: rest) a w := by
  obtain ⟨sp, sc, rfl, _⟩ := hi.slice
  refine wpList_copy_splice hgd d s 23 23 ho 5 Try.underlying23 (by kernel_rfl) dp sp m m p.length sc hd hs g D.length ((D ++ List.replicate m 0).map B) 5 (show w.heap[g]? = some (.cells (ag (D ++ List.replicate m 0)) 5 (0, 0)) from hg) (p.map B) (by rw [List.length_map]; exact (Nat.min_eq_left hpm).symm) ?_ (by simp; omega) ?_ B0 w0 hb hBg ?_
  · intro hp
    rw [List.length_map] at hp
    refine ⟨hdp (by omega), ?_⟩
    rcases hi with ⟨e, rfl⟩ | ⟨ad, c, e, h2, h3, h4⟩
    · simp at hp
    · injection e with e1 _ _
      exact ⟨ad, e1, h4⟩
  · intro v hv
    obtain ⟨x, _, rfl⟩ := List.mem_map.1 hv
    rfl
  · intro w' h1 h2
    rw [splice_fill D p m hpm] at h1
    have e := h w' h1 h2
    simpa [goInt] using e
theorem Row.ownL {N : Nat} {w : World} {g : Nat} {D : List UInt8} (h : Row w g 5 (ag D)) (hN : N ≤ g) (hl : D.length ≤ 140737488355328) : OwnB N w (.slice (some ⟨g, 0, none⟩) D.length D.length) D :=
  ⟨by simp, .inr ⟨g, D.length, _, rfl, hN, h, Nat.le_refl _, by unfold maxLen; omega, by simp [ag], by simp [ag, List.take_of_length_le]⟩⟩

set_option maxRecDepth 100000 in
set_option maxHeartbeats 4000000 in
theorem joined_any (N : Nat) (w : World) (v : Value) (ps : List (List UInt8)) (hN : N ≤ w.heap.size) (h : Bss N w v ps) (hps : ps.length ≤ 1048576) (hm : ps.flatten.length ≤ 140737488355328) :
    Calls Try.prog 15 #[v] w fun e w' => ∃ u, e = .returned u ∧ OwnB w.heap.size w' u ps.flatten ∧ Below w.heap.size w w' := by
  have AT := Box'.mk (fun w1 (hb : Below w.heap.size w w1) => h.below hb hN)
  have TS := Box'.mk (totL_step ps)
  have TL := Box'.mk (totL_le ps)
  have FS := Box'.mk (flat_step ps)
  have FA := Box'.mk (totL_all ps)
  have TD : Box' (∀ k, totL ps k = ((ps.take k).flatten).length) := ⟨fun k => rfl⟩
  have T0 : Box' (totL ps 0 = 0) := ⟨by simp [totL]⟩
  have F0 : Box' ((ps.take 0).flatten = []) := ⟨by simp⟩
  obtain ⟨a, c, rfl, hc, _⟩ := h
  generalize hn : ps.length = n at *
  have HN := Box'.mk hn
  clear hn
  generalize hT : ps.flatten.length = T at *
  have HT := Box'.mk hT
  clear hT
  go_enter Try.func15, Try.ntmps15
  go_wp2_with fail
  go_loopw [3, 12] (fun s i wr => ∃ k : Nat, s = .int .i64 (totL ps k : Int) ∧ i = .int .i64 (k : Int) ∧ k ≤ n ∧ Box' (Below w.heap.size w wr)) (fun _ i _ => n - (intOf i).toNat)
  case atStart => exact ⟨0, by rw [T0.out]; rfl, rfl, Nat.zero_le _, ⟨Below.refl _ _⟩⟩
  case round =>
    obtain ⟨k, rfl, rfl, hk, BB⟩ := hrel
    by_cases hlt : k < n
    · obtain ⟨a', c', e, _, H3⟩ := AT.out wr BB.out
      obtain ⟨b, o, u, q1, q2, q3, q4⟩ := H3 k (by rw [HN.out]; exact hlt)
      injection e with e1 e3 e2
      clear e3 H3
      subst e2
      rw [q1] at e1
      subst e1
      obtain ⟨ax, cx, rfl, _⟩ := q4.slice
      have ts := TS.out k (by first | exact hlt | (rw [HN.out]; exact hlt))
      have t1 := TL.out (k + 1)
      have TT : Box' (totL ps (k + 1) = totL ps k + (ps.getD k []).length) := ⟨ts⟩
      clear q4 q1 AT TS TL FS FA TD T0 F0 HT
      rw [ts] at t1
      clear ts
      generalize totL ps k = A at *
      generalize (ps.getD k []).length = L at *
      go_wp2_with fail
      exact ⟨⟨k + 1, by rw [TT.out]; go_num, by go_num, by omega, BB⟩, by simp [intOf]; omega⟩
    · obtain rfl : n = k := by omega
      have tn : totL ps n = T := by have := TD.out n; rw [FA.out n (by first | rfl | exact HN.out.symm)] at this; rw [this]; exact HT.out
      rw [tn]
      have gw : w.heap.size ≤ wr.heap.size := BB.out.size
      have R0 := Box'.mk (Row.new wr 5 (ag (List.replicate T 0)))
      have B0 := Box'.mk (BB.out.alloc gw (.cells (ag (List.replicate T 0)) 5))
      clear tn BB hk hlt
      go_wp2_with (refine wpList_makeB rfl (.tmp 21) (.tmp 21) rfl T T T rfl rfl rfl rfl hm ?_; generalize wr.alloc (.cells (ag (List.replicate T 0)) 5) = w1 at *; generalize wr.heap.size = g at *)
      go_loopw [7, 25] (fun s i wq => ∃ k : Nat, s = .int .i64 (totL ps k : Int) ∧ i = .int .i64 (k : Int) ∧ k ≤ n ∧ Box' (Row wq g 5 (ag ((ps.take k).flatten ++ List.replicate (T - totL ps k) 0))) ∧ Box' (Below w.heap.size w wq)) (fun _ i _ => n - (intOf i).toNat)
      case atStart => exact ⟨0, by rw [T0.out]; rfl, rfl, Nat.zero_le _, ⟨by rw [F0.out, T0.out]; exact R0.out⟩, B0⟩
      case round =>
        clear R0 B0
        rename World => wq
        obtain ⟨k, rfl, rfl, hk, RR, BB⟩ := hrel
        by_cases hlt : k < n
        · obtain ⟨a', c', e, _, H3⟩ := AT.out wq BB.out
          obtain ⟨b, o, u, q1, q2, q3, q4⟩ := H3 k (by rw [HN.out]; exact hlt)
          injection e with e1 e3 e2
          clear e3 H3
          subst e2
          rw [q1] at e1
          subst e1
          have ts := TS.out k (by first | exact hlt | (rw [HN.out]; exact hlt))
          have t1 := TL.out (k + 1)
          have fs := FS.out k (by first | exact hlt | (rw [HN.out]; exact hlt))
          have TT : Box' (totL ps (k + 1) = totL ps k + (ps.getD k []).length) := ⟨ts⟩
          have td := TD.out k
          have RE : Box' (∀ wz, Row wz g 5 (ag (((ps.take k).flatten ++ ps.getD k []) ++ List.replicate (T - totL ps k - (ps.getD k []).length) 0)) → Row wz g 5 (ag ((ps.take (k + 1)).flatten ++ List.replicate (T - totL ps (k + 1)) 0))) := ⟨fun wz h => by rw [fs, ts, ← Nat.sub_sub]; exact h⟩
          clear q1 AT TS TL FS FA TD T0 F0 HT fs
          rw [ts] at t1
          clear ts
          have hr := RR.out
          clear RR
          generalize (ps.take k).flatten = D at *
          generalize ps.getD k [] = p at *
          generalize totL ps k = A at *
          subst td
          obtain ⟨dp, hcut, hdp⟩ := cut_from g T D.length (by omega) wq
          obtain ⟨ax, cx, rfl, _⟩ := q4.slice
          have bb := BB.out
          have hpm : p.length ≤ T - D.length := by omega
          have Q4 := Box'.mk q4
          clear q4 BB
          generalize hL : p.length = L at *
          go_wp2_with (first
            | (refine wpList_cut rfl 23 (.tmp 30) (some (.tmp 31)) none none rfl _ hcut ?_)
            | (refine wpList_copyB rfl (.tmp 32) (.tmp 33) rfl dp (T - D.length) _ D p g N rfl rfl hdp Q4.out (by omega) hr w.heap.size w bb gw ?_; intro w4 r4 b4; rw [hL] at r4 ⊢; have R4 := Box'.mk (RE.out w4 r4); have B4 := Box'.mk b4; clear r4 b4 hr hcut bb)
            | fail)
          exact ⟨⟨k + 1, by rw [TT.out]; go_num, by go_num, by omega, R4, B4⟩, by simp [intOf]; omega⟩
        · obtain rfl : n = k := by omega
          have tn : totL ps n = T := by have := TD.out n; rw [FA.out n (by first | rfl | exact HN.out.symm)] at this; rw [this]; exact HT.out
          have rr := RR.out
          rw [FA.out n (by first | rfl | exact HN.out.symm), tn, Nat.sub_self, List.replicate_zero, List.append_nil] at rr
          have O2 := rr.ownL gw (by rw [HT.out]; exact hm)
          rw [HT.out] at O2
          have O3 := Box'.mk O2
          clear O2 rr tn RR TS TL FS FA TD T0 F0 HT AT
          go_wp2_with fail
          go_ret
          exact ⟨_, rfl, O3.out, BB.out⟩
end Go.Proofs.Ytepepoabbbjmgaa
