/- A new state put at its place. -/
import Derived.Test.YtikkekdmahdgaaaUe
import Derived.Test.YtikkekdmahdgaaaTh
namespace Go.Proofs.Ytikkekdmahdgaaa
open Go.RowKit Go.BigFrame
set_option linter.unusedSimpArgs false
set_option linter.unusedVariables false
set_option maxRecDepth 100000
set_option maxHeartbeats 4000000

theorem r2_one (l : List Rw) : ∀ u ∈ rows2 l, u.oneCell' = true := by
  intro u hu
  simp only [rows2, List.mem_flatten, List.mem_map] at hu
  obtain ⟨c, ⟨x, _, rfl⟩, hc⟩ := hu
  simp only [r2, List.mem_cons, List.not_mem_nil, or_false] at hc
  rcases hc with rfl | rfl <;> rfl
def OwnN (N : Nat) (w : World) (v : Value) (l : List Rw) : Prop := w.ownsRow N 90 2 v l.length (rows2 l)
theorem OwnN.below {N : Nat} {w w' : World} {v : Value} {l : List Rw} (h : OwnN N w v l) (hb : Below w.heap.size w w') : OwnN N w' v l := by
  refine ⟨h.1, ?_⟩
  rcases h.2 with q | ⟨g, cap, cur, e1, e2, e3, e4⟩
  · exact .inl q
  · exact .inr ⟨g, cap, cur, e1, e2, (hb.block g (Array.getElem?_eq_some_iff.1 e3).1).trans e3, e4⟩
theorem OwnN.less {N M : Nat} {w : World} {v : Value} {l : List Rw} (h : OwnN N w v l) (hM : M ≤ N) : OwnN M w v l := by
  refine ⟨h.1, ?_⟩
  rcases h.2 with q | ⟨g, cap, cur, e1, e2, e3⟩
  · exact .inl q
  · exact .inr ⟨g, cap, cur, e1, Nat.le_trans hM e2, e3⟩
theorem OwnN.nb {N : Nat} {w : World} {v : Value} {l : List Rw} (h : OwnN N w v l) (h0 : 0 < l.length) : ∃ g c, v = .slice (some ⟨g, 0, none⟩) l.length c ∧ l.length ≤ c ∧ N ≤ g ∧ NbR w g l := by
  rcases h.2 with ⟨_, e0⟩ | ⟨g, cap, cur, e1, e2, e3, e4, e5, e6, e7⟩
  · omega
  · have r : Row w g 90 cur := e3
    refine ⟨g, cap, e1, e4, e2, r.lt, fun j u hu => ?_⟩
    have hj := (List.getElem?_eq_some_iff.1 hu).1
    rw [rows2_len] at hj
    rw [r.cell]
    rw [← e7, List.getElem?_take_of_lt hj] at hu
    simpa using hu
/-- A row without room, and one more: a new row. -/
theorem run_anew90 (w : World) (ty : TypeId) (b : Addr) (k : Nat) (olds : List Rw) (hlo : olds.length = k) (holds : ∀ j v, (rows2 olds)[j]? = some v → w.cell? (b.add j) = some v) (a : Addr) (c : Nat) (y : Rw) (hnews : ∀ j v, (rows2 [y])[j]? = some v → w.cell? (a.add j) = some v) (hm : k + 1 ≤ 1048576) :
    ∃ v' w', (Builtin.append_ #[91, 91] ty #[.slice (some b) k k, .slice (some a) 1 c]).run Try.prog w = .ok v' w' ∧ OwnN w.heap.size w' v' (olds ++ [y]) ∧ Below w.heap.size w w' := by
  obtain ⟨i, z, h1, h2, h3, h4⟩ := info90
  have hz : z.cells.size = 2 := by
    have : Try.prog.info? 90 = some i := h1
    have e : i.zero = some z := h2
    have q : ∀ j, Try.prog.info? 90 = some j → j.zero = some (.agg #[.int .u64 0, .string ⟨#[]⟩]) := by
      intro j hj
      have : Try.prog.info? 90 = some _ := rfl
      rw [this] at hj
      injection hj with hj
      subst hj
      rfl
    have := q i h1
    rw [e] at this
    injection this with this
    subst this
    rfl
  refine ⟨_, _, run_append_grow w 91 ty 90 i z Try.under91 h1 h2 b k k (rows2 olds) (by rw [h3, rows2_len, hlo]) holds a 1 c (rows2 [y]) (by rw [h3, rows2_len]; rfl) hnews (by omega) (by omega) (growslice_fits (by omega) (by rw [h4]; omega)), ?_, ((Below.refl _ _).drew).alloc (Nat.le_refl _) _⟩
  refine ⟨rows2_len _, .inr ⟨w.heap.size, _, _, by rw [List.length_append, hlo]; rfl, Nat.le_refl _, heap_alloc_last w.drew _, by rw [List.length_append, hlo]; exact grownCap_ge _ _ _ _, grownCap_le_maxLen _ _ _ _ (by unfold maxLen; omega), ?_, ?_⟩⟩
  · have := grownCap_ge w (k + 1) k 90
    simp only [Array.size_append, List.size_toArray, size_zeroCells, rows2_len, hz, hlo, List.length_singleton]
    omega
  · rw [List.length_append, hlo]
    simp only [Array.toList_append, List.toList_toArray]
    rw [List.take_left' (by simp [rows2_len, hlo]; omega), rows2_app]
theorem run_app90 (w : World) (N : Nat) (hN : N ≤ w.heap.size) (ty : TypeId) (v : Value) (l m : List Rw) (hv : OwnN N w v l) (a : Addr) (c : Nat) (hc : ∀ j u, (rows2 m)[j]? = some u → w.cell? (a.add j) = some u) (hl : l.length + m.length ≤ 1048576) :
    ∃ v' w', (Builtin.append_ #[91, 91] ty #[v, .slice (some a) m.length c]).run Try.prog w = .ok v' w' ∧ OwnN N w' v' (l ++ m) ∧ w.grownBy w' v.ownBlock := by
  obtain ⟨i, z, h1, h2, h3, h4⟩ := info90
  have hz : z.cells.size = 2 := by
    have q : ∀ j, Try.prog.info? 90 = some j → j.zero = some (.agg #[.int .u64 0, .string ⟨#[]⟩]) := by
      intro j hj
      have : Try.prog.info? 90 = some _ := rfl
      rw [this] at hj
      injection hj with hj
      subst hj
      rfl
    have := q i h1
    rw [h2] at this
    injection this with this
    subst this
    rfl
  obtain ⟨v', w', hr, g2, g3, _⟩ := run_append_own (P := Try.prog) w N 91 ty 90 i z 2 24 Try.under91 h1 h2 h3 h4 hz (by decide) v l.length (rows2 l) hv a m.length c (rows2 m) (rows2_len m) hc (r2_one m) (by unfold maxLen; omega) (by omega) hN
  exact ⟨v', w', hr, by unfold OwnN; rw [List.length_append, rows2_app]; exact g2, g3⟩
theorem wp_appV {op : Oper} {a : Act} {w w' : World} {K : Act → World → Prop} {Q : Exit → Act → World → Prop} (v vs vx : Value) (s x : Operand) (ho : op.op = .call { callee := .builtin .append, args := #[s, x], argTypes := #[91, 91] }) (hs : a.eval s = vs) (hx : a.eval x = vx) (hr : (Builtin.append_ #[91, 91] op.type #[vs, vx]).run Try.prog w = .ok v w') (h : K (a.put op.dst v) w') : op.wp Try.prog a w K Q := by
  unfold Oper.wp execOp
  simp only [ho, resolve, invoke, builtin, Sem.run_bind, Sem.run_pure, Result.andThen_ok, List.map_toArray, List.map_cons, List.map_nil, hs, hx, hr]
  exact h
theorem wp_build91 {op : Oper} {a : Act} {w : World} {K : Act → World → Prop} {Q : Exit → Act → World → Prop} (t : Tmp) (ho : op.op = .buildSlice 91 1 #[(0, .tmp t)]) (x y : Value) (hx : a.eval (.tmp t) = .agg #[x, y]) (h : K (a.put op.dst (.slice (some ⟨w.heap.size, 0, none⟩) 1 1)) (w.alloc (.cells #[x, y] 90))) : op.wp Try.prog a w K Q := by
  unfold Oper.wp execOp
  have hx' : a.tmps[t]?.getD undef = .agg #[x, y] := by simpa [Act.eval] using hx
  simp [ho, go_sem, hx']
  exact h
theorem cut_to91 (g n c k : Nat) (hk : k ≤ c) (w : World) : (Instr.sliceAt 91 (.slice (some ⟨g, 0, none⟩) n c) none (some (.int .i64 (k : Int))) (some (.int .i64 (k : Int)))).run Try.prog w = .ok (.slice (some ⟨g, 0, none⟩) k k) w := by
  rw [run_sliceAt_slice w 91 _ _ _ _ (by kernel_rfl), run_slice_hm w 91 _ n c (by kernel_rfl) _ _ _ _ (by omega) (by omega) (by omega), elem90, size90]
  simp only [Result.andThen_ok, Int.toNat_natCast, sliced, Option.map_some, Addr.add_mid, Nat.zero_mul, Nat.zero_add, Nat.sub_zero, ite_self]
theorem cut_from91 (g n c k : Nat) (hk : k ≤ n) (hc : n ≤ c) (w : World) : (Instr.sliceAt 91 (.slice (some ⟨g, 0, none⟩) n c) (some (.int .i64 (k : Int))) none none).run Try.prog w = .ok (.slice (some (if c = k then ⟨g, 0, none⟩ else ⟨g, k * 2, none⟩)) (n - k) (c - k)) w := by
  rw [run_sliceAt_slice w 91 _ _ _ _ (by kernel_rfl), run_slice_l w 91 _ n c (by kernel_rfl) _ _ (by omega) (by omega), elem90, size90]
  simp only [Result.andThen_ok, Int.toNat_natCast, sliced, Option.map_some, Addr.add_mid, Nat.zero_add]
  split <;> rfl
theorem put_any (g n c : Nat) (y : Rw) (l : List Rw) (w : World) (hN : NbR w g l) (hn : l.length = n) (hc : n ≤ c) (hm : n ≤ 1048575) (hR : Rise l) :
    Calls Try.prog 37 #[.slice (some ⟨g, 0, none⟩) n c, .agg #[.int .u64 (y.n.toNat : Int), .string ⟨y.t.toArray⟩]] w fun e w' => ∃ g' c', e = .returned (.slice (some ⟨g', 0, none⟩) (n + 1) c') ∧ n + 1 ≤ c' ∧ w.heap.size ≤ g' ∧ NbR w' g' (putN l y) ∧ Below w.heap.size w w' := by
  obtain ⟨w1, hw1⟩ : ∃ w1, w1 = w.alloc (.cells #[.int .u64 (y.n.toNat : Int), .string ⟨y.t.toArray⟩] 90) := ⟨_, rfl⟩
  have b1 : Below w.heap.size w w1 := by rw [hw1]; exact (Below.refl _ _).alloc (Nat.le_refl _) _
  have r1 : Row w1 w.heap.size 90 #[.int .u64 (y.n.toNat : Int), .string ⟨y.t.toArray⟩] := by rw [hw1]; exact Row.new _ _ _
  have hN1 := hN.below b1
  have fd := find_any g n c y.n l w1 hN1 hn hc (by omega) hR
  have hle : lwN y.n.toNat l ≤ n := hn ▸ lwN_le y.n.toNat l
  have B1 := Box'.mk b1
  have c1 := r1.cell 0
  have HPN : Box' (putN l y = l.take (lwN y.n.toNat l) ++ [y] ++ l.drop (lwN y.n.toNat l)) := ⟨rfl⟩
  have HLL : Box' ((putN l y).length = n + 1) := ⟨by rw [putN_len, hn]⟩
  obtain ⟨ad, had⟩ : ∃ ad : Addr, ad = if c = lwN y.n.toNat l then ⟨g, 0, none⟩ else ⟨g, lwN y.n.toNat l * 2, none⟩ := ⟨_, rfl⟩
  have CU := Box'.mk fun (wa : World) => (cut_from91 g n c (lwN y.n.toNat l) hle hc wa)
  rw [← had] at CU
  have HC1 : Box' (∀ wa, Below w1.heap.size w1 wa → ∀ j v, (rows2 (l.take (lwN y.n.toNat l)))[j]? = some v → wa.cell? ((⟨g, 0, none⟩ : Addr).add j) = some v) := ⟨fun wa hb j v hv => by
    rw [Addr.add_mid, Nat.zero_add]
    refine (hN1.below hb).2 j v ?_
    rw [← rows2_take] at hv
    have := (List.getElem?_eq_some_iff.1 hv).1
    rw [List.length_take] at this
    rwa [List.getElem?_take_of_lt (by omega)] at hv⟩
  have HC2 : Box' (∀ wa, Below w1.heap.size w1 wa → ∀ j v, (rows2 (l.drop (lwN y.n.toNat l)))[j]? = some v → wa.cell? (ad.add j) = some v) := ⟨fun wa hb j v hv => by
    have hj := (List.getElem?_eq_some_iff.1 hv).1
    rw [rows2_len, List.length_drop] at hj
    rw [had, if_neg (by omega), Addr.add_mid]
    refine (hN1.below hb).2 _ v ?_
    rw [← rows2_drop, List.getElem?_drop] at hv
    exact hv⟩
  have HK1 : Box' ((l.take (lwN y.n.toNat l)).length = lwN y.n.toNat l) := ⟨by rw [List.length_take]; omega⟩
  have HK2 : Box' ((l.drop (lwN y.n.toNat l)).length = n - lwN y.n.toNat l) := ⟨by rw [List.length_drop]; omega⟩
  have R1 := Box'.mk r1
  clear hN hn hR hN1 had r1 b1
  obtain ⟨yn, yt, ya⟩ := y
  simp only at *
  generalize hq : lwN yn.toNat l = k at *
  generalize hasN yn.toNat l = hs at *
  clear hq
  have HY : Box' (rows2 [⟨yn, yt, ya⟩] = [.int .u64 (yn.toNat : Int), .string ⟨yt.toArray⟩]) := ⟨rfl⟩
  generalize hyy : Rw.mk yn yt ya = y at *
  clear hyy
  generalize yn.toNat = yn at *
  generalize l.take k = l1 at *
  generalize l.drop k = l2 at *
  go_enter Try.func37, Try.ntmps37
  go_upto_region 1 with (fail)
  rw [← hw1]
  clear hw1
  go_wp2_with fail
  refine fd.mono ?_
  rintro e w2 ⟨rfl, hb⟩
  have B2 := Box'.mk hb
  clear fd c1 hb
  go_upto_region 2 with (fail)
  have CX := Box'.mk fun (wa : World) (hb : Below w2.heap.size w2 wa) => (R1.out.below (B2.out.trans (hb.mono B2.out.size)) R1.out.lt).cell 0
  have CY := Box'.mk fun (wa : World) (hb : Below w2.heap.size w2 wa) => (R1.out.below (B2.out.trans (hb.mono B2.out.size)) R1.out.lt).cell 1
  clear R1
  refine wp_region_grow 10 (by kernel_rfl) (by kernel_rfl) (fun wa wb => Below wa.heap.size wa wb) (fun wa => Below w2.heap.size w2 wa) (fun kc wa v => match kc with
    | 0 => v = .slice (some ⟨g, 0, none⟩) n c
    | 1 => v = .int .i64 (k : Int)
    | 2 => v = .int .i64 (k : Int)
    | 3 => v = .slice (some ⟨g, 0, none⟩) k k
    | 4 => v = .agg #[.int .u64 (yn : Int), .string ⟨yt.toArray⟩]
    | 5 => ∃ bb, v = .slice (some ⟨bb, 0, none⟩) 1 1 ∧ bb < wa.heap.size ∧ ∀ j u, (rows2 [y])[j]? = some u → wa.cell? ⟨bb, j, none⟩ = some u
    | 6 => OwnN w2.heap.size wa v (l1 ++ [y])
    | 7 => v = .slice (some ⟨g, 0, none⟩) n c
    | 8 => v = .int .i64 (k : Int)
    | 9 => v = .slice (some ad) (n - k) (c - k)
    | _ => True) ?_ ?_ ?_ ?_ ?_
  · intro wa wb hb q; exact q.trans (hb.mono q.size)
  · intro kc v wa wb hC1 hb h
    match kc, h with
    | 0, h => exact h
    | 1, h => exact h
    | 2, h => exact h
    | 3, h => exact h
    | 4, h => exact h
    | 5, h => exact let ⟨bb, e1, e2, e3⟩ := h; ⟨bb, e1, Nat.lt_of_lt_of_le e2 hb.size, fun j u hu => (hb.cell (p := ⟨bb, j, none⟩) e2).trans (e3 j u hu)⟩
    | 6, h => exact OwnN.below h hb
    | 7, h => exact h
    | 8, h => exact h
    | 9, h => exact h
    | kc + 10, h => trivial
  · exact (Below.refl _ _).drew
  · refine ⟨?_, ?_, ?_, ?_, ?_, ?_, ?_, ?_, ?_, ?_, trivial⟩
    · intro f wq hC hd KK hK
      simp only [List.take_succ_cons, List.take_zero, setAll, List.setIfInBounds_toArray, List.set_cons_succ, List.set_cons_zero, Nat.zero_add, Nat.reduceAdd] at hK ⊢
      refine wp_of_quiet rfl ?_
      go_big_quiet_step (fail)
      exact wpQuiet_nil (hK _ _ rfl (Below.refl _ _))
    · intro f wq hC hd KK hK
      simp only [List.take_succ_cons, List.take_zero, setAll, List.setIfInBounds_toArray, List.set_cons_succ, List.set_cons_zero, Nat.zero_add, Nat.reduceAdd] at hK ⊢
      refine wp_of_quiet rfl ?_
      go_big_quiet_step (fail)
      exact wpQuiet_nil (hK _ _ rfl (Below.refl _ _))
    · intro f wq hC hd KK hK
      simp only [List.take_succ_cons, List.take_zero, setAll, List.setIfInBounds_toArray, List.set_cons_succ, List.set_cons_zero, Nat.zero_add, Nat.reduceAdd] at hK ⊢
      refine wp_of_quiet rfl ?_
      go_big_quiet_step (fail)
      exact wpQuiet_nil (hK _ _ rfl (Below.refl _ _))
    · intro f wq hC hd KK hK
      have g0 : f 0 = .slice (some ⟨g, 0, none⟩) n c := hd 0 (by kernel_rfl)
      have g1 : f 1 = .int .i64 (k : Int) := hd 1 (by kernel_rfl)
      have g2 : f 2 = .int .i64 (k : Int) := hd 2 (by kernel_rfl)
      simp only [List.take_succ_cons, List.take_zero, setAll, List.setIfInBounds_toArray, List.set_cons_succ, List.set_cons_zero, Nat.zero_add, Nat.reduceAdd, g0, g1, g2] at hK ⊢
      refine wp_valE (.slice (some ⟨g, 0, none⟩) k k) (by have hcu := cut_to91 g n c k (by omega) wq; unfold execOp; simp [Act.eval, hcu]) (hK _ _ rfl (Below.refl _ _))
    · intro f wq hC hd KK hK
      have cx := CX.out wq hC
      have cy := CY.out wq hC
      simp only [List.take_succ_cons, List.take_zero, setAll, List.setIfInBounds_toArray, List.set_cons_succ, List.set_cons_zero, Nat.zero_add, Nat.reduceAdd] at hK ⊢
      refine wp_of_quiet rfl ?_
      go_big_quiet_step (fail)
      exact wpQuiet_nil (hK _ _ rfl (Below.refl _ _))
    · intro f wq hC hd KK hK
      have g4 : f 4 = .agg #[.int .u64 (yn : Int), .string ⟨yt.toArray⟩] := hd 4 (by kernel_rfl)
      simp only [List.take_succ_cons, List.take_zero, setAll, List.setIfInBounds_toArray, List.set_cons_succ, List.set_cons_zero, Nat.zero_add, Nat.reduceAdd, g4] at hK ⊢
      refine wp_build91 18 rfl (.int .u64 (yn : Int)) (.string ⟨yt.toArray⟩) rfl ?_
      exact hK _ _ ⟨_, rfl, by simp, fun j u hu => by rw [(Row.new _ _ _).cell]; rw [HY.out] at hu; simpa using hu⟩ ((Below.refl _ _).alloc (Nat.le_refl _) _)
    · intro f wq hC hd KK hK
      have g3 : f 3 = .slice (some ⟨g, 0, none⟩) k k := hd 3 (by kernel_rfl)
      have q5 := hd 5 (by kernel_rfl)
      simp only at q5
      simp only [List.take_succ_cons, List.take_zero, setAll, List.setIfInBounds_toArray, List.set_cons_succ, List.set_cons_zero, Nat.zero_add, Nat.reduceAdd, g3] at hK ⊢
      obtain ⟨bb, e5, k5, k6⟩ := q5
      simp only [e5] at hK ⊢
      obtain ⟨v', w', hrun, ho', hb'⟩ := run_anew90 wq 91 ⟨g, 0, none⟩ k l1 HK1.out (HC1.out wq (B2.out.trans (hC.mono B2.out.size))) ⟨bb, 0, none⟩ 1 y (fun j v hv => by rw [Addr.add_mid, Nat.zero_add]; exact k6 j v hv) (by omega)
      exact wp_appV v' _ _ (.tmp 17) (.tmp 19) rfl rfl rfl hrun (hK _ _ (ho'.less hC.size) hb')
    · intro f wq hC hd KK hK
      simp only [List.take_succ_cons, List.take_zero, setAll, List.setIfInBounds_toArray, List.set_cons_succ, List.set_cons_zero, Nat.zero_add, Nat.reduceAdd] at hK ⊢
      refine wp_of_quiet rfl ?_
      go_big_quiet_step (fail)
      exact wpQuiet_nil (hK _ _ rfl (Below.refl _ _))
    · intro f wq hC hd KK hK
      simp only [List.take_succ_cons, List.take_zero, setAll, List.setIfInBounds_toArray, List.set_cons_succ, List.set_cons_zero, Nat.zero_add, Nat.reduceAdd] at hK ⊢
      refine wp_of_quiet rfl ?_
      go_big_quiet_step (fail)
      exact wpQuiet_nil (hK _ _ rfl (Below.refl _ _))
    · intro f wq hC hd KK hK
      have g7 : f 7 = .slice (some ⟨g, 0, none⟩) n c := hd 7 (by kernel_rfl)
      have g8 : f 8 = .int .i64 (k : Int) := hd 8 (by kernel_rfl)
      simp only [List.take_succ_cons, List.take_zero, setAll, List.setIfInBounds_toArray, List.set_cons_succ, List.set_cons_zero, Nat.zero_add, Nat.reduceAdd, g7, g8] at hK ⊢
      refine wp_valE (.slice (some ad) (n - k) (c - k)) (by have hcu := CU.out wq; unfold execOp; simp [Act.eval, hcu]) (hK _ _ rfl (Below.refl _ _))
  intro f wq hC hv
  have g0 : f 0 = .slice (some ⟨g, 0, none⟩) n c := hv 0 (by decide)
  have g1 : f 1 = .int .i64 (k : Int) := hv 1 (by decide)
  have g2 : f 2 = .int .i64 (k : Int) := hv 2 (by decide)
  have g3 : f 3 = .slice (some ⟨g, 0, none⟩) k k := hv 3 (by decide)
  have g4 : f 4 = .agg #[.int .u64 (yn : Int), .string ⟨yt.toArray⟩] := hv 4 (by decide)
  have g7 : f 7 = .slice (some ⟨g, 0, none⟩) n c := hv 7 (by decide)
  have g8 : f 8 = .int .i64 (k : Int) := hv 8 (by decide)
  have g9 : f 9 = .slice (some ad) (n - k) (c - k) := hv 9 (by decide)
  have o6 := hv 6 (by decide)
  simp only at o6
  simp only [List.take_succ_cons, List.take_zero, List.drop_succ_cons, List.drop_zero, setAll, List.setIfInBounds_toArray, List.set_cons_succ, List.set_cons_zero, Nat.zero_add, Nat.reduceAdd, g0, g1, g2, g3, g4, g7, g8, g9]
  generalize f 5 = x5 at *
  generalize f 6 = x6 at *
  clear g0 g1 g2 g3 g4 g7 g8 g9 hv
  have bq := B2.out.trans (hC.mono B2.out.size)
  obtain ⟨v', w', hrun, ho', hg'⟩ := run_app90 wq w2.heap.size hC.size 91 x6 (l1 ++ [y]) l2 o6 ad (c - k) (HC2.out wq bq) (by rw [List.length_append, HK1.out, HK2.out]; simp; omega)
  rw [HK2.out] at hrun
  have HR := Box'.mk hrun
  have b9 : Below w.heap.size w w' := (B1.out.trans (bq.mono B1.out.size)).grown hg' (Nat.le_trans B1.out.size bq.size) (fun j hj => Nat.le_trans (Nat.le_trans B1.out.size B2.out.size) (World.ownsRow.lt o6 j hj).1)
  obtain ⟨gg, cc, ev, q1, q2, q3⟩ := ho'.nb (by simp; omega)
  have hlen : (l1 ++ [y] ++ l2).length = n + 1 := by rw [← HPN.out, HLL.out]
  rw [hlen] at ev q1
  subst ev
  have B9 := Box'.mk b9
  have N9 : Box' (NbR w' gg (putN l y)) := ⟨by rw [HPN.out]; exact q3⟩
  have G9 : Box' (n + 1 ≤ cc ∧ w.heap.size ≤ gg) := ⟨q1, Nat.le_trans (Nat.le_trans B1.out.size B2.out.size) q2⟩
  clear bq hrun ho' hg' b9 q1 q2 q3 o6 hC hlen CX CY CU HC1 HC2 HK1 HK2 B1 B2 HPN HLL HY
  go_wp2_with (refine wpList_plain rfl fun K hK => ?_
               refine wp_appV _ _ _ (.tmp 20) (.tmp 23) rfl rfl rfl HR.out ?_
               refine hK _ _ ?_
               clear HR)
  go_ret
  exact ⟨gg, cc, rfl, G9.out.1, G9.out.2, N9.out, B9.out⟩
end Go.Proofs.Ytikkekdmahdgaaa
