/- The walks of masks and of the closure that it hands back. -/
import Derived.Test.YtmolhljgmaoflaaDoorOg
import Derived.Test.YtmolhljgmaoflaaDoorE
namespace Go.Proofs.YtmolhljgmaoflaaDoor
open Go.RowKit Go.BigFrame

theorem fold_block (l : List UInt8) (h : l.length = 16) : Array.foldl (fun cs x => cs.setIfInBounds x.snd x.fst)
              #[Value.int IntKind.u8 0, Value.int IntKind.u8 0, Value.int IntKind.u8 0, Value.int IntKind.u8 0,
                Value.int IntKind.u8 0, Value.int IntKind.u8 0, Value.int IntKind.u8 0, Value.int IntKind.u8 0,
                Value.int IntKind.u8 0, Value.int IntKind.u8 0, Value.int IntKind.u8 0, Value.int IntKind.u8 0,
                Value.int IntKind.u8 0, Value.int IntKind.u8 0, Value.int IntKind.u8 0, Value.int IntKind.u8 0]
              (ag l).zipIdx 0 16 = ag l := by
  obtain ⟨a0, a1, a2, a3, a4, a5, a6, a7, a8, a9, a10, a11, a12, a13, a14, a15, rfl⟩ := Gf.list16 l h
  simp [ag]
/-- The closure that hands out the L's. -/
def mskFn (mb : Nat) : Value := .func (.func 38) #[] #[.pointer (some ⟨mb, 0, none⟩)]

set_option maxRecDepth 100000 in
set_option maxHeartbeats 1000000 in
theorem masks_any (key : List UInt8) (hkey : key.length = 16) (w : World) :
    Calls Tryd.prog 20 #[.agg (ag key)] w fun e w' => ∃ mb bb, e = .returned (mskFn mb) ∧ Msk mb (Gf.encrypt key (Gf.zeros 16)) w' bb ∧ w.heap.size ≤ mb ∧ w.heap.size ≤ bb ∧ Below w.heap.size w w' := by
  have hE := fun w => encrypt_any key (Gf.zeros 16) hkey rfl w
  have lE := Gf.encrypt_len key (Gf.zeros 16)
  generalize Gf.encrypt key (Gf.zeros 16) = l0 at *
  have hf := fold_block l0 lE
  have hsz : (ag l0).size = 16 := by rw [ag_size]; exact lE
  go_enter Tryd.func20, Tryd.ntmps20
  go_wp2_with (first
    | (refine wpList_load_row rfl 23 _ rfl _ rfl _ _ (Row.new _ _ _) _ Tryd.underlying23 rfl 16 Tryd.info23 (by rw [ag_size]; exact hkey) ?_)
    | fail)
  refine (hE _).mono ?_
  rintro e w1 ⟨rfl, hb1⟩
  have hbl : Below w.heap.size w w1 := ((Below.refl _ _).alloc (Nat.le_refl _) _).trans (hb1.mono (by simp))
  have hz := hbl.size
  clear hb1
  go_wp2
  refine bodyPost_ret (v := mskFn (w1.heap.size + 1)) (by simp [results, Tryd.results20, go_sem, mskFn]) rfl ⟨w1.heap.size + 1, w1.heap.size, rfl, ⟨⟨1, 1, Row.made _ _ _ _ _ rfl (by simp), by omega, by omega, ?_, ?_⟩, by omega, by simp; omega⟩, by omega, by omega, (hbl.alloc hz _).alloc (by simp; omega) _⟩
  · simp [Gf.ells, Gf.ell, lE]
  · refine .inr ⟨w1.heap.size, 1, ag l0, rfl, by omega, ?_, by omega, by unfold maxLen; omega, by simp [lE, ag_size], ?_⟩
    · exact (Row.new w1 23 (ag l0)).alloc _
    · simp [Gf.ells, Gf.ell, ag]; rw [List.take_of_length_le (by simp [lE])]

theorem own_range {w : World} {l0 : List UInt8} (h0 : l0.length = 16) {bb n cap : Nat} (h : w.ownsRow 0 23 16 (.slice (some ⟨bb, 0, none⟩) n cap) n ((Gf.ells l0 n).map B)) (k : Nat) (hk : k < n) : w.rangeAt bb (k * 16) ((Gf.ell l0 k).map B) := by
  rcases h.2 with ⟨e, _⟩ | ⟨g, c, cur, e1, _, e3, _, _, _, e7⟩
  · cases e
  · have : g = bb := by injection e1 with e; injection e with e; injection e with e; exact e.symm
    subst this
    intro j v hv
    have hlen := Gf.ell_len l0 h0 k
    have hj : j < 16 := by
      rcases Nat.lt_or_ge j 16 with h | h
      · exact h
      · rw [List.getElem?_eq_none (by simp [hlen]; omega)] at hv; cases hv
    rw [← Gf.ells_at l0 h0 n k hk, List.map_take, List.map_drop, List.getElem?_take_of_lt hj, List.getElem?_drop] at hv
    rw [← e7] at hv
    have h2 : cur.toList[k * 16 + j]? = some v := by
      rw [List.getElem?_take] at hv
      split at hv
      · exact hv
      · cases hv
    have : w.cell? ⟨g, k * 16 + j, none⟩ = cur[k * 16 + j]? := cell_of_row w g (k * 16 + j) cur 23 (0, 0) e3
    rw [this]
    simpa using h2
theorem wp_load_mid {P : Program} {op : Oper} {a : Act} {w : World} {Q : Exit → Act → World → Prop} {K : Act → World → Prop} (ty : TypeId) (x : Operand) (ho : op.op = .load ty x) (b o : Nat) (hx : a.eval x = .pointer (some ⟨b, o, none⟩))
    (l : List UInt8) (hr : w.rangeAt b o (l.map B)) (d : TypeDesc) (hu : P.underlying ty = some d) (hd : d.isRow = true) (n : Nat) (hi : (P.info? ty).map (·.size) = some n) (hn : l.length = n)
    (h : K (a.put op.dst (.agg (ag l))) w) : op.wp P a w K Q := by
  have hrun := run_loadAt_mid (P := P) w b o ty _ d hr hu hd (by rw [hi]; simp [hn])
  unfold Oper.wp execOp
  simp only [ho, hx, Sem.run_bind, hrun, Result.andThen_ok]
  exact h
theorem wpList_load_midB {P : Program} {ops : Array Oper} {rest : List Oper} {op : Oper} {a : Act} {w : World} {Q : Exit → Act → World → Prop} (hgd : op.guard = none) (ty : TypeId) (x : Operand) (ho : op.op = .load ty x) (b o : Nat) (hx : a.eval x = .pointer (some ⟨b, o, none⟩))
    (l : List UInt8) (hr : w.rangeAt b o (l.map B)) (d : TypeDesc) (hu : P.underlying ty = some d) (hd : d.isRow = true) (n : Nat) (hi : (P.info? ty).map (·.size) = some n) (hn : l.length = n)
    (h : wpList P ops Q rest (a.put op.dst (.agg (ag l))) w) : wpList P ops Q (op :: rest) a w :=
  wpList_plain hgd fun _ hK => wp_load_mid ty x ho b o hx l hr d hu hd n hi hn (hK _ _ h)
theorem wp_buildSlice_block {op : Oper} {a : Act} {w : World} {Q : Exit → Act → World → Prop} {K : Act → World → Prop} (x : Operand) (ho : op.op = .buildSlice 62 1 #[(0, x)]) (l : List UInt8) (hl : l.length = 16) (hx : a.eval x = .agg (ag l))
    (h : K (a.put op.dst (.slice (some ⟨w.heap.size, 0, none⟩) 1 1)) (w.alloc (.cells (ag l) 23))) : op.wp Tryd.prog a w K Q := by
  have hf := fold_block l hl
  have hsz : (ag l).size = 16 := by rw [ag_size]; exact hl
  unfold Oper.wp
  generalize a.eval = ρ at *
  unfold execOp
  simp [ho, hx, go_sem, hf, hsz]
  exact h

/-- append onto a row of one's own: where the row lies then. -/
theorem wpList_append_at {P : Program} {w : World} {ops : Array Oper} {rest : List Oper} {o : Oper} {a : Act} {Q : Exit → Act → World → Prop} (hgd : o.guard = none) (s x : Operand) (t : TypeId)
    (ho : o.op = .call { callee := .builtin .append, args := #[s, x], argTypes := #[t, t] })
    (e : TypeId) (i : TypeInfo) (z : Value) (size bytes : Nat) (ht : P.underlying t = some (.slice e)) (hi : P.info? e = some i) (hz : i.zero = some z)
    (hsize : i.size = size) (hby : i.bytes = bytes) (hzs : z.cells.size = size) (hsz : 0 < size)
    (g n cap : Nat) (xs : List Value) (hs : a.eval s = .slice (some ⟨g, 0, none⟩) n cap) (hown : w.ownsRow 0 e size (.slice (some ⟨g, 0, none⟩) n cap) n xs)
    (ad : Addr) (m c : Nat) (news : List Value) (hx : a.eval x = .slice (some ad) m c) (hl : news.length = m * size) (hnews : ∀ j u, news[j]? = some u → w.cell? (ad.add j) = some u) (h1 : ∀ u ∈ news, u.oneCell' = true)
    (h63 : n + m ≤ maxLen) (hbytes : (n + m) * bytes ≤ 140737488355328)
    (h : ∀ g' cap' w', w'.ownsRow 0 e size (.slice (some ⟨g', 0, none⟩) (n + m) cap') (n + m) (xs ++ news) → w.grownBy w' (some g) → (g' = g ∨ w.heap.size ≤ g') → wpList P ops Q rest (a.put o.dst (.slice (some ⟨g', 0, none⟩) (n + m) cap')) w') : wpList P ops Q (o :: rest) a w := by
  obtain ⟨v', w', hr, h2, h3, h4⟩ := run_append_own (P := P) w 0 t o.type e i z size bytes ht hi hz hsize hby hzs hsz _ n xs hown ad m c news hl hnews h1 h63 hbytes (Nat.zero_le _)
  have hv : ∃ g' cap', v' = .slice (some ⟨g', 0, none⟩) (n + m) cap' ∧ (g' = g ∨ w.heap.size ≤ g') := by
    subst hsize
    subst hby
    have hsmall : n + m ≤ 9223372036854775807 := by simp only [maxLen] at h63; omega
    rcases hown.2 with ⟨e', _⟩ | ⟨g1, cap1, cur, e1, hbg, hg, hnc, hcm, hcs, htake⟩
    · cases e'
    · have e1' := e1
      injection e1 with e2 _ e4
      injection e2 with e2
      injection e2 with e2
      subst e2 e4
      by_cases hroom : n + m ≤ cap
      · have hfit : n * i.size + news.length ≤ cur.size := by rw [hl, hcs, ← Nat.add_mul]; exact Nat.mul_le_mul_right _ hroom
        have hr' := run_append_room (P := P) w t o.type e i ht hi g n cap cur hg ad m c news hl hnews h1 hroom hfit
        rw [hr] at hr'
        injection hr' with q1 q2
        exact ⟨_, _, q1, .inl rfl⟩
      · have holds : ∀ j u, xs[j]? = some u → w.cell? ((⟨g, 0, none⟩ : Addr).add j) = some u := hown.cells (g := g) rfl
        have hr' := run_append_grow (P := P) w t o.type e i z ht hi hz ⟨g, 0, none⟩ n cap xs hown.1 holds ad m c news hl hnews (by omega) (by omega) (growslice_fits (by omega) hbytes)
        rw [hr] at hr'
        injection hr' with q1 q2
        exact ⟨_, _, q1, .inr (Nat.le_refl _)⟩
  obtain ⟨g', cap', rfl, hgg⟩ := hv
  refine wpList_plain hgd fun K hK => ?_
  unfold Oper.wp execOp
  simp only [ho, resolve, invoke, builtin, Sem.run_bind, Sem.run_pure, Result.andThen_ok, List.map_toArray, List.map_cons, List.map_nil, hs, hx, hr]
  exact hK _ _ (h g' cap' w' h2 h3 hgg)

/-! One L more. -/
def regOf' (n : Nat) : Code → Option Code
  | .region m o b => if m = n then some (.region m o b) else none
  | .block _ c => regOf' n c
  | .seq a b => match regOf' n a with
    | some c => some c
    | none => regOf' n b
  | .loop c => regOf' n c
  | .scope c => regOf' n c
  | .cond _ a b => match regOf' n a with
    | some c => some c
    | none => regOf' n b
  | _ => none
theorem Tryd.info23' : ∃ i, Tryd.prog.info? 23 = some i ∧ i.zero = some (.agg (ag (Gf.zeros 16))) ∧ i.size = 16 ∧ i.bytes = 16 := by
  refine ⟨_, rfl, ?_, ?_, ?_⟩ <;> kernel_rfl
set_option maxRecDepth 1000000 in
set_option maxHeartbeats 4000000 in
theorem mstep_any (mb bb n cap : Nat) (l0 : List UInt8) (hl0 : l0.length = 16) (hn : 1 ≤ n) (hn3 : n < 300) (hne : mb ≠ bb) (u0 u2 u3 u4 u5 u6 u7 u8 u9 u10 u11 u12 u13 u14 u15 u16 u17 u18 u19 u20 u21 : Value) (w : World) (hlt : bb < w.heap.size) (hrow : Row w mb 62 #[.slice (some ⟨bb, 0, none⟩) n cap]) (hown : w.ownsRow 0 23 16 (.slice (some ⟨bb, 0, none⟩) n cap) n ((Gf.ells l0 n).map B)) :
    Code.wp Tryd.prog ((Tryd.f38.body.bind (regOf' 2)).getD .skip) (fun e a' w' => e = .normal ∧ (∃ v8 v9 v10 v11 v12 v13 v14 v15 v16 v17 : Value, a' = ⟨List.toArray (u0 :: .pointer (some ⟨mb, 0, none⟩) :: u2 :: u3 :: u4 :: u5 :: u6 :: u7 :: v8 :: v9 :: v10 :: v11 :: v12 :: v13 :: v14 :: v15 :: v16 :: v17 :: u18 :: u19 :: u20 :: u21 :: []), []⟩) ∧ ∃ bb' cap', Row w' mb 62 #[.slice (some ⟨bb', 0, none⟩) (n + 1) cap'] ∧ w'.ownsRow 0 23 16 (.slice (some ⟨bb', 0, none⟩) (n + 1) cap') (n + 1) ((Gf.ells l0 (n + 1)).map B) ∧ mb ≠ bb' ∧ bb' < w'.heap.size ∧ (bb' = bb ∨ w.heap.size ≤ bb') ∧ w'.os = w.os ∧ w'.tape = w.tape ∧ w'.output = w.output ∧ w.heap.size ≤ w'.heap.size ∧ ∀ k, k < w.heap.size → k ≠ mb → k ≠ bb → w'.heap[k]? = w.heap[k]?) ⟨List.toArray (u0 :: .pointer (some ⟨mb, 0, none⟩) :: u2 :: u3 :: u4 :: u5 :: u6 :: u7 :: u8 :: u9 :: u10 :: u11 :: u12 :: u13 :: u14 :: u15 :: u16 :: u17 :: u18 :: u19 :: u20 :: u21 :: []), []⟩ w := by
  conv => arg 2; whnf
  have hmb := hrow.lt
  have he := Gf.ell_len l0 hl0
  have hdb : Gf.dblk (Gf.ell l0 (n - 1)) = Gf.ell l0 n := by
    obtain ⟨m, rfl⟩ : ∃ m, n = m + 1 := ⟨n - 1, by omega⟩
    rfl
  have hcast : ((n - 1 : Nat) : Int) = (n : Int) - 1 := by omega
  refine wp_region_grow 9 (by kernel_rfl) (by kernel_rfl) (fun w w' => Below w.heap.size w w') (fun w1 => Row w1 mb 62 #[.slice (some ⟨bb, 0, none⟩) n cap] ∧ w1.ownsRow 0 23 16 (.slice (some ⟨bb, 0, none⟩) n cap) n ((Gf.ells l0 n).map B) ∧ Below w.heap.size w w1) (fun k w1 v => match k with
    | 0 => v = .slice (some ⟨bb, 0, none⟩) n cap
    | 1 => v = .slice (some ⟨bb, 0, none⟩) n cap
    | 2 => v = .slice (some ⟨bb, 0, none⟩) n cap
    | 3 => v = .int .i64 (n : Int)
    | 4 => v = .int .i64 ((n : Int) - 1)
    | 5 => v = .pointer (some ⟨bb, (n - 1) * 16, none⟩)
    | 6 => v = .agg (ag (Gf.ell l0 (n - 1)))
    | 7 => v = .agg (ag (Gf.ell l0 n))
    | 8 => ∃ p, v = .slice (some ⟨p, 0, none⟩) 1 1 ∧ Row w1 p 23 (ag (Gf.ell l0 n))
    | _ => True) ?_ ?_ ?_ ?_ ?_
  · rintro w1 w2 hb ⟨c1, c2, c3⟩
    have hz := c3.size
    refine ⟨c1.below hb c1.lt, ⟨c2.1, ?_⟩, c3.trans (hb.mono hz)⟩
    rcases c2.2 with ⟨e, _⟩ | ⟨g, cp, cur, e1, e2, e3, e4⟩
    · cases e
    · exact .inr ⟨g, cp, cur, e1, e2, by rw [hb.block g (Row.lt e3)]; exact e3, e4⟩
  · intro k v w1 w2 _ hb h
    match k, h with
    | 0, h => exact h
    | 1, h => exact h
    | 2, h => exact h
    | 3, h => exact h
    | 4, h => exact h
    | 5, h => exact h
    | 6, h => exact h
    | 7, h => exact h
    | 8, ⟨p, h1, h2⟩ => exact ⟨p, h1, h2.below hb h2.lt⟩
    | k + 9, h => trivial
  · exact ⟨hrow, hown, (Below.refl _ _).drew⟩
  · refine ⟨?_, ?_, ?_, ?_, ?_, ?_, ?_, ?_, ?_, trivial⟩
    · intro f w1 hC hd KK hK
      have hc : w1.cell? ⟨mb, 0, none⟩ = some (.slice (some ⟨bb, 0, none⟩) n cap) := hC.1.cell 0
      simp only [List.take_succ_cons, List.take_zero, setAll, List.setIfInBounds_toArray, List.set_cons_succ, List.set_cons_zero, Nat.zero_add, Nat.reduceAdd] at hK ⊢
      refine wp_of_quiet rfl ?_
      go_big_quiet_step (fail)
      exact wpQuiet_nil (hK _ _ rfl (Below.refl _ _))
    · intro f w1 hC hd KK hK
      have hc : w1.cell? ⟨mb, 0, none⟩ = some (.slice (some ⟨bb, 0, none⟩) n cap) := hC.1.cell 0
      simp only [List.take_succ_cons, List.take_zero, setAll, List.setIfInBounds_toArray, List.set_cons_succ, List.set_cons_zero, Nat.zero_add, Nat.reduceAdd] at hK ⊢
      refine wp_of_quiet rfl ?_
      go_big_quiet_step (fail)
      exact wpQuiet_nil (hK _ _ rfl (Below.refl _ _))
    · intro f w1 hC hd KK hK
      have hc : w1.cell? ⟨mb, 0, none⟩ = some (.slice (some ⟨bb, 0, none⟩) n cap) := hC.1.cell 0
      simp only [List.take_succ_cons, List.take_zero, setAll, List.setIfInBounds_toArray, List.set_cons_succ, List.set_cons_zero, Nat.zero_add, Nat.reduceAdd] at hK ⊢
      refine wp_of_quiet rfl ?_
      go_big_quiet_step (fail)
      exact wpQuiet_nil (hK _ _ rfl (Below.refl _ _))
    · intro f w1 hC hd KK hK
      have g2 : f 2 = _ := hd 2 rfl
      simp only [List.take_succ_cons, List.take_zero, setAll, List.setIfInBounds_toArray, List.set_cons_succ, List.set_cons_zero, Nat.zero_add, Nat.reduceAdd, g2] at hK ⊢
      refine wp_of_quiet rfl ?_
      go_big_quiet_step (fail)
      exact wpQuiet_nil (hK _ _ rfl (Below.refl _ _))
    · intro f w1 hC hd KK hK
      have g3 : f 3 = _ := hd 3 rfl
      simp only [List.take_succ_cons, List.take_zero, setAll, List.setIfInBounds_toArray, List.set_cons_succ, List.set_cons_zero, Nat.zero_add, Nat.reduceAdd, g3] at hK ⊢
      refine wp_of_quiet rfl ?_
      go_big_quiet_step (fail)
      exact wpQuiet_nil (hK _ _ rfl (Below.refl _ _))
    · intro f w1 hC hd KK hK
      have g1 : f 1 = _ := hd 1 rfl
      have g4 : f 4 = _ := hd 4 rfl
      simp only [List.take_succ_cons, List.take_zero, setAll, List.setIfInBounds_toArray, List.set_cons_succ, List.set_cons_zero, Nat.zero_add, Nat.reduceAdd, g1, g4] at hK ⊢
      refine wp_of_quiet rfl ?_
      go_big_quiet_step (fail)
      exact wpQuiet_nil (hK _ _ rfl (Below.refl _ _))
    · intro f w1 hC hd KK hK
      have g5 : f 5 = _ := hd 5 rfl
      simp only [List.take_succ_cons, List.take_zero, setAll, List.setIfInBounds_toArray, List.set_cons_succ, List.set_cons_zero, Nat.zero_add, Nat.reduceAdd, g5] at hK ⊢
      refine wp_load_mid 23 _ rfl _ _ rfl _ (own_range hl0 hC.2.1 (n - 1) (by omega)) _ Tryd.underlying23 rfl 16 Tryd.info23 (he _) ?_
      exact hK _ _ rfl (Below.refl _ _)
    · intro f w1 hC hd KK hK
      have g6 : f 6 = _ := hd 6 rfl
      simp only [List.take_succ_cons, List.take_zero, setAll, List.setIfInBounds_toArray, List.set_cons_succ, List.set_cons_zero, Nat.zero_add, Nat.reduceAdd, g6] at hK ⊢
      exact wp_call 11 #[.agg (ag (Gf.ell l0 (n - 1)))] (by simp [go_sem]) _ _ (ocbDouble_any _ (he _) w1) (fun w' hb => hK _ _ (by rw [hdb]) hb)
    · intro f w1 hC hd KK hK
      have g7 : f 7 = _ := hd 7 rfl
      simp only [List.take_succ_cons, List.take_zero, setAll, List.setIfInBounds_toArray, List.set_cons_succ, List.set_cons_zero, Nat.zero_add, Nat.reduceAdd, g7] at hK ⊢
      refine wp_buildSlice_block _ rfl _ (he n) rfl ?_
      exact hK _ _ ⟨_, rfl, Row.new _ _ _⟩ ((Below.refl _ _).alloc (Nat.le_refl _) _)
  · intro f w1 hC hv
    have g0 : f 0 = _ := hv 0 (by decide)
    have g1 : f 1 = _ := hv 1 (by decide)
    have g2 : f 2 = _ := hv 2 (by decide)
    have g3 : f 3 = _ := hv 3 (by decide)
    have g4 : f 4 = _ := hv 4 (by decide)
    have g5 : f 5 = _ := hv 5 (by decide)
    have g6 : f 6 = _ := hv 6 (by decide)
    have g7 : f 7 = _ := hv 7 (by decide)
    obtain ⟨p, g8, hp⟩ := hv 8 (by decide)
    simp only [List.take_succ_cons, List.take_zero, List.drop_succ_cons, List.drop_zero, setAll, List.setIfInBounds_toArray, List.set_cons_succ, List.set_cons_zero, Nat.zero_add, Nat.reduceAdd, g0, g1, g2, g3, g4, g5, g6, g7, g8]
    clear g0 g1 g2 g3 g4 g5 g6 g7 g8 hv
    obtain ⟨c1, c2, c3⟩ := hC
    obtain ⟨i0, i1, i2, i3, i4⟩ := Tryd.info23'
    refine wpList_append_at rfl (.tmp 8) (.tmp 16) 62 rfl 23 i0 _ 16 16 Tryd.underlying62 i1 i2 i3 i4 ?_ (by decide) bb n cap _ rfl c2 ⟨p, 0, none⟩ 1 1 ((Gf.ell l0 n).map B) rfl (by rw [List.length_map, he]) (fun j u hu => ?_) (fun u hu => ?_) (by unfold maxLen; omega) (by omega) (fun g cp w' ho hg hnew => ?_)
    · show (ag (Gf.zeros 16)).size = 16
      rw [ag_size]; rfl
    · have := hp.cell j
      simp only [Addr.add_mid, Nat.zero_add]
      rw [this]
      simpa [ag] using hu
    · obtain ⟨x, _, rfl⟩ := List.mem_map.1 hu
      rfl
    · have hz := c3.size
      have hz2 := hg.size
      have hm1 : w'.heap[mb]? = w1.heap[mb]? := hg.block mb c1.lt (by simp; omega)
      have r1 : Row w' mb 62 #[.slice (some ⟨bb, 0, none⟩) n cap] := by unfold Row at *; rw [hm1]; exact c1
      have hcell := r1.cell 0
      have hfz := r1.frozen 0
      have hxs : (Gf.ells l0 n).map B ++ (Gf.ell l0 n).map B = (Gf.ells l0 (n + 1)).map B := by simp [Gf.ells]
      rw [hxs] at ho
      have hgm : mb ≠ g := by
        rcases hnew with rfl | h'
        · exact hne
        · omega
      have hgl : g < w'.heap.size := (ho.lt g rfl).2
      have r2 := r1.setCell 0 (.slice (some ⟨g, 0, none⟩) (n + 1) cp)
      have ho2 : (w'.setCell ⟨mb, 0, none⟩ (.slice (some ⟨g, 0, none⟩) (n + 1) cp)).ownsRow 0 23 16 (.slice (some ⟨g, 0, none⟩) (n + 1) cp) (n + 1) ((Gf.ells l0 (n + 1)).map B) := by
        refine ⟨ho.1, ?_⟩
        rcases ho.2 with ⟨e, _⟩ | ⟨g1, c1, cur, e1, e2, e3, e4⟩
        · cases e
        · have e1' := e1
          injection e1 with q1; injection q1 with q1; injection q1 with q1
          subst q1
          exact .inr ⟨g, c1, cur, e1', e2, by rw [Below.heap_setCell _ _ _ _ (Ne.symm hgm)]; exact e3, e4⟩
      have hsz : (w'.setCell ⟨mb, 0, none⟩ (.slice (some ⟨g, 0, none⟩) (n + 1) cp)).heap.size = w'.heap.size := by simp [World.setCell]
      have hkeep : ∀ k, k < w.heap.size → k ≠ mb → k ≠ bb → (w'.setCell ⟨mb, 0, none⟩ (.slice (some ⟨g, 0, none⟩) (n + 1) cp)).heap[k]? = w.heap[k]? := fun k hk h1 h2 => by
        rw [Below.heap_setCell _ _ _ _ h1, hg.block k (by omega) (by simp; exact h2), c3.block k hk]
      have hos := hg.os.trans c3.os
      have htp := hg.tape.trans c3.tape
      have hou := hg.output.trans c3.output
      have hnew' : g = bb ∨ w.heap.size ≤ g := by
        rcases hnew with h' | h'
        · exact .inl h'
        · exact .inr (by omega)
      clear hxs hrow hown c1 c2 hp hm1 ho hg hsz hnew
      go_wp2
      exact ⟨g, cp, r2, ho2, hgm, hgl, hnew', hos, by first | exact htp | exact hou, by omega, hkeep⟩

def cnt (mb : Nat) (w : World) : Nat := match w.cell? ⟨mb, 0, none⟩ with
  | some (.slice _ n _) => n
  | _ => 0
set_option maxRecDepth 100000 in
set_option maxHeartbeats 1000000 in
theorem mask_any (mb bb : Nat) (l0 : List UInt8) (hl0 : l0.length = 16) (r : Nat) (hr : r < 290) (w : World) (hm : Msk mb l0 w bb) :
    Calls Tryd.prog 38 #[.int .i64 (r : Int), .pointer (some ⟨mb, 0, none⟩)] w fun e w' => e = .returned (.agg (ag (Gf.ell l0 r))) ∧ Gm mb l0 w w' := by
  obtain ⟨L, hL⟩ : ∃ L, Gf.ell l0 r = L := ⟨_, rfl⟩
  have he : L.length = 16 := by rw [← hL]; exact Gf.ell_len l0 hl0 r
  rw [hL]
  have HL := Box'.mk hL
  clear hL
  have s0 := Sf.new hm (.cells (ag (Gf.zeros 16)) 23)
  have g0 : Gm mb l0 w (w.alloc (.cells (ag (Gf.zeros 16)) 23)) := Gm.of ((Below.refl _ _).alloc (Nat.le_refl _) _)
  go_enter Tryd.func38, Tryd.ntmps38
  go_wp2
  go_loopw [4] (fun _ wr => Room wr w.heap.size 23 16 ∧ Sf mb l0 wr w.heap.size ∧ Gm mb l0 w wr) (fun _ wr => r + 1 - cnt mb wr)
  case atStart => exact ⟨Room.new _ _ _ _ rfl, s0, g0⟩
  case round =>
    clear s0 g0
    obtain ⟨h1, hs, hg⟩ := hrel
    obtain ⟨b1, m1⟩ := hs.is
    obtain ⟨n, cap, r1, r2, r3, r4⟩ := m1.ex
    have hcell := r1.cell 0
    have hcnt : cnt mb wr = n := by unfold cnt; rw [hcell]; rfl
    have hlt1 := m1.lt
    have hne1 := m1.ne
    by_cases hlt : n ≤ r
    · have M1 := Box'.mk m1
      clear m1
      have hcell' : wr.cell? ⟨mb, 0, none⟩ = some (.slice (some ⟨b1, 0, none⟩) n cap) := hcell
      clear hcell
      have hc' := Box'.mk hcnt
      clear hcnt
      go_wp2
      refine wp_mono (mstep_any mb b1 n cap l0 hl0 r2 (by omega) hne1 _ _ _ _ _ _ _ _ _ _ _ _ _ _ _ _ _ _ _ _ _ _ hlt1 r1 r4) ?_
      rintro e a' w2 ⟨rfl, ⟨v8, v9, v10, v11, v12, v13, v14, v15, v16, v17, rfl⟩, b2, cap2, q1, q2, q3, q4, q5, q6, q7, q8, q9, q10⟩
      have m2 : Msk mb l0 w2 b2 := ⟨⟨n + 1, cap2, q1, by omega, by omega, q2⟩, q3, q4⟩
      have hg2 : Gm mb l0 wr w2 := ⟨q6, q7, q8, q9, fun b3 m3 => by
        have e3 := M1.out.one m3
        subst e3
        exact ⟨b2, m2, q5, q10⟩⟩
      have h1' := hs.room hg2 h1
      have hs' := hs.go hg2
      have hg' := hg.trans hg2
      have hcnt2 : Box' (cnt mb w2 = n + 1) := ⟨by unfold cnt; rw [q1.cell 0]; rfl⟩
      clear hcell' r1 r4 q1 q2 q10 hg2 M1 m2 h1 hs hg
      simp only [Exit.inBlock]
      go_wp2
      refine ⟨⟨h1', hs', hg'⟩, ?_⟩
      rw [hcnt2.out, hc'.out]
      omega
    · have hrg := own_range hl0 r4 r (by omega)
      have hcell' : wr.cell? ⟨mb, 0, none⟩ = some (.slice (some ⟨b1, 0, none⟩) n cap) := hcell
      have hg' := hg.setRow hs (Nat.le_refl _) (ag L)
      rw [HL.out] at hrg
      clear hcell hcnt m1 r1 r4
      go_wp2_with (first
        | (refine wpList_load_midB rfl 23 (.tmp 20) rfl _ _ rfl _ hrg _ Tryd.underlying23 rfl 16 Tryd.info23 he ?_)
        | (refine wpList_store_row rfl 23 _ _ rfl _ rfl _ rfl _ _ h1 Tryd.info23 (by rw [ag_size]; exact he) (ag_one _) ?_)
        | fail)
      exact bodyPost_ret (results_row rfl _ _ rfl _ _ (h1.setRow _) _ Tryd.underlying23 rfl 16 Tryd.info23 (by rw [ag_size]; exact he)) rfl ⟨rfl, hg'⟩
end Go.Proofs.YtmolhljgmaoflaaDoor
