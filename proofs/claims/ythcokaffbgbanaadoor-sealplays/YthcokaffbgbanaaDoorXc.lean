/- The walks of masks and of the closure that it hands back. -/
import Derived.Test.YthcokaffbgbanaaDoorXb
import Derived.Test.YthcokaffbgbanaaDoorXa
import Derived.Laws.CopyOwn
import Derived.Deep.Cut
namespace Go.Proofs.YthcokaffbgbanaaDoor
open Go.RowKit Go.BigFrame

set_option maxRecDepth 100000 in
theorem fold_block (l : List UInt8) (h : l.length = 16) : Array.foldl (fun cs x => cs.setIfInBounds x.snd x.fst)
              #[Value.int IntKind.u8 0, Value.int IntKind.u8 0, Value.int IntKind.u8 0, Value.int IntKind.u8 0,
                Value.int IntKind.u8 0, Value.int IntKind.u8 0, Value.int IntKind.u8 0, Value.int IntKind.u8 0,
                Value.int IntKind.u8 0, Value.int IntKind.u8 0, Value.int IntKind.u8 0, Value.int IntKind.u8 0,
                Value.int IntKind.u8 0, Value.int IntKind.u8 0, Value.int IntKind.u8 0, Value.int IntKind.u8 0]
              (ag l).zipIdx 0 16 = ag l := by
  obtain ⟨a0, a1, a2, a3, a4, a5, a6, a7, a8, a9, a10, a11, a12, a13, a14, a15, rfl⟩ := Gf.list16 l h
  simp [ag]
/-- The closure that hands out the L's. -/
def mskFn (mb : Nat) : Value := .func (.func 63) #[] #[.pointer (some ⟨mb, 0, none⟩)]

set_option maxRecDepth 100000 in
set_option maxHeartbeats 1000000 in
theorem masks_any (key : List UInt8) (hkey : key.length = 16) (w : World) :
    Calls Tryd.prog 46 #[.agg (ag key)] w fun e w' => ∃ mb bb, e = .returned (mskFn mb) ∧ Msk mb (Gf.encrypt key (Gf.zeros 16)) w' bb ∧ w.heap.size ≤ mb ∧ w.heap.size ≤ bb ∧ Below w.heap.size w w' := by
  have hE := fun w => encrypt_any key (Gf.zeros 16) hkey rfl w
  have lE := Gf.encrypt_len key (Gf.zeros 16)
  generalize Gf.encrypt key (Gf.zeros 16) = l0 at *
  have hf := fold_block l0 lE
  have hsz : (ag l0).size = 16 := by rw [ag_size]; exact lE
  go_enter Tryd.func46, Tryd.ntmps46
  go_wp2_with (first
    | (refine wpList_load_row rfl 23 _ rfl _ rfl _ _ (Row.new _ _ _) _ Tryd.underlying23 rfl 16 Tryd.info23 (by rw [ag_size]; exact hkey) ?_)
    | fail)
  refine (hE _).mono ?_
  rintro e w1 ⟨rfl, hb1⟩
  have hbl : Below w.heap.size w w1 := ((Below.refl _ _).alloc (Nat.le_refl _) _).trans (hb1.mono (by simp))
  have hz := hbl.size
  clear hb1
  go_wp2
  refine bodyPost_ret (v := mskFn (w1.heap.size + 1)) (by simp [results, Tryd.results46, go_sem, mskFn]) rfl ⟨w1.heap.size + 1, w1.heap.size, rfl, ⟨⟨1, 1, Row.made _ _ _ _ _ rfl (by simp), by omega, by omega, ?_, ?_⟩, by omega, by simp; omega⟩, by omega, by omega, (hbl.alloc hz _).alloc (by simp; omega) _⟩
  · simp [Gf.ells, Gf.ell, lE]
  · refine .inr ⟨w1.heap.size, 1, ag l0, rfl, by omega, ?_, by omega, by unfold maxLen; omega, by simp [lE, ag_size], ?_⟩
    · exact (Row.new w1 23 (ag l0)).alloc _
    · simp [Gf.ells, Gf.ell, ag]; rw [List.take_of_length_le (by simp [lE])]

set_option maxRecDepth 100000 in
theorem own_range {w : World} {l0 : List UInt8} (h0 : l0.length = 16) {bb n cap : Nat} (h : w.ownsRow 0 23 16 (.slice (some ⟨bb, 0, none⟩) n cap) n ((Gf.ells l0 n).map B)) (k : Nat) (hk : k < n) : w.rangeAt bb (k * 16) ((Gf.ell l0 k).map B) := by
  rcases h.2 with ⟨e, _⟩ | ⟨g, c, cur, e1, _, e3, _, _, _, e7⟩
  · cases e
  · have : g = bb := by injection e1 with e; injection e with e; injection e with e; exact e.symm
    subst this
    intro j v hv
    have hlen := Gf.ell_len l0 h0 k
    have hj : j < 16 := by
      rcases Nat.lt_or_ge j 16 with h | h
      · exact h
      · rw [List.getElem?_eq_none (by simp [hlen]; omega)] at hv; cases hv
    rw [← Gf.ells_at l0 h0 n k hk, List.map_take, List.map_drop, List.getElem?_take_of_lt hj, List.getElem?_drop] at hv
    rw [← e7] at hv
    have h2 : cur.toList[k * 16 + j]? = some v := by
      rw [List.getElem?_take] at hv
      split at hv
      · exact hv
      · cases hv
    have : w.cell? ⟨g, k * 16 + j, none⟩ = cur[k * 16 + j]? := cell_of_row w g (k * 16 + j) cur 23 (0, 0) e3
    rw [this]
    simpa using h2
set_option maxRecDepth 100000 in
theorem wp_load_mid {P : Program} {op : Oper} {a : Act} {w : World} {Q : Exit → Act → World → Prop} {K : Act → World → Prop} (ty : TypeId) (x : Operand) (ho : op.op = .load ty x) (b o : Nat) (hx : a.eval x = .pointer (some ⟨b, o, none⟩))
    (l : List UInt8) (hr : w.rangeAt b o (l.map B)) (d : TypeDesc) (hu : P.underlying ty = some d) (hd : d.isRow = true) (n : Nat) (hi : (P.info? ty).map (·.size) = some n) (hn : l.length = n)
    (h : K (a.put op.dst (.agg (ag l))) w) : op.wp P a w K Q := by
  have hrun := run_loadAt_mid (P := P) w b o ty _ d hr hu hd (by rw [hi]; simp [hn])
  unfold Oper.wp execOp
  simp only [ho, hx, Sem.run_bind, hrun, Result.andThen_ok]
  exact h
set_option maxRecDepth 100000 in
theorem wpList_load_midB {P : Program} {ops : Array Oper} {rest : List Oper} {op : Oper} {a : Act} {w : World} {Q : Exit → Act → World → Prop} (hgd : op.guard = none) (ty : TypeId) (x : Operand) (ho : op.op = .load ty x) (b o : Nat) (hx : a.eval x = .pointer (some ⟨b, o, none⟩))
    (l : List UInt8) (hr : w.rangeAt b o (l.map B)) (d : TypeDesc) (hu : P.underlying ty = some d) (hd : d.isRow = true) (n : Nat) (hi : (P.info? ty).map (·.size) = some n) (hn : l.length = n)
    (h : wpList P ops Q rest (a.put op.dst (.agg (ag l))) w) : wpList P ops Q (op :: rest) a w :=
  wpList_plain hgd fun _ hK => wp_load_mid ty x ho b o hx l hr d hu hd n hi hn (hK _ _ h)
set_option maxRecDepth 100000 in
theorem wp_buildSlice_block {op : Oper} {a : Act} {w : World} {Q : Exit → Act → World → Prop} {K : Act → World → Prop} (x : Operand) (ho : op.op = .buildSlice 114 1 #[(0, x)]) (l : List UInt8) (hl : l.length = 16) (hx : a.eval x = .agg (ag l))
    (h : K (a.put op.dst (.slice (some ⟨w.heap.size, 0, none⟩) 1 1)) (w.alloc (.cells (ag l) 23))) : op.wp Tryd.prog a w K Q := by
  have hf := fold_block l hl
  have hsz : (ag l).size = 16 := by rw [ag_size]; exact hl
  unfold Oper.wp
  generalize a.eval = ρ at *
  unfold execOp
  simp [ho, hx, go_sem, hf, hsz]
  exact h

/-- append onto a row of one's own: where the row lies then. -/
theorem wpList_append_at {P : Program} {w : World} {ops : Array Oper} {rest : List Oper} {o : Oper} {a : Act} {Q : Exit → Act → World → Prop} (hgd : o.guard = none) (s x : Operand) (t : TypeId)
    (ho : o.op = .call { callee := .builtin .append, args := #[s, x], argTypes := #[t, t] })
    (e : TypeId) (i : TypeInfo) (z : Value) (size bytes : Nat) (ht : P.underlying t = some (.slice e)) (hi : P.info? e = some i) (hz : i.zero = some z)
    (hsize : i.size = size) (hby : i.bytes = bytes) (hzs : z.cells.size = size) (hsz : 0 < size)
    (g n cap : Nat) (xs : List Value) (hs : a.eval s = .slice (some ⟨g, 0, none⟩) n cap) (hown : w.ownsRow 0 e size (.slice (some ⟨g, 0, none⟩) n cap) n xs)
    (ad : Addr) (m c : Nat) (news : List Value) (hx : a.eval x = .slice (some ad) m c) (hl : news.length = m * size) (hnews : ∀ j u, news[j]? = some u → w.cell? (ad.add j) = some u) (h1 : ∀ u ∈ news, u.oneCell' = true)
    (h63 : n + m ≤ maxLen) (hbytes : (n + m) * bytes ≤ 140737488355328)
    (h : ∀ g' cap' w', w'.ownsRow 0 e size (.slice (some ⟨g', 0, none⟩) (n + m) cap') (n + m) (xs ++ news) → w.grownBy w' (some g) → (g' = g ∨ w.heap.size ≤ g') → wpList P ops Q rest (a.put o.dst (.slice (some ⟨g', 0, none⟩) (n + m) cap')) w') : wpList P ops Q (o :: rest) a w := by
  obtain ⟨v', w', hr, h2, h3, h4⟩ := run_append_own (P := P) w 0 t o.type e i z size bytes ht hi hz hsize hby hzs hsz _ n xs hown ad m c news hl hnews h1 h63 hbytes (Nat.zero_le _)
  have hv : ∃ g' cap', v' = .slice (some ⟨g', 0, none⟩) (n + m) cap' ∧ (g' = g ∨ w.heap.size ≤ g') := by
    subst hsize
    subst hby
    have hsmall : n + m ≤ 9223372036854775807 := by simp only [maxLen] at h63; omega
    rcases hown.2 with ⟨e', _⟩ | ⟨g1, cap1, cur, e1, hbg, hg, hnc, hcm, hcs, htake⟩
    · cases e'
    · have e1' := e1
      injection e1 with e2 _ e4
      injection e2 with e2
      injection e2 with e2
      subst e2 e4
      by_cases hroom : n + m ≤ cap
      · have hfit : n * i.size + news.length ≤ cur.size := by rw [hl, hcs, ← Nat.add_mul]; exact Nat.mul_le_mul_right _ hroom
        have hr' := run_append_room (P := P) w t o.type e i ht hi g n cap cur hg ad m c news hl hnews h1 hroom hfit
        rw [hr] at hr'
        injection hr' with q1 q2
        exact ⟨_, _, q1, .inl rfl⟩
      · have holds : ∀ j u, xs[j]? = some u → w.cell? ((⟨g, 0, none⟩ : Addr).add j) = some u := hown.cells (g := g) rfl
        have hr' := run_append_grow (P := P) w t o.type e i z ht hi hz ⟨g, 0, none⟩ n cap xs hown.1 holds ad m c news hl hnews (by omega) (by omega) (growslice_fits (by omega) hbytes)
        rw [hr] at hr'
        injection hr' with q1 q2
        exact ⟨_, _, q1, .inr (Nat.le_refl _)⟩
  obtain ⟨g', cap', rfl, hgg⟩ := hv
  refine wpList_plain hgd fun K hK => ?_
  unfold Oper.wp execOp
  simp only [ho, resolve, invoke, builtin, Sem.run_bind, Sem.run_pure, Result.andThen_ok, List.map_toArray, List.map_cons, List.map_nil, hs, hx, hr]
  exact hK _ _ (h g' cap' w' h2 h3 hgg)

/-! One L more. -/
def regOf' (n : Nat) : Code → Option Code
  | .region m o b => if m = n then some (.region m o b) else none
  | .block _ c => regOf' n c
  | .seq a b => match regOf' n a with
    | some c => some c
    | none => regOf' n b
  | .loop c => regOf' n c
  | .scope c => regOf' n c
  | .cond _ a b => match regOf' n a with
    | some c => some c
    | none => regOf' n b
  | _ => none
set_option maxRecDepth 100000 in
theorem Tryd.info23' : ∃ i, Tryd.prog.info? 23 = some i ∧ i.zero = some (.agg (ag (Gf.zeros 16))) ∧ i.size = 16 ∧ i.bytes = 16 := by
  refine ⟨_, rfl, ?_, ?_, ?_⟩ <;> kernel_rfl
set_option maxRecDepth 1000000 in
set_option maxHeartbeats 4000000 in
theorem mstep_any (mb bb n cap : Nat) (l0 : List UInt8) (hl0 : l0.length = 16) (hn : 1 ≤ n) (hn3 : n < 300) (hne : mb ≠ bb) (u0 u2 u3 u4 u5 u6 u7 u8 u9 u10 u11 u12 u13 u14 u15 u16 u17 u18 u19 u20 u21 : Value) (w : World) (hlt : bb < w.heap.size) (hrow : Row w mb 114 #[.slice (some ⟨bb, 0, none⟩) n cap]) (hown : w.ownsRow 0 23 16 (.slice (some ⟨bb, 0, none⟩) n cap) n ((Gf.ells l0 n).map B)) :
    Code.wp Tryd.prog ((Tryd.f63.body.bind (regOf' 2)).getD .skip) (fun e a' w' => e = .normal ∧ (∃ v8 v9 v10 v11 v12 v13 v14 v15 v16 v17 : Value, a' = ⟨List.toArray (u0 :: .pointer (some ⟨mb, 0, none⟩) :: u2 :: u3 :: u4 :: u5 :: u6 :: u7 :: v8 :: v9 :: v10 :: v11 :: v12 :: v13 :: v14 :: v15 :: v16 :: v17 :: u18 :: u19 :: u20 :: u21 :: []), []⟩) ∧ ∃ bb' cap', Row w' mb 114 #[.slice (some ⟨bb', 0, none⟩) (n + 1) cap'] ∧ w'.ownsRow 0 23 16 (.slice (some ⟨bb', 0, none⟩) (n + 1) cap') (n + 1) ((Gf.ells l0 (n + 1)).map B) ∧ mb ≠ bb' ∧ bb' < w'.heap.size ∧ (bb' = bb ∨ w.heap.size ≤ bb') ∧ w'.os = w.os ∧ w'.tape = w.tape ∧ w'.output = w.output ∧ w.heap.size ≤ w'.heap.size ∧ ∀ k, k < w.heap.size → k ≠ mb → k ≠ bb → w'.heap[k]? = w.heap[k]?) ⟨List.toArray (u0 :: .pointer (some ⟨mb, 0, none⟩) :: u2 :: u3 :: u4 :: u5 :: u6 :: u7 :: u8 :: u9 :: u10 :: u11 :: u12 :: u13 :: u14 :: u15 :: u16 :: u17 :: u18 :: u19 :: u20 :: u21 :: []), []⟩ w := by
  conv => arg 2; whnf
  have hmb := hrow.lt
  have he := Gf.ell_len l0 hl0
  have hdb : Gf.dblk (Gf.ell l0 (n - 1)) = Gf.ell l0 n := by
    obtain ⟨m, rfl⟩ : ∃ m, n = m + 1 := ⟨n - 1, by omega⟩
    rfl
  have hcast : ((n - 1 : Nat) : Int) = (n : Int) - 1 := by omega
  refine wp_region_grow 9 (by kernel_rfl) (by kernel_rfl) (fun w w' => Below w.heap.size w w') (fun w1 => Row w1 mb 114 #[.slice (some ⟨bb, 0, none⟩) n cap] ∧ w1.ownsRow 0 23 16 (.slice (some ⟨bb, 0, none⟩) n cap) n ((Gf.ells l0 n).map B) ∧ Below w.heap.size w w1) (fun k w1 v => match k with
    | 0 => v = .slice (some ⟨bb, 0, none⟩) n cap
    | 1 => v = .slice (some ⟨bb, 0, none⟩) n cap
    | 2 => v = .slice (some ⟨bb, 0, none⟩) n cap
    | 3 => v = .int .i64 (n : Int)
    | 4 => v = .int .i64 ((n : Int) - 1)
    | 5 => v = .pointer (some ⟨bb, (n - 1) * 16, none⟩)
    | 6 => v = .agg (ag (Gf.ell l0 (n - 1)))
    | 7 => v = .agg (ag (Gf.ell l0 n))
    | 8 => ∃ p, v = .slice (some ⟨p, 0, none⟩) 1 1 ∧ Row w1 p 23 (ag (Gf.ell l0 n))
    | _ => True) ?_ ?_ ?_ ?_ ?_
  · rintro w1 w2 hb ⟨c1, c2, c3⟩
    have hz := c3.size
    refine ⟨c1.below hb c1.lt, ⟨c2.1, ?_⟩, c3.trans (hb.mono hz)⟩
    rcases c2.2 with ⟨e, _⟩ | ⟨g, cp, cur, e1, e2, e3, e4⟩
    · cases e
    · exact .inr ⟨g, cp, cur, e1, e2, by rw [hb.block g (Row.lt e3)]; exact e3, e4⟩
  · intro k v w1 w2 _ hb h
    match k, h with
    | 0, h => exact h
    | 1, h => exact h
    | 2, h => exact h
    | 3, h => exact h
    | 4, h => exact h
    | 5, h => exact h
    | 6, h => exact h
    | 7, h => exact h
    | 8, ⟨p, h1, h2⟩ => exact ⟨p, h1, h2.below hb h2.lt⟩
    | k + 9, h => trivial
  · exact ⟨hrow, hown, (Below.refl _ _).drew⟩
  · refine ⟨?_, ?_, ?_, ?_, ?_, ?_, ?_, ?_, ?_, trivial⟩
    · intro f w1 hC hd KK hK
      have hc : w1.cell? ⟨mb, 0, none⟩ = some (.slice (some ⟨bb, 0, none⟩) n cap) := hC.1.cell 0
      simp only [List.take_succ_cons, List.take_zero, setAll, List.setIfInBounds_toArray, List.set_cons_succ, List.set_cons_zero, Nat.zero_add, Nat.reduceAdd] at hK ⊢
      refine wp_of_quiet rfl ?_
      go_big_quiet_step (fail)
      exact wpQuiet_nil (hK _ _ rfl (Below.refl _ _))
    · intro f w1 hC hd KK hK
      have hc : w1.cell? ⟨mb, 0, none⟩ = some (.slice (some ⟨bb, 0, none⟩) n cap) := hC.1.cell 0
      simp only [List.take_succ_cons, List.take_zero, setAll, List.setIfInBounds_toArray, List.set_cons_succ, List.set_cons_zero, Nat.zero_add, Nat.reduceAdd] at hK ⊢
      refine wp_of_quiet rfl ?_
      go_big_quiet_step (fail)
      exact wpQuiet_nil (hK _ _ rfl (Below.refl _ _))
    · intro f w1 hC hd KK hK
      have hc : w1.cell? ⟨mb, 0, none⟩ = some (.slice (some ⟨bb, 0, none⟩) n cap) := hC.1.cell 0
      simp only [List.take_succ_cons, List.take_zero, setAll, List.setIfInBounds_toArray, List.set_cons_succ, List.set_cons_zero, Nat.zero_add, Nat.reduceAdd] at hK ⊢
      refine wp_of_quiet rfl ?_
      go_big_quiet_step (fail)
      exact wpQuiet_nil (hK _ _ rfl (Below.refl _ _))
    · intro f w1 hC hd KK hK
      have g2 : f 2 = _ := hd 2 rfl
      simp only [List.take_succ_cons, List.take_zero, setAll, List.setIfInBounds_toArray, List.set_cons_succ, List.set_cons_zero, Nat.zero_add, Nat.reduceAdd, g2] at hK ⊢
      refine wp_of_quiet rfl ?_
      go_big_quiet_step (fail)
      exact wpQuiet_nil (hK _ _ rfl (Below.refl _ _))
    · intro f w1 hC hd KK hK
      have g3 : f 3 = _ := hd 3 rfl
      simp only [List.take_succ_cons, List.take_zero, setAll, List.setIfInBounds_toArray, List.set_cons_succ, List.set_cons_zero, Nat.zero_add, Nat.reduceAdd, g3] at hK ⊢
      refine wp_of_quiet rfl ?_
      go_big_quiet_step (fail)
      exact wpQuiet_nil (hK _ _ rfl (Below.refl _ _))
    · intro f w1 hC hd KK hK
      have g1 : f 1 = _ := hd 1 rfl
      have g4 : f 4 = _ := hd 4 rfl
      simp only [List.take_succ_cons, List.take_zero, setAll, List.setIfInBounds_toArray, List.set_cons_succ, List.set_cons_zero, Nat.zero_add, Nat.reduceAdd, g1, g4] at hK ⊢
      refine wp_of_quiet rfl ?_
      go_big_quiet_step (fail)
      exact wpQuiet_nil (hK _ _ rfl (Below.refl _ _))
    · intro f w1 hC hd KK hK
      have g5 : f 5 = _ := hd 5 rfl
      simp only [List.take_succ_cons, List.take_zero, setAll, List.setIfInBounds_toArray, List.set_cons_succ, List.set_cons_zero, Nat.zero_add, Nat.reduceAdd, g5] at hK ⊢
      refine wp_load_mid 23 _ rfl _ _ rfl _ (own_range hl0 hC.2.1 (n - 1) (by omega)) _ Tryd.underlying23 rfl 16 Tryd.info23 (he _) ?_
      exact hK _ _ rfl (Below.refl _ _)
    · intro f w1 hC hd KK hK
      have g6 : f 6 = _ := hd 6 rfl
      simp only [List.take_succ_cons, List.take_zero, setAll, List.setIfInBounds_toArray, List.set_cons_succ, List.set_cons_zero, Nat.zero_add, Nat.reduceAdd, g6] at hK ⊢
      exact wp_call 64 #[.agg (ag (Gf.ell l0 (n - 1)))] (by simp [go_sem]) _ _ (ocbDouble_any _ (he _) w1) (fun w' hb => hK _ _ (by rw [hdb]) hb)
    · intro f w1 hC hd KK hK
      have g7 : f 7 = _ := hd 7 rfl
      simp only [List.take_succ_cons, List.take_zero, setAll, List.setIfInBounds_toArray, List.set_cons_succ, List.set_cons_zero, Nat.zero_add, Nat.reduceAdd, g7] at hK ⊢
      refine wp_buildSlice_block _ rfl _ (he n) rfl ?_
      exact hK _ _ ⟨_, rfl, Row.new _ _ _⟩ ((Below.refl _ _).alloc (Nat.le_refl _) _)
  · intro f w1 hC hv
    have g0 : f 0 = _ := hv 0 (by decide)
    have g1 : f 1 = _ := hv 1 (by decide)
    have g2 : f 2 = _ := hv 2 (by decide)
    have g3 : f 3 = _ := hv 3 (by decide)
    have g4 : f 4 = _ := hv 4 (by decide)
    have g5 : f 5 = _ := hv 5 (by decide)
    have g6 : f 6 = _ := hv 6 (by decide)
    have g7 : f 7 = _ := hv 7 (by decide)
    obtain ⟨p, g8, hp⟩ := hv 8 (by decide)
    simp only [List.take_succ_cons, List.take_zero, List.drop_succ_cons, List.drop_zero, setAll, List.setIfInBounds_toArray, List.set_cons_succ, List.set_cons_zero, Nat.zero_add, Nat.reduceAdd, g0, g1, g2, g3, g4, g5, g6, g7, g8]
    clear g0 g1 g2 g3 g4 g5 g6 g7 g8 hv
    obtain ⟨c1, c2, c3⟩ := hC
    obtain ⟨i0, i1, i2, i3, i4⟩ := Tryd.info23'
    refine wpList_append_at rfl (.tmp 8) (.tmp 16) 114 rfl 23 i0 _ 16 16 Tryd.underlying114 i1 i2 i3 i4 ?_ (by decide) bb n cap _ rfl c2 ⟨p, 0, none⟩ 1 1 ((Gf.ell l0 n).map B) rfl (by rw [List.length_map, he]) (fun j u hu => ?_) (fun u hu => ?_) (by unfold maxLen; omega) (by omega) (fun g cp w' ho hg hnew => ?_)
    · show (ag (Gf.zeros 16)).size = 16
      rw [ag_size]; rfl
    · have := hp.cell j
      simp only [Addr.add_mid, Nat.zero_add]
      rw [this]
      simpa [ag] using hu
    · obtain ⟨x, _, rfl⟩ := List.mem_map.1 hu
      rfl
    · have hz := c3.size
      have hz2 := hg.size
      have hm1 : w'.heap[mb]? = w1.heap[mb]? := hg.block mb c1.lt (by simp; omega)
      have r1 : Row w' mb 114 #[.slice (some ⟨bb, 0, none⟩) n cap] := by unfold Row at *; rw [hm1]; exact c1
      have hcell := r1.cell 0
      have hfz := r1.frozen 0
      have hxs : (Gf.ells l0 n).map B ++ (Gf.ell l0 n).map B = (Gf.ells l0 (n + 1)).map B := by simp [Gf.ells]
      rw [hxs] at ho
      have hgm : mb ≠ g := by
        rcases hnew with rfl | h'
        · exact hne
        · omega
      have hgl : g < w'.heap.size := (ho.lt g rfl).2
      have r2 := r1.setCell 0 (.slice (some ⟨g, 0, none⟩) (n + 1) cp)
      have ho2 : (w'.setCell ⟨mb, 0, none⟩ (.slice (some ⟨g, 0, none⟩) (n + 1) cp)).ownsRow 0 23 16 (.slice (some ⟨g, 0, none⟩) (n + 1) cp) (n + 1) ((Gf.ells l0 (n + 1)).map B) := by
        refine ⟨ho.1, ?_⟩
        rcases ho.2 with ⟨e, _⟩ | ⟨g1, c1, cur, e1, e2, e3, e4⟩
        · cases e
        · have e1' := e1
          injection e1 with q1; injection q1 with q1; injection q1 with q1
          subst q1
          exact .inr ⟨g, c1, cur, e1', e2, by rw [Below.heap_setCell _ _ _ _ (Ne.symm hgm)]; exact e3, e4⟩
      have hsz : (w'.setCell ⟨mb, 0, none⟩ (.slice (some ⟨g, 0, none⟩) (n + 1) cp)).heap.size = w'.heap.size := by simp [World.setCell]
      have hkeep : ∀ k, k < w.heap.size → k ≠ mb → k ≠ bb → (w'.setCell ⟨mb, 0, none⟩ (.slice (some ⟨g, 0, none⟩) (n + 1) cp)).heap[k]? = w.heap[k]? := fun k hk h1 h2 => by
        rw [Below.heap_setCell _ _ _ _ h1, hg.block k (by omega) (by simp; exact h2), c3.block k hk]
      have hos := hg.os.trans c3.os
      have htp := hg.tape.trans c3.tape
      have hou := hg.output.trans c3.output
      have hnew' : g = bb ∨ w.heap.size ≤ g := by
        rcases hnew with h' | h'
        · exact .inl h'
        · exact .inr (by omega)
      clear hxs hrow hown c1 c2 hp hm1 ho hg hsz hnew
      go_wp2
      exact ⟨g, cp, r2, ho2, hgm, hgl, hnew', hos, by first | exact htp | exact hou, by omega, hkeep⟩

def cnt (mb : Nat) (w : World) : Nat := match w.cell? ⟨mb, 0, none⟩ with
  | some (.slice _ n _) => n
  | _ => 0
set_option maxRecDepth 100000 in
set_option maxHeartbeats 1000000 in
theorem mask_any (mb bb : Nat) (l0 : List UInt8) (hl0 : l0.length = 16) (r : Nat) (hr : r < 290) (w : World) (hm : Msk mb l0 w bb) :
    Calls Tryd.prog 63 #[.int .i64 (r : Int), .pointer (some ⟨mb, 0, none⟩)] w fun e w' => e = .returned (.agg (ag (Gf.ell l0 r))) ∧ Gm mb l0 w w' := by
  obtain ⟨L, hL⟩ : ∃ L, Gf.ell l0 r = L := ⟨_, rfl⟩
  have he : L.length = 16 := by rw [← hL]; exact Gf.ell_len l0 hl0 r
  rw [hL]
  have HL := Box'.mk hL
  clear hL
  have s0 := Sf.new hm (.cells (ag (Gf.zeros 16)) 23)
  have g0 : Gm mb l0 w (w.alloc (.cells (ag (Gf.zeros 16)) 23)) := Gm.of ((Below.refl _ _).alloc (Nat.le_refl _) _)
  go_enter Tryd.func63, Tryd.ntmps63
  go_wp2
  go_loopw [4] (fun _ wr => Room wr w.heap.size 23 16 ∧ Sf mb l0 wr w.heap.size ∧ Gm mb l0 w wr) (fun _ wr => r + 1 - cnt mb wr)
  case atStart => exact ⟨Room.new _ _ _ _ rfl, s0, g0⟩
  case round =>
    clear s0 g0
    obtain ⟨h1, hs, hg⟩ := hrel
    obtain ⟨b1, m1⟩ := hs.is
    obtain ⟨n, cap, r1, r2, r3, r4⟩ := m1.ex
    have hcell := r1.cell 0
    have hcnt : cnt mb wr = n := by unfold cnt; rw [hcell]; rfl
    have hlt1 := m1.lt
    have hne1 := m1.ne
    by_cases hlt : n ≤ r
    · have M1 := Box'.mk m1
      clear m1
      have hcell' : wr.cell? ⟨mb, 0, none⟩ = some (.slice (some ⟨b1, 0, none⟩) n cap) := hcell
      clear hcell
      have hc' := Box'.mk hcnt
      clear hcnt
      go_wp2
      refine wp_mono (mstep_any mb b1 n cap l0 hl0 r2 (by omega) hne1 _ _ _ _ _ _ _ _ _ _ _ _ _ _ _ _ _ _ _ _ _ _ hlt1 r1 r4) ?_
      rintro e a' w2 ⟨rfl, ⟨v8, v9, v10, v11, v12, v13, v14, v15, v16, v17, rfl⟩, b2, cap2, q1, q2, q3, q4, q5, q6, q7, q8, q9, q10⟩
      have m2 : Msk mb l0 w2 b2 := ⟨⟨n + 1, cap2, q1, by omega, by omega, q2⟩, q3, q4⟩
      have hg2 : Gm mb l0 wr w2 := ⟨q6, q7, q8, q9, fun b3 m3 => by
        have e3 := M1.out.one m3
        subst e3
        exact ⟨b2, m2, q5, q10⟩⟩
      have h1' := hs.room hg2 h1
      have hs' := hs.go hg2
      have hg' := hg.trans hg2
      have hcnt2 : Box' (cnt mb w2 = n + 1) := ⟨by unfold cnt; rw [q1.cell 0]; rfl⟩
      clear hcell' r1 r4 q1 q2 q10 hg2 M1 m2 h1 hs hg
      simp only [Exit.inBlock]
      go_wp2
      refine ⟨⟨h1', hs', hg'⟩, ?_⟩
      rw [hcnt2.out, hc'.out]
      omega
    · have hrg := own_range hl0 r4 r (by omega)
      have hcell' : wr.cell? ⟨mb, 0, none⟩ = some (.slice (some ⟨b1, 0, none⟩) n cap) := hcell
      have hg' := hg.setRow hs (Nat.le_refl _) (ag L)
      rw [HL.out] at hrg
      clear hcell hcnt m1 r1 r4
      go_wp2_with (first
        | (refine wpList_load_midB rfl 23 (.tmp 20) rfl _ _ rfl _ hrg _ Tryd.underlying23 rfl 16 Tryd.info23 he ?_)
        | (refine wpList_store_row rfl 23 _ _ rfl _ rfl _ rfl _ _ h1 Tryd.info23 (by rw [ag_size]; exact he) (ag_one _) ?_)
        | fail)
      exact bodyPost_ret (results_row rfl _ _ rfl _ _ (h1.setRow _) _ Tryd.underlying23 rfl 16 Tryd.info23 (by rw [ag_size]; exact he)) rfl ⟨rfl, hg'⟩
end Go.Proofs.YthcokaffbgbanaaDoor

/- Arrays of bytes cut into slices. -/
namespace Go.Proofs.YthcokaffbgbanaaDoor
variable {P : Program}
theorem run_slice_arr (w : World) (t e : TypeId) (n : Nat) (hu : P.underlying t = some (.array n e)) (hs : (P.info? e).map (·.size) = some 1) (b o l h : Nat) (hl : l ≤ h) (hh : h ≤ n) (hn : l < n) :
    (Instr.sliceAt t (.pointer (some ⟨b, o, none⟩)) (some (.int .i64 (l : Int))) (some (.int .i64 (h : Int))) none).run P w = .ok (.slice (some ⟨b, o + l, none⟩) (h - l) (n - l)) w := by
  have hsz : ∀ w, (sizeOf e).run P w = .ok 1 w := by
    intro w
    cases hq : P.info? e with
    | none => simp [hq] at hs
    | some i => simp [hq] at hs; simp [sizeOf, typeInfo, hq, hs]
  have h1 : (0 : Int) ≤ (h : Int) ∧ (h : Int) ≤ (n : Int) := by omega
  have h3 : ¬ n = l := by omega
  simp [Instr.sliceAt, run_underlying hu, Instr.sureAddr, Instr.sliceBounds, go_sem, hsz, h1, h3, Addr.add]
  rw [if_pos hl]
  by_cases h0 : l = 0
  · subst h0; simp
  · simp [h0]
theorem run_slice_from (w : World) (t e : TypeId) (n : Nat) (hu : P.underlying t = some (.array n e)) (hs : (P.info? e).map (·.size) = some 1) (b o l : Nat) (hn : l < n) :
    (Instr.sliceAt t (.pointer (some ⟨b, o, none⟩)) (some (.int .i64 (l : Int))) none none).run P w = .ok (.slice (some ⟨b, o + l, none⟩) (n - l) (n - l)) w := by
  have hsz : ∀ w, (sizeOf e).run P w = .ok 1 w := by
    intro w
    cases hq : P.info? e with
    | none => simp [hq] at hs
    | some i => simp [hq] at hs; simp [sizeOf, typeInfo, hq, hs]
  have h3 : ¬ n = l := by omega
  simp [Instr.sliceAt, run_underlying hu, Instr.sureAddr, Instr.sliceBounds, go_sem, hsz, h3, Addr.add]
  rw [if_pos (by omega)]
  by_cases h0 : l = 0
  · subst h0; simp
  · simp [h0]
theorem slice_op {op : Oper} {a : Act} (t : TypeId) (x : Operand) (lo hi mx : Option Operand) (ho : op.op = .slice t x lo hi mx) (v : Value) (w : World) (h : (Instr.sliceAt t (a.eval x) (lo.map a.eval) (hi.map a.eval) (mx.map a.eval)).run P w = .ok v w) :
    (execOp a.eval op).run P w = .ok (.value v) w := by
  unfold execOp
  simp only [ho, Sem.run_bind, h, Result.andThen_ok, Sem.run_pure]

def splice (l : List UInt8) (off : Nat) (cs : List UInt8) : List UInt8 := l.take off ++ (cs ++ l.drop (off + cs.length))
theorem splice_len (l : List UInt8) (off : Nat) (cs : List UInt8) (h : off + cs.length ≤ l.length) : (splice l off cs).length = l.length := by
  simp [splice]; omega

/-- The built-in copy, from a row of bytes into a row of bytes. -/
theorem wpList_copy_bytes {w : World} {ops : Array Oper} {rest : List Oper} {o : Oper} {a : Act} {Q : Exit → Act → World → Prop} (hgd : o.guard = none) (d s : Operand) (dT sT : TypeId)
    (ho : o.op = .call { callee := .builtin .copy, args := #[d, s], argTypes := #[dT, sT] }) (elem : TypeId) (hu : P.underlying dT = some (.slice elem)) (hsz : (P.info? elem).map (·.size) = some 1)
    (g off dLen dCap b so sLen sCap : Nat) (hd : a.eval d = .slice (some ⟨g, off, none⟩) dLen dCap) (hs : a.eval s = .slice (some ⟨b, so, none⟩) sLen sCap)
    (l sl : List UInt8) (t t' : TypeId) (hg : Row w g t (ag l)) (hb : Row w b t' (ag sl)) (n : Nat) (hn : n = Nat.min sLen dLen) (hfit : off + n ≤ l.length) (hsrc : so + n ≤ sl.length)
    (h : wpList P ops Q rest (a.put o.dst (goInt n)) (w.setRow g (ag (splice l off ((sl.drop so).take n))))) : wpList P ops Q (o :: rest) a w := by
  have hlen : ((sl.drop so).take n).length = n := by simp; omega
  have hr := hb.range so n
  refine wpList_copy_own hgd d s dT sT ho elem hu hsz g off dLen dCap ⟨b, so, none⟩ sLen sCap hd hs (ag l) t hg (((sl.drop so).take n).map B) (by rw [List.length_map, hlen]; exact hn)
    (fun j v hv => by rw [Addr.add_mid]; exact hr j v hv) (by rw [List.length_map, hlen, ag_size]; exact hfit) ?_ ?_
  · intro v hv
    obtain ⟨x, _, rfl⟩ := List.mem_map.1 hv
    rfl
  · have e : ((ag l).toList.take off ++ ((((sl.drop so).take n).map B) ++ (ag l).toList.drop (off + (((sl.drop so).take n).map B).length))).toArray = ag (splice l off ((sl.drop so).take n)) := by
      unfold ag splice
      simp [List.map_take, List.map_drop]
    rw [e, List.length_map, hlen]
    exact h

theorem fill_splice (z : List UInt8) (f : Nat → UInt8) (m : Nat) (h : m + 4 ≤ z.length) (cs : List UInt8) (hc : cs = [f m, f (m + 1), f (m + 2), f (m + 3)]) : splice (Gf.fill z f m) m cs = Gf.fill z f (m + 4) := by
  subst hc
  apply List.ext_getElem?
  intro j
  have hl := Gf.fill_len z f m
  unfold splice
  rcases Nat.lt_or_ge j m with h1 | h1
  · rw [List.getElem?_append_left (by simp; omega), List.getElem?_take_of_lt h1, Gf.fill_at z f m j h1 (by omega), Gf.fill_at z f (m + 4) j (by omega) (by omega)]
  · rcases Nat.lt_or_ge j (m + 4) with h2 | h2
    · rw [List.getElem?_append_right (by simp; omega), Gf.fill_at z f (m + 4) j h2 (by omega)]
      have hlt : (List.take m (Gf.fill z f m)).length = m := by simp; omega
      rw [hlt]
      have hc : j = m ∨ j = m + 1 ∨ j = m + 2 ∨ j = m + 3 := by omega
      rcases hc with rfl | rfl | rfl | rfl <;> simp [Nat.add_sub_cancel_left]
    · have hz : ∀ (n : Nat), n ≤ j → (Gf.fill z f n)[j]? = z[j]? := by
        intro n hn
        induction n with
        | zero => rfl
        | succ n ih => rw [Gf.fill, List.getElem?_set_ne (by omega)]; exact ih (by omega)
      rw [hz (m + 4) h2, List.getElem?_append_right (by simp; omega), List.getElem?_append_right (by simp; omega), List.getElem?_drop, ← hz m (by omega)]
      congr 1
      simp; omega
end Go.Proofs.YthcokaffbgbanaaDoor

/- Bytes that lie behind a slice; the walks of cut and filledUp. -/
namespace Go.Proofs.YthcokaffbgbanaaDoor
open Go.RowKit Go.BigFrame

/-- The slice v has the bytes l, in a block of S. -/
def Bts (S : Nat → Prop) (w : World) (v : Value) (l : List UInt8) : Prop :=
  ∃ a c, v = .slice a l.length c ∧ l.length ≤ c ∧ (l = [] ∨ ∃ b o, a = some ⟨b, o, none⟩ ∧ S b ∧ w.rangeAt b o (l.map B))
set_option maxRecDepth 100000 in
theorem Bts.keep {S S' : Nat → Prop} {w w' : World} {v : Value} {l : List UInt8} (h : Bts S w v l) (hk : ∀ b, S b → S' b ∧ w'.heap[b]? = w.heap[b]?) : Bts S' w' v l := by
  obtain ⟨a, c, h1, h2, h3⟩ := h
  refine ⟨a, c, h1, h2, ?_⟩
  rcases h3 with h3 | ⟨b, o, h4, h5, h6⟩
  · exact .inl h3
  · refine .inr ⟨b, o, h4, (hk b h5).1, fun j u hu => ?_⟩
    have := h6 j u hu
    simp only [World.cell?, (hk b h5).2] at *
    exact this
set_option maxRecDepth 100000 in
theorem Bts.below {S : Nat → Prop} {N : Nat} {w w' : World} {v : Value} {l : List UInt8} (h : Bts S w v l) (hb : Below N w w') (hS : ∀ b, S b → b < N) : Bts S w' v l :=
  h.keep fun b hs => ⟨hs, hb.block b (hS b hs)⟩

set_option maxRecDepth 100000 in
theorem quiet_load_midB {P : Program} {C : World → Prop} {K : Act → Prop} {op : Oper} {a : Act} (ty : TypeId) (x : Operand) (ho : op.op = .load ty x) (b o : Nat) (hx : a.eval x = .pointer (some ⟨b, o, none⟩))
    (l : List UInt8) (hr : ∀ w, C w → w.rangeAt b o (l.map B)) (d : TypeDesc) (hu : P.underlying ty = some d) (hd : d.isRow = true) (n : Nat) (hi : (P.info? ty).map (·.size) = some n) (hn : l.length = n)
    (h : K (a.put op.dst (.agg (ag l)))) : op.quiet P a C K :=
  ⟨_, fun w hw => by
    have hrun := run_loadAt_mid (P := P) w b o ty _ d (hr w hw) hu hd (by rw [hi]; simp [hn])
    unfold Oper.quietAt execOp
    simp only [ho, hx, Sem.run_bind, hrun, Result.andThen_ok]
    exact ⟨rfl, rfl⟩, h⟩

set_option maxRecDepth 100000 in
theorem results_row_slot {P : Program} {w : World} {fn : Func} {p q : Tmp} {ty : TypeId} (hf : fn.results = #[.cell p ty, .tmp q]) (tmps : Array Value) (b : Nat) (hx : tmps.getD p undef = .pointer (some ⟨b, 0, none⟩)) (v : Value) (hq : tmps.getD q undef = v)
    (t : TypeId) (c : Array Value) (hr : Row w b t c) (d : TypeDesc) (hu : P.underlying ty = some d) (hd : (match d with | .struct _ | .array _ _ => true | _ => false) = true) (n : Nat) (hi : (P.info? ty).map (·.size) = some n) (hn : c.size = n) :
    (results fn tmps).run P w = .ok (.tuple #[.agg c, v]) w := by
  have hrun := run_loadVar_row (P := P) w b t ty c (0, 0) d hr hu hd (by rw [hn]; exact hi)
  have hx' : tmps[p]?.getD undef = .pointer (some ⟨b, 0, none⟩) := by simpa using hx
  have hq' : tmps[q]?.getD undef = v := by simpa using hq
  simp only [results, hf]
  simp [hx', hq', asAddr, hrun]
set_option maxRecDepth 100000 in
theorem results_slot_row {P : Program} {w : World} {fn : Func} {p q : Tmp} {ty : TypeId} (hf : fn.results = #[.tmp q, .cell p ty]) (tmps : Array Value) (b : Nat) (hx : tmps.getD p undef = .pointer (some ⟨b, 0, none⟩)) (v : Value) (hq : tmps.getD q undef = v)
    (t : TypeId) (c : Array Value) (hr : Row w b t c) (d : TypeDesc) (hu : P.underlying ty = some d) (hd : (match d with | .struct _ | .array _ _ => true | _ => false) = true) (n : Nat) (hi : (P.info? ty).map (·.size) = some n) (hn : c.size = n) :
    (results fn tmps).run P w = .ok (.tuple #[v, .agg c]) w := by
  have hrun := run_loadVar_row (P := P) w b t ty c (0, 0) d hr hu hd (by rw [hn]; exact hi)
  have hx' : tmps[p]?.getD undef = .pointer (some ⟨b, 0, none⟩) := by simpa using hx
  have hq' : tmps[q]?.getD undef = v := by simpa using hq
  simp only [results, hf]
  simp [hx', hq', asAddr, hrun]
set_option maxRecDepth 100000 in
theorem range_below {N : Nat} {w w' : World} {b o : Nat} {cs : List Value} (h : w.rangeAt b o cs) (hb : Below N w w') (hn : b < N) : w'.rangeAt b o cs := fun j u hu => by
  have := h j u hu
  simp only [World.cell?, hb.block b hn] at *
  exact this
set_option maxRecDepth 100000 in
theorem range_lt {w : World} {b o : Nat} {l : List UInt8} (h : w.rangeAt b o (l.map B)) (hl : 0 < l.length) : b < w.heap.size := by
  have := h 0 (B l[0]) (by simp [hl])
  exact World.block_lt_of_cell? w _ this
set_option maxRecDepth 100000 in
theorem array_op {op : Oper} {a : Act} (x : Operand) (ho : op.op = .sliceToArrayPointer 23 x) (p : Addr) (n c : Nat) (hn : 16 ≤ n) (hx : a.eval x = .slice (some p) n c) (w : World) : (execOp a.eval op).run Tryd.prog w = .ok (.value (.pointer (some p))) w := by
  unfold execOp
  have : ¬ n < 16 := by omega
  simp [ho, hx, Instr.arrayAt, run_underlying Tryd.underlying23, this]
set_option maxRecDepth 100000 in
set_option maxHeartbeats 1000000 in
theorem cut_any (S : Nat → Prop) (v : Value) (l : List UInt8) (h16 : 16 ≤ l.length) (hmax : l.length ≤ 100000) (w : World) (hl : Bts S w v l) :
    Calls Tryd.prog 65 #[v] w fun e w' => ∃ v', e = .returned (.tuple #[.agg (ag (l.take 16)), v']) ∧ Bts S w v' (l.drop 16) ∧ Below w.heap.size w w' := by
  obtain ⟨a, c, rfl, hc, h3⟩ := hl
  rcases h3 with rfl | ⟨b, o, rfl, hS, hr⟩
  · simp at h16
  have hr1 : w.rangeAt b o ((l.take 16).map B) := fun j u hu => by
    refine hr j u ?_
    rw [List.map_take, List.getElem?_take] at hu
    split at hu
    · exact hu
    · cases hu
  have hr2 : w.rangeAt b (o + 16) ((l.drop 16).map B) := fun j u hu => by
    rw [List.map_drop, List.getElem?_drop] at hu
    have := hr (16 + j) u hu
    rw [← Nat.add_assoc] at this; exact this
  have ht : (l.take 16).length = 16 := by rw [List.length_take]; omega
  have hd : (l.drop 16).length = l.length - 16 := by rw [List.length_drop]
  have hend : ∀ w', ∀ v', v' = (if l.length = 16 then Value.slice (some ⟨b, o, none⟩) 0 0 else Value.slice (some ⟨b, o + 16, none⟩) (l.length - 16) (l.length - 16)) → Below w.heap.size w w' →
      ∃ v'', Ending.returned (.tuple #[.agg (ag (l.take 16)), v']) = .returned (.tuple #[.agg (ag (l.take 16)), v'']) ∧ Bts S w v'' (l.drop 16) ∧ Below w.heap.size w w' := by
    intro w' v' hv hb
    refine ⟨v', rfl, ?_, hb⟩
    by_cases e : l.length = 16
    · rw [if_pos e] at hv
      exact ⟨_, _, by rw [hv, hd, e], by rw [hd, e]; omega, .inl (List.eq_nil_of_length_eq_zero (by omega))⟩
    · rw [if_neg e] at hv
      exact ⟨_, _, by rw [hv, hd], by rw [hd]; omega, .inr ⟨b, o + 16, rfl, hS, hr2⟩⟩
  have hlt := range_lt hr1 (by omega)
  generalize l.take 16 = l1 at *
  generalize l.length = n at *
  go_enter Tryd.func65, Tryd.ntmps65
  go_wp2
  obtain ⟨sl, hsl⟩ : ∃ sl, sl = (if n = 16 then Value.slice (some ⟨b, o, none⟩) 0 0 else Value.slice (some ⟨b, o + 16, none⟩) (n - 16) (n - 16)) := ⟨_, rfl⟩
  refine wp_region_grow 12 (by kernel_rfl) (by kernel_rfl) (fun w1 w2 => Below w.heap.size w1 w2 ∧ (Room w1 w.heap.size 23 16 → Room w2 w.heap.size 23 16) ∧ (Row w1 w.heap.size 23 (ag l1) → Row w2 w.heap.size 23 (ag l1))) (fun w1 => Room w1 w.heap.size 23 16 ∧ w1.rangeAt b o (l1.map B) ∧ Below w.heap.size w w1) (fun k w1 v => match k with
    | 0 => v = .slice (some ⟨b, o, none⟩) n c
    | 1 => v = .slice (some ⟨b, o, none⟩) 16 16
    | 2 => v = .pointer (some ⟨b, o, none⟩)
    | 3 => v = .agg (ag l1)
    | 4 => v = .slice (some ⟨b, o, none⟩) n c
    | 5 => v = .slice (some ⟨b, o, none⟩) n c
    | 6 => v = .int .i64 (n : Int)
    | 7 => v = .slice (some ⟨b, o, none⟩) n c
    | 8 => v = .int .i64 (n : Int)
    | 9 => v = sl
    | 10 => Row w1 w.heap.size 23 (ag l1)
    | 11 => v = sl
    | _ => True) ?_ ?_ ?_ ?_ ?_
  · rintro w1 w2 ⟨hb, h1, h2⟩ ⟨c1, c2, c3⟩
    exact ⟨h1 c1, range_below c2 hb hlt, c3.trans hb⟩
  · intro k v w1 w2 hC1 hb h
    match k, h with
    | 0, h => exact h
    | 1, h => exact h
    | 2, h => exact h
    | 3, h => exact h
    | 4, h => exact h
    | 5, h => exact h
    | 6, h => exact h
    | 7, h => exact h
    | 8, h => exact h
    | 9, h => exact h
    | 10, h => exact hb.2.2 h
    | 11, h => exact h
    | k + 12, h => trivial
  · exact ⟨Room.new _ _ _ _ rfl, range_below hr1 ((Below.refl _ _).alloc (Nat.le_refl _) _).drew hlt, ((Below.refl _ _).alloc (Nat.le_refl _) _).drew⟩
  · refine ⟨?_, ?_, ?_, ?_, ?_, ?_, ?_, ?_, ?_, ?_, ?_, ?_, trivial⟩
    · intro f w1 hC hd KK hK
      simp only [List.take_succ_cons, List.take_zero, setAll, List.setIfInBounds_toArray, List.set_cons_succ, List.set_cons_zero, Nat.zero_add, Nat.reduceAdd] at hK ⊢
      refine wp_of_quiet rfl ?_
      go_big_quiet_step (fail)
      exact wpQuiet_nil (hK _ _ rfl ⟨Below.refl _ _, fun h => h, fun h => h⟩)
    · intro f w1 hC hd KK hK
      have g0 : f 0 = _ := hd 0 rfl
      simp only [List.take_succ_cons, List.take_zero, setAll, List.setIfInBounds_toArray, List.set_cons_succ, List.set_cons_zero, Nat.zero_add, Nat.reduceAdd, g0] at hK ⊢
      refine wp_of_quiet rfl ?_
      go_big_quiet_step (fail)
      exact wpQuiet_nil (hK _ _ rfl ⟨Below.refl _ _, fun h => h, fun h => h⟩)
    · intro f w1 hC hd KK hK
      have g1 : f 1 = _ := hd 1 rfl
      simp only [List.take_succ_cons, List.take_zero, setAll, List.setIfInBounds_toArray, List.set_cons_succ, List.set_cons_zero, Nat.zero_add, Nat.reduceAdd, g1] at hK ⊢
      refine wp_of_quiet rfl ?_
      go_big_quiet_want
      refine quiet_run (.pointer (some ⟨b, o, none⟩)) (array_op _ rfl _ 16 16 (by omega) rfl) ?_
      go_big_quiet_on
      exact wpQuiet_nil (hK _ _ rfl ⟨Below.refl _ _, fun h => h, fun h => h⟩)
    · intro f w1 hC hd KK hK
      have g2 : f 2 = _ := hd 2 rfl
      simp only [List.take_succ_cons, List.take_zero, setAll, List.setIfInBounds_toArray, List.set_cons_succ, List.set_cons_zero, Nat.zero_add, Nat.reduceAdd, g2] at hK ⊢
      refine wp_load_mid 23 _ rfl _ _ rfl l1 hC.2.1 _ Tryd.underlying23 rfl 16 Tryd.info23 ht ?_
      exact hK _ _ rfl ⟨Below.refl _ _, fun h => h, fun h => h⟩
    · intro f w1 hC hd KK hK
      simp only [List.take_succ_cons, List.take_zero, setAll, List.setIfInBounds_toArray, List.set_cons_succ, List.set_cons_zero, Nat.zero_add, Nat.reduceAdd] at hK ⊢
      refine wp_of_quiet rfl ?_
      go_big_quiet_step (fail)
      exact wpQuiet_nil (hK _ _ rfl ⟨Below.refl _ _, fun h => h, fun h => h⟩)
    · intro f w1 hC hd KK hK
      simp only [List.take_succ_cons, List.take_zero, setAll, List.setIfInBounds_toArray, List.set_cons_succ, List.set_cons_zero, Nat.zero_add, Nat.reduceAdd] at hK ⊢
      refine wp_of_quiet rfl ?_
      go_big_quiet_step (fail)
      exact wpQuiet_nil (hK _ _ rfl ⟨Below.refl _ _, fun h => h, fun h => h⟩)
    · intro f w1 hC hd KK hK
      have g5 : f 5 = _ := hd 5 rfl
      simp only [List.take_succ_cons, List.take_zero, setAll, List.setIfInBounds_toArray, List.set_cons_succ, List.set_cons_zero, Nat.zero_add, Nat.reduceAdd, g5] at hK ⊢
      refine wp_of_quiet rfl ?_
      go_big_quiet_step (fail)
      exact wpQuiet_nil (hK _ _ rfl ⟨Below.refl _ _, fun h => h, fun h => h⟩)
    · intro f w1 hC hd KK hK
      simp only [List.take_succ_cons, List.take_zero, setAll, List.setIfInBounds_toArray, List.set_cons_succ, List.set_cons_zero, Nat.zero_add, Nat.reduceAdd] at hK ⊢
      refine wp_of_quiet rfl ?_
      go_big_quiet_step (fail)
      exact wpQuiet_nil (hK _ _ rfl ⟨Below.refl _ _, fun h => h, fun h => h⟩)
    · intro f w1 hC hd KK hK
      have g7 : f 7 = _ := hd 7 rfl
      simp only [List.take_succ_cons, List.take_zero, setAll, List.setIfInBounds_toArray, List.set_cons_succ, List.set_cons_zero, Nat.zero_add, Nat.reduceAdd, g7] at hK ⊢
      refine wp_of_quiet rfl ?_
      go_big_quiet_step (fail)
      exact wpQuiet_nil (hK _ _ rfl ⟨Below.refl _ _, fun h => h, fun h => h⟩)
    · intro f w1 hC hd KK hK
      have g4 : f 4 = _ := hd 4 rfl
      have g6 : f 6 = _ := hd 6 rfl
      have g8 : f 8 = _ := hd 8 rfl
      simp only [List.take_succ_cons, List.take_zero, setAll, List.setIfInBounds_toArray, List.set_cons_succ, List.set_cons_zero, Nat.zero_add, Nat.reduceAdd, g4, g6, g8] at hK ⊢
      by_cases e : n = 16
      · rw [if_pos e] at hsl
        subst e hsl
        refine wp_of_quiet rfl ?_
        go_big_quiet_step (fail)
        exact wpQuiet_nil (hK _ _ rfl ⟨Below.refl _ _, fun h => h, fun h => h⟩)
      · rw [if_neg e] at hsl
        subst hsl
        refine wp_of_quiet rfl ?_
        go_big_quiet_step (fail)
        exact wpQuiet_nil (hK _ _ rfl ⟨Below.refl _ _, fun h => h, fun h => h⟩)
    · intro f w1 hC hd KK hK
      have g3 : f 3 = _ := hd 3 rfl
      simp only [List.take_succ_cons, List.take_zero, setAll, List.setIfInBounds_toArray, List.set_cons_succ, List.set_cons_zero, Nat.zero_add, Nat.reduceAdd, g3] at hK ⊢
      refine wp_store_row 23 _ _ rfl _ rfl _ rfl _ _ hC.1 Tryd.info23 (by rw [ag_size]; exact ht) (ag_one _) ?_
      exact hK _ _ (hC.1.setRow _) ⟨below_setRow (Below.refl _ _) (Nat.le_refl _) _, fun _ => (hC.1.setRow _).room (by rw [ag_size]; exact ht), fun _ => hC.1.setRow _⟩
    · intro f w1 hC hd KK hK
      have g9 : f 9 = _ := hd 9 rfl
      simp only [List.take_succ_cons, List.take_zero, setAll, List.setIfInBounds_toArray, List.set_cons_succ, List.set_cons_zero, Nat.zero_add, Nat.reduceAdd, g9] at hK ⊢
      refine wp_of_quiet rfl ?_
      go_big_quiet_step (fail)
      exact wpQuiet_nil (hK _ _ rfl ⟨Below.refl _ _, fun h => h, fun h => h⟩)
  · intro f w1 hC hv
    have g0 : f 0 = _ := hv 0 (by decide)
    have g1 : f 1 = _ := hv 1 (by decide)
    have g2 : f 2 = _ := hv 2 (by decide)
    have g3 : f 3 = _ := hv 3 (by decide)
    have g4 : f 4 = _ := hv 4 (by decide)
    have g5 : f 5 = _ := hv 5 (by decide)
    have g6 : f 6 = _ := hv 6 (by decide)
    have g7 : f 7 = _ := hv 7 (by decide)
    have g8 : f 8 = _ := hv 8 (by decide)
    have g9 : f 9 = _ := hv 9 (by decide)
    have g11 : f 11 = _ := hv 11 (by decide)
    have hr10 := hv 10 (by decide)
    simp only [List.take_succ_cons, List.take_zero, List.drop_succ_cons, List.drop_zero, setAll, List.setIfInBounds_toArray, List.set_cons_succ, List.set_cons_zero, Nat.zero_add, Nat.reduceAdd, g0, g1, g2, g3, g4, g5, g6, g7, g8, g9, g11]
    clear g0 g1 g2 g3 g4 g5 g6 g7 g8 g9 g11 hv
    have r10 : Row w1 w.heap.size 23 (ag l1) := hr10
    have hz := hend w1 sl hsl hC.2.2
    clear hr10 hsl hend
    go_wp2
    exact bodyPost_ret (v := .tuple #[.agg (ag l1), sl]) (results_row_slot rfl _ _ rfl sl rfl _ _ r10 _ Tryd.underlying23 rfl 16 Tryd.info23 (by rw [ag_size]; exact ht)) rfl hz

/-- The built-in copy, of bytes wherever they lie into a row of bytes. -/
theorem wpList_copy_range {P : Program} {w : World} {ops : Array Oper} {rest : List Oper} {o : Oper} {a : Act} {Q : Exit → Act → World → Prop} (hgd : o.guard = none) (d s : Operand) (dT sT : TypeId)
    (ho : o.op = .call { callee := .builtin .copy, args := #[d, s], argTypes := #[dT, sT] }) (elem : TypeId) (hu : P.underlying dT = some (.slice elem)) (hsz : (P.info? elem).map (·.size) = some 1)
    (g off dLen dCap b so sLen sCap : Nat) (hd : a.eval d = .slice (some ⟨g, off, none⟩) dLen dCap) (hs : a.eval s = .slice (some ⟨b, so, none⟩) sLen sCap)
    (l cs : List UInt8) (t : TypeId) (hg : Row w g t (ag l)) (hb : w.rangeAt b so (cs.map B)) (hn : cs.length = Nat.min sLen dLen) (hfit : off + cs.length ≤ l.length)
    (h : wpList P ops Q rest (a.put o.dst (goInt cs.length)) (w.setRow g (ag (splice l off cs)))) : wpList P ops Q (o :: rest) a w := by
  refine wpList_copy_own hgd d s dT sT ho elem hu hsz g off dLen dCap ⟨b, so, none⟩ sLen sCap hd hs (ag l) t hg (cs.map B) (by rw [List.length_map]; exact hn)
    (fun j v hv => by rw [Addr.add_mid]; exact hb j v hv) (by rw [List.length_map, ag_size]; exact hfit) ?_ ?_
  · intro v hv
    obtain ⟨x, _, rfl⟩ := List.mem_map.1 hv
    rfl
  · have e : ((ag l).toList.take off ++ ((cs.map B) ++ (ag l).toList.drop (off + (cs.map B).length))).toArray = ag (splice l off cs) := by
      unfold ag splice
      simp [List.map_take, List.map_drop]
    rw [e, List.length_map]
    exact h
def Gf.fup (l : List UInt8) : List UInt8 := (splice (Gf.zeros 16) 0 l).set l.length 128
set_option maxRecDepth 100000 in
theorem Gf.fup_len (l : List UInt8) (h : l.length < 16) : (Gf.fup l).length = 16 := by
  unfold Gf.fup
  rw [List.length_set, splice_len _ _ _ (by show 0 + l.length ≤ (List.replicate 16 (0 : UInt8)).length; rw [List.length_replicate]; omega)]
  rfl
set_option maxRecDepth 100000 in
set_option maxHeartbeats 1000000 in
theorem filled_any (S : Nat → Prop) (v : Value) (l : List UInt8) (h0 : 0 < l.length) (h16 : l.length < 16) (w : World) (hl : Bts S w v l) :
    Calls Tryd.prog 88 #[v] w fun e w' => e = .returned (.agg (ag (Gf.fup l))) ∧ Below w.heap.size w w' := by
  obtain ⟨a, c, rfl, hc, h3⟩ := hl
  rcases h3 with rfl | ⟨b, o, rfl, hS, hr⟩
  · simp at h0
  have hlt := range_lt hr h0
  have lF := Gf.fup_len l h16
  have z16 : (Gf.zeros 16).length = 16 := rfl
  have lS : (splice (Gf.zeros 16) 0 l).length = 16 := splice_len _ _ _ (by omega)
  have hF : (splice (Gf.zeros 16) 0 l).set l.length 128 = Gf.fup l := rfl
  generalize Gf.fup l = F at *
  have HF := Box'.mk hF
  clear hF
  obtain ⟨n, hn⟩ : ∃ n, l.length = n := ⟨_, rfl⟩
  rw [hn] at HF h0 h16 hc
  rw [hn]
  go_enter Tryd.func88, Tryd.ntmps88
  have hw0 : Below w.heap.size w ((w.alloc (.cells (ag (Gf.zeros 16)) 23)).alloc (.cells (ag (Gf.zeros 16)) 23)) := ((Below.refl _ _).alloc (Nat.le_refl _) _).alloc (by simp) _
  have hr' := range_below hr hw0 hlt
  have r0 : Room ((w.alloc (.cells (ag (Gf.zeros 16)) 23)).alloc (.cells (ag (Gf.zeros 16)) 23)) w.heap.size 23 16 := (Room.new _ _ _ _ rfl).alloc _
  have r1 : Row ((w.alloc (.cells (ag (Gf.zeros 16)) 23)).alloc (.cells (ag (Gf.zeros 16)) 23)) (w.heap.size + 1) 23 (ag (Gf.zeros 16)) := Row.made _ _ _ _ _ rfl (by simp)
  have hcp : l.length = Nat.min n 16 := by rw [hn]; exact (Nat.min_eq_left (by omega)).symm
  go_wp2_with (first
    | (refine wpList_copy_range rfl (.tmp 4) (.tmp 5) 26 26 rfl 5 Tryd.underlying26 (by kernel_rfl) _ 0 16 16 b o n c rfl rfl (Gf.zeros 16) l 23 r1 hr' hcp (by omega) ?_
       rw [hn]
       have r2 := r1.setRow (ag (splice (Gf.zeros 16) 0 l))
       have r4 := r0.setRowOther (w.heap.size + 1) (ag (splice (Gf.zeros 16) 0 l)) (by omega)
       have hbl := below_setRow hw0 (show w.heap.size ≤ w.heap.size + 1 by omega) (ag (splice (Gf.zeros 16) 0 l))
       clear r0 r1 hr' hw0 hcp
       generalize hW : World.setRow _ _ _ = W2
       have r2' : Row W2 (w.heap.size + 1) 23 (ag (splice (Gf.zeros 16) 0 l)) := by rw [← hW]; exact r2
       have r4' : Room W2 w.heap.size 23 16 := by rw [← hW]; exact r4
       have hbl' : Below w.heap.size w W2 := by rw [← hW]; exact hbl
       have c2 := r2'.byte (k := n) (by omega)
       have f2 := r2'.frozen n
       have r3 : Row (W2.setCell ⟨w.heap.size + 1, n, none⟩ (.int .u8 128)) (w.heap.size + 1) 23 (ag F) := by have := r2'.setByte n 128; rw [HF.out] at this; exact this
       have r5 := r4'.setOther ⟨w.heap.size + 1, n, none⟩ (.int .u8 128) (by simp)
       have hbl2 := hbl'.setCell (p := ⟨w.heap.size + 1, n, none⟩) (by simp) (.int .u8 128)
       clear hW r2 r4 hbl r2' r4' hbl')
    | (refine wpList_load_row rfl 23 _ rfl _ rfl _ _ r3 _ Tryd.underlying23 rfl 16 Tryd.info23 (by rw [ag_size]; exact lF) ?_)
    | (refine wpList_store_row rfl 23 (.tmp 2) (.tmp 8) rfl _ rfl _ rfl _ _ r5 Tryd.info23 (by rw [ag_size]; exact lF) (ag_one _) ?_)
    | fail)
  exact bodyPost_ret (results_row rfl _ _ rfl _ _ (r5.setRow _) _ Tryd.underlying23 rfl 16 Tryd.info23 (by rw [ag_size]; exact lF)) rfl ⟨rfl, below_setRow hbl2 (Nat.le_refl _) _⟩
end Go.Proofs.YthcokaffbgbanaaDoor

/- The walk of beginning. -/
namespace Go.Proofs.YthcokaffbgbanaaDoor
open Go.RowKit Go.BigFrame

set_option maxRecDepth 100000 in
theorem wpList_val {P : Program} {ops : Array Oper} {rest : List Oper} {op : Oper} {a : Act} {w : World} {Q : Exit → Act → World → Prop} (hgd : op.guard = none) (v : Value) (hrun : (execOp a.eval op).run P w = .ok (.value v) w)
    (h : wpList P ops Q rest (a.put op.dst v) w) : wpList P ops Q (op :: rest) a w :=
  wpList_plain hgd fun _ hK => by unfold Oper.wp; rw [hrun]; exact hK _ _ h
def Gf.nblock (l : List UInt8) : List UInt8 := splice ((Gf.zeros 16).set (15 - l.length) 1) (16 - l.length) l
def Gf.place (l : List UInt8) : Nat := ((Gf.nblock l).getD 15 0).toNat % 64
def Gf.nclean (l : List UInt8) : List UInt8 := (Gf.nblock l).set 15 (UInt8.ofNat (((Gf.nblock l).getD 15 0).toNat / 64 * 64))
def Gf.behind (h l : Nat) : Nat := h ^^^ ((h * 256 % 18446744073709551616) ||| (l / 72057594037927936))
def Gf.shifted (h l p : Nat) : List UInt8 := Gf.joinL ((h * 2 ^ p % 18446744073709551616) ||| (l / 2 ^ (64 - p))) ((l * 2 ^ p % 18446744073709551616) ||| (Gf.behind h l / 2 ^ (64 - p)))
def Gf.begin (key l : List UInt8) : List UInt8 := Gf.shifted (Gf.half (Gf.encrypt key (Gf.nclean l)) 0) (Gf.half (Gf.encrypt key (Gf.nclean l)) 8) (Gf.place l)
set_option maxRecDepth 100000 in
theorem Gf.begin_len (key l : List UInt8) : (Gf.begin key l).length = 16 := Gf.joinL_len _ _
set_option maxRecDepth 100000 in
theorem Gf.nblock_len (l : List UInt8) (h : l.length ≤ 16) : (Gf.nblock l).length = 16 := by
  have : ((Gf.zeros 16).set (15 - l.length) 1).length = 16 := by rw [List.length_set]; rfl
  unfold Gf.nblock; rw [splice_len _ _ _ (by omega), this]
set_option maxRecDepth 100000 in
theorem Gf.nclean_len (l : List UInt8) (h : l.length ≤ 16) : (Gf.nclean l).length = 16 := by unfold Gf.nclean; rw [List.length_set]; exact Gf.nblock_len l h
set_option maxRecDepth 100000 in
theorem and63 : ∀ n : Nat, n < 256 → bits .and .u8 (n : Int) 63 = ((n % 64 : Nat) : Int) := by decide +kernel
set_option maxRecDepth 100000 in
theorem not63 : ∀ n : Nat, n < 256 → bits .andNot .u8 (n : Int) 63 = ((n / 64 * 64 : Nat) : Int) := by decide +kernel

set_option maxRecDepth 100000 in
theorem sh_hi (H L p : Nat) (hL : L < 18446744073709551616) : bits .or .u64 (IntKind.u64.wrap ((H : Int) * 2 ^ p)) ((L : Int) / 2 ^ (64 - p)) = (((H * 2 ^ p % 18446744073709551616) ||| (L / 2 ^ (64 - p)) : Nat) : Int) := by
  have e1 : (H : Int) * 2 ^ p = ((H * 2 ^ p : Nat) : Int) := by simp
  have e2 : (L : Int) / 2 ^ (64 - p) = ((L / 2 ^ (64 - p) : Nat) : Int) := by simp
  rw [e1, e2, wrap_nat, u64_or_nat _ _ (Nat.mod_lt _ (by decide)) (Nat.lt_of_le_of_lt (Nat.div_le_self _ _) hL)]
set_option maxRecDepth 100000 in
theorem behind_lt (H L : Nat) (hH : H < 18446744073709551616) (hL : L < 18446744073709551616) : Gf.behind H L < 18446744073709551616 := by
  unfold Gf.behind
  exact Nat.xor_lt_two_pow (n := 64) hH (Nat.or_lt_two_pow (n := 64) (Nat.mod_lt _ (by decide)) (Nat.lt_of_le_of_lt (Nat.div_le_self _ _) hL))
set_option maxRecDepth 100000 in
theorem behind_int (H L : Nat) (hH : H < 18446744073709551616) (hL : L < 18446744073709551616) : bits .xor .u64 (H : Int) (bits .or .u64 (IntKind.u64.wrap ((H : Int) * 256)) ((L : Int) / 72057594037927936)) = (Gf.behind H L : Int) := by
  have e1 : (H : Int) * 256 = ((H * 256 : Nat) : Int) := by simp
  have e2 : (L : Int) / 72057594037927936 = ((L / 72057594037927936 : Nat) : Int) := by simp
  have h2 : L / 72057594037927936 < 18446744073709551616 := Nat.lt_of_le_of_lt (Nat.div_le_self _ _) hL
  rw [e1, e2, wrap_nat, u64_or_nat _ _ (Nat.mod_lt _ (by decide)) h2, u64_xor_nat _ _ hH (Nat.or_lt_two_pow (n := 64) (Nat.mod_lt _ (by decide)) h2)]
  rfl

set_option maxRecDepth 100000 in
set_option maxHeartbeats 1000000 in
theorem begin_any (S : Nat → Prop) (key : List UInt8) (hkey : key.length = 16) (v : Value) (l : List UInt8) (h0 : 0 < l.length) (h15 : l.length ≤ 15) (w : World) (hl : Bts S w v l) :
    Calls Tryd.prog 49 #[.agg (ag key), v] w fun e w' => e = .returned (.agg (ag (Gf.begin key l))) ∧ Below w.heap.size w w' := by
  obtain ⟨a, c, rfl, hc, h3⟩ := hl
  rcases h3 with rfl | ⟨b, o, rfl, hS, hr⟩
  · simp at h0
  have hlt := range_lt hr h0
  have lB := Gf.nblock_len l (by omega)
  have lC := Gf.nclean_len l (by omega)
  have HB : Box' (splice ((Gf.zeros 16).set (15 - l.length) 1) (16 - l.length) l = Gf.nblock l) := ⟨rfl⟩
  have HC : Box' ((Gf.nblock l).set 15 (UInt8.ofNat (((Gf.nblock l).getD 15 0).toNat / 64 * 64)) = Gf.nclean l) := ⟨rfl⟩
  have HP : Box' (Gf.place l = ((Gf.nblock l).getD 15 0).toNat % 64) := ⟨rfl⟩
  have HG : Box' (Gf.begin key l = Gf.shifted (Gf.half (Gf.encrypt key (Gf.nclean l)) 0) (Gf.half (Gf.encrypt key (Gf.nclean l)) 8) (Gf.place l)) := ⟨rfl⟩
  have lG := Gf.begin_len key l
  have hE := fun w => encrypt_any key (Gf.nclean l) hkey lC w
  have lE := Gf.encrypt_len key (Gf.nclean l)
  have hS2 := fun w => split_any (Gf.encrypt key (Gf.nclean l)) lE w
  have hH := half_lt (Gf.encrypt key (Gf.nclean l)) 0
  have hL := half_lt (Gf.encrypt key (Gf.nclean l)) 8
  generalize Gf.half (Gf.encrypt key (Gf.nclean l)) 0 = H at *
  generalize Gf.half (Gf.encrypt key (Gf.nclean l)) 8 = L at *
  generalize Gf.encrypt key (Gf.nclean l) = E at *
  generalize Gf.nclean l = NC at *
  generalize Gf.begin key l = BG at *
  generalize Gf.place l = pl at *
  generalize Gf.nblock l = NB at *
  obtain ⟨x, hx⟩ : ∃ x, NB.getD 15 0 = x := ⟨_, rfl⟩
  rw [hx] at HC HP
  obtain ⟨n, hn⟩ : ∃ n, l.length = n := ⟨_, rfl⟩
  rw [hn] at h0 h15 hc HB
  rw [hn]
  have hxl := x.toNat_lt
  have a1 := and63 x.toNat hxl
  have a2 := not63 x.toNat hxl
  have e1 : (16 : Int) - (n : Int) = ((16 - n : Nat) : Int) := by omega
  have e2 : ((16 - n : Nat) : Int) - 1 = ((15 - n : Nat) : Int) := by omega
  go_enter Tryd.func49, Tryd.ntmps49
  have hw0 : Below w.heap.size w (((w.alloc (.cells (ag key) 23)).alloc (.cells (ag (Gf.zeros 16)) 23)).alloc (.cells (ag (Gf.zeros 16)) 23)) := (((Below.refl _ _).alloc (Nat.le_refl _) _).alloc (by simp) _).alloc (by simp; omega) _
  have hr' := range_below hr hw0 hlt
  have k0 : Row (((w.alloc (.cells (ag key) 23)).alloc (.cells (ag (Gf.zeros 16)) 23)).alloc (.cells (ag (Gf.zeros 16)) 23)) w.heap.size 23 (ag key) := ((Row.new _ _ _).alloc _).alloc _
  have r0 : Room (((w.alloc (.cells (ag key) 23)).alloc (.cells (ag (Gf.zeros 16)) 23)).alloc (.cells (ag (Gf.zeros 16)) 23)) (w.heap.size + 1) 23 16 := (Room.made _ _ _ _ _ rfl (by simp)).alloc _
  have r1 : Row (((w.alloc (.cells (ag key) 23)).alloc (.cells (ag (Gf.zeros 16)) 23)).alloc (.cells (ag (Gf.zeros 16)) 23)) (w.heap.size + 1 + 1) 23 (ag (Gf.zeros 16)) := Row.made _ _ _ _ _ rfl (by simp)
  go_upto_region 3 with (fail)
  generalize hW0 : World.alloc (World.alloc (World.alloc w _) _) _ = W0
  have hw0' : Below w.heap.size w W0 := by rw [← hW0]; exact hw0
  have hr1 : W0.rangeAt b o (l.map B) := by rw [← hW0]; exact hr'
  have k1 : Row W0 w.heap.size 23 (ag key) := by rw [← hW0]; exact k0
  have r2 : Room W0 (w.heap.size + 1) 23 16 := by rw [← hW0]; exact r0
  have r3 : Row W0 (w.heap.size + 1 + 1) 23 (ag (Gf.zeros 16)) := by rw [← hW0]; exact r1
  clear hW0 hw0 hr' k0 r0 r1 hr
  have c3 := r3.byte (k := 15 - n) (by show _ < (List.replicate 16 (0 : UInt8)).length; rw [List.length_replicate]; omega)
  have f3 := r3.frozen (15 - n)
  go_upto_region 4 with (fail)
  have r4 : Row (W0.setCell ⟨w.heap.size + 1 + 1, 15 - n, none⟩ (.int .u8 1)) (w.heap.size + 1 + 1) 23 (ag ((Gf.zeros 16).set (15 - n) 1)) := r3.setByte (15 - n) 1
  have hw1 := hw0'.setCell (p := ⟨w.heap.size + 1 + 1, 15 - n, none⟩) (by show w.heap.size ≤ w.heap.size + 1 + 1; omega) (.int .u8 1)
  have hr2 := range_below hr1 ((Below.refl w.heap.size W0).setCell (p := ⟨w.heap.size + 1 + 1, 15 - n, none⟩) (by show w.heap.size ≤ w.heap.size + 1 + 1; omega) (.int .u8 1)) hlt
  have k2 := k1.setOther ⟨w.heap.size + 1 + 1, 15 - n, none⟩ (.int .u8 1) (by show w.heap.size ≠ w.heap.size + 1 + 1; omega)
  have r5 := r2.setOther ⟨w.heap.size + 1 + 1, 15 - n, none⟩ (.int .u8 1) (by show w.heap.size + 1 ≠ w.heap.size + 1 + 1; omega)
  clear hw0' hr1 k1 r2 r3 c3 f3
  generalize World.setCell _ _ _ = W1 at *
  have hcp : l.length = Nat.min n (16 - (16 - n)) := by rw [hn, Nat.sub_sub_self (by omega)]; exact (Nat.min_self n).symm
  have l1 : ((Gf.zeros 16).set (15 - n) 1).length = 16 := by rw [List.length_set]; rfl
  have hlt16 : 16 - n < 16 := by omega
  have hsl := run_slice_from (P := Tryd.prog) W1 23 5 16 Tryd.underlying23 (by kernel_rfl) (w.heap.size + 1 + 1) 0 (16 - n) hlt16
  rw [Nat.zero_add] at hsl
  go_wp2_with (first
    | (refine wpList_val rfl _ (slice_op 23 (.tmp 5) (some (.tmp 17)) none none rfl _ _ hsl) ?_)
    | (refine wpList_copy_range rfl (.tmp 18) (.tmp 19) 26 26 rfl 5 Tryd.underlying26 (by kernel_rfl) (w.heap.size + 1 + 1) (16 - n) (16 - (16 - n)) (16 - (16 - n)) b o n c rfl rfl ((Gf.zeros 16).set (15 - n) 1) l 23 r4 hr2 hcp (by omega) ?_
       rw [hn, HB.out]
       have r6 := r4.setRow (ag NB)
       have k3 := k2.setRowOther (w.heap.size + 1 + 1) (ag NB) (by omega)
       have r7 := r5.setRowOther (w.heap.size + 1 + 1) (ag NB) (by omega)
       have hw2 := below_setRow hw1 (show w.heap.size ≤ w.heap.size + 1 + 1 by omega) (ag NB)
       clear r4 hr2 hcp k2 r5 hw1
       generalize World.setRow _ _ _ = W2 at *
       have c6 := cell_form (r6.byte (k := 15) (by omega)) hx
       have f6 := r6.frozen 15
       have r8 : Row (W2.setCell ⟨w.heap.size + 1 + 1, 15, none⟩ (.int .u8 ((x.toNat / 64 * 64 : Nat) : Int))) (w.heap.size + 1 + 1) 23 (ag NC) := by
         have := r6.setByte 15 (UInt8.ofNat (x.toNat / 64 * 64))
         rw [HC.out, UInt8.toNat_ofNat_of_lt' (by show x.toNat / 64 * 64 < 256; omega)] at this
         exact this
       have k4 := k3.setOther ⟨w.heap.size + 1 + 1, 15, none⟩ (.int .u8 ((x.toNat / 64 * 64 : Nat) : Int)) (by show w.heap.size ≠ w.heap.size + 1 + 1; omega)
       have r9 := r7.setOther ⟨w.heap.size + 1 + 1, 15, none⟩ (.int .u8 ((x.toNat / 64 * 64 : Nat) : Int)) (by show w.heap.size + 1 ≠ w.heap.size + 1 + 1; omega)
       have hw3 := hw2.setCell (p := ⟨w.heap.size + 1 + 1, 15, none⟩) (by show w.heap.size ≤ w.heap.size + 1 + 1; omega) (.int .u8 ((x.toNat / 64 * 64 : Nat) : Int))
       clear r6 k3 r7 hw2)
    | (refine wpList_load_row rfl 23 _ rfl _ rfl _ _ k4 _ Tryd.underlying23 rfl 16 Tryd.info23 (by rw [ag_size]; exact hkey) ?_)
    | (refine wpList_load_row rfl 23 _ rfl _ rfl _ _ r8 _ Tryd.underlying23 rfl 16 Tryd.info23 (by rw [ag_size]; exact lC) ?_)
    | fail)
  refine (hE _).mono ?_
  rintro e w1 ⟨rfl, hb1⟩
  have hw4 : Below w.heap.size w w1 := hw3.trans (hb1.mono (by simp; have := hw3.size; simp at this; omega))
  have r10 : Room w1 (w.heap.size + 1) 23 16 := r9.below hb1 (r9.elim fun _ h => h.1.lt)
  clear hb1 hw3 r9 r8 k4
  go_wp2_with fail
  refine (hS2 _).mono ?_
  rintro e w2 ⟨rfl, hb2⟩
  have hz1 := r10.elim fun _ h => h.1.lt
  have hw5 : Below w.heap.size w w2 := hw4.trans (hb2.mono (by omega))
  have r11 : Room w2 (w.heap.size + 1) 23 16 := r10.below hb2 hz1
  clear hb2 hw4 r10
  go_wp2_with fail
  rw [behind_int H L hH hL, sh_hi H L _ hL, sh_hi L (Gf.behind H L) _ (behind_lt H L hH hL)]
  refine (ocbJoin_any _ _ _).mono ?_
  rintro e w3 ⟨rfl, hb3⟩
  have hz2 := r11.elim fun _ h => h.1.lt
  have q3 : Room w3 (w.heap.size + 1) 23 16 := r11.below hb3 hz2
  have hw6 : Below w.heap.size w w3 := hw5.trans (hb3.mono (by omega))
  have hG : Gf.joinL ((H * 2 ^ (x.toNat % 64) % 18446744073709551616) ||| (L / 2 ^ (64 - x.toNat % 64))) ((L * 2 ^ (x.toNat % 64) % 18446744073709551616) ||| (Gf.behind H L / 2 ^ (64 - x.toNat % 64))) = BG := by rw [HG.out, HP.out]; rfl
  rw [hG]
  clear hb3 r11 hw5 hG
  go_wp2_with (refine wpList_store_row rfl 23 _ _ rfl _ rfl _ rfl _ _ q3 Tryd.info23 (by rw [ag_size]; exact lG) (ag_one _) ?_)
  exact bodyPost_ret (results_row rfl _ _ rfl _ _ (q3.setRow _) _ Tryd.underlying23 rfl 16 Tryd.info23 (by rw [ag_size]; exact lG)) rfl ⟨rfl, below_setRow hw6 (by omega) _⟩
end Go.Proofs.YthcokaffbgbanaaDoor

/- The walks of sum and digest. -/
namespace Go.Proofs.YthcokaffbgbanaaDoor
open Go.RowKit Go.BigFrame

def sliceLen : Value → Nat
  | .slice _ n _ => n
  | _ => 0
def Gf.sumFromN  : Nat → List UInt8 → List UInt8 → List UInt8
  | 0, t, _ => t
  | f + 1, t, l => if 16 ≤ l.length then (Gf.sumFromN f (Gf.bxor t (l.take 16)) (l.drop 16)) else if 0 < l.length then Gf.bxor t (Gf.fup l) else t
theorem Gf.sumFromN_more  (f g : Nat) (t : List UInt8) (l : List UInt8) (hf : l.length < f) (hg : l.length < g) : Gf.sumFromN f t l = Gf.sumFromN g t l := by
  induction f generalizing g t l with
  | zero => omega
  | succ f ih =>
    cases g with
    | zero => omega
    | succ g =>
      rw [Gf.sumFromN, Gf.sumFromN]
      by_cases h : 16 ≤ l.length
      · rw [if_pos h, if_pos h, ih g (Gf.bxor t (l.take 16)) (l.drop 16) (by rw [List.length_drop]; omega) (by rw [List.length_drop]; omega)]
      · rw [if_neg h, if_neg h]
def Gf.sumFrom  (t : List UInt8) (l : List UInt8) : List UInt8 := Gf.sumFromN (l.length + 1) t l
theorem Gf.sumFrom_eq  (t : List UInt8) (l : List UInt8) : Gf.sumFrom t l = if _h : 16 ≤ l.length then (Gf.sumFrom (Gf.bxor t (l.take 16)) (l.drop 16)) else if 0 < l.length then Gf.bxor t (Gf.fup l) else t := by
  rw [Gf.sumFrom, Gf.sumFromN]
  by_cases h : 16 ≤ l.length
  · rw [if_pos h, dif_pos h, Gf.sumFrom, Gf.sumFromN_more l.length ((l.drop 16).length + 1) (Gf.bxor t (l.take 16)) (l.drop 16) (by rw [List.length_drop]; omega) (by omega)]
  · rw [if_neg h, dif_neg h]
theorem Gf.sumFrom_ind {motive : List UInt8 → List UInt8 → Prop} (case1 : ∀ (t : List UInt8) (l : List UInt8), 16 ≤ l.length → motive (Gf.bxor t (l.take 16)) (l.drop 16) → motive t l)
    (case2 : ∀ (t : List UInt8) (l : List UInt8), ¬ 16 ≤ l.length → 0 < l.length → motive t l) (case3 : ∀ (t : List UInt8) (l : List UInt8), ¬ 16 ≤ l.length → ¬ 0 < l.length → motive t l) (t : List UInt8) (l : List UInt8) : motive t l := by
  obtain ⟨n, hn⟩ : ∃ n, l.length < n := ⟨l.length + 1, by omega⟩
  induction n generalizing t l with
  | zero => omega
  | succ n ih =>
    by_cases h : 16 ≤ l.length
    · exact case1 t l h (ih (Gf.bxor t (l.take 16)) (l.drop 16) (by rw [List.length_drop]; omega))
    · by_cases hp : 0 < l.length
      · exact case2 t l h hp
      · exact case3 t l h hp
set_option maxRecDepth 100000 in
theorem Gf.sumFrom_len (t l : List UInt8) (h : t.length = 16) : (Gf.sumFrom t l).length = 16 := by
  induction t, l using Gf.sumFrom_ind with
  | case1 t l h16 ih => rw [Gf.sumFrom_eq, dif_pos h16]; exact ih (Gf.bxor_len _ _)
  | case2 t l h16 hp => rw [Gf.sumFrom_eq, dif_neg h16, if_pos hp]; exact Gf.bxor_len _ _
  | case3 t l h16 hp => rw [Gf.sumFrom_eq, dif_neg h16, if_neg hp]; exact h

set_option maxRecDepth 100000 in
set_option maxHeartbeats 1000000 in
theorem sum_any (S : Nat → Prop) (vv : Value) (l : List UInt8) (hmax : l.length ≤ 100000) (w : World) (hS : ∀ b, S b → b < w.heap.size) (hB : Bts S w vv l) :
    Calls Tryd.prog 76 #[vv] w fun e w' => e = .returned (.agg (ag (Gf.sumFrom (Gf.zeros 16) l))) ∧ Below w.heap.size w w' := by
  obtain ⟨R, hR0⟩ : ∃ R, Gf.sumFrom (Gf.zeros 16) l = R := ⟨_, rfl⟩
  have lR : R.length = 16 := by rw [← hR0]; exact Gf.sumFrom_len _ _ rfl
  rw [hR0]
  have hR := Box'.mk hR0
  clear hR0
  go_enter Tryd.func76, Tryd.ntmps76
  go_wp2
  have h1 : Room (((w.alloc (.cells (ag (Gf.zeros 16)) 23)).alloc (.cells (ag (Gf.zeros 16)) 23)).alloc (.cells (ag (Gf.zeros 16)) 23)) w.heap.size 23 16 := ((Room.new _ _ _ _ rfl).alloc _).alloc _
  have h2 : Row (((w.alloc (.cells (ag (Gf.zeros 16)) 23)).alloc (.cells (ag (Gf.zeros 16)) 23)).alloc (.cells (ag (Gf.zeros 16)) 23)) (w.heap.size + 1) 23 (ag (Gf.zeros 16)) := (Row.made _ _ _ _ _ rfl (by simp)).alloc _
  have h3 : Room (((w.alloc (.cells (ag (Gf.zeros 16)) 23)).alloc (.cells (ag (Gf.zeros 16)) 23)).alloc (.cells (ag (Gf.zeros 16)) 23)) (w.heap.size + 1 + 1) 23 16 := Room.made _ _ _ _ _ rfl (by simp)
  have hbl : Below w.heap.size w (((w.alloc (.cells (ag (Gf.zeros 16)) 23)).alloc (.cells (ag (Gf.zeros 16)) 23)).alloc (.cells (ag (Gf.zeros 16)) 23)) := (((Below.refl _ _).alloc (Nat.le_refl _) _).alloc (by simp) _).alloc (by simp; omega) _
  have hB1 := hB.below hbl hS
  generalize hN : w.heap.size = N at *
  go_loopw [0] (fun s wr => ∃ (l : List UInt8) (t : List UInt8), Bts S wr s l ∧ l.length ≤ 100000 ∧ t.length = 16 ∧ Box' (Gf.sumFrom t l = R) ∧ Room wr N 23 16 ∧ Row wr (N + 1) 23 (ag t) ∧ Room wr (N + 1 + 1) 23 16 ∧ Below N w wr) (fun s _ => sliceLen s)
  case atStart => exact ⟨l, Gf.zeros 16, hB1, hmax, rfl, hR, h1, h2, h3, hbl⟩
  case round =>
    clear h1 h2 h3 hbl hR hB hB1 hmax
    obtain ⟨l, t, hB, hmax, hlt16, hR, h1, h2, h3, hbl⟩ := hrel
    rename_i vv
    have hz := h3.elim fun _ h => h.1.lt
    have hBc := hB
    obtain ⟨a, c, rfl, hcap, _⟩ := hBc
    by_cases h16 : 16 ≤ l.length
    · have hc16 : (16 : Int) ≤ (l.length : Int) := by omega
      go_wp2_with fail
      refine (cut_any S _ l h16 hmax _ hB).mono ?_
      rintro e w1 ⟨v', rfl, hB1, hb1⟩
      have lT : (l.take 16).length = 16 := by rw [List.length_take]; omega
      have hR1 : Box' (Gf.sumFrom (Gf.bxor t (l.take 16)) (l.drop 16) = R) := ⟨by rw [← hR.out]; conv => rhs; rw [Gf.sumFrom_eq, dif_pos h16]⟩
      have q1 : Room w1 N 23 16 := h1.below hb1 (by omega)
      have q2 : Row w1 (N + 1) 23 (ag t) := h2.below hb1 (by omega)
      have q3 : Room w1 (N + 1 + 1) 23 16 := h3.below hb1 hz
      have q4 : Below N w w1 := hbl.trans (hb1.mono (by omega))
      have hB2 : Bts S w1 v' (l.drop 16) := hB1.below hb1 (fun b h => by have := hS b h; omega)
      have hdr : (l.drop 16).length ≤ 100000 := by rw [List.length_drop]; omega
      have hms : sliceLen v' < l.length := by
        obtain ⟨a', c', e', _⟩ := hB2
        rw [e']; show (l.drop 16).length < l.length; rw [List.length_drop]; omega
      have s2 := q2.setRowOther (N + 1 + 1) (ag (l.take 16)) (by omega)
      have s1 := q1.setRowOther (N + 1 + 1) (ag (l.take 16)) (by omega)
      have s3 := q3.setRow (ag (l.take 16))
      have s4 := below_setRow q4 (show N ≤ N + 1 + 1 by omega) (ag (l.take 16))
      have s5 : Bts S (w1.setRow (N + 1 + 1) (ag (l.take 16))) v' (l.drop 16) := hB2.keep fun b h => ⟨h, setRow_other _ _ _ _ (by have := hS b h; omega)⟩
      clear h1 h2 h3 hbl hb1 hB hB1 hB2 q1 q2 q4 hR
      go_wp2_with (first
        | (refine wpList_store_row rfl 23 (.tmp 4) (.tmp 11) rfl _ rfl _ rfl _ _ q3 Tryd.info23 (by rw [ag_size]; exact lT) (ag_one _) ?_)
        | (refine wpList_load_row rfl 23 (.tmp 3) rfl _ rfl _ _ s2 _ Tryd.underlying23 rfl 16 Tryd.info23 (by rw [ag_size]; exact hlt16) ?_)
        | (refine wpList_load_row rfl 23 (.tmp 4) rfl _ rfl _ _ s3 _ Tryd.underlying23 rfl 16 Tryd.info23 (by rw [ag_size]; exact lT) ?_)
        | fail)
      refine (ocbAgainst_any t (l.take 16) hlt16 lT _).mono ?_
      rintro e w2 ⟨rfl, hb2⟩
      have hz2 : N + 1 + 1 < (w1.setRow (N + 1 + 1) (ag (l.take 16))).heap.size := s3.lt
      have lX := Gf.bxor_len t (l.take 16)
      have p2 : Room w2 (N + 1) 23 16 := (s2.below hb2 (by omega)).room (by rw [ag_size]; exact hlt16)
      have p1 : Room w2 N 23 16 := s1.below hb2 (by omega)
      have p3 : Room w2 (N + 1 + 1) 23 16 := (s3.below hb2 hz2).room (by rw [ag_size]; exact lT)
      have p4 : Below N w w2 := s4.trans (hb2.mono (by omega))
      have p5 : Bts S w2 v' (l.drop 16) := s5.below hb2 (fun b h => by have := hS b h; omega)
      clear s1 s2 s3 s4 s5 hb2 q3
      generalize Gf.bxor t (l.take 16) = t2 at *
      have y1 := p1.setRowOther (N + 1) (ag t2) (by omega)
      have y2 := p2.setRow (ag t2)
      have y3 := p3.setRowOther (N + 1) (ag t2) (by omega)
      have y4 := below_setRow p4 (show N ≤ N + 1 by omega) (ag t2)
      have y5 : Bts S (w2.setRow (N + 1) (ag t2)) v' (l.drop 16) := p5.keep fun b h => ⟨h, setRow_other _ _ _ _ (by have := hS b h; omega)⟩
      go_wp2_with (refine wpList_store_row rfl 23 (.tmp 3) (.tmp 15) rfl _ rfl _ rfl _ _ p2 Tryd.info23 (by rw [ag_size]; exact lX) (ag_one _) ?_)
      go_roundw
      case rel => exact ⟨_, _, _, _, _, _, _, _, _, _, _, _, ⟨l.drop 16, t2, y5, hdr, lX, hR1, y1, y2, y3, y4⟩, rfl⟩
      case measure => exact hms
    · have hlen : l.length < 16 := by omega
      have hc16 : ¬ (16 : Int) ≤ (l.length : Int) := by omega
      by_cases hpos : 0 < l.length
      · have hci : (0 : Int) < (l.length : Int) := by omega
        go_wp2
        refine wp_region_grow 4 (by kernel_rfl) (by kernel_rfl) (fun w1 w2 => Below w1.heap.size w1 w2) (fun w1 => Row w1 (N + 1) 23 (ag t) ∧ Room w1 N 23 16 ∧ Bts S w1 (.slice a l.length c) l ∧ Below N w w1) (fun k w1 v => match k with
          | 0 => v = .agg (ag t)
          | 1 => v = (.slice a l.length c)
          | 2 => v = .agg (ag (Gf.fup l))
          | 3 => v = .agg (ag (Gf.bxor t (Gf.fup l)))
          | _ => True) ?_ ?_ ?_ ?_ ?_
        · rintro w1 w2 hb ⟨c1, c2, c3, c4⟩
          have hz := c1.lt
          exact ⟨c1.below hb c1.lt, c2.below hb (by omega), c3.below hb (fun b h => by have := hS b h; omega), c4.trans (hb.mono (by omega))⟩
        · intro k v w1 w2 hC1 hb h
          match k, h with
          | 0, h => exact h
          | 1, h => exact h
          | 2, h => exact h
          | 3, h => exact h
          | k + 4, h => trivial
        · exact ⟨h2, h1, hB, hbl.drew⟩
        · refine ⟨?_, ?_, ?_, ?_, trivial⟩
          · intro f w1 hC hd KK hK
            simp only [List.take_succ_cons, List.take_zero, setAll, List.setIfInBounds_toArray, List.set_cons_succ, List.set_cons_zero, Nat.zero_add, Nat.reduceAdd] at hK ⊢
            refine wp_load_row 23 _ rfl _ rfl _ _ (hC.1) _ Tryd.underlying23 rfl 16 Tryd.info23 (by rw [ag_size]; exact hlt16) ?_
            exact hK _ _ rfl (Below.refl _ _)
          · intro f w1 hC hd KK hK
            simp only [List.take_succ_cons, List.take_zero, setAll, List.setIfInBounds_toArray, List.set_cons_succ, List.set_cons_zero, Nat.zero_add, Nat.reduceAdd] at hK ⊢
            refine wp_of_quiet rfl ?_
            go_big_quiet_step (fail)
            exact wpQuiet_nil (hK _ _ rfl (Below.refl _ _))
          · intro f w1 hC hd KK hK
            have g1 : f 1 = _ := hd 1 rfl
            simp only [List.take_succ_cons, List.take_zero, setAll, List.setIfInBounds_toArray, List.set_cons_succ, List.set_cons_zero, Nat.zero_add, Nat.reduceAdd, g1] at hK ⊢
            exact wp_call 88 #[(.slice a l.length c)] (by simp [go_sem]) _ _ (filled_any S (.slice a l.length c) l hpos hlen w1 hC.2.2.1) (fun w' hb => hK _ _ rfl hb)
          · intro f w1 hC hd KK hK
            have g0 : f 0 = _ := hd 0 rfl
            have g2 : f 2 = _ := hd 2 rfl
            simp only [List.take_succ_cons, List.take_zero, setAll, List.setIfInBounds_toArray, List.set_cons_succ, List.set_cons_zero, Nat.zero_add, Nat.reduceAdd, g0, g2] at hK ⊢
            exact wp_call 66 #[.agg (ag t), .agg (ag (Gf.fup l))] (by simp [go_sem]) _ _ (ocbAgainst_any t (Gf.fup l) hlt16 (Gf.fup_len l hlen) w1) (fun w' hb => hK _ _ rfl hb)
        · intro f w1 hC hv
          have g0 : f 0 = _ := hv 0 (by decide)
          have g1 : f 1 = _ := hv 1 (by decide)
          have g2 : f 2 = _ := hv 2 (by decide)
          have g3 : f 3 = _ := hv 3 (by decide)
          simp only [List.take_succ_cons, List.take_zero, List.drop_succ_cons, List.drop_zero, setAll, List.setIfInBounds_toArray, List.set_cons_succ, List.set_cons_zero, Nat.zero_add, Nat.reduceAdd, g0, g1, g2, g3]
          clear g0 g1 g2 g3 hv
          have lX := Gf.bxor_len t (Gf.fup l)
          have q1 := (hC.1.room (n := 16) (by rw [ag_size]; exact hlt16)).setRow (ag (Gf.bxor t (Gf.fup l)))
          have q2 := hC.2.1.setRowOther (N + 1) (ag (Gf.bxor t (Gf.fup l))) (by omega)
          have q3 := below_setRow hC.2.2.2 (show N ≤ N + 1 by omega) (ag (Gf.bxor t (Gf.fup l)))
          have p1 := hC.1.room (n := 16) (by rw [ag_size]; exact hlt16)
          have hF : Gf.bxor t (Gf.fup l) = R := by rw [← hR.out, Gf.sumFrom_eq]; simp [show ¬ 16 ≤ l.length by omega, hpos]
          rw [hF] at lX q1 q2 q3
          rw [hF]
          clear hC hF
          go_wp2_with (first
            | (refine wpList_store_row rfl 23 (.tmp 3) (.tmp 22) rfl _ rfl _ rfl _ _ p1 Tryd.info23 (by rw [ag_size]; exact lX) (ag_one _) ?_)
            | (refine wpList_load_row rfl 23 (.tmp 3) rfl _ rfl _ _ q1 _ Tryd.underlying23 rfl 16 Tryd.info23 (by rw [ag_size]; exact lX) ?_)
            | (refine wpList_store_row rfl 23 (.tmp 2) (.tmp 23) rfl _ rfl _ rfl _ _ q2 Tryd.info23 (by rw [ag_size]; exact lX) (ag_one _) ?_)
            | fail)
          exact bodyPost_ret (results_row rfl _ _ rfl _ _ (q2.setRow _) _ Tryd.underlying23 rfl 16 Tryd.info23 (by rw [ag_size]; exact lX)) rfl ⟨rfl, by first | exact below_setRow q3 (Nat.le_refl _) _ | (rw [hN]; exact below_setRow q3 (Nat.le_refl _) _)⟩
      · have hci : ¬ (0 : Int) < (l.length : Int) := by omega
        have hRt : t = R := by rw [← hR.out, Gf.sumFrom_eq, dif_neg h16, if_neg hpos]
        subst hRt
        go_wp2_with (first
          | (refine wpList_load_row rfl 23 (.tmp 3) rfl _ rfl _ _ h2 _ Tryd.underlying23 rfl 16 Tryd.info23 (by rw [ag_size]; exact lR) ?_)
          | (refine wpList_store_row rfl 23 (.tmp 2) (.tmp 23) rfl _ rfl _ rfl _ _ h1 Tryd.info23 (by rw [ag_size]; exact lR) (ag_one _) ?_)
          | fail)
        exact bodyPost_ret (results_row rfl _ _ rfl _ _ (h1.setRow _) _ Tryd.underlying23 rfl 16 Tryd.info23 (by rw [ag_size]; exact lR)) rfl ⟨rfl, by first | exact below_setRow hbl (Nat.le_refl _) _ | (rw [hN]; exact below_setRow hbl (Nat.le_refl _) _)⟩
end Go.Proofs.YthcokaffbgbanaaDoor
