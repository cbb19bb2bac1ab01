/- Bytes that lie behind a slice; the walks of cut and filledUp. -/
import Derived.Test.YtmolhljgmaoflaaDoorOh
import Derived.Test.YtmolhljgmaoflaaDoorSl
namespace Go.Proofs.YtmolhljgmaoflaaDoor
open Go.RowKit Go.BigFrame

/-- The slice v has the bytes l, in a block of S. -/
def Bts (S : Nat → Prop) (w : World) (v : Value) (l : List UInt8) : Prop :=
  ∃ a c, v = .slice a l.length c ∧ l.length ≤ c ∧ (l = [] ∨ ∃ b o, a = some ⟨b, o, none⟩ ∧ S b ∧ w.rangeAt b o (l.map B))
theorem Bts.keep {S S' : Nat → Prop} {w w' : World} {v : Value} {l : List UInt8} (h : Bts S w v l) (hk : ∀ b, S b → S' b ∧ w'.heap[b]? = w.heap[b]?) : Bts S' w' v l := by
  obtain ⟨a, c, h1, h2, h3⟩ := h
  refine ⟨a, c, h1, h2, ?_⟩
  rcases h3 with h3 | ⟨b, o, h4, h5, h6⟩
  · exact .inl h3
  · refine .inr ⟨b, o, h4, (hk b h5).1, fun j u hu => ?_⟩
    have := h6 j u hu
    simp only [World.cell?, (hk b h5).2] at *
    exact this
theorem Bts.below {S : Nat → Prop} {N : Nat} {w w' : World} {v : Value} {l : List UInt8} (h : Bts S w v l) (hb : Below N w w') (hS : ∀ b, S b → b < N) : Bts S w' v l :=
  h.keep fun b hs => ⟨hs, hb.block b (hS b hs)⟩

theorem quiet_load_midB {P : Program} {C : World → Prop} {K : Act → Prop} {op : Oper} {a : Act} (ty : TypeId) (x : Operand) (ho : op.op = .load ty x) (b o : Nat) (hx : a.eval x = .pointer (some ⟨b, o, none⟩))
    (l : List UInt8) (hr : ∀ w, C w → w.rangeAt b o (l.map B)) (d : TypeDesc) (hu : P.underlying ty = some d) (hd : d.isRow = true) (n : Nat) (hi : (P.info? ty).map (·.size) = some n) (hn : l.length = n)
    (h : K (a.put op.dst (.agg (ag l)))) : op.quiet P a C K :=
  ⟨_, fun w hw => by
    have hrun := run_loadAt_mid (P := P) w b o ty _ d (hr w hw) hu hd (by rw [hi]; simp [hn])
    unfold Oper.quietAt execOp
    simp only [ho, hx, Sem.run_bind, hrun, Result.andThen_ok]
    exact ⟨rfl, rfl⟩, h⟩

theorem results_row_slot {P : Program} {w : World} {fn : Func} {p q : Tmp} {ty : TypeId} (hf : fn.results = #[.cell p ty, .tmp q]) (tmps : Array Value) (b : Nat) (hx : tmps.getD p undef = .pointer (some ⟨b, 0, none⟩)) (v : Value) (hq : tmps.getD q undef = v)
    (t : TypeId) (c : Array Value) (hr : Row w b t c) (d : TypeDesc) (hu : P.underlying ty = some d) (hd : (match d with | .struct _ | .array _ _ => true | _ => false) = true) (n : Nat) (hi : (P.info? ty).map (·.size) = some n) (hn : c.size = n) :
    (results fn tmps).run P w = .ok (.tuple #[.agg c, v]) w := by
  have hrun := run_loadVar_row (P := P) w b t ty c (0, 0) d hr hu hd (by rw [hn]; exact hi)
  have hx' : tmps[p]?.getD undef = .pointer (some ⟨b, 0, none⟩) := by simpa using hx
  have hq' : tmps[q]?.getD undef = v := by simpa using hq
  simp only [results, hf]
  simp [hx', hq', asAddr, hrun]
theorem results_slot_row {P : Program} {w : World} {fn : Func} {p q : Tmp} {ty : TypeId} (hf : fn.results = #[.tmp q, .cell p ty]) (tmps : Array Value) (b : Nat) (hx : tmps.getD p undef = .pointer (some ⟨b, 0, none⟩)) (v : Value) (hq : tmps.getD q undef = v)
    (t : TypeId) (c : Array Value) (hr : Row w b t c) (d : TypeDesc) (hu : P.underlying ty = some d) (hd : (match d with | .struct _ | .array _ _ => true | _ => false) = true) (n : Nat) (hi : (P.info? ty).map (·.size) = some n) (hn : c.size = n) :
    (results fn tmps).run P w = .ok (.tuple #[v, .agg c]) w := by
  have hrun := run_loadVar_row (P := P) w b t ty c (0, 0) d hr hu hd (by rw [hn]; exact hi)
  have hx' : tmps[p]?.getD undef = .pointer (some ⟨b, 0, none⟩) := by simpa using hx
  have hq' : tmps[q]?.getD undef = v := by simpa using hq
  simp only [results, hf]
  simp [hx', hq', asAddr, hrun]
theorem range_below {N : Nat} {w w' : World} {b o : Nat} {cs : List Value} (h : w.rangeAt b o cs) (hb : Below N w w') (hn : b < N) : w'.rangeAt b o cs := fun j u hu => by
  have := h j u hu
  simp only [World.cell?, hb.block b hn] at *
  exact this
theorem range_lt {w : World} {b o : Nat} {l : List UInt8} (h : w.rangeAt b o (l.map B)) (hl : 0 < l.length) : b < w.heap.size := by
  have := h 0 (B l[0]) (by simp [hl])
  exact World.block_lt_of_cell? w _ this
theorem array_op {op : Oper} {a : Act} (x : Operand) (ho : op.op = .sliceToArrayPointer 23 x) (p : Addr) (n c : Nat) (hn : 16 ≤ n) (hx : a.eval x = .slice (some p) n c) (w : World) : (execOp a.eval op).run Tryd.prog w = .ok (.value (.pointer (some p))) w := by
  unfold execOp
  have : ¬ n < 16 := by omega
  simp [ho, hx, Instr.arrayAt, run_underlying Tryd.underlying23, this]
set_option maxRecDepth 100000 in
set_option maxHeartbeats 1000000 in
theorem cut_any (S : Nat → Prop) (v : Value) (l : List UInt8) (h16 : 16 ≤ l.length) (hmax : l.length ≤ 100000) (w : World) (hl : Bts S w v l) :
    Calls Tryd.prog 39 #[v] w fun e w' => ∃ v', e = .returned (.tuple #[.agg (ag (l.take 16)), v']) ∧ Bts S w v' (l.drop 16) ∧ Below w.heap.size w w' := by
  obtain ⟨a, c, rfl, hc, h3⟩ := hl
  rcases h3 with rfl | ⟨b, o, rfl, hS, hr⟩
  · simp at h16
  have hr1 : w.rangeAt b o ((l.take 16).map B) := fun j u hu => by
    refine hr j u ?_
    rw [List.map_take, List.getElem?_take] at hu
    split at hu
    · exact hu
    · cases hu
  have hr2 : w.rangeAt b (o + 16) ((l.drop 16).map B) := fun j u hu => by
    rw [List.map_drop, List.getElem?_drop] at hu
    have := hr (16 + j) u hu
    rw [← Nat.add_assoc] at this; exact this
  have ht : (l.take 16).length = 16 := by rw [List.length_take]; omega
  have hd : (l.drop 16).length = l.length - 16 := by rw [List.length_drop]
  have hend : ∀ w', ∀ v', v' = (if l.length = 16 then Value.slice (some ⟨b, o, none⟩) 0 0 else Value.slice (some ⟨b, o + 16, none⟩) (l.length - 16) (l.length - 16)) → Below w.heap.size w w' →
      ∃ v'', Ending.returned (.tuple #[.agg (ag (l.take 16)), v']) = .returned (.tuple #[.agg (ag (l.take 16)), v'']) ∧ Bts S w v'' (l.drop 16) ∧ Below w.heap.size w w' := by
    intro w' v' hv hb
    refine ⟨v', rfl, ?_, hb⟩
    by_cases e : l.length = 16
    · rw [if_pos e] at hv
      exact ⟨_, _, by rw [hv, hd, e], by rw [hd, e]; omega, .inl (List.eq_nil_of_length_eq_zero (by omega))⟩
    · rw [if_neg e] at hv
      exact ⟨_, _, by rw [hv, hd], by rw [hd]; omega, .inr ⟨b, o + 16, rfl, hS, hr2⟩⟩
  have hlt := range_lt hr1 (by omega)
  generalize l.take 16 = l1 at *
  generalize l.length = n at *
  go_enter Tryd.func39, Tryd.ntmps39
  go_wp2
  obtain ⟨sl, hsl⟩ : ∃ sl, sl = (if n = 16 then Value.slice (some ⟨b, o, none⟩) 0 0 else Value.slice (some ⟨b, o + 16, none⟩) (n - 16) (n - 16)) := ⟨_, rfl⟩
  refine wp_region_grow 12 (by kernel_rfl) (by kernel_rfl) (fun w1 w2 => Below w.heap.size w1 w2 ∧ (Room w1 w.heap.size 23 16 → Room w2 w.heap.size 23 16) ∧ (Row w1 w.heap.size 23 (ag l1) → Row w2 w.heap.size 23 (ag l1))) (fun w1 => Room w1 w.heap.size 23 16 ∧ w1.rangeAt b o (l1.map B) ∧ Below w.heap.size w w1) (fun k w1 v => match k with
    | 0 => v = .slice (some ⟨b, o, none⟩) n c
    | 1 => v = .slice (some ⟨b, o, none⟩) 16 16
    | 2 => v = .pointer (some ⟨b, o, none⟩)
    | 3 => v = .agg (ag l1)
    | 4 => v = .slice (some ⟨b, o, none⟩) n c
    | 5 => v = .slice (some ⟨b, o, none⟩) n c
    | 6 => v = .int .i64 (n : Int)
    | 7 => v = .slice (some ⟨b, o, none⟩) n c
    | 8 => v = .int .i64 (n : Int)
    | 9 => v = sl
    | 10 => Row w1 w.heap.size 23 (ag l1)
    | 11 => v = sl
    | _ => True) ?_ ?_ ?_ ?_ ?_
  · rintro w1 w2 ⟨hb, h1, h2⟩ ⟨c1, c2, c3⟩
    exact ⟨h1 c1, range_below c2 hb hlt, c3.trans hb⟩
  · intro k v w1 w2 hC1 hb h
    match k, h with
    | 0, h => exact h
    | 1, h => exact h
    | 2, h => exact h
    | 3, h => exact h
    | 4, h => exact h
    | 5, h => exact h
    | 6, h => exact h
    | 7, h => exact h
    | 8, h => exact h
    | 9, h => exact h
    | 10, h => exact hb.2.2 h
    | 11, h => exact h
    | k + 12, h => trivial
  · exact ⟨Room.new _ _ _ _ rfl, range_below hr1 ((Below.refl _ _).alloc (Nat.le_refl _) _).drew hlt, ((Below.refl _ _).alloc (Nat.le_refl _) _).drew⟩
  · refine ⟨?_, ?_, ?_, ?_, ?_, ?_, ?_, ?_, ?_, ?_, ?_, ?_, trivial⟩
    · intro f w1 hC hd KK hK
      simp only [List.take_succ_cons, List.take_zero, setAll, List.setIfInBounds_toArray, List.set_cons_succ, List.set_cons_zero, Nat.zero_add, Nat.reduceAdd] at hK ⊢
      refine wp_of_quiet rfl ?_
      go_big_quiet_step (fail)
      exact wpQuiet_nil (hK _ _ rfl ⟨Below.refl _ _, fun h => h, fun h => h⟩)
    · intro f w1 hC hd KK hK
      have g0 : f 0 = _ := hd 0 rfl
      simp only [List.take_succ_cons, List.take_zero, setAll, List.setIfInBounds_toArray, List.set_cons_succ, List.set_cons_zero, Nat.zero_add, Nat.reduceAdd, g0] at hK ⊢
      refine wp_of_quiet rfl ?_
      go_big_quiet_step (fail)
      exact wpQuiet_nil (hK _ _ rfl ⟨Below.refl _ _, fun h => h, fun h => h⟩)
    · intro f w1 hC hd KK hK
      have g1 : f 1 = _ := hd 1 rfl
      simp only [List.take_succ_cons, List.take_zero, setAll, List.setIfInBounds_toArray, List.set_cons_succ, List.set_cons_zero, Nat.zero_add, Nat.reduceAdd, g1] at hK ⊢
      refine wp_of_quiet rfl ?_
      go_big_quiet_want
      refine quiet_run (.pointer (some ⟨b, o, none⟩)) (array_op _ rfl _ 16 16 (by omega) rfl) ?_
      go_big_quiet_on
      exact wpQuiet_nil (hK _ _ rfl ⟨Below.refl _ _, fun h => h, fun h => h⟩)
    · intro f w1 hC hd KK hK
      have g2 : f 2 = _ := hd 2 rfl
      simp only [List.take_succ_cons, List.take_zero, setAll, List.setIfInBounds_toArray, List.set_cons_succ, List.set_cons_zero, Nat.zero_add, Nat.reduceAdd, g2] at hK ⊢
      refine wp_load_mid 23 _ rfl _ _ rfl l1 hC.2.1 _ Tryd.underlying23 rfl 16 Tryd.info23 ht ?_
      exact hK _ _ rfl ⟨Below.refl _ _, fun h => h, fun h => h⟩
    · intro f w1 hC hd KK hK
      simp only [List.take_succ_cons, List.take_zero, setAll, List.setIfInBounds_toArray, List.set_cons_succ, List.set_cons_zero, Nat.zero_add, Nat.reduceAdd] at hK ⊢
      refine wp_of_quiet rfl ?_
      go_big_quiet_step (fail)
      exact wpQuiet_nil (hK _ _ rfl ⟨Below.refl _ _, fun h => h, fun h => h⟩)
    · intro f w1 hC hd KK hK
      simp only [List.take_succ_cons, List.take_zero, setAll, List.setIfInBounds_toArray, List.set_cons_succ, List.set_cons_zero, Nat.zero_add, Nat.reduceAdd] at hK ⊢
      refine wp_of_quiet rfl ?_
      go_big_quiet_step (fail)
      exact wpQuiet_nil (hK _ _ rfl ⟨Below.refl _ _, fun h => h, fun h => h⟩)
    · intro f w1 hC hd KK hK
      have g5 : f 5 = _ := hd 5 rfl
      simp only [List.take_succ_cons, List.take_zero, setAll, List.setIfInBounds_toArray, List.set_cons_succ, List.set_cons_zero, Nat.zero_add, Nat.reduceAdd, g5] at hK ⊢
      refine wp_of_quiet rfl ?_
      go_big_quiet_step (fail)
      exact wpQuiet_nil (hK _ _ rfl ⟨Below.refl _ _, fun h => h, fun h => h⟩)
    · intro f w1 hC hd KK hK
      simp only [List.take_succ_cons, List.take_zero, setAll, List.setIfInBounds_toArray, List.set_cons_succ, List.set_cons_zero, Nat.zero_add, Nat.reduceAdd] at hK ⊢
      refine wp_of_quiet rfl ?_
      go_big_quiet_step (fail)
      exact wpQuiet_nil (hK _ _ rfl ⟨Below.refl _ _, fun h => h, fun h => h⟩)
    · intro f w1 hC hd KK hK
      have g7 : f 7 = _ := hd 7 rfl
      simp only [List.take_succ_cons, List.take_zero, setAll, List.setIfInBounds_toArray, List.set_cons_succ, List.set_cons_zero, Nat.zero_add, Nat.reduceAdd, g7] at hK ⊢
      refine wp_of_quiet rfl ?_
      go_big_quiet_step (fail)
      exact wpQuiet_nil (hK _ _ rfl ⟨Below.refl _ _, fun h => h, fun h => h⟩)
    · intro f w1 hC hd KK hK
      have g4 : f 4 = _ := hd 4 rfl
      have g6 : f 6 = _ := hd 6 rfl
      have g8 : f 8 = _ := hd 8 rfl
      simp only [List.take_succ_cons, List.take_zero, setAll, List.setIfInBounds_toArray, List.set_cons_succ, List.set_cons_zero, Nat.zero_add, Nat.reduceAdd, g4, g6, g8] at hK ⊢
      by_cases e : n = 16
      · rw [if_pos e] at hsl
        subst e hsl
        refine wp_of_quiet rfl ?_
        go_big_quiet_step (fail)
        exact wpQuiet_nil (hK _ _ rfl ⟨Below.refl _ _, fun h => h, fun h => h⟩)
      · rw [if_neg e] at hsl
        subst hsl
        refine wp_of_quiet rfl ?_
        go_big_quiet_step (fail)
        exact wpQuiet_nil (hK _ _ rfl ⟨Below.refl _ _, fun h => h, fun h => h⟩)
    · intro f w1 hC hd KK hK
      have g3 : f 3 = _ := hd 3 rfl
      simp only [List.take_succ_cons, List.take_zero, setAll, List.setIfInBounds_toArray, List.set_cons_succ, List.set_cons_zero, Nat.zero_add, Nat.reduceAdd, g3] at hK ⊢
      refine wp_store_row 23 _ _ rfl _ rfl _ rfl _ _ hC.1 Tryd.info23 (by rw [ag_size]; exact ht) (ag_one _) ?_
      exact hK _ _ (hC.1.setRow _) ⟨below_setRow (Below.refl _ _) (Nat.le_refl _) _, fun _ => (hC.1.setRow _).room (by rw [ag_size]; exact ht), fun _ => hC.1.setRow _⟩
    · intro f w1 hC hd KK hK
      have g9 : f 9 = _ := hd 9 rfl
      simp only [List.take_succ_cons, List.take_zero, setAll, List.setIfInBounds_toArray, List.set_cons_succ, List.set_cons_zero, Nat.zero_add, Nat.reduceAdd, g9] at hK ⊢
      refine wp_of_quiet rfl ?_
      go_big_quiet_step (fail)
      exact wpQuiet_nil (hK _ _ rfl ⟨Below.refl _ _, fun h => h, fun h => h⟩)
  · intro f w1 hC hv
    have g0 : f 0 = _ := hv 0 (by decide)
    have g1 : f 1 = _ := hv 1 (by decide)
    have g2 : f 2 = _ := hv 2 (by decide)
    have g3 : f 3 = _ := hv 3 (by decide)
    have g4 : f 4 = _ := hv 4 (by decide)
    have g5 : f 5 = _ := hv 5 (by decide)
    have g6 : f 6 = _ := hv 6 (by decide)
    have g7 : f 7 = _ := hv 7 (by decide)
    have g8 : f 8 = _ := hv 8 (by decide)
    have g9 : f 9 = _ := hv 9 (by decide)
    have g11 : f 11 = _ := hv 11 (by decide)
    have hr10 := hv 10 (by decide)
    simp only [List.take_succ_cons, List.take_zero, List.drop_succ_cons, List.drop_zero, setAll, List.setIfInBounds_toArray, List.set_cons_succ, List.set_cons_zero, Nat.zero_add, Nat.reduceAdd, g0, g1, g2, g3, g4, g5, g6, g7, g8, g9, g11]
    clear g0 g1 g2 g3 g4 g5 g6 g7 g8 g9 g11 hv
    have r10 : Row w1 w.heap.size 23 (ag l1) := hr10
    have hz := hend w1 sl hsl hC.2.2
    clear hr10 hsl hend
    go_wp2
    exact bodyPost_ret (v := .tuple #[.agg (ag l1), sl]) (results_row_slot rfl _ _ rfl sl rfl _ _ r10 _ Tryd.underlying23 rfl 16 Tryd.info23 (by rw [ag_size]; exact ht)) rfl hz

/-- The built-in copy, of bytes wherever they lie into a row of bytes. -/
theorem wpList_copy_range {P : Program} {w : World} {ops : Array Oper} {rest : List Oper} {o : Oper} {a : Act} {Q : Exit → Act → World → Prop} (hgd : o.guard = none) (d s : Operand) (dT sT : TypeId)
    (ho : o.op = .call { callee := .builtin .copy, args := #[d, s], argTypes := #[dT, sT] }) (elem : TypeId) (hu : P.underlying dT = some (.slice elem)) (hsz : (P.info? elem).map (·.size) = some 1)
    (g off dLen dCap b so sLen sCap : Nat) (hd : a.eval d = .slice (some ⟨g, off, none⟩) dLen dCap) (hs : a.eval s = .slice (some ⟨b, so, none⟩) sLen sCap)
    (l cs : List UInt8) (t : TypeId) (hg : Row w g t (ag l)) (hb : w.rangeAt b so (cs.map B)) (hn : cs.length = Nat.min sLen dLen) (hfit : off + cs.length ≤ l.length)
    (h : wpList P ops Q rest (a.put o.dst (goInt cs.length)) (w.setRow g (ag (splice l off cs)))) : wpList P ops Q (o :: rest) a w := by
  refine wpList_copy_own hgd d s dT sT ho elem hu hsz g off dLen dCap ⟨b, so, none⟩ sLen sCap hd hs (ag l) t hg (cs.map B) (by rw [List.length_map]; exact hn)
    (fun j v hv => by rw [Addr.add_mid]; exact hb j v hv) (by rw [List.length_map, ag_size]; exact hfit) ?_ ?_
  · intro v hv
    obtain ⟨x, _, rfl⟩ := List.mem_map.1 hv
    rfl
  · have e : ((ag l).toList.take off ++ ((cs.map B) ++ (ag l).toList.drop (off + (cs.map B).length))).toArray = ag (splice l off cs) := by
      unfold ag splice
      simp [List.map_take, List.map_drop]
    rw [e, List.length_map]
    exact h
def Gf.fup (l : List UInt8) : List UInt8 := (splice (Gf.zeros 16) 0 l).set l.length 128
theorem Gf.fup_len (l : List UInt8) (h : l.length < 16) : (Gf.fup l).length = 16 := by
  unfold Gf.fup
  rw [List.length_set, splice_len _ _ _ (by show 0 + l.length ≤ (List.replicate 16 (0 : UInt8)).length; rw [List.length_replicate]; omega)]
  rfl
set_option maxRecDepth 100000 in
set_option maxHeartbeats 1000000 in
theorem filled_any (S : Nat → Prop) (v : Value) (l : List UInt8) (h0 : 0 < l.length) (h16 : l.length < 16) (w : World) (hl : Bts S w v l) :
    Calls Tryd.prog 59 #[v] w fun e w' => e = .returned (.agg (ag (Gf.fup l))) ∧ Below w.heap.size w w' := by
  obtain ⟨a, c, rfl, hc, h3⟩ := hl
  rcases h3 with rfl | ⟨b, o, rfl, hS, hr⟩
  · simp at h0
  have hlt := range_lt hr h0
  have lF := Gf.fup_len l h16
  have z16 : (Gf.zeros 16).length = 16 := rfl
  have lS : (splice (Gf.zeros 16) 0 l).length = 16 := splice_len _ _ _ (by omega)
  have hF : (splice (Gf.zeros 16) 0 l).set l.length 128 = Gf.fup l := rfl
  generalize Gf.fup l = F at *
  have HF := Box'.mk hF
  clear hF
  obtain ⟨n, hn⟩ : ∃ n, l.length = n := ⟨_, rfl⟩
  rw [hn] at HF h0 h16 hc
  rw [hn]
  go_enter Tryd.func59, Tryd.ntmps59
  have hw0 : Below w.heap.size w ((w.alloc (.cells (ag (Gf.zeros 16)) 23)).alloc (.cells (ag (Gf.zeros 16)) 23)) := ((Below.refl _ _).alloc (Nat.le_refl _) _).alloc (by simp) _
  have hr' := range_below hr hw0 hlt
  have r0 : Room ((w.alloc (.cells (ag (Gf.zeros 16)) 23)).alloc (.cells (ag (Gf.zeros 16)) 23)) w.heap.size 23 16 := (Room.new _ _ _ _ rfl).alloc _
  have r1 : Row ((w.alloc (.cells (ag (Gf.zeros 16)) 23)).alloc (.cells (ag (Gf.zeros 16)) 23)) (w.heap.size + 1) 23 (ag (Gf.zeros 16)) := Row.made _ _ _ _ _ rfl (by simp)
  have hcp : l.length = Nat.min n 16 := by rw [hn]; exact (Nat.min_eq_left (by omega)).symm
  go_wp2_with (first
    | (refine wpList_copy_range rfl (.tmp 4) (.tmp 5) 24 24 rfl 5 Tryd.underlying24 (by kernel_rfl) _ 0 16 16 b o n c rfl rfl (Gf.zeros 16) l 23 r1 hr' hcp (by omega) ?_
       rw [hn]
       have r2 := r1.setRow (ag (splice (Gf.zeros 16) 0 l))
       have r4 := r0.setRowOther (w.heap.size + 1) (ag (splice (Gf.zeros 16) 0 l)) (by omega)
       have hbl := below_setRow hw0 (show w.heap.size ≤ w.heap.size + 1 by omega) (ag (splice (Gf.zeros 16) 0 l))
       clear r0 r1 hr' hw0 hcp
       generalize hW : World.setRow _ _ _ = W2
       have r2' : Row W2 (w.heap.size + 1) 23 (ag (splice (Gf.zeros 16) 0 l)) := by rw [← hW]; exact r2
       have r4' : Room W2 w.heap.size 23 16 := by rw [← hW]; exact r4
       have hbl' : Below w.heap.size w W2 := by rw [← hW]; exact hbl
       have c2 := r2'.byte (k := n) (by omega)
       have f2 := r2'.frozen n
       have r3 : Row (W2.setCell ⟨w.heap.size + 1, n, none⟩ (.int .u8 128)) (w.heap.size + 1) 23 (ag F) := by have := r2'.setByte n 128; rw [HF.out] at this; exact this
       have r5 := r4'.setOther ⟨w.heap.size + 1, n, none⟩ (.int .u8 128) (by simp)
       have hbl2 := hbl'.setCell (p := ⟨w.heap.size + 1, n, none⟩) (by simp) (.int .u8 128)
       clear hW r2 r4 hbl r2' r4' hbl')
    | (refine wpList_load_row rfl 23 _ rfl _ rfl _ _ r3 _ Tryd.underlying23 rfl 16 Tryd.info23 (by rw [ag_size]; exact lF) ?_)
    | (refine wpList_store_row rfl 23 (.tmp 2) (.tmp 8) rfl _ rfl _ rfl _ _ r5 Tryd.info23 (by rw [ag_size]; exact lF) (ag_one _) ?_)
    | fail)
  exact bodyPost_ret (results_row rfl _ _ rfl _ _ (r5.setRow _) _ Tryd.underlying23 rfl 16 Tryd.info23 (by rw [ag_size]; exact lF)) rfl ⟨rfl, below_setRow hbl2 (Nat.le_refl _) _⟩
end Go.Proofs.YtmolhljgmaoflaaDoor
