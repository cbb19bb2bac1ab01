/- Coins appended to a row of one's own; the walk of offered. -/
import Derived.Test.YtcjfaahlchbcmaaK33
import Derived.Test.YtcjfaahlchbcmaaK05
import Derived.Test.YtcjfaahlchbcmaaK01
import Derived.Test.YtcjfaahlchbcmaaK09
import Derived.Test.YtcjfaahlchbcmaaK06
namespace Go.Proofs.Ytcjfaahlchbcmaa
open Go.RowKit Go.BigFrame
def flC : List Cn → List Value
  | [] => []
  | x :: r => .int .i64 x.1 :: .bool x.2 :: flC r
set_option maxRecDepth 100000 in
theorem flC_app (a b : List Cn) : flC (a ++ b) = flC a ++ flC b := by
  induction a with
  | nil => rfl
  | cons x r ih => simp [flC, ih]
set_option maxRecDepth 100000 in
theorem flC_len (a : List Cn) : (flC a).length = a.length * 2 := by
  induction a with
  | nil => rfl
  | cons x r ih => simp only [flC, List.length_cons, ih]; omega
set_option maxRecDepth 100000 in
theorem flC_get (d : List Cn) (k : Nat) (hk : k < d.length) : (flC d)[k * 2]? = some (.int .i64 (d.getD k (0, false)).1) ∧ (flC d)[k * 2 + 1]? = some (.bool (d.getD k (0, false)).2) := by
  induction d generalizing k with
  | nil => simp at hk
  | cons x r ih =>
    cases k with
    | zero => exact ⟨rfl, rfl⟩
    | succ k =>
      have := ih k (by simpa using hk)
      rw [show (k + 1) * 2 = k * 2 + 1 + 1 by omega]
      simpa [flC] using this
set_option maxRecDepth 100000 in
theorem flC_one (a : List Cn) : ∀ u ∈ flC a, u.oneCell' = true := by
  induction a with
  | nil => intro u hu; cases hu
  | cons x r ih =>
    intro u hu
    simp only [flC, List.mem_cons] at hu
    rcases hu with rfl | rfl | hu
    · rfl
    · rfl
    · exact ih u hu
def OwnC (N : Nat) (w : World) (v : Value) (d : List Cn) : Prop := w.ownsRow N 129 2 v d.length (flC d)
set_option maxRecDepth 100000 in
theorem OwnC.nil (N : Nat) (w : World) : OwnC N w (.slice none 0 0) [] := ⟨rfl, .inl ⟨rfl, rfl⟩⟩
set_option maxRecDepth 100000 in
theorem OwnC.below {N : Nat} {w w' : World} {v : Value} {d : List Cn} (h : OwnC N w v d) (hb : Below w.heap.size w w') : OwnC N w' v d := by
  refine ⟨h.1, ?_⟩
  rcases h.2 with h2 | ⟨g, cap, cur, e1, e2, e3, e4⟩
  · exact .inl h2
  · exact .inr ⟨g, cap, cur, e1, e2, by rw [hb.block g (Array.getElem?_eq_some_iff.1 e3).1]; exact e3, e4⟩
set_option maxRecDepth 100000 in
theorem OwnC.alloc {N : Nat} {w : World} {v : Value} {d : List Cn} (h : OwnC N w v d) (o : Obj) : OwnC N (w.alloc o) v d := h.below ((Below.refl _ _).alloc (Nat.le_refl _) _)
set_option maxRecDepth 100000 in
theorem OwnC.lt {N : Nat} {w : World} {v : Value} {d : List Cn} (h : OwnC N w v d) : ∀ g, v.ownBlock = some g → N ≤ g ∧ g < w.heap.size := by
  intro k hk
  rcases h.2 with ⟨e, _⟩ | ⟨g, cap, cur, e1, e2, e3, _⟩
  · rw [e] at hk; simp [Value.ownBlock] at hk
  · rw [e1] at hk; simp [Value.ownBlock] at hk; subst hk; exact ⟨e2, (Array.getElem?_eq_some_iff.1 e3).1⟩
set_option maxRecDepth 100000 in
theorem OwnC.seg {N : Nat} {w : World} {v : Value} {d : List Cn} (h : OwnC N w v d) (hd : 0 < d.length) : ∃ g cap, v = .slice (some ⟨g, 0, none⟩) d.length cap ∧ N ≤ g ∧ d.length ≤ cap ∧ SegC w g d := by
  rcases h.2 with ⟨e, e0⟩ | ⟨g, cap, cur, e1, e2, e3, e4, e5, e6, e7⟩
  · omega
  · refine ⟨g, cap, e1, e2, e4, cur, e3, fun k hk => ?_⟩
    have hf := flC_get d k hk
    rw [← e7, List.getElem?_take_of_lt (by omega), List.getElem?_take_of_lt (by omega)] at hf
    simpa using hf
set_option maxRecDepth 100000 in
theorem Try.info129' : ∃ i, Try.prog.info? 129 = some i ∧ i.zero = some (.agg #[.int .i64 0, .bool false]) ∧ i.size = 2 ∧ i.bytes = 16 := ⟨_, rfl, rfl, rfl, rfl⟩
set_option maxRecDepth 100000 in
theorem wpList_append_coins {ops : Array Oper} {rest : List Oper} {o : Oper} {a : Act} {w : World} {Q : Exit → Act → World → Prop} (hgd : o.guard = none) (s x : Operand)
    (ho : o.op = .call { callee := .builtin .append, args := #[s, x], argTypes := #[127, 127] }) (N : Nat) (hN : N ≤ w.heap.size)
    (v : Value) (d : List Cn) (hs : a.eval s = v) (hown : OwnC N w v d) (ad : Addr) (m c : Nat) (l : List Cn) (hx : a.eval x = .slice (some ad) m c) (hm : l.length = m)
    (hc : ∀ j u, (flC l)[j]? = some u → w.cell? (ad.add j) = some u) (hmax : d.length + l.length ≤ 1000000)
    (h : ∀ v' w', OwnC N w' v' (d ++ l) → Below N w w' → wpList Try.prog ops Q rest (a.put o.dst v') w') : wpList Try.prog ops Q (o :: rest) a w := by
  obtain ⟨i, h1, h2, h3, h4⟩ := Try.info129'
  obtain ⟨v', w', hr, g2, g3, _⟩ := run_append_own (P := Try.prog) w N 127 o.type 129 i _ 2 16 Try.underlying127 h1 h2 h3 h4 rfl (by decide) v d.length (flC d) hown ad m c (flC l) (by rw [flC_len, hm]) hc (flC_one l) (by unfold maxLen; omega) (by omega) hN
  have g2' : OwnC N w' v' (d ++ l) := by unfold OwnC; rw [List.length_append, flC_app, hm]; exact g2
  have hbl : Below N w w' := ⟨g3.os, g3.tape, g3.output, g3.size, fun k hk => g3.block k (by omega) (fun e => by have := (hown.lt k e.symm).1; omega)⟩
  refine wpList_plain hgd fun K hK => ?_
  unfold Oper.wp execOp
  simp only [ho, resolve, invoke, builtin, Sem.run_bind, Sem.run_pure, Result.andThen_ok, List.map_toArray, List.map_cons, List.map_nil, hs, hx, hr]
  exact hK _ _ (h v' w' g2' hbl)
def prs : List Cn → List Cn
  | a :: b :: r => (a.1 + b.1, true) :: prs r
  | _ => []
def prsTo (l : List Cn) (k : Nat) : List Cn := (List.range k).map fun i => ((l.getD (2 * i) (0, false)).1 + (l.getD (2 * i + 1) (0, false)).1, true)
set_option maxRecDepth 100000 in
theorem prs_eq : ∀ (l : List Cn), prs l = prsTo l (l.length / 2)
  | [] => rfl
  | [_] => by simp [prs, prsTo]
  | a :: b :: r => by
    rw [prs, prs_eq r]
    unfold prsTo
    rw [show (a :: b :: r).length / 2 = r.length / 2 + 1 by simp; omega, List.range_succ_eq_map, List.map_cons, List.map_map]
    congr 1
set_option maxRecDepth 100000 in
theorem prsTo_succ (l : List Cn) (k : Nat) : prsTo l (k + 1) = prsTo l k ++ [((l.getD (2 * k) (0, false)).1 + (l.getD (2 * k + 1) (0, false)).1, true)] := by
  unfold prsTo; rw [List.range_succ, List.map_append]; rfl
set_option maxRecDepth 100000 in
theorem prsTo_len (l : List Cn) (k : Nat) : (prsTo l k).length = k := by simp [prsTo]
def syms (cs rs : List Int) : List Cn := rs.map fun s => (keyC cs s, false)
def rowOf (cs rs : List Int) (prev : List Cn) : List Cn := Gs.srt kC (syms cs rs ++ prs prev)
def CnS (N : Nat) (w : World) (v : Value) (l : List Cn) : Prop :=
  ∃ a c, v = .slice a l.length c ∧ l.length ≤ c ∧ (l = [] ∨ ∃ b, a = some ⟨b, 0, none⟩ ∧ b < N ∧ SegC w b l)
set_option maxRecDepth 100000 in
theorem run_buildC (w : World) (n : Int) (b : Bool) : (Instr.buildSlice 127 1 #[(0, .agg #[.int .i64 n, .bool b])]).run Try.prog w = .ok (.slice (some ⟨w.heap.size, 0, none⟩) 1 1) (w.alloc (.cells #[.int .i64 n, .bool b] 129)) := by
  simp [go_sem, Instr.buildSlice]
set_option maxRecDepth 100000 in
theorem wp_buildC {op : Oper} {a : Act} {w : World} {K : Act → World → Prop} {Q : Exit → Act → World → Prop} (x : Operand) (ho : op.op = .buildSlice 127 1 #[(0, x)]) (n : Int) (b : Bool) (hx : a.eval x = .agg #[.int .i64 n, .bool b])
    (h : K (a.put op.dst (.slice (some ⟨w.heap.size, 0, none⟩) 1 1)) (w.alloc (.cells #[.int .i64 n, .bool b] 129))) : op.wp Try.prog a w K Q := by
  have hrun := run_buildC w n b
  unfold Oper.wp execOp
  simp only [ho, List.map_toArray, List.map_cons, List.map_nil, hx, Sem.run_bind, hrun, Result.andThen_ok]
  exact h
set_option maxRecDepth 100000 in
theorem syms_take (cs rs : List Int) (k : Nat) (h : k < rs.length) : syms cs (rs.take (k + 1)) = syms cs (rs.take k) ++ [(keyC cs (rs.getD k 0), false)] := by
  unfold syms
  rw [List.take_succ_eq_append_getElem h, List.map_append]
  simp [h]
set_option maxRecDepth 100000 in
set_option maxHeartbeats 4000000 in
theorem offered_any (v u bl : Value) (cs rs : List Int) (prev : List Cn) (_hcs : cs.length ≤ 512) (hrs : rs.length ≤ 512) (hr0 : 0 < rs.length) (hpv : prev.length ≤ 1100) (hix : ∀ s ∈ rs, ∃ i : Nat, s = (i : Int) ∧ i < cs.length) (hpr : ∀ x ∈ prev, 0 ≤ x.1 ∧ x.1 ≤ 1125899906842624) (w : World) (h : Ints w.heap.size w v cs) (g : Ints w.heap.size w u rs) (hb : CnS w.heap.size w bl prev) :
    Calls Try.prog 76 #[v, u, bl] w fun e w' => ∃ gb c, e = .returned (.slice (some ⟨gb, 0, none⟩) (rowOf cs rs prev).length c) ∧ (rowOf cs rs prev).length ≤ c ∧ w.heap.size ≤ gb ∧ SegC w' gb (rowOf cs rs prev) ∧ Below w.heap.size w w' := by
  obtain ⟨a, c, rfl, hc, h3⟩ := h
  obtain ⟨a', c', rfl, hc', g3⟩ := g
  obtain ⟨a2, c2, rfl, hc2, b3⟩ := hb
  have HCL := Box'.mk (Ints.cells h3)
  have GCL := Box'.mk (Ints.cells g3)
  have BCL : Box' (∀ k, k < prev.length → ∃ b, a2 = some ⟨b, 0, none⟩ ∧ b < w.heap.size ∧ CellC w b k (prev.getD k (0, false))) := ⟨fun k hk => by
    rcases b3 with rfl | ⟨b, rfl, h5, h6⟩
    · simp at hk
    · exact ⟨b, rfl, h5, h6.cell hk⟩⟩
  have IX : Box' (∀ k, k < rs.length → ∃ i : Nat, rs.getD k 0 = (i : Int) ∧ i < cs.length) := ⟨fun k hk => hix _ (by simp [hk])⟩
  have PB : Box' (∀ k, k < prev.length → 0 ≤ (prev.getD k (0, false)).1 ∧ (prev.getD k (0, false)).1 ≤ 1125899906842624) := ⟨fun k hk => hpr _ (by simp [hk])⟩
  have ST := Box'.mk (syms_take cs rs)
  have SL : Box' (∀ k, (syms cs (rs.take k)).length ≤ k) := ⟨fun k => by unfold syms; simp; omega⟩
  have SL2 : Box' ((syms cs rs).length = rs.length) := ⟨by unfold syms; simp⟩
  have LE : Box' (rs.take rs.length = rs) := ⟨List.take_length⟩
  have KC : Box' (∀ i : Nat, keyC cs (i : Int) = cs.getD i 0) := ⟨fun i => by unfold keyC; rw [Int.toNat_natCast]⟩
  have PS := Box'.mk (prsTo_succ prev)
  have PL := Box'.mk (prsTo_len prev)
  have PE := Box'.mk (prs_eq prev)
  have RO : Box' (rowOf cs rs prev = Gs.srt kC (syms cs rs ++ prs prev)) := ⟨rfl⟩
  have RL : Box' ((rowOf cs rs prev).length = (syms cs rs ++ prs prev).length) := ⟨(Gs.srt_perm _ _).length_eq⟩
  generalize cs.length = nc at *
  generalize rs.length = nr at *
  generalize prev.length = np at *
  clear h3 g3 b3 hix hpr
  go_enter Try.func76, Try.ntmps76
  go_wp2_with fail
  go_loopw [7, 13] (fun t i wr => ∃ k : Nat, k ≤ nr ∧ i = .int .i64 (k : Int) ∧ OwnC w.heap.size wr t (syms cs (rs.take k)) ∧ Below w.heap.size w wr) (fun _ i _ => nr - (intOf i).toNat)
  case atStart => exact ⟨0, by omega, rfl, OwnC.nil _ _, Below.refl _ _⟩
  case round =>
    obtain ⟨k, hk, rfl, hown, hbl⟩ := hrel
    have hz := hbl.size
    by_cases hlt : k < nr
    · obtain ⟨b, o, rfl, hbw, c0⟩ := GCL.out k hlt
      obtain ⟨s, hs, hsn⟩ := IX.out k hlt
      obtain ⟨b2, o2, rfl, hbw2, d0⟩ := HCL.out s hsn
      have STk := ST.out k hlt
      rw [hs, KC.out] at STk
      have STk := Box'.mk STk
      obtain ⟨hc0, -⟩ := bcell hbl
      rw [← hc0 _ _ hbw, hs] at c0
      rw [← hc0 _ _ hbw2] at d0
      have hSL := SL.out k
      generalize cs.getD s 0 = x at *
      have w2o := hown.alloc (.cells #[.int .i64 x, .bool false] 129)
      have w2r : Row (wr.alloc (.cells #[.int .i64 x, .bool false] 129)) wr.heap.size 129 #[.int .i64 x, .bool false] := Row.new _ _ _
      have w2b := hbl.alloc (o := .cells #[.int .i64 x, .bool false] 129) hz
      have hcell : ∀ j u, (flC [(x, false)])[j]? = some u → (wr.alloc (.cells #[.int .i64 x, .bool false] 129)).cell? ((⟨wr.heap.size, 0, none⟩ : Addr).add j) = some u := by
        intro j u hu
        rw [Addr.add_mid, Nat.zero_add, w2r.cell]
        simpa [flC] using hu
      have hN2 : w.heap.size ≤ (wr.alloc (.cells #[.int .i64 x, .bool false] 129)).heap.size := by simp; omega
      have hmx : (syms cs (rs.take k)).length + [(x, false)].length ≤ 1000000 := by simp; omega
      clear HCL GCL BCL IX PB ST SL SL2 LE KC PS PL PE RO RL hc0 hs hown w2r
      go_wp2_with (refine wpList_append_coins rfl (.tmp 17) (.tmp 23) rfl w.heap.size hN2 _ (syms cs (rs.take k)) rfl w2o _ _ _ [(x, false)] rfl rfl hcell hmx ?_; intro v' w3 o3 b3)
      exact ⟨⟨k + 1, by omega, by go_num, by rw [STk.out]; exact o3, w2b.trans b3⟩, by simp [intOf]; omega⟩
    · obtain rfl : k = nr := by omega
      rw [LE.out] at hown
      clear HCL GCL IX ST SL KC
      go_wp2_with fail
      go_loopw [7, 10] (fun t i wr => ∃ j q : Nat, Box' (q = 2 * j) ∧ q ≤ np ∧ i = .int .i64 ((q + 1 : Nat) : Int) ∧ OwnC w.heap.size wr t (syms cs rs ++ prsTo prev j) ∧ Below w.heap.size w wr) (fun _ i _ => np + 2 - (intOf i).toNat)
      case atStart => exact ⟨0, 0, ⟨rfl⟩, by omega, rfl, by simpa [prsTo] using hown, hbl⟩
      case round =>
        clear hown hbl hz
        obtain ⟨j, q, HQ, hj, rfl, hown, hbl⟩ := hrel
        have hz := hbl.size
        by_cases hlt2 : q + 1 < np
        · obtain ⟨b, rfl, hbw, c0⟩ := BCL.out q (by omega)
          obtain ⟨b', e', hbw', c1⟩ := BCL.out (q + 1) hlt2
          simp only [Option.some.injEq, Addr.mk.injEq, and_true] at e'
          subst e'
          have p1 := PB.out q (by omega)
          have p2 := PB.out (q + 1) hlt2
          have PSj := PS.out j
          rw [← HQ.out] at PSj
          have PSj := Box'.mk PSj
          have hPL := PL.out j
          have CB : Box' (∀ W, Below w.heap.size w W → CellC W b q (prev.getD q (0, false)) ∧ CellC W b (q + 1) (prev.getD (q + 1) (0, false))) := ⟨fun W hW => by
            obtain ⟨hc0, -⟩ := bcell hW
            exact ⟨⟨by rw [hc0 _ _ hbw]; exact c0.a, by rw [hc0 _ _ hbw]; exact c0.b⟩, ⟨by rw [hc0 _ _ hbw]; exact c1.a, by rw [hc0 _ _ hbw]; exact c1.b⟩⟩⟩
          have hmx : (syms cs rs ++ prsTo prev j).length + 1 ≤ 1000000 := by rw [List.length_append, SL2.out, hPL]; have := HQ.out; omega
          generalize prev.getD q (0, false) = x1 at *
          generalize prev.getD (q + 1) (0, false) = x2 at *
          obtain ⟨h11, h12⟩ := p1
          obtain ⟨h21, h22⟩ := p2
          have HQ2 : Box' (q + 2 = 2 * (j + 1)) := ⟨by have := HQ.out; omega⟩
          clear BCL PB SL2 LE PS PL PE RO RL c0 c1 HQ hPL
          go_wp2_with fail
          refine wp_region_grow 15 (by kernel_rfl) (by kernel_rfl) (fun w1 w2 => Below w1.heap.size w1 w2) (fun w1 => OwnC w.heap.size w1 u7 (syms cs rs ++ prsTo prev j) ∧ Below w.heap.size w w1) (fun k w1 v => match k with
            | 0 => v = u7
            | 1 => v = .slice (some ⟨b, 0, none⟩) np c2
            | 2 => v = .int .i64 ((q + 1 : Nat) : Int)
            | 3 => v = .int .i64 (q : Int)
            | 4 => v = .pointer (some ⟨b, q * 2, none⟩)
            | 5 => v = .pointer (some ⟨b, q * 2, none⟩)
            | 6 => v = .int .i64 x1.1
            | 7 => v = .slice (some ⟨b, 0, none⟩) np c2
            | 8 => v = .int .i64 ((q + 1 : Nat) : Int)
            | 9 => v = .pointer (some ⟨b, (q + 1) * 2, none⟩)
            | 10 => v = .pointer (some ⟨b, (q + 1) * 2, none⟩)
            | 11 => v = .int .i64 x2.1
            | 12 => v = .int .i64 (x1.1 + x2.1)
            | 13 => v = .agg #[.int .i64 (x1.1 + x2.1), .bool true]
            | 14 => ∃ blk, v = .slice (some ⟨blk, 0, none⟩) 1 1 ∧ Row w1 blk 129 #[.int .i64 (x1.1 + x2.1), .bool true]
            | _ => True) ?_ ?_ ?_ ?_ ?_
          · rintro w1 w2 hb ⟨q1, q2⟩
            exact ⟨q1.below hb, q2.trans (hb.mono q2.size)⟩
          · intro k v w1 w2 hC1 hb h
            match k, h with
            | 0, h => exact h
            | 1, h => exact h
            | 2, h => exact h
            | 3, h => exact h
            | 4, h => exact h
            | 5, h => exact h
            | 6, h => exact h
            | 7, h => exact h
            | 8, h => exact h
            | 9, h => exact h
            | 10, h => exact h
            | 11, h => exact h
            | 12, h => exact h
            | 13, h => exact h
            | 14, ⟨blk, e1, r1⟩ => exact ⟨blk, e1, r1.below hb r1.lt⟩
            | k + 15, h => trivial
          · exact ⟨hown, hbl.drew⟩
          · refine ⟨?_, ?_, ?_, ?_, ?_, ?_, ?_, ?_, ?_, ?_, ?_, ?_, ?_, ?_, ?_, trivial⟩
            · intro f w1 hC hd KK hK
              simp only [List.take_succ_cons, List.take_zero, setAll, List.setIfInBounds_toArray, List.set_cons_succ, List.set_cons_zero, Nat.zero_add, Nat.reduceAdd] at hK ⊢
              refine wp_of_quiet rfl ?_
              go_big_quiet_step (fail)
              exact wpQuiet_nil (hK _ _ rfl (Below.refl _ _))
            · intro f w1 hC hd KK hK
              simp only [List.take_succ_cons, List.take_zero, setAll, List.setIfInBounds_toArray, List.set_cons_succ, List.set_cons_zero, Nat.zero_add, Nat.reduceAdd] at hK ⊢
              refine wp_of_quiet rfl ?_
              go_big_quiet_step (fail)
              exact wpQuiet_nil (hK _ _ rfl (Below.refl _ _))
            · intro f w1 hC hd KK hK
              simp only [List.take_succ_cons, List.take_zero, setAll, List.setIfInBounds_toArray, List.set_cons_succ, List.set_cons_zero, Nat.zero_add, Nat.reduceAdd] at hK ⊢
              refine wp_of_quiet rfl ?_
              go_big_quiet_step (fail)
              exact wpQuiet_nil (hK _ _ rfl (Below.refl _ _))
            · intro f w1 hC hd KK hK
              have g2 : f 2 = _ := hd 2 rfl
              simp only [List.take_succ_cons, List.take_zero, setAll, List.setIfInBounds_toArray, List.set_cons_succ, List.set_cons_zero, Nat.zero_add, Nat.reduceAdd, g2] at hK ⊢
              refine wp_of_quiet rfl ?_
              go_big_quiet_step (fail)
              exact wpQuiet_nil (hK _ _ rfl (Below.refl _ _))
            · intro f w1 hC hd KK hK
              have g1 : f 1 = _ := hd 1 rfl
              have g3 : f 3 = _ := hd 3 rfl
              simp only [List.take_succ_cons, List.take_zero, setAll, List.setIfInBounds_toArray, List.set_cons_succ, List.set_cons_zero, Nat.zero_add, Nat.reduceAdd, g1, g3] at hK ⊢
              refine wp_of_quiet rfl ?_
              go_big_quiet_step (fail)
              exact wpQuiet_nil (hK _ _ rfl (Below.refl _ _))
            · intro f w1 hC hd KK hK
              have g4 : f 4 = _ := hd 4 rfl
              simp only [List.take_succ_cons, List.take_zero, setAll, List.setIfInBounds_toArray, List.set_cons_succ, List.set_cons_zero, Nat.zero_add, Nat.reduceAdd, g4] at hK ⊢
              refine wp_of_quiet rfl ?_
              go_big_quiet_step (fail)
              exact wpQuiet_nil (hK _ _ rfl (Below.refl _ _))
            · intro f w1 hC hd KK hK
              have c6a := CellC.a (And.left (CB.out w1 hC.2))
              have g5 : f 5 = _ := hd 5 rfl
              simp only [List.take_succ_cons, List.take_zero, setAll, List.setIfInBounds_toArray, List.set_cons_succ, List.set_cons_zero, Nat.zero_add, Nat.reduceAdd, g5] at hK ⊢
              refine wp_of_quiet rfl ?_
              go_big_quiet_step (fail)
              exact wpQuiet_nil (hK _ _ rfl (Below.refl _ _))
            · intro f w1 hC hd KK hK
              simp only [List.take_succ_cons, List.take_zero, setAll, List.setIfInBounds_toArray, List.set_cons_succ, List.set_cons_zero, Nat.zero_add, Nat.reduceAdd] at hK ⊢
              refine wp_of_quiet rfl ?_
              go_big_quiet_step (fail)
              exact wpQuiet_nil (hK _ _ rfl (Below.refl _ _))
            · intro f w1 hC hd KK hK
              simp only [List.take_succ_cons, List.take_zero, setAll, List.setIfInBounds_toArray, List.set_cons_succ, List.set_cons_zero, Nat.zero_add, Nat.reduceAdd] at hK ⊢
              refine wp_of_quiet rfl ?_
              go_big_quiet_step (fail)
              exact wpQuiet_nil (hK _ _ rfl (Below.refl _ _))
            · intro f w1 hC hd KK hK
              have g7 : f 7 = _ := hd 7 rfl
              have g8 : f 8 = _ := hd 8 rfl
              simp only [List.take_succ_cons, List.take_zero, setAll, List.setIfInBounds_toArray, List.set_cons_succ, List.set_cons_zero, Nat.zero_add, Nat.reduceAdd, g7, g8] at hK ⊢
              refine wp_of_quiet rfl ?_
              go_big_quiet_step (fail)
              exact wpQuiet_nil (hK _ _ rfl (Below.refl _ _))
            · intro f w1 hC hd KK hK
              have g9 : f 9 = _ := hd 9 rfl
              simp only [List.take_succ_cons, List.take_zero, setAll, List.setIfInBounds_toArray, List.set_cons_succ, List.set_cons_zero, Nat.zero_add, Nat.reduceAdd, g9] at hK ⊢
              refine wp_of_quiet rfl ?_
              go_big_quiet_step (fail)
              exact wpQuiet_nil (hK _ _ rfl (Below.refl _ _))
            · intro f w1 hC hd KK hK
              have c11a := CellC.a (And.right (CB.out w1 hC.2))
              have g10 : f 10 = _ := hd 10 rfl
              simp only [List.take_succ_cons, List.take_zero, setAll, List.setIfInBounds_toArray, List.set_cons_succ, List.set_cons_zero, Nat.zero_add, Nat.reduceAdd, g10] at hK ⊢
              refine wp_of_quiet rfl ?_
              go_big_quiet_step (fail)
              exact wpQuiet_nil (hK _ _ rfl (Below.refl _ _))
            · intro f w1 hC hd KK hK
              have g6 : f 6 = _ := hd 6 rfl
              have g11 : f 11 = _ := hd 11 rfl
              simp only [List.take_succ_cons, List.take_zero, setAll, List.setIfInBounds_toArray, List.set_cons_succ, List.set_cons_zero, Nat.zero_add, Nat.reduceAdd, g6, g11] at hK ⊢
              refine wp_of_quiet rfl ?_
              go_big_quiet_step (fail)
              exact wpQuiet_nil (hK _ _ rfl (Below.refl _ _))
            · intro f w1 hC hd KK hK
              have g12 : f 12 = _ := hd 12 rfl
              simp only [List.take_succ_cons, List.take_zero, setAll, List.setIfInBounds_toArray, List.set_cons_succ, List.set_cons_zero, Nat.zero_add, Nat.reduceAdd, g12] at hK ⊢
              refine wp_of_quiet rfl ?_
              go_big_quiet_step (fail)
              exact wpQuiet_nil (hK _ _ rfl (Below.refl _ _))
            · intro f w1 hC hd KK hK
              have g13 : f 13 = _ := hd 13 rfl
              simp only [List.take_succ_cons, List.take_zero, setAll, List.setIfInBounds_toArray, List.set_cons_succ, List.set_cons_zero, Nat.zero_add, Nat.reduceAdd, g13] at hK ⊢
              refine wp_buildC _ rfl _ _ rfl ?_
              exact hK _ _ ⟨_, rfl, Row.new _ _ _⟩ ((Below.refl _ _).alloc (Nat.le_refl _) _)
          · intro f w1 hC hv
            have q14 : ∃ blk, f 14 = .slice (some ⟨blk, 0, none⟩) 1 1 ∧ Row w1 blk 129 #[.int .i64 (x1.1 + x2.1), .bool true] := hv 14 (by decide)
            have g0 : f 0 = _ := hv 0 (by decide)
            have g1 : f 1 = _ := hv 1 (by decide)
            have g2 : f 2 = _ := hv 2 (by decide)
            have g3 : f 3 = _ := hv 3 (by decide)
            have g4 : f 4 = _ := hv 4 (by decide)
            have g5 : f 5 = _ := hv 5 (by decide)
            have g6 : f 6 = _ := hv 6 (by decide)
            have g7 : f 7 = _ := hv 7 (by decide)
            have g8 : f 8 = _ := hv 8 (by decide)
            have g9 : f 9 = _ := hv 9 (by decide)
            have g10 : f 10 = _ := hv 10 (by decide)
            have g11 : f 11 = _ := hv 11 (by decide)
            have g12 : f 12 = _ := hv 12 (by decide)
            have g13 : f 13 = _ := hv 13 (by decide)
            simp only [List.take_succ_cons, List.take_zero, List.drop_succ_cons, List.drop_zero, setAll, List.setIfInBounds_toArray, List.set_cons_succ, List.set_cons_zero, Nat.zero_add, Nat.reduceAdd, g0, g1, g2, g3, g4, g5, g6, g7, g8, g9, g10, g11, g12, g13]
            clear g0 g1 g2 g3 g4 g5 g6 g7 g8 g9 g10 g11 g12 g13 hv
            have q1 := hC.1
            have q2 := hC.2
            clear hC CB
            cases q14 with
            | intro blk q14 =>
            have g14 := q14.1
            have r14 := q14.2
            rw [g14]
            have hcell : ∀ j u, (flC [(x1.1 + x2.1, true)])[j]? = some u → w1.cell? ((⟨blk, 0, none⟩ : Addr).add j) = some u := by
              intro j u hu
              rw [Addr.add_mid, Nat.zero_add, r14.cell]
              simpa [flC] using hu
            clear g14 q14 r14
            go_wp2_with (refine wpList_append_coins rfl (.tmp 32) (.tmp 46) rfl w.heap.size q2.size _ (syms cs rs ++ prsTo prev j) rfl q1 _ _ _ [(x1.1 + x2.1, true)] rfl rfl hcell hmx ?_; intro v' w3 o3 b3)
            exact ⟨⟨j + 1, q + 2, HQ2, by omega, by go_num, by rw [PSj.out]; simpa using o3, q2.trans b3⟩, by simp [intOf]; omega⟩
        · have hjn : np / 2 = j := by have := HQ.out; omega
          have hpe := PE.out
          rw [hjn] at hpe
          rw [← hpe] at hown
          have hpos : 0 < (syms cs rs ++ prs prev).length := by rw [List.length_append, SL2.out]; omega
          have hlen : (syms cs rs ++ prs prev).length ≤ 4096 := by rw [List.length_append, SL2.out, hpe, PL.out]; omega
          obtain ⟨gb, cap, rfl, hgb, hcap, hseg⟩ := hown.seg hpos
          have hso := sortC_any gb cap w.heap.size 0 (syms cs rs ++ prs prev).length w kC (fun _ => True) (cmpC_all _ _) hgb (Nat.le_refl _) (syms cs rs ++ prs prev) rfl hlen (fun _ _ => trivial) wr hbl hseg
          rw [← RO.out] at hso
          unfold cfCv at hso
          rw [← RL.out] at hso hcap hlen
          have BL2 : Box' (∀ W, Gb gb wr W → Below w.heap.size w W) := ⟨fun W hW => hW.on hbl hgb (Nat.le_refl _)⟩
          rw [← RL.out]
          generalize hm : (rowOf cs rs prev).length = m at *
          have HM := Box'.mk hm
          clear hm
          clear BCL PB SL2 LE PS PL PE RO RL hpe hpos hseg hown
          go_wp2_with fail
          refine hso.mono ?_
          rintro e w3 ⟨rfl, s3, g3⟩
          have b3 := BL2.out _ g3
          clear hso g3 BL2
          go_wp2_with fail
          go_ret
          exact ⟨gb, cap, by rw [HM.out]; rfl, by rw [HM.out]; exact hcap, hgb, s3, b3⟩
end Go.Proofs.Ytcjfaahlchbcmaa
