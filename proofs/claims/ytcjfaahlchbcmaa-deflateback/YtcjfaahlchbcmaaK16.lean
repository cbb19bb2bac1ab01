/- Tokens of one's own; what Match makes. -/
import Derived.Test.YtcjfaahlchbcmaaK15
import Derived.Test.YtcjfaahlchbcmaaK03
import Derived.Maps.AppendAt
namespace Go.Proofs.Ytcjfaahlchbcmaa
open Go.RowKit Go.BigFrame
set_option linter.unusedVariables false
set_option linter.unusedSimpArgs false
def tc (t : Tok) : List Value := [.int .u8 (t.1.toNat : Int), .int .i64 t.2.1, .int .i64 t.2.2]
def tcs (l : List Tok) : List Value := (l.map tc).flatten
theorem tcs_snoc (l : List Tok) (t : Tok) : tcs (l ++ [t]) = tcs l ++ tc t := by simp [tcs]
theorem tcs_get (l : List Tok) (k j : Nat) (hk : k < l.length) (hj : j < 3) : (tcs l)[k * 3 + j]? = (tc (l.getD k (0, 0, 0)))[j]? := by
  induction l generalizing k with
  | nil => simp at hk
  | cons x r ih =>
    have e : tcs (x :: r) = tc x ++ tcs r := by simp [tcs]
    have hx : (tc x).length = 3 := rfl
    rw [e]
    cases k with
    | zero => rw [List.getElem?_append_left (by omega), Nat.zero_mul, Nat.zero_add]; rfl
    | succ k =>
      rw [List.getElem?_append_right (by omega), hx, show (k + 1) * 3 + j - 3 = k * 3 + j by omega, ih k (by simpa using hk)]
      rfl
def OwnT (N : Nat) (w : World) (v : Value) (d : List Tok) : Prop := w.ownsRow N 44 3 v d.length (tcs d)
theorem OwnT.nil (N : Nat) (w : World) : OwnT N w (.slice none 0 0) [] := ⟨rfl, .inl ⟨rfl, rfl⟩⟩
theorem OwnT.keep {N : Nat} {w w' : World} {v : Value} {d : List Tok} (h : OwnT N w v d) (hk : ∀ (q : Nat) (c : Array Value), v.ownBlock = some q → Row w q 44 c → Row w' q 44 c) : OwnT N w' v d := by
  refine ⟨h.1, ?_⟩
  rcases h.2 with h2 | ⟨g, cap, cur, e1, e2, e3, e4⟩
  · exact .inl h2
  · exact .inr ⟨g, cap, cur, e1, e2, hk g cur (by rw [e1]; rfl) e3, e4⟩
theorem OwnT.slice {N : Nat} {w : World} {v : Value} {d : List Tok} (h : OwnT N w v d) : ∃ a c, v = .slice a d.length c := by
  rcases h.2 with ⟨e, e0⟩ | ⟨g, cap, cur, e1, _⟩
  · exact ⟨none, 0, by rw [e, e0]⟩
  · exact ⟨_, _, e1⟩
theorem OwnT.row {N : Nat} {w : World} {v : Value} {d : List Tok} (h : OwnT N w v d) {q : Nat} (e : v.ownBlock = some q) : N ≤ q ∧ ∃ c, Row w q 44 c := by
  rcases h.2 with ⟨e1, _⟩ | ⟨g, cap, cur, e1, e2, e3, _⟩
  · rw [e1] at e; cases e
  · rw [e1] at e
    simp [Value.ownBlock] at e
    subst e
    exact ⟨e2, cur, e3⟩
theorem OwnT.below {N : Nat} {w w' : World} {v : Value} {d : List Tok} (h : OwnT N w v d) (hb : Below w.heap.size w w') : OwnT N w' v d := h.keep fun q c _ hr => hr.below hb hr.lt
theorem OwnT.toks {N : Nat} {w : World} {v : Value} {d : List Tok} (h : OwnT N w v d) : Toks w.heap.size w v d := by
  rcases h.2 with ⟨e, e0⟩ | ⟨g, cap, cur, e1, e2, e3, e4, e5, e6, e7⟩
  · have : d = [] := List.eq_nil_of_length_eq_zero e0
    subst this
    exact ⟨none, 0, e, Nat.le_refl _, .inl rfl⟩
  · have r : Row w g 44 cur := e3
    refine ⟨_, cap, e1, e4, .inr ⟨g, 0, rfl, r.lt, fun k hk => ?_⟩⟩
    have hget : ∀ j, j < 3 → w.cell? ⟨g, 0 + k * 3 + j, none⟩ = (tc (d.getD k (0, 0, 0)))[j]? := by
      intro j hj
      rw [Nat.zero_add, r.cell, ← tcs_get d k j hk hj, ← e7, List.getElem?_take_of_lt (by omega)]
      simp
    exact ⟨hget 0 (by omega), hget 1 (by omega), hget 2 (by omega)⟩
set_option maxRecDepth 100000 in
theorem Try.info44a : ∃ i, Try.prog.info? 44 = some i ∧ i.zero = some (.agg #[.int .u8 0, .int .i64 0, .int .i64 0]) ∧ i.size = 3 ∧ i.bytes = 24 := ⟨_, rfl, rfl, rfl, rfl⟩
theorem wpList_appT {ops : Array Oper} {rest : List Oper} {o : Oper} {a : Act} {w : World} {Q : Exit → Act → World → Prop} (hgd : o.guard = none) (s x : Operand)
    (ho : o.op = .call { callee := .builtin .append, args := #[s, x], argTypes := #[22, 22] }) (N : Nat) (hN : N ≤ w.heap.size)
    (v : Value) (d : List Tok) (hs : a.eval s = v) (hown : OwnT N w v d) (q c : Nat) (t : Tok) (hx : a.eval x = .slice (some ⟨q, 0, none⟩) 1 c) (hr : Row w q 44 #[.int .u8 (t.1.toNat : Int), .int .i64 t.2.1, .int .i64 t.2.2]) (hmax : d.length < 70000)
    (h : ∀ v' w', OwnT N w' v' (d ++ [t]) → w.grownBy w' v.ownBlock → (v'.ownBlock = v.ownBlock ∨ v'.ownBlock = some w.heap.size) → wpList Try.prog ops Q rest (a.put o.dst v') w') : wpList Try.prog ops Q (o :: rest) a w := by
  obtain ⟨i, h1, h2, h3, h4⟩ := Try.info44a
  obtain ⟨v', w', hrun, g2, g3, _, g5⟩ := run_append_own_at (P := Try.prog) (w := w) N 22 o.type 44 i _ 3 24 Try.underlying22 h1 h2 h3 h4 rfl (by decide) v d.length _ hown ⟨q, 0, none⟩ 1 c (tc t) rfl (fun j u hu => by
    rw [Addr.add_mid, Nat.zero_add, hr.cell]
    simpa [tc] using hu) (by intro u hu; simp [tc] at hu; rcases hu with rfl | rfl | rfl <;> rfl) (by unfold maxLen; omega) (by omega) hN
  have g2' : OwnT N w' v' (d ++ [t]) := by unfold OwnT; rw [List.length_append, tcs_snoc]; exact g2
  refine wpList_plain hgd fun K hK => ?_
  unfold Oper.wp execOp
  simp only [ho, resolve, invoke, builtin, Sem.run_bind, Sem.run_pure, Result.andThen_ok, List.map_toArray, List.map_cons, List.map_nil, hs, hx, hrun]
  exact hK _ _ (h v' w' g2' g3 g5)
def matG (l : List UInt8) : Nat → Nat → List Tok
  | 0, _ => []
  | f + 1, a => if a < l.length then (if (lngF l a).1 = 0 ∨ (lngF l a).1 < (lngF l (a + 1)).1 then (l.getD a 0, 0, 0) :: matG l f (a + 1) else (0, ((lngF l a).1 : Int), ((lngF l a).2 : Int)) :: matG l f (a + (lngF l a).1)) else []
def matF (l : List UInt8) : List Tok := matG l l.length 0
theorem matG_end (l : List UInt8) (f a : Nat) (h : l.length ≤ a) : matG l f a = [] := by
  cases f with
  | zero => rfl
  | succ f => rw [matG, if_neg (by omega)]
theorem matG_fuel (l : List UInt8) : ∀ (f k a : Nat), l.length - a ≤ f → l.length - a ≤ k → matG l f a = matG l k a := by
  intro f
  induction f with
  | zero => intro k a h _; rw [matG_end l k a (by omega), matG_end l 0 a (by omega)]
  | succ f ih =>
    intro k a h h2
    by_cases ha : a < l.length
    · obtain ⟨k, rfl⟩ : ∃ k', k = k' + 1 := ⟨k - 1, by omega⟩
      rw [matG, matG, if_pos ha, if_pos ha]
      by_cases hc : (lngF l a).1 = 0 ∨ (lngF l a).1 < (lngF l (a + 1)).1
      · rw [if_pos hc, if_pos hc, ih k (a + 1) (by omega) (by omega)]
      · rw [if_neg hc, if_neg hc]
        have h0 : (lngF l a).1 ≠ 0 := fun e => hc (.inl e)
        rw [ih k (a + (lngF l a).1) (by omega) (by omega)]
    · rw [matG_end l _ a (by omega), matG_end l _ a (by omega)]
theorem mat_byte {l : List UInt8} {a : Nat} (ha : a < l.length) (hc : (lngF l a).1 = 0 ∨ (lngF l a).1 < (lngF l (a + 1)).1) : matG l (l.length - a) a = (l.getD a 0, 0, 0) :: matG l (l.length - (a + 1)) (a + 1) := by
  obtain ⟨k, hk⟩ : ∃ k, l.length - a = k + 1 := ⟨l.length - a - 1, by omega⟩
  rw [hk, matG, if_pos ha, if_pos hc, show l.length - (a + 1) = k by omega]
theorem mat_piece {l : List UInt8} {a : Nat} (ha : a < l.length) (hc : ¬ ((lngF l a).1 = 0 ∨ (lngF l a).1 < (lngF l (a + 1)).1)) : matG l (l.length - a) a = (0, ((lngF l a).1 : Int), ((lngF l a).2 : Int)) :: matG l (l.length - (a + (lngF l a).1)) (a + (lngF l a).1) := by
  obtain ⟨k, hk⟩ : ∃ k, l.length - a = k + 1 := ⟨l.length - a - 1, by omega⟩
  have h0 : (lngF l a).1 ≠ 0 := fun e => hc (.inl e)
  rw [hk, matG, if_pos ha, if_neg hc, matG_fuel l k (l.length - (a + (lngF l a).1)) _ (by omega) (Nat.le_refl _)]
theorem matF_tells (l : List UInt8) (hl : l.length ≤ 65536) : expF (matF l) [] = (l, 0) := by
  have key : ∀ (f a : Nat) (T : List Tok), l.length - a ≤ f → a ≤ l.length → expF T [] = (l.take a, 0) → expF (T ++ matG l (l.length - a) a) [] = (l, 0) := by
    intro f
    induction f with
    | zero =>
      intro a T h1 h2 h3
      rw [matG_end l _ a (by omega), List.append_nil, h3, List.take_of_length_le (by omega)]
    | succ f ih =>
      intro a T h1 h2 h3
      by_cases ha : a < l.length
      · by_cases hc : (lngF l a).1 = 0 ∨ (lngF l a).1 < (lngF l (a + 1)).1
        · rw [mat_byte ha hc, show T ++ (l.getD a 0, 0, 0) :: matG l (l.length - (a + 1)) (a + 1) = (T ++ [(l.getD a 0, 0, 0)]) ++ matG l (l.length - (a + 1)) (a + 1) by simp]
          exact ih (a + 1) _ (by omega) (by omega) (exp_byte h3 ha hl)
        · have h0 : (lngF l a).1 ≠ 0 := fun e => hc (.inl e)
          have hp : Piece l a (lngF l a).1 (lngF l a).2 := (lngF_no l a).resolve_left (fun e => h0 (by rw [e]))
          have hf := hp.fits
          rw [mat_piece ha hc, show T ++ (0, ((lngF l a).1 : Int), ((lngF l a).2 : Int)) :: matG l (l.length - (a + (lngF l a).1)) (a + (lngF l a).1) = (T ++ [(0, ((lngF l a).1 : Int), ((lngF l a).2 : Int))]) ++ matG l (l.length - (a + (lngF l a).1)) (a + (lngF l a).1) by simp]
          exact ih _ _ (by omega) (by omega) (exp_piece h3 hp hl)
      · rw [matG_end l _ a (by omega), List.append_nil, h3, List.take_of_length_le (by omega)]
  have := key l.length 0 [] (by omega) (by omega) (by simp [expF])
  simpa [matF] using this
theorem longest_any (N : Nat) (w : World) (g m bb o n c a K : Nat) (va : Value) (l : List UInt8) (hl : l.length = n) (hn : n ≤ 65536) (hK : K ≤ a) (ha : a ≤ n + 1) (hNw : N ≤ w.heap.size) (hbb : bb < N) (hb : ∀ k, k < n → w.cell? ⟨bb, o + k, none⟩ = some (.int .u8 ((l.getD k 0).toNat : Int)))
    (h : Fnd N w g m (.slice (some ⟨bb, o, none⟩) n c) va l K) :
    Calls Try.prog 25 #[.pointer (some ⟨g, 0, none⟩), .int .i64 (a : Int)] w fun e w' => e = .returned (.agg #[.int .u8 0, .int .i64 ((lngF l a).1 : Int), .int .i64 ((lngF l a).2 : Int)]) ∧ (∃ va' K', K' ≤ a ∧ Fnd N w' g m (.slice (some ⟨bb, o, none⟩) n c) va' l K') ∧ F5 N g m w w' := by
  by_cases hs : n < a + 3
  · have e : lngF l a = (0, 0) := if_pos (by omega)
    rw [e]
    refine (longest_short N w g m (some ⟨bb, o, none⟩) n c a va l K hn (by omega) hs h).mono ?_
    rintro e w' ⟨rfl, b⟩
    exact ⟨rfl, ⟨va, K, hK, h.below b⟩, F5.of b⟩
  · have e : lngF l a = lngC (lngS l a (lngM n a) 128 (lst l a a) (0, 0)) := by unfold lngF; rw [if_neg (by omega), hl]
    rw [e]
    refine (longest_long N w g m bb o n c a K va l hl hn hK (by omega) hNw hbb hb h _ rfl _ rfl).mono ?_
    rintro e w' ⟨rfl, ⟨va', h1⟩, h2⟩
    exact ⟨rfl, ⟨va', a, Nat.le_refl _, h1⟩, h2⟩
theorem Fnd.grown {N : Nat} {w w' : World} {g m : Nat} {vb va tk : Value} {l : List UInt8} {K : Nat} {T : List Tok} (h : Fnd N w g m vb va l K) (ho : OwnT N w tk T) (gr : w.grownBy w' tk.ownBlock) : Fnd N w' g m vb va l K :=
  ⟨h.row.same (gr.block g h.row.lt fun e => by obtain ⟨_, c, r⟩ := ho.row e.symm; exact row_type_ne r h.row (by decide)),
   h.mp.same (gr.block m h.mp.lt fun e => by obtain ⟨_, c, r⟩ := ho.row e.symm; exact row_map_ne r h.mp),
   h.own.keep fun q c hq => gr.block q (Array.getElem?_eq_some_iff.1 hq).1 fun e => by obtain ⟨_, c', r⟩ := ho.row e.symm; exact row_type_ne r (show Row w q 3 c from hq) (by decide), h.hg, h.hm⟩
theorem Fnd.set44 {N : Nat} {w : World} {g m : Nat} {vb va : Value} {l : List UInt8} {K : Nat} (h : Fnd N w g m vb va l K) {B k : Nat} {c : Array Value} (hr : Row w B 44 c) (x : Value) : Fnd N (w.setCell ⟨B, k, none⟩ x) g m vb va l K := by
  have hg : g ≠ B := fun e => by subst e; exact row_type_ne h.row hr (by decide)
  have hm : m ≠ B := fun e => by subst e; exact row_map_ne hr h.mp
  exact ⟨h.row.setOther _ _ hg, h.mp.setCell _ _ hm, h.own.setRow hr (by decide) k x, h.hg, h.hm⟩
theorem OwnT.f5 {N g m : Nat} {w w' : World} {tk vb va : Value} {T : List Tok} {l : List UInt8} {K : Nat} (h : OwnT N w tk T) (hf : Fnd N w g m vb va l K) (h5 : F5 N g m w w') : OwnT N w' tk T :=
  h.keep fun q c _ hr => h5.row hr (by decide) (fun e => by subst e; exact row_type_ne hr hf.row (by decide)) (fun e => by subst e; exact row_map_ne hr hf.mp)
theorem OwnT.set44 {N : Nat} {w : World} {tk : Value} {T : List Tok} (h : OwnT N w tk T) {B k : Nat} (hB : tk.ownBlock ≠ some B) (x : Value) : OwnT N (w.setCell ⟨B, k, none⟩ x) tk T :=
  h.keep fun q c hq hr => hr.setOther _ _ (fun e => hB (by rw [hq]; exact congrArg some e))
theorem F5.row44 {N g m : Nat} {w w' : World} {vb va : Value} {l : List UInt8} {K : Nat} (h5 : F5 N g m w w') (hf : Fnd N w g m vb va l K) {q : Nat} {c : Array Value} (hr : Row w q 44 c) : Row w' q 44 c :=
  h5.row hr (by decide) (fun e => by subst e; exact row_type_ne hr hf.row (by decide)) (fun e => by subst e; exact row_map_ne hr hf.mp)
theorem below_grown {N : Nat} {w0 w w' : World} {tk : Value} {T : List Tok} (h : Below N w0 w) (hN : N ≤ w0.heap.size) (ho : OwnT N w tk T) (gr : w.grownBy w' tk.ownBlock) : Below N w0 w' :=
  ⟨gr.os.trans h.os, gr.tape.trans h.tape, gr.output.trans h.output, Nat.le_trans h.size gr.size, fun k hk => (gr.block k (Nat.lt_of_lt_of_le (Nat.lt_of_lt_of_le hk hN) h.size) (fun e => by have := (ho.row e.symm).1; omega)).trans (h.block k hk)⟩
theorem lngF_bd (l : List UInt8) (a : Nat) (hl : l.length ≤ 65536) : (lngF l a).1 ≤ 258 ∧ (lngF l a).2 ≤ 32768 ∧ ((lngF l a).1 ≠ 0 → 3 ≤ (lngF l a).1 ∧ a + (lngF l a).1 ≤ l.length) := by
  rcases lngF_no l a with h | h
  · rw [h]; exact ⟨by decide, by decide, fun h => absurd rfl h⟩
  · exact ⟨h.len2, h.dis2, fun _ => ⟨h.len1, h.fits⟩⟩
set_option maxRecDepth 100000 in
set_option maxHeartbeats 8000000 in
theorem match_some (w : World) (bb o n c : Nat) (l : List UInt8) (hl : l.length = n) (hn : n ≤ 65536) (hbb : bb < w.heap.size) (hb : ∀ k, k < n → w.cell? ⟨bb, o + k, none⟩ = some (.int .u8 ((l.getD k 0).toNat : Int))) :
    Calls Try.prog 14 #[.slice (some ⟨bb, o, none⟩) n c] w fun e w' => ∃ v, e = .returned (.tuple #[v, .int .i64 0]) ∧ OwnT w.heap.size w' v (matF l) ∧ Below w.heap.size w w' := by
  have HN := Box'.mk (newFinder_is w (.slice (some ⟨bb, o, none⟩) n c) l (some ⟨bb, o, none⟩) n c rfl)
  have HL := Box'.mk hl
  have HLG : Box' (∀ (wq : World) (g m a K : Nat) (va : Value), K ≤ a → a ≤ n + 1 → Below w.heap.size w wq → Fnd w.heap.size wq g m (.slice (some ⟨bb, o, none⟩) n c) va l K → Calls Try.prog 25 #[.pointer (some ⟨g, 0, none⟩), .int .i64 (a : Int)] wq fun e w' => e = .returned (.agg #[.int .u8 0, .int .i64 ((lngF l a).1 : Int), .int .i64 ((lngF l a).2 : Int)]) ∧ (∃ va' K', K' ≤ a ∧ Fnd w.heap.size w' g m (.slice (some ⟨bb, o, none⟩) n c) va' l K') ∧ F5 w.heap.size g m wq w') :=
    ⟨fun wq g m a K va h1 h2 hB hF => longest_any w.heap.size wq g m bb o n c a K va l hl hn h1 h2 hB.size hbb (fun k hk => (hB.cell (p := ⟨bb, o + k, none⟩) hbb).trans (hb k hk)) hF⟩
  have HBY : Box' (∀ (wq : World), Below w.heap.size w wq → ∀ k, k < n → wq.cell? ⟨bb, o + k, none⟩ = some (.int .u8 ((l.getD k 0).toNat : Int))) := ⟨fun wq hB k hk => (hB.cell (p := ⟨bb, o + k, none⟩) hbb).trans (hb k hk)⟩
  have HBD := Box'.mk (fun a => lngF_bd l a (by omega))
  have h65 : ¬ (65536 < n) := by omega
  clear hl hb
  go_enter Try.func14, Try.ntmps14
  go_wp2_with fail
  refine HN.out.mono ?_
  rintro e w1 ⟨g, m, rfl, hg, hm, hgm, r1, m1, b1⟩
  have F1 : Box' (Fnd w.heap.size w1 g m (.slice (some ⟨bb, o, none⟩) n c) (.slice none 0 0) l 0) := ⟨⟨r1, m1, OwnI.nil _ _, hg, hm⟩⟩
  have B1 := Box'.mk b1
  have L0 := Box'.mk (HLG.out w1 g m 0 0 _ (Nat.le_refl _) (by omega) b1 F1.out)
  clear HN r1 m1 b1
  go_wp2_with fail
  refine L0.out.mono ?_
  rintro e w2 ⟨rfl, ⟨va2, K2, hK2, fn2⟩, f52⟩
  obtain ⟨w3, hw3⟩ : ∃ w3, w2.alloc (.cells #[.int .u8 0, .int .i64 ((lngF l 0).1 : Int), .int .i64 ((lngF l 0).2 : Int)] 44) = w3 := ⟨_, rfl⟩
  have b3 : Below w2.heap.size w2 w3 := by rw [← hw3]; exact (Below.refl _ _).alloc (Nat.le_refl _) _
  have R3 : Box' (Row w3 w2.heap.size 44 #[.int .u8 0, .int .i64 ((lngF l 0).1 : Int), .int .i64 ((lngF l 0).2 : Int)]) := ⟨by rw [← hw3]; exact Row.new _ _ _⟩
  have F3' := Box'.mk (fn2.below b3)
  have hB2 := B1.out.trans (f52.below hg hm B1.out.size)
  have B3 := Box'.mk (hB2.trans (b3.mono hB2.size))
  have hP6 : w.heap.size ≤ w2.heap.size := hB2.size
  have HW3 := Box'.mk hw3
  clear L0 F1 B1 fn2 f52 hw3 b3 hB2
  go_upto_region 6 with (fail)
  rw [HW3.out]
  clear HW3
  generalize hPP : w2.heap.size = P6 at *
  clear hPP
  go_wp2_with fail
  go_loopw [5, 7] (fun tk i wr => ∃ (a : Nat) (T : List Tok) (va : Value) (K : Nat), a ≤ n ∧ i = .int .i64 (a : Int) ∧ K ≤ a ∧ T.length ≤ a ∧ Box' (OwnT w.heap.size wr tk T) ∧ Box' (tk.ownBlock ≠ some P6) ∧ Box' (T ++ matG l (n - a) a = matF l) ∧ Box' (Row wr P6 44 #[.int .u8 0, .int .i64 ((lngF l a).1 : Int), .int .i64 ((lngF l a).2 : Int)]) ∧ Box' (Fnd w.heap.size wr g m (.slice (some ⟨bb, o, none⟩) n c) va l K) ∧ Box' (Below w.heap.size w wr)) (fun _ i _ => n - (intOf i).toNat)
  case atStart => exact ⟨0, [], va2, K2, Nat.zero_le _, rfl, hK2, Nat.le_refl _, ⟨OwnT.nil _ _⟩, ⟨by simp [Value.ownBlock]⟩, ⟨by rw [← HL.out]; rfl⟩, R3, F3', B3⟩
  case round =>
    clear R3 F3' B3 hK2
    obtain ⟨a, T, va, K, han, rfl, hKa, hTa, HO, HNE, HM, HR, HF, HB⟩ := hrel
    obtain ⟨ta, tcap, rfl⟩ := HO.out.slice
    by_cases hlt : a < n
    · have hbd := HBD.out a
      have hbd1 := HBD.out (a + 1)
      have hMB := HM.out
      have L1 := Box'.mk (HLG.out wr g m (a + 1) K va (by omega) (by omega) HB.out HF.out)
      have hPA : ¬ ((lngF l a).1 = 0 ∨ (lngF l a).1 < (lngF l (a + 1)).1) → T ++ [(0, ((lngF l a).1 : Int), ((lngF l a).2 : Int))] ++ matG l (n - (a + (lngF l a).1)) (a + (lngF l a).1) = matF l := fun hc => by
        have h2 := mat_piece (l := l) (a := a) (by rw [HL.out]; exact hlt) hc
        rw [HL.out] at h2
        rw [h2] at hMB
        rw [← hMB]; simp
      have hPB : ((lngF l a).1 = 0 ∨ (lngF l a).1 < (lngF l (a + 1)).1) → T ++ [(l.getD a 0, 0, 0)] ++ matG l (n - (a + 1)) (a + 1) = matF l := fun hc => by
        have h2 := mat_byte (l := l) (a := a) (by rw [HL.out]; exact hlt) hc
        rw [HL.out] at h2
        rw [h2] at hMB
        rw [← hMB]; simp
      have HPA := Box'.mk hPA
      have HPB := Box'.mk hPB
      clear hPA hPB hMB HM
      have HLb' : Box' (∀ wq, Row wq P6 44 #[.int .u8 0, .int .i64 ((lngF l (a + 1)).1 : Int), .int .i64 ((lngF l (a + 1)).2 : Int)] → Row wq P6 44 #[.int .u8 0, .int .i64 ((lngF l (a + 1)).1 : Int), .int .i64 ((lngF l (a + 1)).2 : Int)]) := ⟨fun _ h => h⟩
      obtain ⟨La, hLa⟩ : ∃ La, (lngF l a).1 = La := ⟨_, rfl⟩
      obtain ⟨Da, hDa⟩ : ∃ Da, (lngF l a).2 = Da := ⟨_, rfl⟩
      obtain ⟨Lb, hLb⟩ : ∃ Lb, (lngF l (a + 1)).1 = Lb := ⟨_, rfl⟩
      obtain ⟨Db, hDb⟩ : ∃ Db, (lngF l (a + 1)).2 = Db := ⟨_, rfl⟩
      have HEb := Box'.mk (And.intro hLb hDb)
      rw [hLa, hDa] at hbd HR
      rw [hLb, hDb] at hbd1 L1
      rw [hLa, hDa, hLb] at HPA
      rw [hLa, hLb] at HPB
      rw [HL.out] at hbd hbd1
      clear hLa hDa hLb hDb HLb'
      go_wp2_with fail
      refine L1.out.mono ?_
      rintro e w5 ⟨rfl, ⟨va5, K5, hK5, fn5⟩, f55⟩
      obtain ⟨w6, hw6⟩ : ∃ w6, w5.alloc (.cells #[.int .u8 0, .int .i64 (Lb : Int), .int .i64 (Db : Int)] 44) = w6 := ⟨_, rfl⟩
      have b6 : Below w5.heap.size w5 w6 := by rw [← hw6]; exact (Below.refl _ _).alloc (Nat.le_refl _) _
      have R8 : Box' (Row w6 w5.heap.size 44 #[.int .u8 0, .int .i64 (Lb : Int), .int .i64 (Db : Int)]) := ⟨by rw [← hw6]; exact Row.new _ _ _⟩
      have hB5 := HB.out.trans (f55.below hg hm HB.out.size)
      have B6 := Box'.mk (hB5.trans (b6.mono hB5.size))
      have F6 := Box'.mk (fn5.below b6)
      have hR5 := f55.row44 HF.out HR.out
      have R6 := Box'.mk (hR5.below b6 hR5.lt)
      have hO5 := HO.out.f5 HF.out f55
      have O6 := Box'.mk (hO5.below b6)
      have hNE8 : Box' ((Value.slice ta T.length tcap).ownBlock ≠ some w5.heap.size) := ⟨fun e => by obtain ⟨_, c', r⟩ := hO5.row e; have := r.lt; omega⟩
      have hP8 : P6 ≠ w5.heap.size := Nat.ne_of_lt hR5.lt
      have HW6 := Box'.mk hw6
      clear L1 fn5 f55 hw6 b6 hB5 hR5 hO5 HO HR HF HB
      have p1 : w6.cell? ⟨P6, 1, none⟩ = some (.int .i64 (La : Int)) := R6.out.cell 1
      have p8 : w6.cell? ⟨w5.heap.size, 1, none⟩ = some (.int .i64 (Lb : Int)) := R8.out.cell 1
      have cb := HBY.out w6 B6.out a hlt
      have j1 : (0 : Int) ≤ (a : Int) := by omega
      have j2 : (a : Int) < (n : Int) := by omega
      go_upto_region 9 with (fail)
      rw [HW6.out]
      clear HW6
      by_cases hc : La = 0 ∨ La < Lb
      · have HMn := Box'.mk (HPB.out hc)
        have hd : ((La : Int) == 0) = true ∨ (((La : Int) == 0) = false ∧ La < Lb) := by
          by_cases h0 : La = 0
          · exact .inl (by rw [beq_iff_eq]; omega)
          · exact .inr ⟨by rw [beq_eq_false_iff_ne]; omega, hc.resolve_left h0⟩
        clear HPA HPB hc
        rcases hd with hd | ⟨hd, hd2⟩
        all_goals
          go_upto_region 10 with (fail)
          have N7 : Box' (Below w6.heap.size w6 (w6.alloc (.cells #[.int .u8 ((l.getD a 0).toNat : Int), .int .i64 0, .int .i64 0] 44))) := ⟨(Below.refl _ _).alloc (Nat.le_refl _) _⟩
          have Rn : Box' (Row (w6.alloc (.cells #[.int .u8 ((l.getD a 0).toNat : Int), .int .i64 0, .int .i64 0] 44)) w6.heap.size 44 #[.int .u8 ((l.getD a 0).toNat : Int), .int .i64 0, .int .i64 0]) := ⟨Row.new _ _ _⟩
          have O7 := Box'.mk (O6.out.below N7.out)
          have R7 := Box'.mk (R6.out.below N7.out R6.out.lt)
          have R87 := Box'.mk (R8.out.below N7.out R8.out.lt)
          have F7 := Box'.mk (F6.out.below N7.out)
          have B7 := Box'.mk (B6.out.trans (N7.out.mono B6.out.size))
          have HN7 := Box'.mk B7.out.size
          clear p1 p8
          go_upto_region 11 with (first | (refine wpList_appT rfl (.tmp 34) (.tmp 40) rfl w.heap.size HN7.out _ _ rfl O7.out _ _ (l.getD a 0, 0, 0) rfl Rn.out (by omega) ?_; intro tk8 w8 o8 gr8 ow8) | fail)
          have r6 := R7.out.same (gr8.block P6 R7.out.lt (fun e => HNE.out e.symm))
          have r8 := R87.out.same (gr8.block w5.heap.size R87.out.lt (fun e => hNE8.out e.symm))
          have F8 := Box'.mk (F7.out.grown O7.out gr8)
          have B8 := Box'.mk (below_grown B7.out (Nat.le_refl _) O7.out gr8)
          have hne8 : Box' (tk8.ownBlock ≠ some P6) := ⟨fun e => by
            rcases ow8 with h | h
            · rw [h] at e; exact HNE.out e
            · rw [h] at e
              have e2 : (w6.alloc (.cells #[.int .u8 ((l.getD a 0).toNat : Int), .int .i64 0, .int .i64 0] 44)).heap.size = P6 := Option.some.inj e
              have := R7.out.lt
              omega⟩
          have O8 := Box'.mk o8
          have R68 := Box'.mk r6
          have R88 := Box'.mk r8
          have c0 := r6.cell 0
          have c1 := r6.cell 1
          have c2 := r6.cell 2
          have f0 := r6.frozen 0
          have f1 := r6.frozen 1
          have f2 := r6.frozen 2
          clear r6 r8 o8 gr8 ow8 O7 R7 R87 F7 B7 HN7 N7 Rn O6 R6 R8 F6 B6 cb
          go_wp2_with (first | (refine wpList_load_row rfl 44 (.tmp 8) rfl _ rfl _ _ R88.out _ Try.underlying44 rfl 3 Try.size44 rfl ?_) | fail)
          go_roundw
          case rel =>
            refine ⟨a + 1, T ++ [(l.getD a 0, 0, 0)], va5, K5, by omega, by go_num, hK5, by rw [List.length_append]; show T.length + 1 ≤ _; omega, ⟨((O8.out.set44 hne8.out _).set44 hne8.out _).set44 hne8.out _⟩, hne8, HMn, ⟨?_⟩, ⟨((F8.out.set44 R68.out _).set44 (R68.out.setCell 0 _) _).set44 ((R68.out.setCell 0 _).setCell 1 _) _⟩, ⟨((B8.out.setCell hP6 _).setCell hP6 _).setCell hP6 _⟩⟩
            rw [HEb.out.1, HEb.out.2]
            exact ((R68.out.setCell 0 _).setCell 1 _).setCell 2 _
          case measure => simp [intOf]; omega
      · have hc1 : La ≠ 0 := fun e => hc (.inl e)
        have hc2 : ¬ La < Lb := fun e => hc (.inr e)
        have HMn := Box'.mk (HPA.out hc)
        obtain ⟨hb1, hb2⟩ := hbd.2.2 hc1
        have hd1 : ((La : Int) == 0) = false := by rw [beq_eq_false_iff_ne]; omega
        clear HPA HPB hc hc1
        go_upto_region 13 with (fail)
        have N7 : Box' (Below w6.heap.size w6 (w6.alloc (.cells #[.int .u8 0, .int .i64 (La : Int), .int .i64 (Da : Int)] 44))) := ⟨(Below.refl _ _).alloc (Nat.le_refl _) _⟩
        have Rn : Box' (Row (w6.alloc (.cells #[.int .u8 0, .int .i64 (La : Int), .int .i64 (Da : Int)] 44)) w6.heap.size 44 #[.int .u8 0, .int .i64 (La : Int), .int .i64 (Da : Int)]) := ⟨Row.new _ _ _⟩
        have O7 := Box'.mk (O6.out.below N7.out)
        have R7 := Box'.mk (R6.out.below N7.out R6.out.lt)
        have F7 := Box'.mk (F6.out.below N7.out)
        have B7 := Box'.mk (B6.out.trans (N7.out.mono B6.out.size))
        have HN7 := Box'.mk B7.out.size
        clear p1 p8 cb
        go_upto_region 14 with (first | (refine wpList_load_row rfl 44 (.tmp 6) rfl _ rfl _ _ R6.out _ Try.underlying44 rfl 3 Try.size44 rfl ?_) | (refine wpList_appT rfl (.tmp 45) (.tmp 47) rfl w.heap.size HN7.out _ _ rfl O7.out _ _ (0, (La : Int), (Da : Int)) rfl Rn.out (by omega) ?_; intro tk8 w8 o8 gr8 ow8) | fail)
        have r6 := R7.out.same (gr8.block P6 R7.out.lt (fun e => HNE.out e.symm))
        have F8 := Box'.mk (F7.out.grown O7.out gr8)
        have B8 := Box'.mk (below_grown B7.out (Nat.le_refl _) O7.out gr8)
        have hne8 : Box' (tk8.ownBlock ≠ some P6) := ⟨fun e => by
          rcases ow8 with h | h
          · rw [h] at e; exact HNE.out e
          · rw [h] at e
            have e2 : (w6.alloc (.cells #[.int .u8 0, .int .i64 (La : Int), .int .i64 (Da : Int)] 44)).heap.size = P6 := Option.some.inj e
            have := R7.out.lt
            omega⟩
        have O8 := Box'.mk o8
        have R68 := Box'.mk r6
        have c1 : w8.cell? ⟨P6, 1, none⟩ = some (.int .i64 (La : Int)) := r6.cell 1
        have L2 := Box'.mk (HLG.out w8 g m (a + La) K5 va5 (by omega) (by omega) B8.out F8.out)
        have eaL : ((a + La : Nat) : Int) = (a : Int) + (La : Int) := by omega
        rw [eaL] at L2
        have EAL := Box'.mk eaL
        clear r6 o8 gr8 ow8 O7 R7 F7 B7 HN7 N7 Rn O6 R6 R8 F6 B6 eaL
        go_wp2_with fail
        refine L2.out.mono ?_
        rintro e w9 ⟨rfl, ⟨va9, K9, hK9, fn9⟩, f59⟩
        have r9 := f59.row44 F8.out R68.out
        have O9 := Box'.mk (O8.out.f5 F8.out f59)
        have B9 := Box'.mk (B8.out.trans (f59.below hg hm B8.out.size))
        have F9 := Box'.mk fn9
        have c0 := r9.cell 0
        have c2 := r9.cell 2
        have c3 := r9.cell 1
        have f0 := r9.frozen 0
        have f1 := r9.frozen 1
        have f2 := r9.frozen 2
        have R9 := Box'.mk r9
        clear L2 f59 fn9 r9 c1 O8 B8 F8 R68
        go_wp2_with fail
        go_roundw
        case rel =>
          exact ⟨a + La, T ++ [(0, (La : Int), (Da : Int))], va9, K9, by omega, by rw [EAL.out], hK9, by rw [List.length_append]; show T.length + 1 ≤ _; omega, ⟨((O9.out.set44 hne8.out _).set44 hne8.out _).set44 hne8.out _⟩, hne8, HMn, ⟨((R9.out.setCell 0 _).setCell 1 _).setCell 2 _⟩, ⟨((F9.out.set44 R9.out _).set44 (R9.out.setCell 0 _) _).set44 ((R9.out.setCell 0 _).setCell 1 _) _⟩, ⟨((B9.out.setCell hP6 _).setCell hP6 _).setCell hP6 _⟩⟩
        case measure => simp [intOf]; omega
    · obtain rfl : a = n := by omega
      have e : T = matF l := by have := HM.out; rw [matG_end l _ a (by have := HL.out; omega), List.append_nil] at this; exact this
      have HOe : Box' (OwnT w.heap.size wr (.slice ta T.length tcap) (matF l)) := ⟨by rw [← e]; exact HO.out⟩
      clear e
      go_wp2_with fail
      go_ret2
      exact ⟨_, rfl, HOe.out, HB.out⟩
set_option maxRecDepth 100000 in
set_option maxHeartbeats 2000000 in
theorem match_none (w : World) (sa : Option Addr) (c : Nat) : Calls Try.prog 14 #[.slice sa 0 c] w fun e w' => ∃ v, e = .returned (.tuple #[v, .int .i64 0]) ∧ OwnT w.heap.size w' v [] ∧ Below w.heap.size w w' := by
  have HN := Box'.mk (newFinder_is w (.slice sa 0 c) [] sa 0 c rfl)
  go_enter Try.func14, Try.ntmps14
  go_wp2_with fail
  refine HN.out.mono ?_
  rintro e w1 ⟨g, m, rfl, hg, hm, hgm, r1, m1, b1⟩
  have L0 := Box'.mk (longest_short w.heap.size w1 g m sa 0 c 0 (.slice none 0 0) [] 0 (by omega) (by omega) (by omega) ⟨r1, m1, OwnI.nil _ _, hg, hm⟩)
  have B1 := Box'.mk b1
  clear HN r1 m1 b1
  go_wp2_with fail
  refine L0.out.mono ?_
  rintro e w2 ⟨rfl, b2⟩
  have B2 := Box'.mk (B1.out.trans (b2.mono B1.out.size))
  clear L0 B1 b2
  go_wp2_with fail
  go_loopw [5, 7] (fun tk i wr => tk = .slice none 0 0 ∧ i = .int .i64 0 ∧ Box' (Below w.heap.size w wr)) (fun _ _ _ => 0)
  case atStart => exact ⟨rfl, rfl, ⟨B2.out.alloc B2.out.size _⟩⟩
  case round =>
    obtain ⟨rfl, rfl, HB⟩ := hrel
    go_wp2_with fail
    go_ret2
    exact ⟨_, rfl, OwnT.nil _ _, HB.out⟩
set_option maxRecDepth 100000 in
theorem match_long (w : World) (sa : Option Addr) (n c : Nat) (h : 65536 < n) (hn : n ≤ 140737488355328) : Calls Try.prog 14 #[.slice sa n c] w fun e w' => e = .returned (.tuple #[.slice none 0 0, .int .i64 4]) ∧ w' = w := by
  have d : (65536 : Int) < (n : Int) := by omega
  go_enter Try.func14, Try.ntmps14
  go_wp2_with fail
  go_ret2
  exact ⟨rfl, rfl⟩
theorem match_any (w : World) (vb : Value) (l : List UInt8) (hl : l.length ≤ 65536) (hb : Bts (· < w.heap.size) w vb l) :
    Calls Try.prog 14 #[vb] w fun e w' => ∃ v, e = .returned (.tuple #[v, .int .i64 0]) ∧ OwnT w.heap.size w' v (matF l) ∧ Below w.heap.size w w' := by
  obtain ⟨a, c, rfl, hc, hr⟩ := hb
  rcases hr with rfl | ⟨b, o, rfl, hbw, hr⟩
  · exact match_none w a c
  · refine match_some w b o l.length c l rfl hl hbw fun k hk => ?_
    have := hr k (B (l.getD k 0)) (by simp [hk])
    exact this
end Go.Proofs.Ytcjfaahlchbcmaa
