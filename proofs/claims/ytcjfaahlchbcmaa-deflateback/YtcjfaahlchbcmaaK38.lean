/- Lengths of good counts; bits of one's own. -/
import Derived.Test.YtcjfaahlchbcmaaK22
import Derived.Test.YtcjfaahlchbcmaaK37
import Derived.Test.YtcjfaahlchbcmaaK14
namespace Go.Proofs.Ytcjfaahlchbcmaa
open Go.RowKit Go.BigFrame
set_option linter.unusedVariables false
set_option linter.unusedSimpArgs false
theorem cnt_all {cs : List Int} (h : ∀ k, 0 ≤ cs.getD k 0 ∧ cs.getD k 0 ≤ 70000) : cs.all Gf.cntB = true := by
  rw [List.all_eq_true]
  intro x hx
  obtain ⟨k, hk, rfl⟩ := List.getElem_of_mem hx
  have hb := h k
  rw [List.getD_eq_getElem?_getD, List.getElem?_eq_getElem hk] at hb
  simp only [Option.getD_some] at hb
  unfold Gf.cntB
  exact decide_eq_true (by omega)
theorem lens_good {cs : List Int} {m : Nat} (h1 : 1 ≤ m) (h15 : m ≤ 15) (hn : cs.length ≤ 512) (hm : cs.length ≤ 2 ^ m) (h : ∀ k, 0 ≤ cs.getD k 0 ∧ cs.getD k 0 ≤ 70000) :
    lstE cs (m : Int) = 0 ∧ Gf.badE cs ≠ 2 ∧ Gf.chkE (lenF cs m) = 0 ∧ (lenF cs m).length = cs.length ∧ (∀ k, 0 ≤ (lenF cs m).getD k 0 ∧ (lenF cs m).getD k 0 ≤ m) ∧ (∀ k, k < cs.length → ((lenF cs m).getD k 0 = 0 ↔ cs.getD k 0 = 0)) := by
  have ha := cnt_all h
  have hb := (badE_all cs).2.2 ha hn
  have hr : (rising cs).length ≤ 2 ^ m := by
    have : (rising cs).length ≤ cs.length := by rw [rising_len]; exact cmg_len cs _
    omega
  have M := ms_ok cs ha m h1 h15 hr
  have hl := lenF_len cs m
  refine ⟨?_, by rw [hb]; decide, (lenF_chk cs ha hn m h15 M).1, hl, fun k => ?_, fun k hk => ?_⟩
  · unfold lstE
    rw [if_neg (by rintro (q | q | q); (rw [hb] at q; exact absurd q (by decide)); omega; omega), if_neg]
    rintro (q | q)
    · exact q hb
    · rw [Int.toNat_natCast, posl_rising] at q; omega
  · by_cases hk : k < cs.length
    · exact ⟨(lenF_at cs m M k hk (h k).1).1, (lenF_at cs m M k hk (h k).1).2.1⟩
    · rw [List.getD_eq_getElem?_getD, List.getElem?_eq_none (by omega)]
      exact ⟨Int.le_refl _, by show (0 : Int) ≤ m; omega⟩
  · exact (lenF_at cs m M k hk (h k).1).2.2
theorem lengths_is (w : World) (v : Value) (cs : List Int) (m : Nat) (h1 : 1 ≤ m) (h15 : m ≤ 15) (h0 : 0 < cs.length) (hn : cs.length ≤ 512) (hm : cs.length ≤ 2 ^ m) (h : ∀ k, 0 ≤ cs.getD k 0 ∧ cs.getD k 0 ≤ 70000) (hI : Ints w.heap.size w v cs) :
    Calls Try.prog 36 #[v, .int .i64 (m : Int)] w fun e w' => ∃ b o, e = .returned (.tuple #[.slice (some ⟨b, o, none⟩) cs.length cs.length, .int .i64 0]) ∧ b < w'.heap.size ∧ (∀ k, k < cs.length → w'.cell? ⟨b, o + k, none⟩ = some (.int .i64 ((lenF cs m).getD k 0))) ∧ Below w.heap.size w w' := by
  obtain ⟨g1, g2, g3, g4, _⟩ := lens_good h1 h15 hn hm h
  refine (lengths_any v cs (by omega) m h1 h15 g2 w hI).mono ?_
  rintro e w' ⟨u, rfl, _, h3, h4⟩
  rw [g1]
  obtain ⟨h5, a, rfl⟩ := h3 g1
  rw [Int.toNat_natCast] at h5
  obtain ⟨a', c', e', hc', h6⟩ := h5
  simp only [Value.slice.injEq] at e'
  obtain ⟨rfl, e2, rfl⟩ := e'
  rcases h6 with h6 | ⟨b, o, rfl, hb, hc⟩
  · rw [h6] at g4; simp at g4; omega
  · exact ⟨b, o, rfl, hb, fun k hk => hc k (by rw [g4]; exact hk), h4⟩
abbrev Bt := Nat × Int
def pc (t : Bt) : List Value := [.int .u64 (t.1 : Int), .int .i64 t.2]
def pcs (l : List Bt) : List Value := (l.map pc).flatten
theorem pcs_app (l k : List Bt) : pcs (l ++ k) = pcs l ++ pcs k := by simp [pcs]
theorem pcs_len (l : List Bt) : (pcs l).length = l.length * 2 := by
  induction l with
  | nil => rfl
  | cons x r ih =>
    have : pcs (x :: r) = pc x ++ pcs r := by simp [pcs]
    rw [this, List.length_append, ih]
    show 2 + _ = (r.length + 1) * 2
    omega
theorem pcs_one (l : List Bt) : ∀ u ∈ pcs l, u.oneCell' = true := by
  intro u hu
  simp only [pcs, List.mem_flatten, List.mem_map] at hu
  obtain ⟨k, ⟨t, _, rfl⟩, hk⟩ := hu
  simp [pc] at hk
  rcases hk with rfl | rfl <;> rfl
def OwnP (N : Nat) (w : World) (v : Value) (d : List Bt) : Prop := w.ownsRow N 73 2 v d.length (pcs d)
theorem OwnP.keep {N : Nat} {w w' : World} {v : Value} {d : List Bt} (h : OwnP N w v d) (hk : ∀ (q : Nat) (c : Array Value), v.ownBlock = some q → Row w q 73 c → Row w' q 73 c) : OwnP N w' v d := by
  refine ⟨h.1, ?_⟩
  rcases h.2 with h2 | ⟨g, cap, cur, e1, e2, e3, e4⟩
  · exact .inl h2
  · exact .inr ⟨g, cap, cur, e1, e2, hk g cur (by rw [e1]; rfl) e3, e4⟩
theorem OwnP.below {N : Nat} {w w' : World} {v : Value} {d : List Bt} (h : OwnP N w v d) (hb : Below w.heap.size w w') : OwnP N w' v d := h.keep fun q c _ hr => hr.below hb hr.lt
theorem OwnP.slice {N : Nat} {w : World} {v : Value} {d : List Bt} (h : OwnP N w v d) : ∃ a c, v = .slice a d.length c := by
  rcases h.2 with ⟨e, e0⟩ | ⟨g, cap, cur, e1, _⟩
  · exact ⟨none, 0, by rw [e, e0]⟩
  · exact ⟨_, _, e1⟩
theorem OwnP.row {N : Nat} {w : World} {v : Value} {d : List Bt} (h : OwnP N w v d) {q : Nat} (e : v.ownBlock = some q) : N ≤ q ∧ ∃ c, Row w q 73 c := by
  rcases h.2 with ⟨e1, _⟩ | ⟨g, cap, cur, e1, e2, e3, _⟩
  · rw [e1] at e; cases e
  · rw [e1] at e
    simp [Value.ownBlock] at e
    subst e
    exact ⟨e2, cur, e3⟩
set_option maxRecDepth 100000 in
theorem Try.info73a : ∃ i, Try.prog.info? 73 = some i ∧ i.zero = some (.agg #[.int .u64 0, .int .i64 0]) ∧ i.size = 2 ∧ i.bytes = 16 := ⟨_, rfl, rfl, rfl, rfl⟩
theorem wp_appP {op : Oper} {a : Act} {w : World} {K : Act → World → Prop} {Q : Exit → Act → World → Prop} (s x : Operand)
    (ho : op.op = .call { callee := .builtin .append, args := #[s, x], argTypes := #[48, 48] }) (N : Nat) (hN : N ≤ w.heap.size)
    (v : Value) (d : List Bt) (hs : a.eval s = v) (hown : OwnP N w v d) (ad : Addr) (m c : Nat) (l : List Bt) (hx : a.eval x = .slice (some ad) m c) (hm : l.length = m)
    (hc : ∀ j u, (pcs l)[j]? = some u → w.cell? (ad.add j) = some u) (hmax : d.length + l.length ≤ 1000000)
    (h : ∀ v' w', OwnP N w' v' (d ++ l) → w.grownBy w' v.ownBlock → (v'.ownBlock = v.ownBlock ∨ v'.ownBlock = some w.heap.size) → K (a.put op.dst v') w') : op.wp Try.prog a w K Q := by
  obtain ⟨i, h1, h2, h3, h4⟩ := Try.info73a
  obtain ⟨v', w', hrun, g2, g3, _, g5⟩ := run_append_own_at (P := Try.prog) (w := w) N 48 op.type 73 i _ 2 16 Try.underlying48 h1 h2 h3 h4 rfl (by decide) v d.length _ hown ad m c (pcs l) (by rw [pcs_len, hm]) hc (pcs_one l) (by unfold maxLen; omega) (by omega) hN
  have g2' : OwnP N w' v' (d ++ l) := by unfold OwnP; rw [List.length_append, pcs_app, hm]; exact g2
  unfold Oper.wp execOp
  simp only [ho, resolve, invoke, builtin, Sem.run_bind, Sem.run_pure, Result.andThen_ok, List.map_toArray, List.map_cons, List.map_nil, hs, hx, hrun]
  exact h v' w' g2' g3 g5
theorem wpList_appP {ops : Array Oper} {rest : List Oper} {o : Oper} {a : Act} {w : World} {Q : Exit → Act → World → Prop} (hgd : o.guard = none) (s x : Operand)
    (ho : o.op = .call { callee := .builtin .append, args := #[s, x], argTypes := #[48, 48] }) (N : Nat) (hN : N ≤ w.heap.size)
    (v : Value) (d : List Bt) (hs : a.eval s = v) (hown : OwnP N w v d) (ad : Addr) (m c : Nat) (l : List Bt) (hx : a.eval x = .slice (some ad) m c) (hm : l.length = m)
    (hc : ∀ j u, (pcs l)[j]? = some u → w.cell? (ad.add j) = some u) (hmax : d.length + l.length ≤ 1000000)
    (h : ∀ v' w', OwnP N w' v' (d ++ l) → w.grownBy w' v.ownBlock → (v'.ownBlock = v.ownBlock ∨ v'.ownBlock = some w.heap.size) → wpList Try.prog ops Q rest (a.put o.dst v') w') : wpList Try.prog ops Q (o :: rest) a w :=
  wpList_plain hgd fun K hK => wp_appP s x ho N hN v d hs hown ad m c l hx hm hc hmax fun v' w' h1 h2 h3 => hK _ _ (h v' w' h1 h2 h3)
def Wds (N : Nat) (w : World) (v : Value) (l : List Wd) : Prop :=
  ∃ a c, v = .slice a l.length c ∧ l.length ≤ c ∧ ∀ k, k < l.length → ∃ b o, a = some ⟨b, o, none⟩ ∧ b < N ∧
    w.cell? ⟨b, o + k * 3, none⟩ = some (.int .i64 (l.getD k (0, 0, 0)).1) ∧ w.cell? ⟨b, o + k * 3 + 1, none⟩ = some (.int .u64 ((l.getD k (0, 0, 0)).2.1 : Int)) ∧ w.cell? ⟨b, o + k * 3 + 2, none⟩ = some (.int .i64 ((l.getD k (0, 0, 0)).2.2 : Int))
theorem OwnW.wds {N : Nat} {w : World} {v : Value} {d : List Wd} (h : OwnW N w v d) : Wds w.heap.size w v d := by
  rcases h.2 with ⟨e, e0⟩ | ⟨g, cap, cur, e1, e2, e3, e4, e5, e6, e7⟩
  · have : d = [] := List.eq_nil_of_length_eq_zero e0
    subst this
    exact ⟨none, 0, e, Nat.le_refl _, fun k hk => by simp at hk⟩
  · have r : Row w g 110 cur := e3
    refine ⟨_, cap, e1, e4, fun k hk => ⟨g, 0, rfl, r.lt, ?_⟩⟩
    have hget : ∀ j, j < 3 → w.cell? ⟨g, 0 + k * 3 + j, none⟩ = (wc (d.getD k (0, 0, 0)))[j]? := by
      intro j hj
      rw [Nat.zero_add, r.cell, ← wcs_get d k j hk hj, ← e7, List.getElem?_take_of_lt (by omega)]
      simp
    exact ⟨hget 0 (by omega), hget 1 (by omega), hget 2 (by omega)⟩
def kcS (W : List Wd) : List Int := W.foldl (fun s t => inc s t.1.toNat) (zs 19)
theorem kcS_snoc (W : List Wd) (t : Wd) : kcS (W ++ [t]) = inc (kcS W) t.1.toNat := by unfold kcS; rw [List.foldl_append]; rfl
theorem kcS_len (W : List Wd) : (kcS W).length = 19 := by
  have key : ∀ (W : List Wd) (s : List Int), (W.foldl (fun s t => inc s t.1.toNat) s).length = s.length := by
    intro W
    induction W with
    | nil => intro s; rfl
    | cons t r ih => intro s; rw [List.foldl_cons, ih, inc_len]
  have h := key W (zs 19)
  rw [zs_len] at h
  exact h
theorem zs_get (n k : Nat) : (zs n).getD k 0 = 0 := by
  unfold zs
  rw [List.getD_eq_getElem?_getD, List.getElem?_replicate]
  split <;> rfl
theorem kcS_bd (W : List Wd) : ∀ k, 0 ≤ (kcS W).getD k 0 ∧ (kcS W).getD k 0 ≤ (W.length : Int) := by
  have key : ∀ (W : List Wd) (s : List Int) (n : Int), (∀ k, 0 ≤ s.getD k 0 ∧ s.getD k 0 ≤ n) → ∀ k, 0 ≤ (W.foldl (fun s t => inc s t.1.toNat) s).getD k 0 ∧ (W.foldl (fun s t => inc s t.1.toNat) s).getD k 0 ≤ n + (W.length : Int) := by
    intro W
    induction W with
    | nil => intro s n h; simpa using h
    | cons t r ih =>
      intro s n h
      have e : n + ((t :: r).length : Int) = (n + 1) + (r.length : Int) := by simp; omega
      rw [List.foldl_cons, e]
      exact ih _ _ (inc_bd h _)
  have h := key W (zs 19) 0 (fun k => by rw [zs_get]; exact ⟨Int.le_refl _, Int.le_refl _⟩)
  rw [Int.zero_add] at h
  exact h
def klF (W : List Wd) : List Int := lenF (kcS W) 7
def tnF (W : List Wd) : Nat := trmF (ordF (klF W)) 4 19
def tellW (W : List Wd) (t : Wd) : List Bt := [(cds (klF W) (klF W).length).getD t.1.toNat (0, 0), (t.2.1, (t.2.2 : Int))]
def splF (W : List Wd) : List Bt := [(tnF W - 4, 4)] ++ ((ordF (klF W)).take (tnF W)).map (fun x => (x.toNat, (3 : Int))) ++ (W.map (tellW W)).flatten
theorem OwnP.one (w : World) (x : Nat) (y : Int) : OwnP w.heap.size (w.alloc (.cells #[.int .u64 (x : Int), .int .i64 y] 73)) (.slice (some ⟨w.heap.size, 0, none⟩) 1 1) [(x, y)] :=
  ⟨rfl, .inr ⟨w.heap.size, 1, _, rfl, Nat.le_refl _, Row.new _ _ _, Nat.le_refl _, by unfold maxLen; decide, rfl, rfl⟩⟩
theorem below_grownP {N : Nat} {w0 w w' : World} {tk : Value} {T : List Bt} (h : Below N w0 w) (hN : N ≤ w0.heap.size) (ho : OwnP N w tk T) (gr : w.grownBy w' tk.ownBlock) : Below N w0 w' :=
  ⟨gr.os.trans h.os, gr.tape.trans h.tape, gr.output.trans h.output, Nat.le_trans h.size gr.size, fun k hk => (gr.block k (Nat.lt_of_lt_of_le (Nat.lt_of_lt_of_le hk hN) h.size) (fun e => by have := (ho.row e.symm).1; omega)).trans (h.block k hk)⟩
theorem tn_bd (W : List Wd) : 4 ≤ tnF W ∧ tnF W ≤ 19 := by
  have := trm_ge (ordF (klF W)) 4 19 (by omega)
  unfold tnF
  omega
theorem row_pcs1 {w : World} {q x : Nat} {y : Int} (h : Row w q 73 #[.int .u64 (x : Int), .int .i64 y]) : ∀ j u, (pcs [(x, y)])[j]? = some u → w.cell? ((⟨q, 0, none⟩ : Addr).add j) = some u := by
  intro j u hu
  have e := h.cell j
  rw [Addr.add_mid, Nat.zero_add, e]
  simpa [pcs, pc] using hu
theorem row_pcs2 {w : World} {q x x' : Nat} {y y' : Int} (h : Row w q 73 #[.int .u64 (x : Int), .int .i64 y, .int .u64 (x' : Int), .int .i64 y']) : ∀ j u, (pcs [(x, y), (x', y')])[j]? = some u → w.cell? ((⟨q, 0, none⟩ : Addr).add j) = some u := by
  intro j u hu
  have e := h.cell j
  rw [Addr.add_mid, Nat.zero_add, e]
  simpa [pcs, pc] using hu
theorem ownP_ne {N : Nat} {w : World} {v : Value} {d : List Bt} (h : OwnP N w v d) {q : Nat} (e : v.ownBlock = some q) {t : TypeId} {c : Array Value} (hr : Row w q t c) (ht : t ≠ 73) : False := by
  obtain ⟨_, c', h'⟩ := h.row e
  exact row_type_ne hr h' ht
theorem run_buildP2 (w : World) (x x' : Nat) (y y' : Int) : (Instr.buildSlice 48 2 #[(0, .agg #[.int .u64 (x : Int), .int .i64 y]), (1, .agg #[.int .u64 (x' : Int), .int .i64 y'])]).run Try.prog w = .ok (.slice (some ⟨w.heap.size, 0, none⟩) 2 2) (w.alloc (.cells #[.int .u64 (x : Int), .int .i64 y, .int .u64 (x' : Int), .int .i64 y'] 73)) := by
  simp [go_sem, Instr.buildSlice]
theorem wp_buildP2 {op : Oper} {a : Act} {w : World} {K : Act → World → Prop} {Q : Exit → Act → World → Prop} (s s' : Operand) (ho : op.op = .buildSlice 48 2 #[(0, s), (1, s')]) (x x' : Nat) (y y' : Int) (hx : a.eval s = .agg #[.int .u64 (x : Int), .int .i64 y]) (hx' : a.eval s' = .agg #[.int .u64 (x' : Int), .int .i64 y'])
    (h : K (a.put op.dst (.slice (some ⟨w.heap.size, 0, none⟩) 2 2)) (w.alloc (.cells #[.int .u64 (x : Int), .int .i64 y, .int .u64 (x' : Int), .int .i64 y'] 73))) : op.wp Try.prog a w K Q := by
  have hr := run_buildP2 w x x' y y'
  unfold Oper.wp execOp
  simp only [ho, Sem.run_bind, List.map_toArray, List.map_cons, List.map_nil, hx, hx', hr, Result.andThen_ok, Sem.run_pure]
  exact h
set_option maxRecDepth 1000000 in
set_option maxHeartbeats 4000000 in
theorem spReg (gc p N q cv t1 : Nat) (va : Value) (cl t2 : Int) (d : List Bt) (arr : Array Value) (u0 u1 u2 u3 u4 u5 u6 u7 u9 u10 u12 u13 u14 u16 u17 u18 u19 u20 u21 u22 u23 u24 u25 u26 u27 u28 u29 u30 u31 u32 u33 u34 u35 u36 u37 u38 u39 u40 u41 u42 u43 u44 u45 u46 u47 u48 u49 u50 u51 u52 u53 u54 u55 u56 u57 u58 u59 u60 u61 u62 u63 u64 u65 u66 u67 u68 u69 u70 u71 u72 u73 u74 u75 u76 u77 u78 u79 u80 : Value) (w : World) (hNH : N ≤ w.heap.size) (hr : Row w p 110 #[.int .i64 (q : Int), .int .u64 (t1 : Int), .int .i64 t2]) (hg : Row w gc 73 arr) (hgN : gc < N) (ha0 : arr[q * 2]? = some (.int .u64 (cv : Int))) (ha1 : arr[q * 2 + 1]? = some (.int .i64 cl)) (hO : OwnP N w va d) (hd5 : d.length + 2 ≤ 1000000) (hva : ∀ q, va.ownBlock = some q → q < w.heap.size) (j1 : (0 : Int) ≤ (q : Int)) (j2 : (q : Int) < 19) :
    Code.wp Try.prog ((Try.f38.body.bind (regOf' 19)).getD .skip) (fun e a' w' => e = .normal ∧ ∃ v11 v69 v70 v71 v72 v73 v74 v75 v76 v77 v78 : Value, a' = ⟨List.toArray (u0 :: u1 :: u2 :: u3 :: u4 :: u5 :: u6 :: u7 :: .slice (some ⟨gc, 0, none⟩) 19 19 :: u9 :: u10 :: v11 :: u12 :: u13 :: u14 :: .pointer (some ⟨p, 0, none⟩) :: u16 :: u17 :: u18 :: u19 :: u20 :: u21 :: u22 :: u23 :: u24 :: u25 :: u26 :: u27 :: u28 :: u29 :: u30 :: u31 :: u32 :: u33 :: u34 :: u35 :: u36 :: u37 :: u38 :: u39 :: u40 :: u41 :: u42 :: u43 :: u44 :: u45 :: u46 :: u47 :: u48 :: u49 :: u50 :: u51 :: u52 :: u53 :: u54 :: u55 :: u56 :: u57 :: u58 :: u59 :: u60 :: u61 :: u62 :: u63 :: u64 :: u65 :: u66 :: u67 :: u68 :: v69 :: v70 :: v71 :: v72 :: v73 :: v74 :: v75 :: v76 :: v77 :: v78 :: u79 :: u80 :: []), []⟩ ∧ OwnP N w' v11 (d ++ [(cv, cl), (t1, t2)]) ∧ Below N w w') ⟨List.toArray (u0 :: u1 :: u2 :: u3 :: u4 :: u5 :: u6 :: u7 :: .slice (some ⟨gc, 0, none⟩) 19 19 :: u9 :: u10 :: va :: u12 :: u13 :: u14 :: .pointer (some ⟨p, 0, none⟩) :: u16 :: u17 :: u18 :: u19 :: u20 :: u21 :: u22 :: u23 :: u24 :: u25 :: u26 :: u27 :: u28 :: u29 :: u30 :: u31 :: u32 :: u33 :: u34 :: u35 :: u36 :: u37 :: u38 :: u39 :: u40 :: u41 :: u42 :: u43 :: u44 :: u45 :: u46 :: u47 :: u48 :: u49 :: u50 :: u51 :: u52 :: u53 :: u54 :: u55 :: u56 :: u57 :: u58 :: u59 :: u60 :: u61 :: u62 :: u63 :: u64 :: u65 :: u66 :: u67 :: u68 :: u69 :: u70 :: u71 :: u72 :: u73 :: u74 :: u75 :: u76 :: u77 :: u78 :: u79 :: u80 :: []), []⟩ w := by
  conv => arg 2; whnf
  refine wp_region_once 10 9 (by kernel_rfl) (by kernel_rfl) _ rfl (fun a b => Below a.heap.size a b) (fun a b => a.grownBy b va.ownBlock) (fun wa => Below N w wa ∧ Row wa p 110 #[.int .i64 (q : Int), .int .u64 (t1 : Int), .int .i64 t2] ∧ Row wa gc 73 arr) (fun wa => OwnP N wa va d) (fun k w1 v => match k with
      | 0 => v = va
      | 1 => v = .slice (some ⟨gc, 0, none⟩) 19 19
      | 2 => v = .pointer (some ⟨p, 0, none⟩)
      | 3 => v = .int .i64 (q : Int)
      | 4 => v = .pointer (some ⟨gc, q * 2, none⟩)
      | 5 => v = .agg #[.int .u64 (cv : Int), .int .i64 cl]
      | 6 => v = .pointer (some ⟨p, 1, none⟩)
      | 7 => v = .agg #[.int .u64 (t1 : Int), .int .i64 t2]
      | 8 => ∃ q', v = .slice (some ⟨q', 0, none⟩) 2 2 ∧ w.heap.size ≤ q' ∧ Row w1 q' 73 #[.int .u64 (cv : Int), .int .i64 cl, .int .u64 (t1 : Int), .int .i64 t2]
      | 9 => OwnP N w1 v (d ++ [(cv, cl), (t1, t2)])
      | _ => True) ?_ ?_ ?_ ?_ ?_ ?_ ?_ ?_ ?_ ?_
  · intro a b' hb hC; exact ⟨hC.1.trans (hb.mono (Nat.le_trans hNH hC.1.size)), hC.2.1.below hb hC.2.1.lt, hC.2.2.below hb hC.2.2.lt⟩
  · intro a b' hC hb h; exact h.below hb
  · intro k v w1 w2 hC1 hb h
    match k, h with
    | 0, h => exact h
    | 1, h => exact h
    | 2, h => exact h
    | 3, h => exact h
    | 4, h => exact h
    | 5, h => exact h
    | 6, h => exact h
    | 7, h => exact h
    | 8, h => exact Exists.elim h fun q hq => ⟨q, hq.1, hq.2.1, hq.2.2.below hb hq.2.2.lt⟩
    | 9, h => exact OwnP.below h hb
    | k + 10, h => trivial
  · intro a b' hb hC hA; exact ⟨below_grownP hC.1 hNH hA hb, hC.2.1.same (hb.block _ hC.2.1.lt (fun e => ownP_ne hA e.symm hC.2.1 (by decide))), hC.2.2.same (hb.block _ hC.2.2.lt (fun e => by have := (hA.row e.symm).1; omega))⟩
  · intro k v w1 w2 hne hC1 hA1 hb h
    match k, hne, h with
    | 0, _, h => exact h
    | 1, _, h => exact h
    | 2, _, h => exact h
    | 3, _, h => exact h
    | 4, _, h => exact h
    | 5, _, h => exact h
    | 6, _, h => exact h
    | 7, _, h => exact h
    | 8, _, h => exact Exists.elim h fun q hq => ⟨q, hq.1, hq.2.1, hq.2.2.same (hb.block q hq.2.2.lt (fun e => by have := (hva q e.symm); omega))⟩
    | 9, hne, h => exact absurd rfl hne
    | k + 10, _, h => trivial
  · exact ⟨(Below.refl _ _).drew, hr, hg⟩
  · exact hO
  · refine ⟨?_, ?_, ?_, ?_, ?_, ?_, ?_, ?_, ?_, ?_, trivial⟩
    · intro hj f w1 hC hd KK hK
      clear hd
      simp only [List.take_succ_cons, List.take_zero, setAll, List.setIfInBounds_toArray, List.set_cons_succ, List.set_cons_zero, Nat.zero_add, Nat.reduceAdd] at hK ⊢
      refine wp_of_quiet rfl ?_
      go_big_quiet_step (fail)
      exact wpQuiet_nil (hK _ _ rfl (Below.refl _ _))
    · intro hj f w1 hC hd KK hK
      clear hd
      simp only [List.take_succ_cons, List.take_zero, setAll, List.setIfInBounds_toArray, List.set_cons_succ, List.set_cons_zero, Nat.zero_add, Nat.reduceAdd] at hK ⊢
      refine wp_of_quiet rfl ?_
      go_big_quiet_step (fail)
      exact wpQuiet_nil (hK _ _ rfl (Below.refl _ _))
    · intro hj f w1 hC hd KK hK
      clear hd
      simp only [List.take_succ_cons, List.take_zero, setAll, List.setIfInBounds_toArray, List.set_cons_succ, List.set_cons_zero, Nat.zero_add, Nat.reduceAdd] at hK ⊢
      refine wp_of_quiet rfl ?_
      go_big_quiet_step (fail)
      exact wpQuiet_nil (hK _ _ rfl (Below.refl _ _))
    · intro hj f w1 hC hd KK hK
      have g2 : f 2 = _ := hd 2 (by kernel_rfl)
      clear hd
      simp only [List.take_succ_cons, List.take_zero, setAll, List.setIfInBounds_toArray, List.set_cons_succ, List.set_cons_zero, Nat.zero_add, Nat.reduceAdd, g2] at hK ⊢
      have cc : w1.cell? ⟨p, 0, none⟩ = some (.int .i64 (q : Int)) := by rw [hC.2.1.cell]; rfl
      refine wp_of_quiet rfl ?_
      go_big_quiet_step (fail)
      exact wpQuiet_nil (hK _ _ rfl (Below.refl _ _))
    · intro hj f w1 hC hd KK hK
      have g1 : f 1 = _ := hd 1 (by kernel_rfl)
      have g3 : f 3 = _ := hd 3 (by kernel_rfl)
      clear hd
      simp only [List.take_succ_cons, List.take_zero, setAll, List.setIfInBounds_toArray, List.set_cons_succ, List.set_cons_zero, Nat.zero_add, Nat.reduceAdd, g1, g3] at hK ⊢
      refine wp_of_quiet rfl ?_
      go_big_quiet_step (fail)
      exact wpQuiet_nil (hK _ _ rfl (Below.refl _ _))
    · intro hj f w1 hC hd KK hK
      have g4 : f 4 = _ := hd 4 (by kernel_rfl)
      clear hd
      simp only [List.take_succ_cons, List.take_zero, setAll, List.setIfInBounds_toArray, List.set_cons_succ, List.set_cons_zero, Nat.zero_add, Nat.reduceAdd, g4] at hK ⊢
      have cc : w1.cell? ⟨gc, q * 2, none⟩ = some (.int .u64 (cv : Int)) := by rw [hC.2.2.cell]; exact ha0
      have cd : w1.cell? ⟨gc, q * 2 + 1, none⟩ = some (.int .i64 cl) := by rw [hC.2.2.cell]; exact ha1
      refine wp_of_quiet rfl ?_
      go_big_quiet_step (fail)
      exact wpQuiet_nil (hK _ _ rfl (Below.refl _ _))
    · intro hj f w1 hC hd KK hK
      clear hd
      simp only [List.take_succ_cons, List.take_zero, setAll, List.setIfInBounds_toArray, List.set_cons_succ, List.set_cons_zero, Nat.zero_add, Nat.reduceAdd] at hK ⊢
      refine wp_of_quiet rfl ?_
      go_big_quiet_step (fail)
      exact wpQuiet_nil (hK _ _ rfl (Below.refl _ _))
    · intro hj f w1 hC hd KK hK
      have g6 : f 6 = _ := hd 6 (by kernel_rfl)
      clear hd
      simp only [List.take_succ_cons, List.take_zero, setAll, List.setIfInBounds_toArray, List.set_cons_succ, List.set_cons_zero, Nat.zero_add, Nat.reduceAdd, g6] at hK ⊢
      have cc : w1.cell? ⟨p, 1, none⟩ = some (.int .u64 (t1 : Int)) := by rw [hC.2.1.cell]; rfl
      have cd : w1.cell? ⟨p, 2, none⟩ = some (.int .i64 t2) := by rw [hC.2.1.cell]; rfl
      refine wp_of_quiet rfl ?_
      go_big_quiet_step (fail)
      exact wpQuiet_nil (hK _ _ rfl (Below.refl _ _))
    · intro hj f w1 hC hd KK hK
      have g5 : f 5 = _ := hd 5 (by kernel_rfl)
      have g7 : f 7 = _ := hd 7 (by kernel_rfl)
      clear hd
      simp only [List.take_succ_cons, List.take_zero, setAll, List.setIfInBounds_toArray, List.set_cons_succ, List.set_cons_zero, Nat.zero_add, Nat.reduceAdd, g5, g7] at hK ⊢
      refine wp_buildP2 _ _ rfl cv t1 cl t2 rfl rfl ?_
      exact hK _ _ ⟨_, rfl, hC.1.size, Row.new _ _ _⟩ ((Below.refl _ _).alloc (Nat.le_refl _) _)
    · intro hj; exact absurd rfl hj
  · intro f w1 hC hA hd KK hK
    have g0 : f 0 = _ := hd 0 (by kernel_rfl)
    have x8 : ∃ q', (f 8) = .slice (some ⟨q', 0, none⟩) 2 2 ∧ w.heap.size ≤ q' ∧ Row w1 q' 73 #[.int .u64 (cv : Int), .int .i64 cl, .int .u64 (t1 : Int), .int .i64 t2] := hd 8 (by kernel_rfl)
    clear hd
    cases x8 with | intro u8 y80 =>
    have g8 := y80.1
    have z80 := y80.2
    clear y80
    have p8 := z80.1
    have z81 := z80.2
    clear z80
    have q8 := z81
    clear z81
    simp only [List.take_succ_cons, List.take_zero, setAll, List.setIfInBounds_toArray, List.set_cons_succ, List.set_cons_zero, Nat.zero_add, Nat.reduceAdd, g0, g8] at hK ⊢
    refine wp_appP (.tmp 69) (.tmp 77) rfl N (Nat.le_trans hNH hC.1.size) va d rfl hA _ 2 2 [(cv, cl), (t1, t2)] rfl rfl (row_pcs2 q8) hd5 ?_
    intro v' w' h1 h2 _
    exact hK _ _ h1 h2
  · intro f w1 hC hv
    have g0 : f 0 = _ := hv 0 (by decide)
    have g1 : f 1 = _ := hv 1 (by decide)
    have g2 : f 2 = _ := hv 2 (by decide)
    have g3 : f 3 = _ := hv 3 (by decide)
    have g4 : f 4 = _ := hv 4 (by decide)
    have g5 : f 5 = _ := hv 5 (by decide)
    have g6 : f 6 = _ := hv 6 (by decide)
    have g7 : f 7 = _ := hv 7 (by decide)
    have x8 : ∃ q', (f 8) = .slice (some ⟨q', 0, none⟩) 2 2 ∧ w.heap.size ≤ q' ∧ Row w1 q' 73 #[.int .u64 (cv : Int), .int .i64 cl, .int .u64 (t1 : Int), .int .i64 t2] := hv 8 (by decide)
    have p9 : OwnP N w1 (f 9) (d ++ [(cv, cl), (t1, t2)]) := hv 9 (by decide)
    cases x8 with | intro u8 y80 =>
    have g8 := y80.1
    have z80 := y80.2
    clear y80
    have p8 := z80.1
    have z81 := z80.2
    clear z80
    have q8 := z81
    clear z81
    simp only [List.take_succ_cons, List.take_zero, List.drop_succ_cons, List.drop_zero, setAll, List.setIfInBounds_toArray, List.set_cons_succ, List.set_cons_zero, Nat.zero_add, Nat.reduceAdd, g0, g1, g2, g3, g4, g5, g6, g7, g8]
    clear g0 g1 g2 g3 g4 g5 g6 g7 g8 hv
    clear q8 p8
    generalize f 9 = v9 at *
    have HB := Box'.mk hC.1
    have P9 := Box'.mk p9
    clear p9 hC
    go_wp2_with fail
    exact ⟨P9.out, HB.out⟩
end Go.Proofs.Ytcjfaahlchbcmaa
