/- Rows appended to a row of rows of one's own; the walk of market. -/
import Derived.Test.YtcjfaahlchbcmaaK35
import Derived.Test.YtcjfaahlchbcmaaK05
import Derived.Test.YtcjfaahlchbcmaaK01
import Derived.Test.YtcjfaahlchbcmaaK09
import Derived.Test.YtcjfaahlchbcmaaK06
namespace Go.Proofs.Ytcjfaahlchbcmaa
open Go.RowKit Go.BigFrame
def OwnS (N : Nat) (w : World) (v : Value) (d : List Value) : Prop := w.ownsRow N 127 1 v d.length d
set_option maxRecDepth 100000 in
theorem OwnS.nil (N : Nat) (w : World) : OwnS N w (.slice none 0 0) [] := ⟨rfl, .inl ⟨rfl, rfl⟩⟩
set_option maxRecDepth 100000 in
theorem OwnS.below {N : Nat} {w w' : World} {v : Value} {d : List Value} (h : OwnS N w v d) (hb : Below w.heap.size w w') : OwnS N w' v d := by
  refine ⟨h.1, ?_⟩
  rcases h.2 with h2 | ⟨g, cap, cur, e1, e2, e3, e4⟩
  · exact .inl h2
  · exact .inr ⟨g, cap, cur, e1, e2, by rw [hb.block g (Array.getElem?_eq_some_iff.1 e3).1]; exact e3, e4⟩
set_option maxRecDepth 100000 in
theorem OwnS.alloc {N : Nat} {w : World} {v : Value} {d : List Value} (h : OwnS N w v d) (o : Obj) : OwnS N (w.alloc o) v d := h.below ((Below.refl _ _).alloc (Nat.le_refl _) _)
set_option maxRecDepth 100000 in
theorem OwnS.lt {N : Nat} {w : World} {v : Value} {d : List Value} (h : OwnS N w v d) : ∀ g, v.ownBlock = some g → N ≤ g ∧ ∃ cur, Row w g 127 cur := by
  intro k hk
  rcases h.2 with ⟨e, _⟩ | ⟨g, cap, cur, e1, e2, e3, _⟩
  · rw [e] at hk; simp [Value.ownBlock] at hk
  · rw [e1] at hk; simp [Value.ownBlock] at hk; subst hk; exact ⟨e2, cur, e3⟩
set_option maxRecDepth 100000 in
theorem OwnS.seg {N : Nat} {w : World} {v : Value} {d : List Value} (h : OwnS N w v d) (hd : 0 < d.length) : ∃ g cap, v = .slice (some ⟨g, 0, none⟩) d.length cap ∧ N ≤ g ∧ d.length ≤ cap ∧ g < w.heap.size ∧ ∀ j x, d[j]? = some x → w.cell? ⟨g, j, none⟩ = some x := by
  rcases h.2 with ⟨e, e0⟩ | ⟨g, cap, cur, e1, e2, e3, e4, e5, e6, e7⟩
  · omega
  · refine ⟨g, cap, e1, e2, e4, (Array.getElem?_eq_some_iff.1 e3).1, fun j x hx => ?_⟩
    have r : Row w g 127 cur := e3
    rw [r.cell]
    have hj : j < d.length := (List.getElem?_eq_some_iff.1 hx).1
    rw [← e7, List.getElem?_take_of_lt (by omega)] at hx
    simpa using hx
def RowsAt (w : World) (cs rs : List Int) (d : List Value) : Prop :=
  ∀ j, j < d.length → ∃ b c, d[j]? = some (.slice (some ⟨b, 0, none⟩) (rowP cs rs (j + 1)).length c) ∧ (rowP cs rs (j + 1)).length ≤ c ∧ SegC w b (rowP cs rs (j + 1))
set_option maxRecDepth 100000 in
theorem RowsAt.below {w w' : World} {cs rs : List Int} {d : List Value} (h : RowsAt w cs rs d) (hb : Below w.heap.size w w') : RowsAt w' cs rs d := fun j hj =>
  let ⟨b, c, h1, h2, h3⟩ := h j hj; ⟨b, c, h1, h2, h3.below hb⟩
set_option maxRecDepth 100000 in
theorem RowsAt.grown {N : Nat} {w w' : World} {cs rs : List Int} {d d0 : List Value} {v : Value} (h : RowsAt w cs rs d) (ho : OwnS N w v d0) (hb : w.grownBy w' v.ownBlock) : RowsAt w' cs rs d := fun j hj =>
  let ⟨b, c, h1, h2, h3⟩ := h j hj
  ⟨b, c, h1, h2, h3.same (hb.block b h3.lt fun e => by
    obtain ⟨-, cur, r⟩ := ho.lt b e.symm
    obtain ⟨cur2, r2, -⟩ := h3
    have e : w.heap[b]? = some (.cells cur 127) := r
    have e2 : w.heap[b]? = some (.cells cur2 129) := r2
    rw [e] at e2
    simp at e2)⟩
set_option maxRecDepth 100000 in
theorem RowsAt.add {w : World} {cs rs : List Int} {d : List Value} {b c k : Nat} (h : RowsAt w cs rs d) (hk : d.length = k) (hc : (rowP cs rs (k + 1)).length ≤ c) (hs : SegC w b (rowP cs rs (k + 1))) : RowsAt w cs rs (d ++ [.slice (some ⟨b, 0, none⟩) (rowP cs rs (k + 1)).length c]) := by
  intro j hj
  subst hk
  rw [List.length_append, List.length_singleton] at hj
  by_cases e : j = d.length
  · subst e; exact ⟨b, c, by simp, hc, hs⟩
  · obtain ⟨b', c', h1, h2⟩ := h j (by omega)
    exact ⟨b', c', by rw [List.getElem?_append_left (by omega)]; exact h1, h2⟩
set_option maxRecDepth 100000 in
theorem Try.info127' : ∃ i, Try.prog.info? 127 = some i ∧ i.zero = some (.slice none 0 0) ∧ i.size = 1 ∧ i.bytes = 24 := ⟨_, rfl, rfl, rfl, rfl⟩
set_option maxRecDepth 100000 in
theorem wpList_append_rows {ops : Array Oper} {rest : List Oper} {o : Oper} {a : Act} {w : World} {Q : Exit → Act → World → Prop} (hgd : o.guard = none) (s x : Operand)
    (ho : o.op = .call { callee := .builtin .append, args := #[s, x], argTypes := #[107, 107] }) (N : Nat) (hN : N ≤ w.heap.size)
    (v : Value) (d : List Value) (hs : a.eval s = v) (hown : OwnS N w v d) (ad : Addr) (u : Value) (c : Nat) (hx : a.eval x = .slice (some ad) 1 c) (hu : u.oneCell' = true)
    (hc : w.cell? ad = some u) (hmax : d.length + 1 ≤ 1000000)
    (h : ∀ v' w', OwnS N w' v' (d ++ [u]) → w.grownBy w' v.ownBlock → wpList Try.prog ops Q rest (a.put o.dst v') w') : wpList Try.prog ops Q (o :: rest) a w := by
  obtain ⟨i, h1, h2, h3, h4⟩ := Try.info127'
  obtain ⟨v', w', hr, g2, g3, _⟩ := run_append_own (P := Try.prog) w N 107 o.type 127 i _ 1 24 Try.underlying107 h1 h2 h3 h4 rfl (by decide) v d.length d hown ad 1 c [u] rfl (fun j y hy => by
    cases j with
    | zero => simp at hy; subst hy; exact hc
    | succ j => simp at hy) (fun y hy => by rw [List.mem_singleton] at hy; subst hy; exact hu) (by unfold maxLen; omega) (by omega) hN
  have g2' : OwnS N w' v' (d ++ [u]) := by unfold OwnS; rw [List.length_append]; exact g2
  refine wpList_plain hgd fun K hK => ?_
  unfold Oper.wp execOp
  simp only [ho, resolve, invoke, builtin, Sem.run_bind, Sem.run_pure, Result.andThen_ok, List.map_toArray, List.map_cons, List.map_nil, hs, hx, hr]
  exact hK _ _ (h v' w' g2' g3)
set_option maxRecDepth 100000 in
set_option maxHeartbeats 4000000 in
theorem market_any (v u : Value) (cs rs : List Int) (n most : Nat) (hm0 : 1 ≤ most) (hm : most ≤ 15) (hcs : cs.length ≤ 512) (C : Cond cs rs n) (hn5 : n ≤ 512) (hix : ∀ s ∈ rs, ∃ i : Nat, s = (i : Int) ∧ i < cs.length) (w : World) (h : Ints w.heap.size w v cs) (g : Ints w.heap.size w u rs) :
    Calls Try.prog 61 #[v, u, .int .i64 (most : Int)] w fun e w' => ∃ gb c d, e = .returned (.slice (some ⟨gb, 0, none⟩) most c) ∧ most ≤ c ∧ d.length = most ∧ w.heap.size ≤ gb ∧ gb < w'.heap.size ∧ (∀ j x, d[j]? = some x → w'.cell? ⟨gb, j, none⟩ = some x) ∧ RowsAt w' cs rs d ∧ Below w.heap.size w w' := by
  have hrl : rs.length = n := by have := C.hsl; unfold syms at this; rwa [List.length_map] at this
  have OFF : Box' (∀ k W bl, k < 15 → Below w.heap.size w W → CnS W.heap.size W bl (rowP cs rs k) → Calls Try.prog 76 #[v, u, bl] W fun e w' => ∃ gb c, e = .returned (.slice (some ⟨gb, 0, none⟩) (rowP cs rs (k + 1)).length c) ∧ (rowP cs rs (k + 1)).length ≤ c ∧ W.heap.size ≤ gb ∧ SegC w' gb (rowP cs rs (k + 1)) ∧ Below W.heap.size W w') := ⟨fun k W bl hk hW hbl => by
    refine offered_any v u bl cs rs (rowP cs rs k) hcs (by omega) (by have := C.hn; omega) ?_ hix ?_ W ((h.below hW (Nat.le_refl _)).up hW.size) ((g.below hW (Nat.le_refl _)).up hW.size) hbl
    · cases k with
      | zero => simp [rowP]
      | succ j => rw [rowP_len C.hsl]; have := cntR_le n j (by have := C.hn; omega); omega
    · intro x hx
      have h1 := rowP_pos C k x hx
      have h2 := rowP_le C.htop k x hx
      have h3 : (2 : Int) ^ (20 + k) ≤ 2 ^ 50 := by
        have : (2 : Nat) ^ (20 + k) ≤ 2 ^ 50 := Nat.pow_le_pow_right (by decide) (by omega)
        exact_mod_cast this
      have h4 : (2 : Int) ^ 50 = 1125899906842624 := by decide
      omega⟩
  have R0 : Box' (rowP cs rs 0 = []) := ⟨rfl⟩
  clear h g hix C hrl
  go_enter Try.func61, Try.ntmps61
  go_wp2_with fail
  go_loopw [7, 8, 10] (fun t r i wr => ∃ (k : Nat) (d : List Value), k ≤ most ∧ i = .int .i64 (k : Int) ∧ Box' (d.length = k) ∧ OwnS w.heap.size wr t d ∧ RowsAt wr cs rs d ∧ CnS wr.heap.size wr r (rowP cs rs k) ∧ Below w.heap.size w wr) (fun _ _ i _ => most - (intOf i).toNat)
  case atStart => exact ⟨0, [], by omega, rfl, ⟨rfl⟩, OwnS.nil _ _, (fun j hj => by simp at hj), ⟨none, 0, by rw [R0.out]; rfl, by rw [R0.out]; exact Nat.le_refl _, .inl R0.out⟩, Below.refl _ _⟩
  case round =>
    obtain ⟨k, d, hk, rfl, HD, hown, hrow, hcn, hbl⟩ := hrel
    have hz := hbl.size
    by_cases hlt : k < most
    · have hoff := OFF.out k wr _ (by omega) hbl hcn
      have HB := Box'.mk hbl
      have HO := Box'.mk hown
      have HR := Box'.mk hrow
      clear OFF hcn hbl hown hrow R0
      go_wp2_with fail
      refine hoff.mono ?_
      rintro e w2 ⟨gb, c, rfl, hc, hgb, hseg, hb2⟩
      clear hoff
      have o2 := (HO.out.below hb2).alloc (.cells #[.slice (some ⟨gb, 0, none⟩) (rowP cs rs (k + 1)).length c] 127)
      have r2 := ((HR.out.below hb2).add HD.out hc hseg).below ((Below.refl _ _).alloc (Nat.le_refl _) (.cells #[.slice (some ⟨gb, 0, none⟩) (rowP cs rs (k + 1)).length c] 127))
      have s2 := hseg.below ((Below.refl _ _).alloc (Nat.le_refl _) (.cells #[.slice (some ⟨gb, 0, none⟩) (rowP cs rs (k + 1)).length c] 127))
      have b2 := (HB.out.trans (hb2.mono hz)).alloc (by have := hb2.size; omega) (.cells #[.slice (some ⟨gb, 0, none⟩) (rowP cs rs (k + 1)).length c] 127)
      have rw2 : Row (w2.alloc (.cells #[.slice (some ⟨gb, 0, none⟩) (rowP cs rs (k + 1)).length c] 127)) w2.heap.size 127 #[.slice (some ⟨gb, 0, none⟩) (rowP cs rs (k + 1)).length c] := Row.new _ _ _
      have c2 : (w2.alloc (.cells #[.slice (some ⟨gb, 0, none⟩) (rowP cs rs (k + 1)).length c] 127)).cell? ⟨w2.heap.size, 0, none⟩ = some (.slice (some ⟨gb, 0, none⟩) (rowP cs rs (k + 1)).length c) := by rw [rw2.cell]; rfl
      have hN2 : w.heap.size ≤ (w2.alloc (.cells #[.slice (some ⟨gb, 0, none⟩) (rowP cs rs (k + 1)).length c] 127)).heap.size := by simp; have := hb2.size; omega
      have hmx : d.length + 1 ≤ 1000000 := by have := HD.out; omega
      have O2 := Box'.mk o2
      have R2 := Box'.mk r2
      have S2 := Box'.mk s2
      have B2 := Box'.mk b2
      have HC := Box'.mk hc
      have HCnS : Box' (∀ W, SegC W gb (rowP cs rs (k + 1)) → CnS W.heap.size W (.slice (some ⟨gb, 0, none⟩) (rowP cs rs (k + 1)).length c) (rowP cs rs (k + 1))) := ⟨fun W hW => ⟨_, _, rfl, HC.out, .inr ⟨gb, rfl, hW.lt, hW⟩⟩⟩
      clear r2 s2 b2 rw2 hseg hc HR HO HB
      generalize (rowP cs rs (k + 1)).length = m at *
      go_wp2_with (refine wpList_append_rows rfl (.tmp 16) (.tmp 18) rfl w.heap.size hN2 _ d rfl o2 _ _ _ rfl rfl c2 hmx ?_; intro v' w4 o4 g4)
      have hne : ∀ kk, Value.ownBlock _ = some kk → w.heap.size ≤ kk := fun kk hkk => (O2.out.lt kk hkk).1
      have b4 := B2.out.grown g4 hN2 hne
      have r4 := R2.out.grown O2.out g4
      have s4 : SegC w4 gb (rowP cs rs (k + 1)) := S2.out.same (g4.block gb S2.out.lt fun e => by
        obtain ⟨-, cur, r⟩ := O2.out.lt gb e.symm
        obtain ⟨cur2, r2, -⟩ := S2.out
        unfold Row at r r2
        rw [r] at r2
        simp at r2)
      exact ⟨⟨k + 1, _, by omega, by go_num, ⟨by rw [List.length_append, HD.out]; rfl⟩, o4, r4, HCnS.out _ s4, b4⟩, by simp [intOf]; omega⟩
    · obtain rfl : k = most := by omega
      have hd := HD.out
      obtain ⟨gb, cap, rfl, hg1, hg2, hg3, hg4⟩ := hown.seg (by omega)
      rw [hd] at hg2 ⊢
      have HG := Box'.mk hg4
      have HR := Box'.mk hrow
      clear OFF hcn hrow hown hg4 R0 hd
      go_wp2_with fail
      go_ret
      exact ⟨gb, cap, d, rfl, hg2, HD.out, hg1, hg3, HG.out, HR.out, hbl⟩
set_option maxRecDepth 100000 in
theorem results60 (T : Array Value) (w : World) : (results Try.f60 T).run Try.prog w = .ok (.tuple #[]) w := by
  unfold results
  simp [go_sem]
set_option maxRecDepth 100000 in
theorem packs_on (l : List Cn) (k : Nat) (h : k < l.length) (hp : (l.getD k (0, false)).2 = true) : packs l (k + 1) = packs l k + 1 := by
  have e : l.getD k (0, false) = l[k] := by simp [h]
  rw [e] at hp
  unfold packs
  rw [List.take_succ_eq_append_getElem h, List.filter_append, List.length_append]
  simp [hp]
set_option maxRecDepth 100000 in
theorem packs_off (l : List Cn) (k : Nat) (h : k < l.length) (hp : (l.getD k (0, false)).2 = false) : packs l (k + 1) = packs l k := by
  have e : l.getD k (0, false) = l[k] := by simp [h]
  rw [e] at hp
  unfold packs
  rw [List.take_succ_eq_append_getElem h, List.filter_append, List.length_append]
  simp [hp]
set_option maxRecDepth 100000 in
theorem packs_le (l : List Cn) (k : Nat) : packs l k ≤ k := by
  unfold packs
  exact Nat.le_trans (List.length_filter_le _ _) (by simp; omega)
set_option maxRecDepth 100000 in
theorem buyN_le (rs : List Int) (i : Nat) : ∀ Ms : List Nat, buyN rs Ms i ≤ Ms.length * rs.length
  | [] => by simp [buyN]
  | M :: q => by
    have ih := buyN_le rs i q
    have h1 : (rs.take M).count (i : Int) ≤ rs.length := Nat.le_trans List.count_le_length (by simp; omega)
    have e : buyN rs (M :: q) i = (rs.take M).count (i : Int) + buyN rs q i := rfl
    rw [e, List.length_cons, Nat.succ_mul]
    omega
set_option maxRecDepth 100000 in
theorem Ints.gb {N g : Nat} {w w' : World} {v : Value} {l : List Int} (h : Ints N w v l) (hN : N ≤ g) (hg : g ≤ w.heap.size) (hb : Gb g w w') : Ints N w' v l := by
  obtain ⟨a, c, h1, h2, h4⟩ := h
  refine ⟨a, c, h1, h2, ?_⟩
  rcases h4 with h4 | ⟨b, o, h5, h6, h7⟩
  · exact .inl h4
  · refine .inr ⟨b, o, h5, h6, fun k hk => ?_⟩
    rw [World.cell?_of_block (w := w) (hb.block b (by omega) (fun e => by cases e; omega))]
    exact h7 k hk
set_option maxRecDepth 100000 in
theorem RowsAt.gb {g : Nat} {w w' : World} {cs rs : List Int} {d : List Value} {cur : Array Value} (h : RowsAt w cs rs d) (hr : Row w g 3 cur) (hb : Gb g w w') : RowsAt w' cs rs d := fun j hj =>
  let ⟨b, c, h1, h2, h3⟩ := h j hj
  ⟨b, c, h1, h2, h3.same (hb.block b h3.lt fun e => by
    cases e
    obtain ⟨cur2, r2, -⟩ := h3
    unfold Row at hr r2
    rw [hr] at r2
    simp at r2)⟩
set_option maxRecDepth 100000 in
set_option maxHeartbeats 4000000 in
theorem spend_any (g nc co gb cr : Nat) (u : Value) (cs rs : List Int) (n most : Nat) (hm : most ≤ 15) (C : Cond cs rs n) (hn5 : n ≤ 512) (_hnc : nc ≤ 512) (htop : 2 * n - 2 ≤ (rowP cs rs most).length) (hix : ∀ s ∈ rs, ∃ i : Nat, s = (i : Int) ∧ i < nc) (d : List Value) (hd : d.length = most) (_hmc : most ≤ cr) (w : World) (hu : Ints g w u rs) (hs : SegI w g (tl nc fun _ => 0)) (hgb : gb ≠ g) (hgb2 : gb < w.heap.size) (hcl : ∀ j x, d[j]? = some x → w.cell? ⟨gb, j, none⟩ = some x) (hrw : RowsAt w cs rs d) :
    Calls Try.prog 60 #[.slice (some ⟨g, 0, none⟩) nc co, u, .slice (some ⟨gb, 0, none⟩) most cr] w fun e w' => e = .returned (.tuple #[]) ∧ SegI w' g (tl nc (buyN rs (msF cs rs most (2 * n - 2)))) ∧ Gb g w w' := by
  have hrl : rs.length = n := by have := C.hsl; unfold syms at this; rwa [List.length_map] at this
  obtain ⟨a, c, rfl, hc, h3⟩ := hu
  have HCL := Box'.mk (Ints.cells h3)
  have IX : Box' (∀ k, k < rs.length → ∃ i : Nat, rs.getD k 0 = (i : Int) ∧ i < nc) := ⟨fun k hk => hix _ (by simp [hk])⟩
  have HR : Box' (∀ W, Gb g w W → ∀ p, p < most → ∃ b c, W.cell? ⟨gb, p, none⟩ = some (.slice (some ⟨b, 0, none⟩) (rowP cs rs (p + 1)).length c) ∧ (rowP cs rs (p + 1)).length ≤ c ∧ SegC W b (rowP cs rs (p + 1))) := ⟨fun W hW p hp => by
    obtain ⟨cur, hr, -⟩ := hs
    obtain ⟨b, cc, h1, h2, h3⟩ := hrw.gb hr hW p (by omega)
    refine ⟨b, cc, ?_, h2, h3⟩
    rw [World.cell?_of_block (w := w) (hW.block gb hgb2 (fun e => by cases e; exact hgb rfl))]
    exact hcl p _ h1⟩
  have HI : Box' (∀ W, Gb g w W → ∀ k, k < rs.length → ∃ b o, a = some ⟨b, o, none⟩ ∧ W.cell? ⟨b, o + k, none⟩ = some (.int .i64 (rs.getD k 0))) := ⟨fun W hW k hk => by
    obtain ⟨b, o, h1, h2, h3⟩ := HCL.out k hk
    have hgl := hs.lt
    refine ⟨b, o, h1, ?_⟩
    rw [World.cell?_of_block (w := w) (hW.block b (by omega) (fun e => by cases e; omega))]
    exact h3⟩
  have CT := Box'.mk (cnt_take rs)
  have CC := Box'.mk C
  have HT := Box'.mk htop
  have RLEN : Box' (∀ p, (rowP cs rs (p + 1)).length ≤ 1100) := ⟨fun p => by rw [rowP_len C.hsl]; have := cntR_le n p (by have := C.hn; omega); omega⟩
  have hn2 := C.hn
  have hsg := hs
  clear h3 HCL hix hrw hcl hd htop hs
  generalize hnr : rs.length = nr at *
  have RNN := Box'.mk hnr
  obtain rfl : nr = n := hrl
  clear hnr C
  go_enter Try.func60, Try.ntmps60
  go_wp2_with fail
  go_loopw [6, 7] (fun t i wr => ∃ (q b : Nat) (f : Nat → Nat), q ≤ most ∧ i = .int .i64 ((q : Int) - 1) ∧ t = .int .i64 (b : Int) ∧ b ≤ 1100 ∧ Box' (b ≤ (rowP cs rs q).length) ∧ Box' (∀ i, f i + buyN rs (msF cs rs q b) i = buyN rs (msF cs rs most (2 * nr - 2)) i) ∧ SegI wr g (tl nc f) ∧ Gb g w wr) (fun _ i _ => (intOf i + 1).toNat)
  case atStart => exact ⟨most, 2 * nr - 2, fun _ => 0, Nat.le_refl _, by go_num, by go_num, by omega, ⟨HT.out⟩, ⟨fun i => Nat.zero_add _⟩, hsg, Gb.refl _ _⟩
  case round =>
    clear hsg
    obtain ⟨q, b, f, hq, rfl, rfl, hb, HB, HF, hs, hg⟩ := hrel
    cases q with
    | zero =>
      have hfin : SegI wr g (tl nc (buyN rs (msF cs rs most (2 * nr - 2)))) := by
        rw [tl_congr nc _ f fun i _ => by rw [← HF.out i]; rfl]; exact hs
      clear hs HR HI CT IX HB HF
      go_wp2_with fail
      exact ⟨rfl, _, results60 _ _, rfl, hfin, hg⟩
    | succ p =>
      obtain ⟨wo, hwo⟩ : ∃ wo, wo = wr := ⟨_, rfl⟩
      subst hwo
      obtain ⟨bb, cc, hc0, hcc, hseg⟩ := HR.out wo hg p (by omega)
      have hbl := HB.out
      have hrlen := RLEN.out p
      have hbp := bare_packs (rowP cs rs (p + 1)) b HB.out
      have hrc := row_cost cs rs (rowP cs rs p) CC.out.hs (rowP_srt cs rs p) b
      have HPK : Box' (2 * packs (rowP cs rs (p + 1)) b ≤ (rowP cs rs p).length) := ⟨hrc.1⟩
      have hbn : bare (rowP cs rs (p + 1)) b ≤ nr := by have := hrc.2.1; rw [CC.out.hsl] at this; exact this
      have HFB : Box' (∀ i, f i + ((rs.take (bare (rowP cs rs (p + 1)) b)).count (i : Int) + buyN rs (msF cs rs p (2 * packs (rowP cs rs (p + 1)) b)) i) = buyN rs (msF cs rs most (2 * nr - 2)) i) := ⟨fun i => HF.out i⟩
      have SG := Box'.mk hseg
      have hbw := hseg.lt
      have HS := Box'.mk hs
      have HG := Box'.mk hg
      clear hrc HF
      generalize hrow : rowP cs rs (p + 1) = row at *
      have PON := Box'.mk (packs_on row)
      have POF := Box'.mk (packs_off row)
      have PLE := packs_le row b
      have PLB := Box'.mk (packs_le row)
      generalize hlr : row.length = lr at *
      have HLR := Box'.mk hlr
      have CB : Box' (∀ W, Below wo.heap.size wo W → ∀ k, k < lr → CellC W bb k (row.getD k (0, false))) := ⟨fun W hW k hk => (SG.out.below hW).cell (by rw [HLR.out]; exact hk)⟩
      have hd1 : decide ((p : Int) < 0) = false := decide_eq_false (by omega)
      clear hseg hs hg hrow hlr HB SG
      go_wp2_with fail
      go_loopw [8, 31] (fun t i wr => ∃ k : Nat, k ≤ b ∧ i = .int .i64 (k : Int) ∧ t = .int .i64 ((packs row k : Nat) : Int) ∧ Below wo.heap.size wo wr) (fun _ i _ => b - (intOf i).toNat)
      case atStart => exact ⟨0, by omega, rfl, by simp [packs], Below.refl _ _⟩
      case round =>
        obtain ⟨k, hk, rfl, rfl, hbl2⟩ := hrel
        have hz := hbl2.size
        have hPk := PLB.out k
        by_cases hlt : k < b
        · have hcc0 := CB.out wr hbl2 k (by omega)
          have PONk := Box'.mk (PON.out k (by omega))
          have POFk := Box'.mk (POF.out k (by omega))
          have c0a := hcc0.a
          have c0b := hcc0.b
          generalize row.getD k (0, false) = x at *
          obtain ⟨x1, x2⟩ := x
          cases x2 with
          | true =>
            have PK := Box'.mk (PONk.out rfl)
            clear hcc0 PONk POFk PON POF CB HFB HPK HS HG HR HI CT IX HT RLEN
            go_wp2_with fail
            exact ⟨⟨k + 1, by omega, by go_num, by rw [PK.out]; go_num, hbl2.alloc hz _⟩, by simp [intOf]; omega⟩
          | false =>
            have PK := Box'.mk (POFk.out rfl)
            clear hcc0 PONk POFk PON POF CB HFB HPK HS HG HR HI CT IX HT RLEN
            go_wp2_with fail
            exact ⟨⟨k + 1, by omega, by go_num, by rw [PK.out], hbl2.alloc hz _⟩, by simp [intOf]; omega⟩
        · obtain rfl : k = b := by omega
          have GB : Box' (Gb g w wr) := ⟨HG.out.trans (Gb.below hbl2)⟩
          have SS : Box' (SegI wr g (tl nc f)) := ⟨HS.out.below hbl2⟩
          generalize packs row k = pk at *
          generalize bare row k = M at *
          have HBP := Box'.mk hbp
          have hpk : pk ≤ k := by omega
          have hMn : (k : Int) - (pk : Int) ≤ (nr : Int) := by omega
          have hMn2 : ((k : Int) - (pk : Int)).toNat ≤ nr := by omega
          have FLE : Box' (∀ i, f i ≤ 7680) := ⟨fun i => by
            have h1 := HFB.out i
            have h2 := buyN_le rs i (msF cs rs most (2 * nr - 2))
            rw [msF_len, RNN.out] at h2
            have h3 : most * nr ≤ 15 * 512 := Nat.mul_le_mul hm hn5
            omega⟩
          clear hbp PON POF CB HS HG PLB
          go_wp2_with fail
          clear hbl2 hz
          go_loopw [46] (fun i wr => ∃ j : Nat, j ≤ M ∧ i = .int .i64 (j : Int) ∧ SegI wr g (tl nc fun i => f i + (rs.take j).count (i : Int)) ∧ Gb g w wr) (fun i _ => M - (intOf i).toNat)
          case atStart => exact ⟨0, by omega, rfl, by simpa using SS.out, GB.out⟩
          case round =>
            clear SS GB
            obtain ⟨j, hj, rfl, hs, hg⟩ := hrel
            by_cases hlt : j < M
            · obtain ⟨b2, o2, rfl, c0⟩ := HI.out wr hg j (by omega)
              obtain ⟨s, hsv, hsn⟩ := IX.out j (by omega)
              rw [hsv] at c0
              have c1 := hs.cell (k := s) (by rw [tl_len]; exact hsn)
              rw [tl_get _ _ _ hsn] at c1
              have f1 := hs.frozen s
              have hfs := FLE.out s
              have hcl : (rs.take j).count (s : Int) ≤ 512 := Nat.le_trans List.count_le_length (by simp; omega)
              have hset := hs.set s (((f s + (rs.take j).count (s : Int) : Nat) : Int) + 1) (by rw [tl_len]; exact hsn)
              rw [tl_set nc (fun i => f i + (rs.take j).count (i : Int)) s] at hset
              have SET : Box' (SegI (wr.setCell ⟨g, s, none⟩ (.int .i64 (((f s + (rs.take j).count (s : Int) : Nat) : Int) + 1))) g (tl nc fun i => f i + (rs.take (j + 1)).count (i : Int))) := ⟨by
                rw [tl_congr nc (fun i => f i + (rs.take (j + 1)).count (i : Int)) (fun i => f i + (rs.take j).count (i : Int) + if i = s then 1 else 0) fun i _ => by
                  rw [CT.out j (by omega) i s hsv]; omega]
                exact hset⟩
              have hg2 := hg.setCell s (.int .i64 (((f s + (rs.take j).count (s : Int) : Nat) : Int) + 1))
              have hl1 : (j : Int) < (k : Int) - (pk : Int) := by have := HBP.out; omega
              have hl2 : j < ((k : Int) - (pk : Int)).toNat := by have := HBP.out; omega
              generalize hfv : f s + (rs.take j).count (s : Int) = fv at *
              have hfv2 : fv ≤ 8192 := by omega
              clear hset hs hsv CT HI IX HFB FLE HR hfv hfs hcl HT HPK
              go_wp2_with fail
              exact ⟨⟨j + 1, by omega, by go_num, SET.out, hg2⟩, by simp [intOf]; omega⟩
            · obtain rfl : j = M := by omega
              have hl1 : ¬ (j : Int) < (k : Int) - (pk : Int) := by have := HBP.out; omega
              have hl2 : ¬ j < ((k : Int) - (pk : Int)).toNat := by have := HBP.out; omega
              have SS := Box'.mk hs
              clear hs CT HI IX FLE HR HT
              have hp2 : 2 * pk ≤ 1100 := by
                have h1 := HPK.out
                cases p with
                | zero => simp [rowP] at h1; omega
                | succ p => have := RLEN.out p; omega
              go_wp2_with fail
              exact ⟨⟨p, 2 * pk, fun i => f i + (rs.take j).count (i : Int), by omega, by go_num, by go_num, hp2, HPK, ⟨fun i => by have := HFB.out i; rw [← Nat.add_assoc] at this; exact this⟩, SS.out, hg⟩, by simp [intOf]⟩
set_option maxRecDepth 100000 in
theorem lst_lim (cs : List Int) (mz : Int) (h : ¬ (Gf.badE cs = 2 ∨ mz < 1 ∨ 15 < mz)) (h2 : Gf.badE cs ≠ 0 ∨ 2 ^ mz.toNat < (posl cs cs.length).length) : lstE cs mz = 4 ∧ lstN cs mz = 0 := by
  have e : lstE cs mz = 4 := by unfold lstE; rw [if_neg h, if_pos h2]
  exact ⟨e, by unfold lstN; rw [e]; rfl⟩
set_option maxRecDepth 100000 in
theorem lst_ok (cs : List Int) (mz : Int) (h : ¬ (Gf.badE cs = 2 ∨ mz < 1 ∨ 15 < mz)) (h2 : ¬ (Gf.badE cs ≠ 0 ∨ 2 ^ mz.toNat < (posl cs cs.length).length)) : lstE cs mz = 0 ∧ lstN cs mz = leastN cs mz.toNat := by
  have e : lstE cs mz = 0 := by unfold lstE; rw [if_neg h, if_neg h2]
  exact ⟨e, by unfold lstN; rw [if_pos e]⟩
set_option maxHeartbeats 1000000 in
theorem areCounts_any (v : Value) (l : List Int) (hl : l.length ≤ 17592186044416) (w : World) (h : Ints w.heap.size w v l) :
    Calls Try.prog 58 #[v] w fun e w' => e = .returned (.bool (l.all Gf.cntB)) ∧ w' = w := by
  obtain ⟨a, c, rfl, hc, h3⟩ := h
  have HCL := Box'.mk (Ints.cells h3)
  have AT := Box'.mk (Gf.all_take Gf.cntB l)
  have AN := Box'.mk (Gf.all_not Gf.cntB l)
  have LE : Box' (l.take l.length = l) := ⟨List.take_length⟩
  generalize hn : l.length = n at *
  clear h3 hn
  go_enter Try.func58, Try.ntmps58
  go_wp2_with fail
  go_loop [7] (fun i => ∃ k : Nat, k ≤ n ∧ i = .int .i64 (k : Int) ∧ Box' ((l.take k).all Gf.cntB = true)) (fun i => n - (intOf i).toNat)
  case atStart => exact ⟨0, by omega, rfl, ⟨by simp⟩⟩
  case round =>
    obtain ⟨k, hk, rfl, HA⟩ := hrel
    by_cases hlt : k < n
    · obtain ⟨b, o, rfl, hbw, c0⟩ := HCL.out k hlt
      have AK := Box'.mk (AT.out k hlt HA.out)
      have NK := Box'.mk (AN.out k hlt)
      generalize l.getD k 0 = x at *
      cases hx : Gf.cntB x with
      | false =>
        have e2 := Box'.mk (NK.out hx)
        clear HCL AT AN NK AK
        rcases cntB_not hx with h1 | ⟨h1, h2⟩
        · clear hx
          go_wp2_with fail
          go_ret
          exact ⟨by rw [e2.out]; rfl, rfl⟩
        · clear hx
          go_wp2_with fail
          go_ret
          exact ⟨by rw [e2.out]; rfl, rfl⟩
      | true =>
        have AK := Box'.mk (AK.out hx)
        obtain ⟨h1, h2⟩ := cntB_yes hx
        clear hx HCL AT AN NK
        go_wp2_with fail
        exact ⟨⟨k + 1, by omega, by go_num, ⟨AK.out⟩⟩, by simp [intOf]; omega⟩
    · obtain rfl : k = n := by omega
      have hA := HA.out
      rw [LE.out] at hA
      have e2 := Box'.mk hA
      clear hA HCL AT AN HA
      go_wp2_with fail
      go_ret
      exact ⟨by rw [e2.out]; rfl, rfl⟩
set_option maxRecDepth 100000 in
theorem ints_len {N : Nat} {w : World} {v : Value} {l : List Int} (h : Ints N w v l) : ∃ a c, v = .slice a l.length c ∧ l.length ≤ c := let ⟨a, c, h1, h2, _⟩ := h; ⟨a, c, h1, h2⟩
end Go.Proofs.Ytcjfaahlchbcmaa
