/- Parts of one's own in a row; the walk of Split. -/
import Derived.Test.YthmcmdojnnbefaaPa
namespace Go.Proofs.Ythmcmdojnnbefaa
open Go.RowKit Go.BigFrame
set_option linter.unusedVariables false
set_option linter.unusedSimpArgs false

/-- The cells of a part whose bytes lie behind v. -/
def prC (p : Prt) (v : Value) : List Value := [.int .u64 (p.id : Int), .int .i64 p.n, .bool p.last, v]
/-- A row of parts of one's own, each with bytes of its own. -/
structure OwnQ (N : Nat) (w : World) (v : Value) (l : List (Prt × Value)) : Prop where
  row : w.ownsRow N 25 4 v l.length (l.flatMap fun p => prC p.1 p.2)
  own : ∀ p ∈ l, OwnB N w p.2 p.1.d
theorem OwnQ.nil (N : Nat) (w : World) : OwnQ N w (.slice none 0 0) [] := ⟨⟨rfl, .inl ⟨rfl, rfl⟩⟩, by simp⟩
theorem OwnQ.lt {N : Nat} {w : World} {v : Value} {l : List (Prt × Value)} (h : OwnQ N w v l) : ∀ g, v.ownBlock = some g → N ≤ g ∧ ∃ cur, Row w g 25 cur := by
  intro k hk
  rcases h.row.2 with ⟨e, _⟩ | ⟨g, cap, cur, e1, e2, e3, _⟩
  · rw [e] at hk; simp [Value.ownBlock] at hk
  · rw [e1] at hk; simp [Value.ownBlock] at hk; subst hk; exact ⟨e2, cur, e3⟩
theorem OwnQ.same {N : Nat} {w w' : World} {v : Value} {l : List (Prt × Value)} (h : OwnQ N w v l) (hb : ∀ g, v.ownBlock = some g → w'.heap[g]? = w.heap[g]?) (ho : ∀ p ∈ l, OwnB N w' p.2 p.1.d) : OwnQ N w' v l := by
  refine ⟨⟨h.row.1, ?_⟩, ho⟩
  rcases h.row.2 with h2 | ⟨g, cap, cur, e1, e2, e3, e4⟩
  · exact .inl h2
  · exact .inr ⟨g, cap, cur, e1, e2, by rw [hb g (by rw [e1]; rfl)]; exact e3, e4⟩
theorem OwnQ.below {N : Nat} {w w' : World} {v : Value} {l : List (Prt × Value)} (h : OwnQ N w v l) (hb : Below w.heap.size w w') : OwnQ N w' v l :=
  h.same (fun g hg => let ⟨_, _, r⟩ := h.lt g hg; hb.block g r.lt) fun p hp => (h.own p hp).below hb
theorem OwnQ.less {N M : Nat} {w : World} {v : Value} {l : List (Prt × Value)} (h : OwnQ N w v l) (hM : M ≤ N) : OwnQ M w v l := by
  refine ⟨⟨h.row.1, ?_⟩, fun p hp => (h.own p hp).less hM⟩
  rcases h.row.2 with h2 | ⟨g, cap, cur, e1, e2, e3⟩
  · exact .inl h2
  · exact .inr ⟨g, cap, cur, e1, Nat.le_trans hM e2, e3⟩
theorem OwnQ.slice {N : Nat} {w : World} {v : Value} {l : List (Prt × Value)} (h : OwnQ N w v l) : ∃ a c, v = .slice a l.length c := by
  rcases h.row.2 with ⟨e, e0⟩ | ⟨g, cap, cur, e1, _⟩
  · exact ⟨none, 0, by rw [e, e0]⟩
  · exact ⟨_, _, e1⟩
theorem Try.info25a : ∃ i, Try.prog.info? 25 = some i ∧ i.zero = some (.agg #[.int .u64 0, .int .i64 0, .bool false, .slice none 0 0]) ∧ i.size = 4 ∧ i.bytes = 48 := ⟨_, rfl, rfl, rfl, rfl⟩
theorem prC_one {N : Nat} {w : World} {x : Prt} {vb : Value} (h : OwnB N w vb x.d) : ∀ u ∈ prC x vb, u.oneCell' = true := by
  obtain ⟨a, c, rfl⟩ := h.slice
  intro u hu
  simp only [prC, List.mem_cons, List.not_mem_nil, or_false] at hu
  rcases hu with rfl | rfl | rfl | rfl <;> rfl
theorem wpList_appQ {ops : Array Oper} {rest : List Oper} {o : Oper} {a : Act} {w : World} {Q : Exit → Act → World → Prop} (hgd : o.guard = none) (s x : Operand)
    (ho : o.op = .call { callee := .builtin .append, args := #[s, x], argTypes := #[35, 35] }) (N : Nat) (hN : N ≤ w.heap.size)
    (v : Value) (l : List (Prt × Value)) (hs : a.eval s = v) (hown : OwnQ N w v l) (e : Prt) (vb : Value) (hob : OwnB N w vb e.d) (g0 c : Nat) (hx : a.eval x = .slice (some ⟨g0, 0, none⟩) 1 c)
    (hr : Row w g0 25 (prC e vb).toArray) (hmax : l.length + 1 ≤ 300000)
    (h : ∀ v' w', OwnQ N w' v' (l ++ [(e, vb)]) → w.grownBy w' v.ownBlock → wpList Try.prog ops Q rest (a.put o.dst v') w') : wpList Try.prog ops Q (o :: rest) a w := by
  obtain ⟨i, h1, h2, h3, h4⟩ := Try.info25a
  obtain ⟨v', w', hrun, g2, g3, _⟩ := run_append_own (P := Try.prog) w N 35 o.type 25 i _ 4 48 Try.underlying35 h1 h2 h3 h4 rfl (by decide) v l.length _ hown.row ⟨g0, 0, none⟩ 1 c (prC e vb) rfl (fun j u hu => by
    rw [Addr.add_mid, Nat.zero_add, hr.cell]; simpa using hu) (prC_one hob) (by unfold maxLen; omega) (by omega) hN
  have hkeep : ∀ {p : Prt × Value}, OwnB N w p.2 p.1.d → OwnB N w' p.2 p.1.d := fun {p} hp => hp.same fun k hk => by
    obtain ⟨_, cur, r2⟩ := hp.lt k hk
    refine g3.block k r2.lt fun e => ?_
    obtain ⟨_, cur3, r3⟩ := hown.lt k e.symm
    unfold Row at r2 r3
    rw [r2] at r3
    simp at r3
  have g2' : OwnQ N w' v' (l ++ [(e, vb)]) := by
    refine ⟨?_, fun p hp => ?_⟩
    · rw [List.length_append, List.flatMap_append]
      simpa using g2
    · rcases List.mem_append.1 hp with hp | hp
      · exact hkeep (hown.own p hp)
      · rw [List.mem_singleton] at hp
        subst hp
        exact hkeep (p := (e, vb)) hob
  refine wpList_plain hgd fun K hK => ?_
  unfold Oper.wp execOp
  simp only [ho, resolve, invoke, builtin, Sem.run_bind, Sem.run_pure, Result.andThen_ok, List.map_toArray, List.map_cons, List.map_nil, hs, hx, hrun]
  exact hK _ _ (h v' w' g2' g3)
/-- A part of them, as it lies in memory. -/
theorem OwnQ.at {N : Nat} {w : World} {v : Value} {l : List (Prt × Value)} (h : OwnQ N w v l) {k : Nat} (hk : k < l.length) : ∃ g c, v = .slice (some ⟨g, 0, none⟩) l.length c ∧ N ≤ g ∧ w.rangeAt g (k * 4) (prC l[k].1 l[k].2) := by
  rcases h.row.2 with ⟨_, e0⟩ | ⟨g, cap, cur, e1, e2, e3, e4, e5, e6, e7⟩
  · omega
  · refine ⟨g, cap, e1, e2, fun j u hu => ?_⟩
    have r : Row w g 25 cur := e3
    have hj : j < 4 := by have := (List.getElem?_eq_some_iff.1 hu).1; simpa [prC] using this
    have hfl : ∀ (l : List (Prt × Value)) (k : Nat) (hk : k < l.length), (l.flatMap fun p => prC p.1 p.2)[k * 4 + j]? = (prC l[k].1 l[k].2)[j]? := by
      intro l
      induction l with
      | nil => intro k hk; simp at hk
      | cons p l ih =>
        intro k hk
        cases k with
        | zero =>
          rw [List.flatMap_cons, List.getElem?_append_left (by simp [prC]; omega)]
          simp
        | succ k =>
          rw [List.flatMap_cons, List.getElem?_append_right (by simp [prC]; omega)]
          have := ih k (by simpa using hk)
          rw [show (k + 1) * 4 + j - (prC p.1 p.2).length = k * 4 + j by simp [prC]; omega]
          simpa using this
    rw [r.cell]
    have hlen : (l.flatMap fun p => prC p.1 p.2).length = l.length * 4 := h.row.1
    rw [← hfl l k hk, ← e7, List.getElem?_take_of_lt (by omega)] at hu
    simpa using hu

/-- How many parts. -/
def spN (len size : Nat) : Nat := (len - 1) / size + 1
/-- The part i of bytes. -/
def spP (id size : Nat) (b : List UInt8) (i : Nat) : Prt := ⟨id, (i : Int), decide (i + 1 = spN b.length size), (b.drop (i * size)).take size⟩
def spL (id size : Nat) (b : List UInt8) : List Prt := (List.range (spN b.length size)).map (spP id size b)
/-- What Split answers. -/
def spR (id : Nat) (size : Int) (b : List UInt8) : List Prt × Int := if size < 1 ∨ 1024 < size then ([], 2) else if 256 * size < b.length then ([], 4) else (spL id size.toNat b, 0)
theorem spN_more {len size k : Nat} (hs : 1 ≤ size) : k + 1 < spN len size ↔ (k + 1) * size < len := by
  unfold spN
  rw [show k + 1 < (len - 1) / size + 1 ↔ k + 1 ≤ (len - 1) / size by omega, Nat.le_div_iff_mul_le hs]
  have : 1 ≤ (k + 1) * size := Nat.mul_pos (by omega) hs
  omega
theorem spN_pos (len size : Nat) : 1 ≤ spN len size := Nat.le_add_left 1 _
theorem InB.drop {N : Nat} {w : World} {g o n c : Nat} {l : List UInt8} (h : InB N w (.slice (some ⟨g, o, none⟩) n c) l) (k : Nat) (hk : k ≤ n) : InB N w (.slice (some ⟨g, o + k, none⟩) (n - k) (c - k)) (l.drop k) := by
  rcases h with ⟨e, _⟩ | ⟨b, o', c', e, h2, h3, h4⟩
  · cases e
  · injection e with e1 e2 e3
    injection e1 with e1
    injection e1 with e4 e5
    subst e2 e3 e4 e5
    refine .inr ⟨_, _, _, by rw [List.length_drop], by rw [List.length_drop]; omega, ?_, range_drop h4 k⟩
    rcases h3 with rfl | h3
    · exact .inl (by simp)
    · exact .inr h3
theorem InB.take {N : Nat} {w : World} {g o n c : Nat} {l : List UInt8} (h : InB N w (.slice (some ⟨g, o, none⟩) n c) l) (k : Nat) (hk : k ≤ n) : InB N w (.slice (some ⟨g, o, none⟩) k c) (l.take k) := by
  rcases h with ⟨e, _⟩ | ⟨b, o', c', e, h2, h3, h4⟩
  · cases e
  · injection e with e1 e2 e3
    injection e1 with e1
    injection e1 with e4 e5
    subst e2 e3 e4 e5
    refine .inr ⟨_, _, _, by rw [List.length_take, Nat.min_eq_left hk], by rw [List.length_take]; omega, ?_, range_take h4 k⟩
    rcases h3 with rfl | h3
    · exact .inl (by simp)
    · exact .inr h3
theorem OwnQ.rest {N : Nat} {w w' : World} {v : Value} {l : List (Prt × Value)} (h : OwnQ N w v l) (hN : N ≤ w.heap.size) (g : w.grownBy w' v.ownBlock) : Below N w w' := ⟨g.os, g.tape, g.output, g.size, fun k hk => g.block k (by omega) fun e => by have := (h.lt k e.symm).1; omega⟩
/-- How Split ends. -/
def SEnd (w : World) (R : List Prt × Int) (e : Ending) (w' : World) : Prop := ∃ u qs, e = .returned (.tuple #[u, .int .i64 R.2]) ∧ OwnQ w.heap.size w' u qs ∧ qs.map (·.1) = R.1 ∧ Below w.heap.size w w'
set_option maxRecDepth 100000 in
set_option maxHeartbeats 4000000 in
theorem split_any (N : Nat) (w : World) (v : Value) (b : List UInt8) (id : Nat) (size : Int) (hN : N ≤ w.heap.size) (h : InB N w v b) (hb : b.length ≤ 140737488351232) (hi : -9223372036854775808 ≤ size ∧ size ≤ 9223372036854775807) :
    Calls Try.prog 12 #[.int .u64 (id : Int), v, .int .i64 size] w (SEnd w (spR id size b)) := by
  have HR := Box'.mk (spR.eq_1 id size b)
  generalize spR id size b = R at *
  obtain ⟨va, vc, rfl, hvc⟩ := h.slice
  by_cases hs : size < 1
  · have e := HR.out
    rw [if_pos (.inl hs)] at e
    subst e
    clear HR h
    generalize b.length = bl at *
    go_enter Try.func12, Try.ntmps12
    go_wp2_with fail
    go_ret2
    exact ⟨_, [], rfl, OwnQ.nil _ _, rfl, Below.refl _ _⟩
  by_cases hs2 : 1024 < size
  · have e := HR.out
    rw [if_pos (.inr hs2)] at e
    subst e
    clear HR h
    generalize b.length = bl at *
    go_enter Try.func12, Try.ntmps12
    go_wp2_with fail
    go_ret2
    exact ⟨_, [], rfl, OwnQ.nil _ _, rfl, Below.refl _ _⟩
  obtain ⟨z, rfl⟩ : ∃ z : Nat, size = (z : Int) := ⟨size.toNat, by omega⟩
  have hz1 : 1 ≤ z := by omega
  have hz2 : z ≤ 1024 := by omega
  have HR2 : Box' (R = if 256 * (z : Int) < b.length then ([], 4) else (spL id z b, 0)) := ⟨by rw [HR.out, if_neg (by omega)]; rfl⟩
  clear HR hs hs2 hi
  by_cases hl : 256 * z < b.length
  · have e := HR2.out
    rw [if_pos (by omega)] at e
    subst e
    clear HR2 h
    generalize b.length = bl at *
    go_enter Try.func12, Try.ntmps12
    go_wp2_with fail
    go_ret2
    exact ⟨_, [], rfl, OwnQ.nil _ _, rfl, Below.refl _ _⟩
  have e := HR2.out
  rw [if_neg (by omega)] at e
  have HR3 := Box'.mk e
  clear HR2 e
  have HI := Box'.mk h
  have hbl : b.length ≤ 262144 := by omega
  have HN : Box' (∀ k, k + 1 < spN b.length z ↔ (k + 1) * z < b.length) := ⟨fun k => spN_more hz1⟩
  have HNL : Box' (spN b.length z ≤ 262145) := ⟨by unfold spN; have := Nat.div_le_self (b.length - 1) z; omega⟩
  have HP := Box'.mk (spN_pos b.length z)
  obtain ⟨bl, hbq⟩ : ∃ bl, b.length = bl := ⟨_, rfl⟩
  have HBL := Box'.mk hbq
  rw [hbq] at hb hl hbl hvc ⊢
  have HN2 : Box' (spN b.length z = spN bl z) := ⟨by rw [hbq]⟩
  clear h hbq
  go_enter Try.func12, Try.ntmps12
  go_wp2_with fail
  go_loopw [1, 8] (fun v1 u wr => ∃ (k m : Nat) (qs : List (Prt × Value)) (a1 : Option Addr) (c1 : Nat), v1 = .slice a1 m c1 ∧ m + k * z = bl ∧ Box' (InB N w v1 (b.drop (k * z))) ∧ Box' (OwnQ w.heap.size wr u qs) ∧ Box' (qs.length = k) ∧ Box' (qs.map (·.1) = (List.range k).map (spP id z b)) ∧ k < spN bl z ∧ Box' (Below w.heap.size w wr)) (fun v1 _ _ => match v1 with | Value.slice _ m _ => m | _ => 0)
  case atStart => exact ⟨0, bl, [], va, vc, rfl, by omega, ⟨by rw [Nat.zero_mul, List.drop_zero, ← HBL.out]; exact HI.out⟩, ⟨OwnQ.nil _ _⟩, ⟨rfl⟩, ⟨rfl⟩, by have := HP.out; rw [HN2.out] at this; omega, ⟨Below.refl _ _⟩⟩
  case round =>
    obtain ⟨k, m, qs, a1, c1, rfl, hm, HV, HQ, HK, HM, hk, HB⟩ := hrel
    clear HI
    have hkk : k ≤ 262145 := by have := HNL.out; rw [HN2.out] at this; omega
    obtain ⟨au, cu, hu⟩ := HQ.out.slice
    rw [HK.out] at hu
    subst hu
    by_cases hlt : z < m
    · have hk2 : k + 1 < spN bl z := by rw [← HN2.out, HN.out k, HBL.out, Nat.succ_mul]; omega
      obtain ⟨g1, o1, rfl⟩ : ∃ g1 o1, a1 = some ⟨g1, o1, none⟩ := by
        rcases HV.out with ⟨e, _⟩ | ⟨g1, o1, c', e, _⟩
        · injection e with e1 e2 e3; omega
        · injection e with e1; exact ⟨g1, o1, e1⟩
      have hmc : m ≤ c1 := by
        rcases HV.out with ⟨e, _⟩ | ⟨g1, o1, c', e, h2, _⟩
        · cases e
        · injection e with e1 e2 e3; omega
      have HT := Box'.mk (HV.out.take z (by omega))
      have HD := Box'.mk (HV.out.drop z (by omega))
      rw [List.drop_drop] at HD
      have hPk : spP id z b k = ⟨id, (k : Int), false, (b.drop (k * z)).take z⟩ := by
        unfold spP
        rw [decide_eq_false]
        rw [HN2.out]; omega
      have HPK := Box'.mk hPk
      have HWN : Box' (w.heap.size ≤ wr.heap.size) := ⟨HB.out.size⟩
      have CL := clone_any (· < N) _ _ wr (HT.out.below HB.out hN).bts (fun b hb => by have := HWN.out; omega) (by rw [List.length_take]; omega)
      clear hPk HV
      go_wp2_with fail
      refine CL.mono ?_
      rintro e3 w3 ⟨v3, rfl, o3, b3⟩
      clear CL
      have oq3 := HQ.out.below (b3.mono (Nat.le_refl _))
      have HP3 : Box' (∀ x, x = (b.drop (k * z)).take z → spP id z b k = ⟨id, (k : Int), false, x⟩) := ⟨fun x hx => by rw [HPK.out, hx]⟩
      generalize hx : (b.drop (k * z)).take z = X at *
      have e3 := HP3.out X rfl
      obtain ⟨a3, c3, rfl⟩ := o3.slice
      obtain ⟨w4, hw4⟩ : ∃ w4, w4 = w3.alloc (.cells (prC ⟨id, (k : Int), false, X⟩ (.slice a3 X.length c3)).toArray 25) := ⟨_, rfl⟩
      have b4 : Below w3.heap.size w3 w4 := by rw [hw4]; exact (Below.refl _ _).alloc (Nat.le_refl _) _
      have r4 : Row w4 w3.heap.size 25 (prC ⟨id, (k : Int), false, X⟩ (.slice a3 X.length c3)).toArray := by rw [hw4]; exact Row.new _ _ _
      have OQ4 := Box'.mk (oq3.below b4)
      have OB4 : Box' (OwnB w.heap.size w4 (.slice a3 X.length c3) X) := ⟨(o3.less HWN.out).below b4⟩
      have R4 := Box'.mk r4
      have hz4 : w.heap.size ≤ w4.heap.size := Nat.le_trans HWN.out (Nat.le_trans b3.size b4.size)
      have hB4 : Below w.heap.size w w4 := (HB.out.trans (b3.mono HWN.out)).trans (b4.mono (Nat.le_trans HWN.out b3.size))
      have NX : Box' (∀ (v' : Value) w', w4.grownBy w' (Value.slice au k cu).ownBlock → Below w.heap.size w w') := ⟨fun (v' : Value) w' g => hB4.trans (OQ4.out.rest hz4 g)⟩
      have HQL : Box' (∀ v : Value, (qs ++ [((⟨id, (k : Int), false, X⟩ : Prt), v)]).length = k + 1 ∧ (qs ++ [((⟨id, (k : Int), false, X⟩ : Prt), v)]).map (·.1) = (List.range (k + 1)).map (spP id z b)) := ⟨fun v => ⟨by rw [List.length_append, HK.out]; rfl, by
        rw [List.map_append, HM.out, List.range_succ, List.map_append]
        simp only [List.map_cons, List.map_nil]
        rw [e3]⟩⟩
      have hmx : qs.length + 1 ≤ 300000 := by rw [HK.out]; omega
      clear oq3 b3 o3 e3 hx HP3 HPK HQ HK HM b4 r4 HT hB4
      simp only [prC] at OQ4 R4 NX OB4 hw4
      rw [hw4] at OQ4 R4 OB4 hz4 NX
      clear hw4
      generalize hxl : X.length = xl at *
      have HXL := Box'.mk hxl
      clear hxl
      go_wp2_with (refine wpList_appQ rfl (.tmp 24) (.tmp 33) rfl w.heap.size hz4 _ qs rfl OQ4.out ⟨id, (k : Int), false, X⟩ _ OB4.out _ _ rfl R4.out hmx ?_; intro v5 w5 o5 g5; have B5 := NX.out v5 w5 g5; have O5 := Box'.mk o5; have HB5 := Box'.mk B5; clear OQ4 R4 OB4 NX o5 g5 B5)
      have hq5 := HQL.out (.slice a3 xl c3)
      exact ⟨⟨k + 1, m - z, _, _, _, by first | rfl | go_num, by rw [Nat.succ_mul]; omega, by rw [Nat.succ_mul]; exact HD, O5, ⟨hq5.1⟩, ⟨hq5.2⟩, hk2, HB5⟩, by show m - z < m; omega⟩
    · have hk2 : ¬ (k + 1 < spN bl z) := by rw [← HN2.out, HN.out k, HBL.out, Nat.succ_mul]; omega
      have hke : k + 1 = spN bl z := by omega
      have hPk : spP id z b k = ⟨id, (k : Int), true, b.drop (k * z)⟩ := by
        unfold spP
        rw [decide_eq_true (by rw [HN2.out]; exact hke), List.take_of_length_le (by rw [List.length_drop, HBL.out]; omega)]
      have HPK := Box'.mk hPk
      have HWN : Box' (w.heap.size ≤ wr.heap.size) := ⟨HB.out.size⟩
      have CL := clone_any (· < N) _ _ wr (HV.out.below HB.out hN).bts (fun b hb => by have := HWN.out; omega) (by rw [List.length_drop, HBL.out]; omega)
      have HR4 : Box' (R = ((List.range (k + 1)).map (spP id z b), 0)) := ⟨by rw [HR3.out, spL, HN2.out, hke]⟩
      clear hPk HV HR3
      go_wp2_with fail
      refine CL.mono ?_
      rintro e3 w3 ⟨v3, rfl, o3, b3⟩
      clear CL
      have oq3 := HQ.out.below (b3.mono (Nat.le_refl _))
      have HP3 : Box' (∀ x, x = b.drop (k * z) → spP id z b k = ⟨id, (k : Int), true, x⟩) := ⟨fun x hx => by rw [HPK.out, hx]⟩
      generalize hx : b.drop (k * z) = X at *
      have e3 := HP3.out X rfl
      obtain ⟨a3, c3, rfl⟩ := o3.slice
      obtain ⟨w4, hw4⟩ : ∃ w4, w4 = w3.alloc (.cells (prC ⟨id, (k : Int), true, X⟩ (.slice a3 X.length c3)).toArray 25) := ⟨_, rfl⟩
      have b4 : Below w3.heap.size w3 w4 := by rw [hw4]; exact (Below.refl _ _).alloc (Nat.le_refl _) _
      have r4 : Row w4 w3.heap.size 25 (prC ⟨id, (k : Int), true, X⟩ (.slice a3 X.length c3)).toArray := by rw [hw4]; exact Row.new _ _ _
      have OQ4 := Box'.mk (oq3.below b4)
      have OB4 : Box' (OwnB w.heap.size w4 (.slice a3 X.length c3) X) := ⟨(o3.less HWN.out).below b4⟩
      have R4 := Box'.mk r4
      have hz4 : w.heap.size ≤ w4.heap.size := Nat.le_trans HWN.out (Nat.le_trans b3.size b4.size)
      have hB4 : Below w.heap.size w w4 := (HB.out.trans (b3.mono HWN.out)).trans (b4.mono (Nat.le_trans HWN.out b3.size))
      have NX : Box' (∀ (v' : Value) w', w4.grownBy w' (Value.slice au k cu).ownBlock → Below w.heap.size w w') := ⟨fun (v' : Value) w' g => hB4.trans (OQ4.out.rest hz4 g)⟩
      have HQL : Box' (∀ v : Value, (qs ++ [((⟨id, (k : Int), true, X⟩ : Prt), v)]).map (·.1) = R.1) := ⟨fun v => by
        rw [List.map_append, HM.out, HR4.out, List.range_succ, List.map_append]
        simp only [List.map_cons, List.map_nil]
        rw [e3]⟩
      have hR2 : R.2 = 0 := by rw [HR4.out]
      have hmx : qs.length + 1 ≤ 300000 := by rw [HK.out]; omega
      have HR2' := Box'.mk hR2
      clear oq3 b3 o3 e3 hx HP3 HPK HQ HK HM b4 r4 hB4 HR4 hR2
      simp only [prC] at OQ4 R4 NX OB4 hw4
      rw [hw4] at OQ4 R4 OB4 hz4 NX
      clear hw4
      generalize hxl : X.length = xl at *
      clear hxl
      go_wp2_with (refine wpList_appQ rfl _ _ rfl w.heap.size hz4 _ qs rfl OQ4.out ⟨id, (k : Int), true, X⟩ _ OB4.out _ _ rfl R4.out hmx ?_; intro v5 w5 o5 g5; have B5 := NX.out v5 w5 g5; have O5 := Box'.mk o5; have HB5 := Box'.mk B5; clear OQ4 R4 OB4 NX o5 g5 B5)
      go_ret2
      exact ⟨_, _, by rw [HR2'.out]; rfl, O5.out, HQL.out _, HB5.out⟩
end Go.Proofs.Ythmcmdojnnbefaa
