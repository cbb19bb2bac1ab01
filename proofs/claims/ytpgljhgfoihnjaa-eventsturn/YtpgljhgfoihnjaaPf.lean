/- The reference's Apply. -/
import Derived.Test.YtpgljhgfoihnjaaPe
import Derived.Test.YtpgljhgfoihnjaaRv
import Derived.Test.YtpgljhgfoihnjaaEc
namespace Go.Proofs.Ytpgljhgfoihnjaa
open Go.RowKit Go.BigFrame
set_option maxRecDepth 100000
set_option linter.unusedSimpArgs false
set_option linter.unusedVariables false

theorem OwnE.less {N M : Nat} {w : World} {v : Value} {l : List (Ev × Value)} (h : OwnE N w v l) (hM : M ≤ N) : OwnE M w v l :=
  ⟨⟨h.row.1, by
    rcases h.row.2 with q | ⟨g, cap, cur, e1, e2, e3⟩
    · exact .inl q
    · exact .inr ⟨g, cap, cur, e1, Nat.le_trans hM e2, e3⟩⟩, fun p hp => (h.own p hp).less hM, h.dis⟩
set_option maxHeartbeats 1000000 in
/-- Events of one's own, put behind one's own. -/
theorem wpList_appEvs {ops : Array Oper} {rest : List Oper} {o : Oper} {a : Act} {w : World} {Q : Exit → Act → World → Prop} (hgd : o.guard = none) (s x : Operand)
    (ho : o.op = .call { callee := .builtin .append, args := #[s, x], argTypes := #[22, 22] }) (N : Nat) (hN : N ≤ w.heap.size)
    (v : Value) (l : List (Ev × Value)) (hs : a.eval s = v) (hown : OwnE N w v l) (vq : Value) (q : List (Ev × Value)) (hx : a.eval x = vq) (hq : OwnE N w vq q) (hdis : ∀ p ∈ l, ∀ r ∈ q, ∀ g, p.2.ownBlock = some g → r.2.ownBlock ≠ some g)
    (hmax : (l.length + q.length) * 56 ≤ 140737488355328)
    (h : ∀ v' w', OwnE N w' v' (l ++ q) → w.grownBy w' v.ownBlock → wpList Try.prog ops Q rest (a.put o.dst v') w') : wpList Try.prog ops Q (o :: rest) a w := by
  obtain ⟨i, h1, h2, h3, h4⟩ := Try.info55a
  rcases hq.row.2 with ⟨rfl, e0⟩ | ⟨g0, cap, cur, e1, e2, e3, e4, e5, e6, e7⟩
  · obtain rfl : q = [] := List.eq_nil_of_length_eq_zero e0
    refine wpList_append_own_none hgd s x 22 ho N 48 i 5 Try.underlying22 h1 v l.length _ hs hown.row hx ?_
    exact h v w (by rw [List.append_nil]; exact hown) ⟨rfl, rfl, rfl, Nat.le_refl _, fun _ _ _ => rfl⟩
  · have hc := World.ownsRow.cells hq.row (g := g0) (by rw [e1]; rfl)
    obtain ⟨v', w', hrun, g2, g3, _⟩ := run_append_own (P := Try.prog) w N 22 o.type 48 i _ 5 56 Try.underlying22 h1 h2 h3 h4 rfl (by decide) v l.length _ hown.row ⟨g0, 0, none⟩ q.length cap (q.flatMap fun p => evC p.1 p.2) hq.row.1 hc (fun u hu => by
      obtain ⟨p, hp, hu⟩ := List.mem_flatMap.1 hu
      exact evC_one (hq.own p hp) u hu) (by unfold maxLen; omega) (by omega) hN
    have hkeep : ∀ {p : Ev × Value}, OwnB N w p.2 p.1.byt → OwnB N w' p.2 p.1.byt := fun {p} hp => hp.same fun k hk => by
      obtain ⟨_, cur, r2⟩ := hp.lt k hk
      refine g3.block k r2.lt fun e => ?_
      obtain ⟨_, cur3, r3⟩ := hown.lt k e.symm
      unfold Row at r2 r3
      rw [r2] at r3
      simp at r3
    have g2' : OwnE N w' v' (l ++ q) := by
      refine ⟨?_, fun p hp => ?_, ?_⟩
      · rw [List.length_append, List.flatMap_append]
        exact g2
      · rcases List.mem_append.1 hp with hp | hp
        · exact hkeep (hown.own p hp)
        · exact hkeep (hq.own p hp)
      · rw [List.pairwise_append]
        exact ⟨hown.dis, hq.dis, fun p hp r hr => hdis p hp r hr⟩
    refine wpList_plain hgd fun K hK => ?_
    unfold Oper.wp execOp
    simp only [ho, resolve, invoke, builtin, Sem.run_bind, Sem.run_pure, Result.andThen_ok, List.map_toArray, List.map_cons, List.map_nil, hs, hx, e1, hrun]
    exact hK _ _ (h v' w' g2' g3)
theorem evlR_len {m : Nat} {l r : List UInt8} {xs : List Ev} (h : evlR m l = .ok (xs, r)) : xs.length = m := by
  induction m generalizing l r xs with
  | zero =>
    simp only [evlR, Except.ok.injEq, Prod.mk.injEq] at h
    rw [← h.1]; rfl
  | succ m ih =>
    simp only [evlR] at h
    split at h
    · cases h
    · split at h
      · cases h
      · rename_i hh
        simp only [Except.ok.injEq, Prod.mk.injEq] at h
        rw [← h.1, List.length_cons, ih hh]
theorem rdE_len (d : List UInt8) : (rdE d).1.length ≤ 4096 := by
  unfold rdE
  split
  · simp
  · split
    · simp
    · rename_i xs he
      unfold evsR at he
      split at he
      · cases he
      · split at he
        · cases he
        · rename_i hn
          have := evlR_len he
          show xs.length ≤ 4096
          omega
    · simp
/-- What Apply answers. -/
def appF (a : List Ev) (d : List UInt8) : List Ev × Int := if mayL a = true then (if (rdE d).2 ≠ 0 then ([], (rdE d).2) else if 4096 < a.length + (rdE d).1.length then ([], 4) else (a ++ (rdE d).1, 0)) else ([], 2)
/-- What is asked of a function that puts a diff on. -/
def AppC (f : Nat) : Prop := ∀ (w : World) (v vd : Value) (l : List Ev) (d : List UInt8), l.length ≤ 140737488355328 → d.length ≤ 140737488351232 → Evs w.heap.size w v l → InB w.heap.size w vd d →
  Calls Try.prog f #[v, vd] w fun e w' => ∃ (u : Value) (ps : List (Ev × Value)), e = .returned (.tuple #[u, .int .i64 (appF l d).2]) ∧ ps.map (·.1) = (appF l d).1 ∧ OwnE w.heap.size w' u ps ∧ Below w.heap.size w w'
set_option maxHeartbeats 4000000 in
theorem refApply_C : AppC 9 := by
  intro w v vd l d hl hd h hdd
  have m1 := refMayL_C w v l hl h
  have HA := Box'.mk (appF.eq_1 l d)
  have RD : Box' (∀ w1, Below w.heap.size w w1 → Calls Try.prog 27 #[vd] w1 (EEnd w1 (rdE d))) := ⟨fun w1 b => refReadEvents_any w1 vd d hd ((hdd.below b (Nat.le_refl _)).up b.size)⟩
  have CP : Box' (mayL l = true → ∀ w1, Below w.heap.size w w1 → Calls Try.prog 19 #[v] w1 fun e w' => ∃ (u : Value) (ps : List (Ev × Value)), e = .returned u ∧ ps.map (·.1) = l ∧ OwnE w1.heap.size w' u ps ∧ Below w1.heap.size w1 w') := ⟨fun hm w1 b => by
    obtain ⟨h1, h2⟩ := mayL_len hm
    exact refCpy_C w1 _ l (by omega) (fun j hj => Nat.le_trans (may_len (badE_get h2 hj)) (by decide)) ((h.below b (Nat.le_refl _)).up b.size)⟩
  have LM := Box'.mk (fun h => (mayL_len (l := l) h).1)
  have LR := Box'.mk (rdE_len d)
  obtain ⟨a, c, rfl, hc⟩ := h.cap
  obtain ⟨ad, cd, rfl, _⟩ := hdd.slice
  clear h hdd
  generalize appF l d = R at *
  generalize rdE d = X at *
  generalize mayL l = p at *
  generalize hm : l.length = m at *
  have HL := Box'.mk hm
  clear hm hd
  generalize d.length = dn at *
  go_enter Try.func9, Try.ntmps9
  go_wp2_with fail
  refine m1.mono ?_
  rintro e w1 ⟨rfl, b1⟩
  have B1 := Box'.mk b1
  clear m1 b1
  cases p with
  | false =>
    have RE : Box' (R = ([], 2)) := ⟨by rw [HA.out, if_neg (by decide)]⟩
    clear HA CP RD LM LR
    go_wp2_with fail
    go_ret2
    exact ⟨_, [], by rw [RE.out]; rfl, by rw [RE.out]; rfl, OwnE.nil _ _, B1.out⟩
  | true =>
    have rd := RD.out w1 B1.out
    have lm := LM.out (by simp)
    have CP2 := Box'.mk (CP.out (by simp))
    have RE : Box' (R = if X.2 ≠ 0 then ([], X.2) else if 4096 < m + X.1.length then ([], 4) else (l ++ X.1, 0)) := ⟨by rw [HA.out, if_pos (by simp)]⟩
    clear HA CP RD LM
    go_wp2_with fail
    refine rd.mono ?_
    rintro e w2 ⟨u, ps, rfl, hp, o2, b2⟩
    have HP := Box'.mk hp
    have O2 := Box'.mk o2
    have B2 := Box'.mk (B1.out.trans (b2.mono B1.out.size))
    have PL : Box' (ps.length = X.1.length) := ⟨by rw [← hp, List.length_map]⟩
    obtain ⟨ua, uc, rfl⟩ := o2.slice
    clear rd hp o2 b2
    by_cases hx : X.2 = 0
    · have RE2 : Box' (R = if 4096 < m + ps.length then ([], 4) else (l ++ X.1, 0)) := ⟨by rw [RE.out, if_neg (by simpa using hx), PL.out]⟩
      have pl : ps.length ≤ 4096 := by rw [PL.out]; exact LR.out
      rw [hx]
      clear RE LR PL hx
      by_cases h4 : 4096 < m + ps.length
      · have RF : Box' (R = ([], 4)) := ⟨by rw [RE2.out, if_pos h4]⟩
        clear RE2 CP2
        generalize ps.length = pn at *
        go_wp2_with fail
        go_ret2
        exact ⟨_, [], by rw [RF.out]; rfl, by rw [RF.out]; rfl, OwnE.nil _ _, B2.out⟩
      · have RF : Box' (R = (l ++ X.1, 0)) := ⟨by rw [RE2.out, if_neg h4]⟩
        have cp := CP2.out w2 B2.out
        have Q2 : Box' (OwnE w.heap.size w2 (.slice ua ps.length uc) ps) := ⟨O2.out.less B1.out.size⟩
        clear RE2 CP2
        generalize hpn : ps.length = pn at *
        have PN := Box'.mk hpn
        clear hpn
        go_wp2_with fail
        refine cp.mono ?_
        rintro e w3 ⟨u3, qs, rfl, hq, o3, b3⟩
        have HQ := Box'.mk hq
        have QL : Box' (qs.length = m) := ⟨by rw [← HL.out, ← hq, List.length_map]⟩
        have P3 := Q2.out.below b3
        have dis : ∀ p ∈ qs, ∀ r ∈ ps, ∀ g, p.2.ownBlock = some g → r.2.ownBlock ≠ some g := fun p hp r hr g hg hv => by
          have := ((o3.own p hp).lt g hg).1
          obtain ⟨_, cur, rr⟩ := (O2.out.own r hr).lt g hv
          have := rr.lt
          omega
        have o3' := o3.less B2.out.size
        have B3 := Box'.mk (B2.out.trans (b3.mono B2.out.size))
        have hz3 : w.heap.size ≤ w3.heap.size := B3.out.size
        have hmx : (qs.length + ps.length) * 56 ≤ 140737488355328 := by have := QL.out; have := PN.out; omega
        have FIN : Box' (∀ v' w', OwnE w.heap.size w' v' (qs ++ ps) → w3.grownBy w' u3.ownBlock → Below w.heap.size w w' ∧ (qs ++ ps).map (fun p => p.1) = l ++ X.1) := ⟨fun v' w' h1 g => ⟨B3.out.trans ⟨g.os, g.tape, g.output, g.size, fun q hq => g.block q (by omega) fun e => by
          have := (o3'.lt q e.symm).1
          omega⟩, by rw [List.map_append, HQ.out, HP.out]⟩⟩
        have O3 := Box'.mk o3'
        have PP3 := Box'.mk P3
        have DIS := Box'.mk dis
        have HMX := Box'.mk hmx
        clear cp hq o3 b3 o3' dis P3 hmx Q2 O2 QL PN
        go_wp2_with (first | (refine wpList_appEvs rfl (.tmp 26) (.tmp 27) rfl w.heap.size hz3 _ qs rfl O3.out _ ps rfl PP3.out DIS.out HMX.out ?_; intro v4 w4 o4 g4; have F4 := Box'.mk (FIN.out v4 w4 o4 g4); have O4 := Box'.mk o4; clear o4 g4 FIN HMX O3 PP3 DIS hz3) | fail)
        go_ret2
        exact ⟨_, qs ++ ps, by rw [RF.out]; rfl, by rw [RF.out]; exact F4.out.2, O4.out, F4.out.1⟩
    · have RF : Box' (R = ([], X.2)) := ⟨by rw [RE.out, if_pos hx]⟩
      have hxb : (X.2 != 0) = true := by rw [bne_iff_ne]; exact hx
      clear RE LR PL CP2
      generalize X.2 = xe at *
      generalize ps.length = pn at *
      go_wp2_with fail
      go_ret2
      exact ⟨_, [], by rw [RF.out]; rfl, by rw [RF.out]; rfl, OwnE.nil _ _, B2.out⟩
end Go.Proofs.Ytpgljhgfoihnjaa
