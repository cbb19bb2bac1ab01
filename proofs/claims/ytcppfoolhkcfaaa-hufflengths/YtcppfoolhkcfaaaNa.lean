/- The walk of the reference's sort. -/
import Derived.Test.YtcppfoolhkcfaaaKl
namespace Go.Proofs.Ytcppfoolhkcfaaa
open Go.RowKit Go.BigFrame

theorem wpList_append_ints' {ops : Array Oper} {rest : List Oper} {o : Oper} {a : Act} {w : World} {Q : Exit → Act → World → Prop} (hgd : o.guard = none) (s x : Operand)
    (ho : o.op = .call { callee := .builtin .append, args := #[s, x], argTypes := #[22, 22] }) (N : Nat) (hN : N ≤ w.heap.size)
    (v : Value) (d : List Int) (hs : a.eval s = v) (hown : OwnI N w v d) (ad : Addr) (m c : Nat) (l : List Int) (hx : a.eval x = .slice (some ad) m c) (hm : l.length = m)
    (hc : ∀ j u, (l.map (Value.int .i64))[j]? = some u → w.cell? (ad.add j) = some u) (hmax : d.length + l.length ≤ 17592186044416)
    (h : ∀ v' w', OwnI N w' v' (d ++ l) → Below N w w' → wpList Try.prog ops Q rest (a.put o.dst v') w') : wpList Try.prog ops Q (o :: rest) a w := by
  obtain ⟨i, h1, h2, h3, h4⟩ := Try.info3'
  obtain ⟨v', w', hr, g2, g3, _⟩ := run_append_own (P := Try.prog) w N 22 o.type 3 i _ 1 8 Try.underlying22 h1 h2 h3 h4 rfl (by decide) v d.length _ hown ad m c (l.map (Value.int .i64)) (by rw [List.length_map, hm, Nat.mul_one]) hc (one_Ii l) (by unfold maxLen; omega) (by omega) hN
  have g2' : OwnI N w' v' (d ++ l) := by unfold OwnI; rw [List.length_append, List.map_append, hm]; exact g2
  have hbl : Below N w w' := ⟨g3.os, g3.tape, g3.output, g3.size, fun k hk => g3.block k (by omega) (fun e => by have := (hown.lt k e.symm).1; omega)⟩
  refine wpList_plain hgd fun K hK => ?_
  unfold Oper.wp execOp
  simp only [ho, resolve, invoke, builtin, Sem.run_bind, Sem.run_pure, Result.andThen_ok, List.map_toArray, List.map_cons, List.map_nil, hs, hx, hr]
  exact hK _ _ (h v' w' g2' hbl)
/-- A new row without numbers. -/
theorem OwnI.made (w : World) : OwnI w.heap.size (w.alloc (.cells #[] 3)) (.slice (some ⟨w.heap.size, 0, none⟩) 0 0) [] :=
  ⟨rfl, .inr ⟨w.heap.size, 0, #[], rfl, Nat.le_refl _, Row.new w 3 #[], Nat.le_refl _, by unfold maxLen; omega, rfl, rfl⟩⟩
/-- The cells of numbers that came in. -/
theorem ints_cells {N : Nat} {w w' : World} {b o : Nat} {l : List Int} (hb : b < N) (hw : Below N w w') (h : ∀ k, k < l.length → w.cell? ⟨b, o + k, none⟩ = some (.int .i64 (l.getD k 0))) :
    ∀ j u, (l.map (Value.int .i64))[j]? = some u → w'.cell? ((⟨b, o, none⟩ : Addr).add j) = some u := by
  intro j u hu
  have hj : j < l.length := by
    have := (List.getElem?_eq_some_iff.1 hu).1
    rwa [List.length_map] at this
  rw [Addr.add_mid, hw.cell (p := ⟨b, o + j, none⟩) hb, h j hj]
  simpa [hj] using hu

set_option maxRecDepth 100000 in
set_option maxHeartbeats 4000000 in
theorem refSort_any (v : Value) (X : List Int) (h0 : 0 < X.length) (hl : X.length ≤ 4096) (w : World) (h : Ints w.heap.size w v X) :
    Calls Try.prog 38 #[v] w fun e w' => ∃ g c, e = .returned (.slice (some ⟨g, 0, none⟩) X.length c) ∧ X.length ≤ c ∧ w.heap.size ≤ g ∧ SegI w' g (Gs.isr (fun x : Int => x) X) ∧ Below w.heap.size w w' := by
  obtain ⟨a, c, rfl, hc, h3⟩ := h
  rcases h3 with rfl | ⟨b, o, rfl, hb, h3⟩
  · simp at h0
  have hcell := ints_cells hb ((Below.refl w.heap.size w).alloc (Nat.le_refl _) (.cells #[] 3)) h3
  have hown := OwnI.made w
  have hN2 : w.heap.size ≤ (w.alloc (.cells #[] 3)).heap.size := by simp
  have B0 := Box'.mk ((Below.refl w.heap.size w).alloc (Nat.le_refl _) (.cells #[] 3))
  have IT : Box' (∀ i, i < X.length → Gs.isr (fun x : Int => x) (X.take (i + 1)) = Gs.mg (fun x : Int => x) (Gs.isr (fun x : Int => x) (X.take i)) [X.getD i 0]) := ⟨fun i hi => by rw [Gs.isr_take (fun x : Int => x) X i hi]; simp [hi]⟩
  have DR : Box' (∀ i, i < X.length → X.drop i = X.getD i 0 :: X.drop (i + 1)) := ⟨fun i hi => by rw [List.drop_eq_getElem_cons hi]; simp [hi]⟩
  have IL := Box'.mk (Gs.isr_len (fun x : Int => x))
  have IS := Box'.mk (Gs.isr_srt (fun x : Int => x))
  have I1 : Box' (Gs.isr (fun x : Int => x) (X.take 1) = X.take 1) := ⟨by
    cases X with
    | nil => rfl
    | cons x r => show Gs.isr _ [x] = [x]; unfold Gs.isr; simp [Gs.nil_mg]⟩
  clear h3
  generalize hN : X.length = N at *
  have HN := Box'.mk hN
  clear hN
  have hmx : ([] : List Int).length + X.length ≤ 17592186044416 := by rw [HN.out]; simp; omega
  go_enter Try.func38, Try.ntmps38
  go_wp2_with (refine wpList_append_ints' rfl (.tmp 6) (.tmp 7) rfl w.heap.size hN2 _ [] rfl hown _ _ _ X rfl HN.out hcell hmx ?_; intro v' w3 o3 b3)
  rw [List.nil_append] at o3
  obtain ⟨g, cap, rfl, hg, hcap, hseg⟩ := o3.seg (by have := HN.out; omega)
  have bl := B0.out.trans b3
  rw [HN.out] at hcap ⊢
  have hs0 : SegI w3 g (Gs.isr (fun x : Int => x) (X.take 1) ++ X.drop 1) := by rw [I1.out, List.take_append_drop]; exact hseg
  clear hcell hown B0 I1 o3 b3 hseg hN2 hmx
  go_wp2_with fail
  go_loopw [4] (fun i wr => ∃ t : Nat, t + 1 ≤ N ∧ i = .int .i64 ((t + 1 : Nat) : Int) ∧ SegI wr g (Gs.isr (fun x : Int => x) (X.take (t + 1)) ++ X.drop (t + 1)) ∧ Gb g w3 wr) (fun i _ => N + 1 - (intOf i).toNat)
  case atStart => exact ⟨0, by omega, by congr 1, hs0, Gb.refl _ _⟩
  case round =>
    clear hs0
    obtain ⟨t, ht, rfl, hs, hg1⟩ := hrel
    by_cases hlt : t + 1 < N
    · have ITk := Box'.mk (IT.out (t + 1) hlt)
      have hPs := IS.out (X.take (t + 1))
      have hPl : (Gs.isr (fun x : Int => x) (X.take (t + 1))).length = t + 1 := by rw [IL.out, List.length_take]; have := HN.out; omega
      rw [DR.out (t + 1) hlt] at hs
      have RL : Box' ((X.drop (t + 2)).length + (t + 2) = N) := ⟨by rw [List.length_drop]; have := HN.out; omega⟩
      generalize hP : Gs.isr (fun x : Int => x) (X.take (t + 1)) = P at *
      generalize hxx : X.getD (t + 1) 0 = x at *
      have hs : SegI wr g (P ++ x :: X.drop (t + 2)) := hs
      generalize hR : X.drop (t + 2) = R at *
      have HPS := Box'.mk hPs
      have HPL := Box'.mk hPl
      have ENDK : Box' (∀ W, SegI W g (Gs.mg (fun x : Int => x) P [x] ++ R) → SegI W g (Gs.isr (fun x : Int => x) (X.take (t + 1 + 1)) ++ (X.drop (t + 1 + 1)))) := ⟨fun W hW => by
        rw [ITk.out, show t + 1 + 1 = t + 2 from rfl, hR]; exact hW⟩
      clear IT IS IL ITk hPs hPl hP hxx hR DR
      go_wp2_with fail
      go_loopw [5] (fun j wr => ∃ (jn : Nat) (P1 P2 : List Int), j = .int .i64 (jn : Int) ∧ jn ≤ t + 1 ∧ Box' (jn = P1.length) ∧ Box' (P = P1 ++ P2) ∧ Box' (∀ y ∈ P2, x < y) ∧ SegI wr g (P1 ++ x :: (P2 ++ R)) ∧ Gb g w3 wr) (fun j _ => (intOf j).toNat)
      case atStart => exact ⟨t + 1, P, [], rfl, by omega, ⟨by have := HPL.out; omega⟩, ⟨by simp⟩, ⟨fun y hy => by cases hy⟩, by simpa using hs, hg1⟩
      case round =>
        clear hs hg1
        obtain ⟨jn, P1, P2, rfl, hj2, HJ, HP, HL, hs, hg1⟩ := hrel
        by_cases hja : jn = 0
        · have hP1 : P1 = [] := List.eq_nil_of_length_eq_zero (by have := HJ.out; omega)
          subst hP1 hja
          have hend := ENDK.out wr (by
            have := ins_done (fun x : Int => x) [] P2 x (by have := HPS.out; rw [HP.out] at this; exact this) HL.out (.inl rfl)
            rw [HP.out, ← this]; simpa using hs)
          clear ENDK HPS HPL HP HL HJ hs RL
          go_wp2_with fail
          go_quiet (fail)
          go_wp2_with fail
          exact ⟨⟨t + 1, by omega, by go_num, hend.drewN nq, hg1.drewN nq⟩, by simp [intOf]; omega⟩
        · obtain ⟨Q, p, hQ⟩ : ∃ Q p, P1 = Q ++ [p] := by
            rcases List.eq_nil_or_concat P1 with h | ⟨Q, p, h⟩
            · exfalso; subst h; have := HJ.out; simp at this; omega
            · exact ⟨Q, p, by rw [h, List.concat_eq_append]⟩
          subst hQ
          obtain ⟨q, rfl⟩ : ∃ q, jn = q + 1 := ⟨jn - 1, by omega⟩
          have hql : Q.length = q := by have := HJ.out; simp at this; omega
          have hs' : SegI wr g (Q ++ p :: ([] ++ x :: (P2 ++ R))) := by simpa using hs
          have hPl2 : Q.length + 1 + P2.length = t + 1 := by have := HPL.out; rw [HP.out] at this; simp at this; omega
          have hlen : (Q ++ p :: ([] ++ x :: (P2 ++ R))).length = N := by have := RL.out; simp; omega
          have c0 := hs'.cell (k := q) (by rw [hlen]; have := RL.out; omega)
          have c1 := hs'.cell (k := q + 1) (by rw [hlen]; have := RL.out; omega)
          rw [← hql, get_mid, hql] at c0
          rw [show Q ++ p :: ([] ++ x :: (P2 ++ R)) = (Q ++ [p]) ++ x :: (P2 ++ R) by simp, show q + 1 = (Q ++ [p]).length by rw [List.length_append, hql]; rfl, get_mid, show (Q ++ [p]).length = q + 1 by rw [List.length_append, hql]; rfl] at c1
          have f0 := hs'.frozen q
          have f1 := hs'.frozen (q + 1)
          have hqN : q + 1 < N := by have := RL.out; omega
          by_cases hlt2 : x < p
          · have hs2 := hs'
            have HQL := Box'.mk hql
            clear hs hs' hlen hql hPl2
            go_wp2_with fail
            go_quiet (fail)
            have hsq := hs2.drewN nq
            have hg3 := hg1.drewN nq
            clear hs2
            generalize hwq : wr.drewN nq = wq at *
            have c0' : wq.cell? ⟨g, q, none⟩ = some (.int .i64 p) := by rw [← hwq]; exact c0
            have c1' : wq.cell? ⟨g, q + 1, none⟩ = some (.int .i64 x) := by rw [← hwq]; exact c1
            have f0' : wq.frozen? ⟨g, q, none⟩ = false := by rw [← hwq]; exact f0
            have f1' : wq.frozen? ⟨g, q + 1, none⟩ = false := by rw [← hwq]; exact f1
            clear c0 c1 f0 f1 hwq
            go_wp2_with fail
            go_region
            go_wp2_with fail
            have hsw := hsq.swap' q (q + 1) HQL.out.symm (by rw [HQL.out]; rfl)
            have hg2 := (hg3.setCell (q + 1) (.int .i64 p)).setCell q (.int .i64 x)
            exact ⟨⟨q, Q, p :: P2, by go_num, by omega, ⟨HQL.out.symm⟩, ⟨by rw [HP.out]; simp⟩, ⟨fun y hy => by
              rcases List.mem_cons.1 hy with rfl | hy
              · exact hlt2
              · exact HL.out y hy⟩, by simpa using hsw.drew, hg2.drew⟩, by simp [intOf]⟩
          · have hend := ENDK.out wr (by
              have := ins_done (fun x : Int => x) (Q ++ [p]) P2 x (by have := HPS.out; rw [HP.out] at this; exact this) HL.out (.inr ⟨Q, p, rfl, hlt2⟩)
              rw [HP.out, ← this]; simpa using hs)
            clear hs hs' hlen hql hPl2 ENDK HPS HPL HP HL HJ RL
            go_wp2_with fail
            go_quiet (fail)
            go_wp2_with fail
            exact ⟨⟨t + 1, by omega, by go_num, hend.drewN nq, hg1.drewN nq⟩, by simp [intOf]; omega⟩
    · have hend : SegI wr g (Gs.isr (fun x : Int => x) X) := by
        have h1 : X.length ≤ t + 1 := by have := HN.out; omega
        rw [List.take_of_length_le h1, List.drop_of_length_le h1] at hs
        simpa using hs
      have b4 := hg1.on bl hg (Nat.le_refl _)
      clear hs IT IL IS DR
      go_wp2_with fail
      go_ret
      exact ⟨g, cap, rfl, hcap, hg, hend, b4⟩
/-- The reference's rows of coins. -/
def prI : List Int → List Int
  | a :: b :: r => (a + b) :: prI r
  | _ => []
def posl (cs : List Int) (k : Nat) : List Int := ((List.range k).filter fun i => decide (0 < cs.getD i 0)).map fun (i : Nat) => cs.getD i 0
def sI (l : List Int) : List Int := Gs.isr (fun x : Int => x) l
def lvl (cs : List Int) : Nat → List Int
  | 0 => sI (posl cs cs.length)
  | k + 1 => sI (prI (lvl cs k) ++ sI (posl cs cs.length))
/-- The least cost, as the reference reckons it. -/
def leastN (cs : List Int) (most : Nat) : Int := if (posl cs cs.length).length = 0 then 0 else if (posl cs cs.length).length = 1 then (posl cs cs.length).getD 0 0 else ((lvl cs (most - 1)).take (2 * (posl cs cs.length).length - 2)).sum
theorem posl_on (cs : List Int) (k : Nat) (h : 0 < cs.getD k 0) : posl cs (k + 1) = posl cs k ++ [cs.getD k 0] := by
  unfold posl
  rw [List.range_succ, List.filter_append, List.map_append, List.filter_cons_of_pos (by simp only [decide_eq_true_eq]; exact h)]; rfl
theorem posl_off (cs : List Int) (k : Nat) (h : cs.getD k 0 ≤ 0) : posl cs (k + 1) = posl cs k := by
  unfold posl
  rw [List.range_succ, List.filter_append, List.map_append, List.filter_cons_of_neg (by simp only [decide_eq_true_eq]; omega)]
  simp
theorem posl_len (cs : List Int) (k : Nat) : (posl cs k).length ≤ k := by
  unfold posl
  rw [List.length_map]
  exact Nat.le_trans (List.length_filter_le _ _) (by simp)
def prITo (l : List Int) (k : Nat) : List Int := (List.range k).map fun i => l.getD (2 * i) 0 + l.getD (2 * i + 1) 0
theorem prI_eq : ∀ (l : List Int), prI l = prITo l (l.length / 2)
  | [] => rfl
  | [_] => by simp [prI, prITo]
  | a :: b :: r => by
    rw [prI, prI_eq r]
    unfold prITo
    rw [show (a :: b :: r).length / 2 = r.length / 2 + 1 by simp; omega, List.range_succ_eq_map, List.map_cons, List.map_map]
    congr 1
theorem prITo_succ (l : List Int) (k : Nat) : prITo l (k + 1) = prITo l k ++ [l.getD (2 * k) 0 + l.getD (2 * k + 1) 0] := by
  unfold prITo; rw [List.range_succ, List.map_append]; rfl
theorem prITo_len (l : List Int) (k : Nat) : (prITo l k).length = k := by simp [prITo]
/-- What the reference's Least answers. -/
def lstE (cs : List Int) (mz : Int) : Int := if Gf.badE cs = 2 ∨ mz < 1 ∨ 15 < mz then 2 else if Gf.badE cs ≠ 0 ∨ 2 ^ mz.toNat < (posl cs cs.length).length then 4 else 0
def lstN (cs : List Int) (mz : Int) : Int := if lstE cs mz = 0 then leastN cs mz.toNat else 0
theorem pow_wrap' : ∀ m : Nat, m < 16 → wrap64 (2 ^ m) = ((2 ^ m : Nat) : Int) := by decide +kernel
theorem OwnI.down {N M : Nat} {w : World} {v : Value} {d : List Int} (h : OwnI N w v d) (hM : M ≤ N) : OwnI M w v d := by
  refine ⟨h.1, ?_⟩
  rcases h.2 with h2 | ⟨g, cap, cur, e1, e2, e3, e4⟩
  · exact .inl h2
  · exact .inr ⟨g, cap, cur, e1, by omega, e3, e4⟩
theorem SegI.cells {w : World} {g : Nat} {l : List Int} (h : SegI w g l) : ∀ j u, (l.map (Value.int .i64))[j]? = some u → w.cell? ((⟨g, 0, none⟩ : Addr).add j) = some u := by
  intro j u hu
  have hj : j < l.length := by
    have := (List.getElem?_eq_some_iff.1 hu).1
    rwa [List.length_map] at this
  rw [Addr.add_mid, Nat.zero_add, h.cell hj]
  simpa [hj] using hu
theorem SegI.ints {w : World} {g : Nat} {l : List Int} {c : Nat} (h : SegI w g l) (hc : l.length ≤ c) : Ints w.heap.size w (.slice (some ⟨g, 0, none⟩) l.length c) l :=
  ⟨_, _, rfl, hc, .inr ⟨g, 0, rfl, h.lt, fun k hk => by rw [Nat.zero_add]; exact h.cell hk⟩⟩
theorem sum_take (l : List Int) (k : Nat) (h : k < l.length) : (l.take (k + 1)).sum = (l.take k).sum + l.getD k 0 := by
  rw [List.take_succ_eq_append_getElem h, List.sum_append]
  simp [h]
theorem sum_bound (l : List Int) (h : ∀ x ∈ l, 0 ≤ x ∧ x ≤ 1125899906842624) : ∀ k, k ≤ l.length → 0 ≤ (l.take k).sum ∧ (l.take k).sum ≤ 1125899906842624 * k
  | 0, _ => by simp
  | k + 1, hk => by
    have ih := sum_bound l h k (by omega)
    rw [sum_take l k (by omega)]
    have e : l.getD k 0 = l[k] := by simp [show k < l.length by omega]
    have := h _ (List.getElem_mem (show k < l.length by omega))
    rw [e]
    omega
end Go.Proofs.Ytcppfoolhkcfaaa
