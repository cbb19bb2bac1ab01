/- Bytes at the head of a row; the walk of Clean. -/
import Derived.Test.YtepepoabbbjmgaaZa
import Derived.Test.YtepepoabbbjmgaaKd
namespace Go.Proofs.Ytepepoabbbjmgaa
open Go.RowKit Go.BigFrame
set_option linter.unusedSimpArgs false
set_option linter.unusedVariables false

/-- The slice v has the bytes l, at the head of a row of bytes, or is nil. -/
def FrB (w : World) (v : Value) (l : List UInt8) : Prop := (v = .slice none 0 0 ∧ l = []) ∨ ∃ g cur c, v = .slice (some ⟨g, 0, none⟩) l.length c ∧ l.length ≤ c ∧ Row w g 5 cur ∧ cur.toList.take l.length = l.map B
theorem FrB.nil (w : World) : FrB w (.slice none 0 0) [] := .inl ⟨rfl, rfl⟩
theorem FrB.keep {w w' : World} {v : Value} {l : List UInt8} (h : FrB w v l) (hk : ∀ g c, Row w g 5 c → Row w' g 5 c) : FrB w' v l := by
  rcases h with h | ⟨g, cur, c, h1, h2, h3, h4⟩
  · exact .inl h
  · exact .inr ⟨g, cur, c, h1, h2, hk _ _ h3, h4⟩
theorem FrB.below {w w' : World} {v : Value} {l : List UInt8} (h : FrB w v l) (hb : Below w.heap.size w w') : FrB w' v l := h.keep fun g c hr => hr.below hb hr.lt
theorem FrB.inB {w : World} {v : Value} {l : List UInt8} (h : FrB w v l) : InB w.heap.size w v l := by
  rcases h with h | ⟨g, cur, c, h1, h2, h3, h4⟩
  · exact .inl h
  · refine .inr ⟨g, 0, c, h1, h2, .inr h3.lt, fun j u hu => ?_⟩
    have hj := (List.getElem?_eq_some_iff.1 hu).1
    rw [List.length_map] at hj
    rw [Nat.zero_add, h3.cell]
    rw [← h4, List.getElem?_take_of_lt (by omega)] at hu
    simpa using hu
theorem OwnB.frB {N : Nat} {w : World} {v : Value} {l : List UInt8} (h : OwnB N w v l) : FrB w v l := by
  rcases h.2 with ⟨e, e0⟩ | ⟨g, cap, cur, e1, e2, e3, e4, e5, e6, e7⟩
  · exact .inl ⟨e, List.eq_nil_of_length_eq_zero e0⟩
  · exact .inr ⟨g, cur, cap, e1, e4, e3, by rw [← e7, Nat.mul_one]⟩
theorem Row.frL {w : World} {g : Nat} {D Z : List UInt8} (h : Row w g 5 (ag (D ++ Z))) : FrB w (.slice (some ⟨g, 0, none⟩) D.length D.length) D :=
  .inr ⟨g, _, _, rfl, Nat.le_refl _, h, by simp [ag]⟩
theorem set_zero (D : List UInt8) (m : Nat) (x : UInt8) (h : 0 < m) : (D ++ List.replicate m 0).set D.length x = (D ++ [x]) ++ List.replicate (m - 1) 0 := by
  obtain ⟨k, rfl⟩ : ∃ k, m = k + 1 := ⟨m - 1, by omega⟩
  rw [List.set_append_right _ _ (Nat.le_refl _), Nat.sub_self, List.replicate_succ, List.set_cons_zero, Nat.add_sub_cancel, List.append_assoc]
  rfl
/-- What is asked of a function that cleans: that its answer lies at the head of a row. -/
def ClnF (f : Nat) : Prop := ∀ (N : Nat) (w : World) (vb : Value) (l : List UInt8), N ≤ w.heap.size → InE N w vb l → l.length ≤ 140737488355000 →
  Calls Try.prog f #[vb] w fun e w' => ∃ u, e = .returned u ∧ FrB w' u (clean l) ∧ Below w.heap.size w w'

set_option maxRecDepth 100000 in
set_option maxHeartbeats 4000000 in
theorem clean_F : ClnF 9 := by
  intro N w vb l hN hi hl
  have AT : Box' (∀ k, k < l.length → ∃ b o c, vb = .slice (some ⟨b, o, none⟩) l.length c ∧ b < N ∧ w.cell? ⟨b, o + k, none⟩ = some (.int .u8 ((l.getD k 0).toNat : Int))) := ⟨fun k hk => hi.bts.at1 hk⟩
  have ST := Box'.mk (clean_step l)
  have CL := Box'.mk (fun k => clean_len (l.take k))
  have CE := Box'.mk (clean_all l)
  have C0 : Box' (clean (l.take 0) = []) := ⟨by simp [clean]⟩
  have TL : Box' (∀ k, k ≤ l.length → (l.take k).length = k) := ⟨fun k hk => by rw [List.length_take]; omega⟩
  obtain ⟨a, c, rfl, hc⟩ := hi.slice
  clear hi
  generalize hn : l.length = n at *
  clear hn
  have R0 := Box'.mk (Row.new w 5 (ag (List.replicate n 0)))
  have B0 := Box'.mk ((Below.refl w.heap.size w).alloc (Nat.le_refl _) (.cells (ag (List.replicate n 0)) 5))
  have hg0 : w.heap.size ≤ w.heap.size := Nat.le_refl _
  go_enter Try.func9, Try.ntmps9
  go_wp2_with (refine wpList_makeB rfl (.tmp 8) (.tmp 8) rfl n n n rfl rfl rfl rfl (by omega) ?_; generalize hw1 : w.alloc (.cells (ag (List.replicate n 0)) 5) = w1 at *; generalize hgg : w.heap.size = g at R0 hg0 ⊢)
  go_loopw [4, 12] (fun s i wr => ∃ k : Nat, s = .int .i64 ((clean (l.take k)).length : Int) ∧ i = .int .i64 (k : Int) ∧ k ≤ n ∧ Box' (Row wr g 5 (ag (clean (l.take k) ++ List.replicate (n - (clean (l.take k)).length) 0))) ∧ Box' (Below w.heap.size w wr)) (fun _ i _ => n - (intOf i).toNat)
  case atStart => exact ⟨0, by rw [C0.out]; rfl, rfl, Nat.zero_le _, ⟨by rw [C0.out]; exact R0.out⟩, B0⟩
  case round =>
    clear R0 B0 hw1
    rename World => wr
    obtain ⟨k, rfl, rfl, hk, RR, BB⟩ := hrel
    have cl := CL.out k
    rw [TL.out k hk] at cl
    by_cases hlt : k < n
    · obtain ⟨b, o, c', e, hb, cx⟩ := AT.out k hlt
      injection e with e1 _ e2
      subst e1 e2
      have hcell : wr.cell? ⟨b, o + k, none⟩ = some (.int .u8 ((l.getD k 0).toNat : Int)) := by rw [BB.out.cell (p := ⟨b, o + k, none⟩) (Nat.lt_of_lt_of_le hb hN)]; exact cx
      have st := ST.out k hlt
      have hr := RR.out
      have bb := BB.out
      have S2 : Box' (∀ wz D, clean (l.take (k + 1)) = D → Row wz g 5 (ag (D ++ List.replicate (n - D.length) 0)) → Row wz g 5 (ag (clean (l.take (k + 1)) ++ List.replicate (n - (clean (l.take (k + 1))).length) 0)) ∧ (clean (l.take (k + 1))).length = D.length) := ⟨fun wz D e h => by rw [e]; exact ⟨h, rfl⟩⟩
      clear cx AT ST CL CE C0 RR BB TL
      generalize clean (l.take k) = D at *
      generalize l.getD k 0 = x at *
      have hx := x.toNat_lt
      have hD : D.length < n := by omega
      have hlen : (D ++ List.replicate (n - D.length) (0 : UInt8)).length = n := by rw [List.length_append, List.length_replicate]; omega
      have c0 : wr.cell? ⟨g, D.length, none⟩ = some (.int .u8 (((D ++ List.replicate (n - D.length) (0 : UInt8)).getD D.length 0).toNat : Int)) := hr.byte (by omega)
      have f0 : wr.frozen? ⟨g, D.length, none⟩ = false := hr.frozen _
      have SX : Box' (∀ y : UInt8, Row (wr.setCell ⟨g, D.length, none⟩ (.int .u8 (y.toNat : Int))) g 5 (ag ((D ++ [y]) ++ List.replicate (n - (D ++ [y]).length) 0))) := ⟨fun y => by
        have := hr.setByte D.length y
        rw [set_zero _ _ _ (by omega)] at this
        rwa [List.length_append, List.length_singleton, ← Nat.sub_sub]⟩
      have BX : Box' (∀ v, Below w.heap.size w (wr.setCell ⟨g, D.length, none⟩ v)) := ⟨fun v => bb.setCell (show w.heap.size ≤ g by omega) v⟩
      by_cases h1 : x = 27
      · subst h1
        have s2 := S2.out wr D (by rw [st, show clB 27 = [] from rfl, List.append_nil]) hr
        have R2 := Box'.mk s2.1
        have L2 := Box'.mk s2.2
        have B2 := Box'.mk bb
        clear S2 s2 hr bb SX BX c0 f0 st
        go_wp2_with fail
        exact ⟨⟨k + 1, by rw [L2.out], by go_num, by omega, R2, B2⟩, by simp [intOf]; omega⟩
      by_cases h2 : x = 155
      · subst h2
        have s2 := S2.out wr D (by rw [st, show clB 155 = [] from rfl, List.append_nil]) hr
        have R2 := Box'.mk s2.1
        have L2 := Box'.mk s2.2
        have B2 := Box'.mk bb
        clear S2 s2 hr bb SX BX c0 f0 st h1
        go_wp2_with fail
        exact ⟨⟨k + 1, by rw [L2.out], by go_num, by omega, R2, B2⟩, by simp [intOf]; omega⟩
      have g1 : ((x.toNat : Int) == 27) = false := by rw [beq_eq_false_iff_ne]; intro e; exact h1 (UInt8.toNat_inj.1 (by simpa using (show x.toNat = 27 by omega)))
      have g2 : ((x.toNat : Int) == 155) = false := by rw [beq_eq_false_iff_ne]; intro e; exact h2 (UInt8.toNat_inj.1 (by simpa using (show x.toNat = 155 by omega)))
      by_cases h3 : x = 10
      · subst h3
        have s2 := S2.out _ (D ++ [13]) (by rw [st, show clB 10 = [13] from rfl]) (SX.out 13)
        have R2 := Box'.mk s2.1
        have L2 := Box'.mk s2.2
        have B2 := Box'.mk (BX.out (.int .u8 13))
        clear S2 s2 hr bb SX BX st h1 h2 g1 g2
        go_wp2_with fail
        exact ⟨⟨k + 1, by rw [L2.out, List.length_append]; go_num, by go_num, by omega, R2, B2⟩, by simp [intOf]; omega⟩
      have g3 : ((x.toNat : Int) == 10) = false := by rw [beq_eq_false_iff_ne]; intro e; exact h3 (UInt8.toNat_inj.1 (by simpa using (show x.toNat = 10 by omega)))
      have s2 := S2.out _ (D ++ [x]) (by rw [st, show clB x = [x] by unfold clB; rw [if_neg (by rintro (h | h); exact h1 h; exact h2 h), if_neg h3]]) (SX.out x)
      have R2 := Box'.mk s2.1
      have L2 := Box'.mk s2.2
      have B2 := Box'.mk (BX.out (.int .u8 (x.toNat : Int)))
      clear S2 s2 hr bb SX BX st h1 h2 h3
      go_wp2_with fail
      exact ⟨⟨k + 1, by rw [L2.out, List.length_append]; go_num, by go_num, by omega, R2, B2⟩, by simp [intOf]; omega⟩
    · obtain rfl : n = k := by omega
      have rr := RR.out
      rw [CE.out n rfl] at rr cl ⊢
      have F2 := Box'.mk rr.frL
      clear AT ST CL CE C0 RR rr TL
      generalize hL : (clean l).length = L at *
      have hcut := cut_to g n L cl wr
      go_wp2_with (refine wpList_cut rfl 23 (.tmp 29) none (some (.tmp 30)) (some (.tmp 31)) rfl _ hcut ?_)
      go_ret
      exact ⟨_, rfl, F2.out, BB.out⟩
theorem clean_C : ClnC 9 := fun N w vb l h1 h2 h3 => (clean_F N w vb l h1 h2 h3).mono fun e w' ⟨u, q1, q2, q3⟩ => ⟨u, q1, q2.inB, q3⟩
end Go.Proofs.Ytepepoabbbjmgaa
