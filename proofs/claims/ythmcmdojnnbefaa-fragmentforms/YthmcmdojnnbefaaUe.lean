/- The walk of the reference's Split. -/
import Derived.Test.YthmcmdojnnbefaaUd
namespace Go.Proofs.Ythmcmdojnnbefaa
open Go.RowKit Go.BigFrame
set_option linter.unusedVariables false
set_option linter.unusedSimpArgs false

theorem owns_set {N n g c : Nat} {w : World} {v : Value} {xs : List Value} (h : w.ownsRow N 25 4 v n xs) (hv : v = .slice (some ⟨g, 0, none⟩) n c) (i : Nat) (hi : i < xs.length) (u : Value) : (w.setCell ⟨g, i, none⟩ u).ownsRow N 25 4 v n (xs.set i u) := by
  refine ⟨by rw [List.length_set]; exact h.1, ?_⟩
  rcases h.2 with ⟨e, e0⟩ | ⟨g', cap, cur, e1, e2, e3, e4, e5, e6, e7⟩
  · rw [e] at hv; cases hv
  · rw [e1] at hv
    injection hv with h1 _ h3
    injection h1 with h1
    injection h1 with h1
    subst h1
    have r : Row w g' 25 cur := e3
    refine .inr ⟨g', cap, cur.setIfInBounds i u, e1, e2, r.setCell i u, e4, e5, by rw [Array.size_setIfInBounds]; exact e6, ?_⟩
    rw [Array.toList_setIfInBounds, List.take_set, e7]
/-- The last part is turned. -/
theorem OwnQ.setLast {N g c : Nat} {w : World} {v : Value} {A : List (Prt × Value)} {p p' : Prt} {vd vd' : Value} (h : w.ownsRow N 25 4 v (A.length + 1) ((A ++ [(p, vd)]).flatMap fun p => prC p.1 p.2)) (hv : v = .slice (some ⟨g, 0, none⟩) (A.length + 1) c) (j : Nat) (hj : j < 4) (u : Value) (hc : (prC p vd).set j u = prC p' vd')
    (hown : ∀ q ∈ A ++ [(p', vd')], OwnB N (w.setCell ⟨g, A.length * 4 + j, none⟩ u) q.2 q.1.d) : OwnQ N (w.setCell ⟨g, A.length * 4 + j, none⟩ u) v (A ++ [(p', vd')]) := by
  have hl : (A.flatMap fun p => prC p.1 p.2).length = A.length * 4 := by
    clear h hown hc hv
    induction A with
    | nil => rfl
    | cons a A ih => rw [List.flatMap_cons, List.length_append, ih, List.length_cons]; simp [prC]; omega
  have hlen : (A ++ [(p, vd)]).length = A.length + 1 := by simp
  refine ⟨?_, hown⟩
  have h1 := owns_set (c := c) h hv (A.length * 4 + j) (by rw [List.flatMap_append, List.length_append, hl]; simp [prC]; omega) u
  rw [List.flatMap_append, List.set_append_right _ _ (by rw [hl]; omega), hl, show A.length * 4 + j - A.length * 4 = j by omega] at h1
  rw [List.flatMap_append]
  have e1 : ([(p, vd)].flatMap fun p => prC p.1 p.2) = prC p vd := by simp
  have e2 : ([(p', vd')].flatMap fun p => prC p.1 p.2) = prC p' vd' := by simp
  rw [e1, hc] at h1
  rw [e2, List.length_append]
  exact h1
/-- So many full parts. -/
def fulP (id z : Nat) (b : List UInt8) (k : Nat) : List Prt := (List.range k).map fun (i : Nat) => ⟨id, (i : Int), false, (b.drop (i * z)).take z⟩
theorem fulP_succ (id z : Nat) (b : List UInt8) (k : Nat) : fulP id z b (k + 1) = fulP id z b k ++ [⟨id, (k : Int), false, (b.drop (k * z)).take z⟩] := by
  unfold fulP
  rw [List.range_succ, List.map_append]
  rfl
theorem spL_ful {id z k : Nat} {b : List UInt8} (hz : 1 ≤ z) (h1 : k * z ≤ b.length) (h2 : b.length ≤ k * z + z) (h3 : k = 0 ∨ k * z < b.length) : spL id z b = fulP id z b k ++ [⟨id, (k : Int), true, b.drop (k * z)⟩] := by
  have hn : spN b.length z = k + 1 := by
    unfold spN
    rcases h3 with rfl | h3
    · rw [Nat.div_eq_of_lt (by omega)]
    · congr 1
      exact Nat.div_eq_of_lt_le (by omega) (by rw [Nat.succ_mul]; omega)
  unfold spL fulP
  rw [hn, List.range_succ, List.map_append]
  congr 1
  · apply List.map_congr_left
    intro i hi
    have := List.mem_range.1 hi
    unfold spP
    rw [decide_eq_false (by omega)]
  · simp only [List.map_cons, List.map_nil]
    unfold spP
    rw [decide_eq_true hn.symm, List.take_of_length_le (by rw [List.length_drop]; omega)]
theorem own1 (w : World) (N id : Nat) (hN : N ≤ w.heap.size) : OwnQ N (w.alloc (.cells (prC ⟨id, 0, false, []⟩ (.slice none 0 0)).toArray 25)) (.slice (some ⟨w.heap.size, 0, none⟩) 1 1) [(⟨id, 0, false, []⟩, .slice none 0 0)] :=
  ⟨⟨rfl, .inr ⟨_, 1, _, rfl, hN, heap_alloc_last w _, Nat.le_refl _, by unfold maxLen; omega, rfl, rfl⟩⟩, fun p hp => by rw [List.mem_singleton] at hp; subst hp; exact OwnB.nil _ _⟩
theorem owns_same {N n g c : Nat} {w w' : World} {v : Value} {xs : List Value} (h : w.ownsRow N 25 4 v n xs) (hv : v = .slice (some ⟨g, 0, none⟩) n c) (e : w'.heap[g]? = w.heap[g]?) : w'.ownsRow N 25 4 v n xs := by
  refine ⟨h.1, ?_⟩
  rcases h.2 with h2 | ⟨g', cap, cur, e1, e2, e3, e4⟩
  · exact .inl h2
  · have e1' := e1
    rw [hv] at e1'
    injection e1' with q1
    injection q1 with q1
    injection q1 with q1
    subst q1
    exact .inr ⟨g, cap, cur, e1, e2, by rw [e]; exact e3, e4⟩
theorem Row.frz {w w1 : World} {b : Nat} {t : TypeId} {c : Array Value} (h : Row w b t c) (e : w1.heap[b]? = w.heap[b]?) (j : Nat) : w1.frozen? ⟨b, j, none⟩ = false := (h.same e).frozen j
set_option maxRecDepth 100000 in
set_option maxHeartbeats 8000000 in
theorem refSplit_any (N : Nat) (w : World) (v : Value) (b : List UInt8) (id : Nat) (size : Int) (hN : N ≤ w.heap.size) (h : InB N w v b) (hb : b.length ≤ 140737488351232) (hi : -9223372036854775808 ≤ size ∧ size ≤ 9223372036854775807) :
    Calls Try.prog 13 #[.int .u64 (id : Int), v, .int .i64 size] w (SEnd w (spR id size b)) := by
  have HR := Box'.mk (spR.eq_1 id size b)
  generalize spR id size b = R at *
  obtain ⟨va, vc, rfl, hvc⟩ := h.slice
  by_cases hs : size < 1
  · have e := HR.out
    rw [if_pos (.inl hs)] at e
    subst e
    clear HR h
    generalize b.length = bl at *
    go_enter Try.func13, Try.ntmps13
    go_wp2_with fail
    go_ret2
    exact ⟨_, [], rfl, OwnQ.nil _ _, rfl, Below.refl _ _⟩
  by_cases hs2 : 1024 < size
  · have e := HR.out
    rw [if_pos (.inr hs2)] at e
    subst e
    clear HR h
    generalize b.length = bl at *
    go_enter Try.func13, Try.ntmps13
    go_wp2_with fail
    go_ret2
    exact ⟨_, [], rfl, OwnQ.nil _ _, rfl, Below.refl _ _⟩
  obtain ⟨z, rfl⟩ : ∃ z : Nat, size = (z : Int) := ⟨size.toNat, by omega⟩
  have hz1 : 1 ≤ z := by omega
  have hz2 : z ≤ 1024 := by omega
  have HR2 : Box' (R = if 256 * (z : Int) < b.length then ([], 4) else (spL id z b, 0)) := ⟨by rw [HR.out, if_neg (by omega)]; rfl⟩
  clear HR hs hs2 hi
  by_cases hl : 256 * z < b.length
  · have e := HR2.out
    rw [if_pos (by omega)] at e
    subst e
    clear HR2 h
    generalize b.length = bl at *
    go_enter Try.func13, Try.ntmps13
    go_wp2_with fail
    go_ret2
    exact ⟨_, [], rfl, OwnQ.nil _ _, rfl, Below.refl _ _⟩
  have e := HR2.out
  rw [if_neg (by omega)] at e
  subst e
  clear HR2
  have HI := Box'.mk h
  have HN := Box'.mk hN
  have hbl : b.length ≤ 262144 := by omega
  obtain ⟨bl, hbq⟩ : ∃ bl, b.length = bl := ⟨_, rfl⟩
  have HBL := Box'.mk hbq
  rw [hbq] at hb hl hbl hvc ⊢
  clear h hbq hN
  obtain ⟨w0, hw0⟩ : ∃ w0, w0 = w.alloc (.cells (prC ⟨id, 0, false, []⟩ (.slice none 0 0)).toArray 25) := ⟨_, rfl⟩
  have HQ0 : Box' (OwnQ w.heap.size w0 (.slice (some ⟨w.heap.size, 0, none⟩) 1 1) [(⟨id, 0, false, []⟩, .slice none 0 0)]) := ⟨by rw [hw0]; exact own1 w w.heap.size id (Nat.le_refl _)⟩
  have HB0 : Box' (Below w.heap.size w w0) := ⟨by rw [hw0]; exact (Below.refl _ _).alloc (Nat.le_refl _) _⟩
  simp only [prC] at hw0
  go_enter Try.func13, Try.ntmps13
  go_wp2_with fail
  rw [← hw0]
  clear hw0
  go_loopw [8, 9] (fun u iv wr => ∃ (i k : Nat) (d : List UInt8) (vd : Value) (A : List (Prt × Value)) (gq cq : Nat), iv = .int .i64 (i : Int) ∧ u = .slice (some ⟨gq, 0, none⟩) (k + 1) cq ∧ i ≤ bl ∧ k ≤ 262144 ∧ Box' (A.length = k) ∧ Box' (k * z + d.length = i ∧ d.length ≤ z ∧ (k = 0 ∨ 0 < d.length)) ∧ Box' (d = (b.take i).drop (k * z)) ∧ Box' (A.map (·.1) = fulP id z b k) ∧ Box' (OwnQ w.heap.size wr (.slice (some ⟨gq, 0, none⟩) (k + 1) cq) (A ++ [(⟨id, (k : Int), false, d⟩, vd)])) ∧ Box' (∀ p ∈ A, ∀ g, p.2.ownBlock = some g → vd.ownBlock ≠ some g) ∧ Box' (Below w.heap.size w wr)) (fun _ iv _ => bl - (intOf iv).toNat)
  case atStart => exact ⟨0, 0, [], _, [], _, 1, rfl, rfl, by omega, by omega, ⟨rfl⟩, ⟨by simp, by simp, .inl rfl⟩, ⟨by simp⟩, ⟨rfl⟩, HQ0, ⟨fun p hp => by cases hp⟩, HB0⟩
  case round =>
    clear HQ0 HB0
    obtain ⟨i, k, d, vd, A, gq, cq, rfl, rfl, hi, hk, HAL, HKZ, HD, HAM, HQ, HDS, HB⟩ := hrel
    have hob : OwnB w.heap.size wr vd d := HQ.out.own _ (by simp : ((⟨id, (k : Int), false, d⟩ : Prt), vd) ∈ _)
    obtain ⟨av, cv, hvd⟩ := hob.slice
    subst hvd
    have HOB := Box'.mk hob
    obtain ⟨cur, HRQ⟩ : ∃ cur, Box' (Row wr gq 25 cur) := by
      obtain ⟨_, cur, r⟩ := HQ.out.lt gq rfl
      exact ⟨cur, ⟨r⟩⟩
    have hrg : wr.rangeAt gq (k * 4) (prC ⟨id, (k : Int), false, d⟩ (.slice av d.length cv)) := by
      obtain ⟨g', c', e, _, r⟩ := HQ.out.at (k := k) (by simp; have := HAL.out; omega)
      injection e with e1
      injection e1 with e1
      injection e1 with e1
      subst e1
      have e2 : (A ++ [((⟨id, (k : Int), false, d⟩ : Prt), Value.slice av d.length cv)])[k]'(by simp; have := HAL.out; omega) = (⟨id, (k : Int), false, d⟩, Value.slice av d.length cv) := by
        rw [List.getElem_append_right (by have := HAL.out; omega)]
        simp [HAL.out]
      rw [e2] at r
      exact r
    have c2 : wr.cell? ⟨gq, k * 4 + 2, none⟩ = some (.bool false) := hrg 2 _ rfl
    have c3 : wr.cell? ⟨gq, k * 4 + 3, none⟩ = some (.slice av d.length cv) := hrg 3 _ rfl
    have hkk : ((k + 1 : Nat) : Int) - 1 = (k : Int) := by omega
    have hki : (k : Int) + 1 - 1 = (k : Int) := by omega
    clear hrg hob
    by_cases hlt : i < bl
    · obtain ⟨gb, ob, rfl, _⟩ := InB.some (HBL.out ▸ HI.out : InB N w (.slice va bl vc) b) (by omega)
      obtain ⟨x, hx⟩ : ∃ x, x = b.getD i 0 := ⟨_, rfl⟩
      have HX := Box'.mk hx
      clear hx
      have HTK : Box' (b.take (i + 1) = b.take i ++ [x]) := ⟨by
        rw [HX.out, List.take_succ_eq_append_getElem (by rw [HBL.out]; exact hlt)]
        simp [show i < b.length by rw [HBL.out]; exact hlt]⟩
      by_cases hfull : d.length = z
      · have HFU := Box'.mk hfull
        generalize hdl : d.length = dl at *
        have HDL := Box'.mk hdl
        clear hdl
        have hf2 := hfull.symm
        clear hfull
        subst hf2
        obtain ⟨w4, hw4⟩ : ∃ w4, w4 = wr.alloc (.cells (prC ⟨id, ((k + 1 : Nat) : Int), false, []⟩ (.slice none 0 0)).toArray 25) := ⟨_, rfl⟩
        have b4 : Below wr.heap.size wr w4 := by rw [hw4]; exact (Below.refl _ _).alloc (Nat.le_refl _) _
        have r4 : Row w4 wr.heap.size 25 (prC ⟨id, ((k + 1 : Nat) : Int), false, []⟩ (.slice none 0 0)).toArray := by rw [hw4]; exact Row.new _ _ _
        have HQ4 := Box'.mk (HQ.out.below b4)
        have HQ4sz := Box'.mk b4.size
        have R4 := Box'.mk r4
        have hz4 : w.heap.size ≤ w4.heap.size := Nat.le_trans HB.out.size b4.size
        have HB4 : Box' (Below w.heap.size w w4) := ⟨HB.out.trans (b4.mono HB.out.size)⟩
        have hmx : (A ++ [((⟨id, (k : Int), false, d⟩ : Prt), Value.slice av z cv)]).length + 1 ≤ 300000 := by simp [HAL.out]; omega
        simp only [prC] at hw4 R4
        clear b4 r4
        go_upto_region 11 with (first
          | (refine wpList_appQ rfl (.tmp 40) (.tmp 45) rfl w.heap.size (hw4 ▸ hz4) _ _ rfl (hw4 ▸ HQ4.out) ⟨id, ((k + 1 : Nat) : Int), false, []⟩ _ (OwnB.nil _ _) _ _ rfl (hw4 ▸ R4.out) hmx ?_; intro v5 w5 o5 g5; have O5 := Box'.mk o5; have G5 : Box' (w4.grownBy w5 (Value.ownBlock (.slice (some ⟨gq, 0, none⟩) (k + 1) cq))) := ⟨by rw [hw4]; exact g5⟩; clear o5 g5))
        clear hw4 hmx hz4
        obtain ⟨g5, c5, hv5, _, _⟩ := O5.out.at (k := 0) (by simp)
        rw [show (A ++ [((⟨id, (k : Int), false, d⟩ : Prt), Value.slice av z cv)] ++ [((⟨id, ((k + 1 : Nat) : Int), false, []⟩ : Prt), Value.slice none 0 0)]).length = k + 1 + 1 by simp [HAL.out]] at hv5
        subst hv5
        have OQ := O5
        have HALY := HAL
        have HBX : Box' (Below w.heap.size w w5) := ⟨HB4.out.trans (HQ4.out.rest (Nat.le_trans HB.out.size HQ4sz.out) G5.out)⟩
        have HALX : Box' ((A ++ [((⟨id, (k : Int), false, d⟩ : Prt), Value.slice av z cv)]).length = k + 1) := ⟨by simp [HAL.out]⟩
        have HDX : Box' (∀ p ∈ A ++ [((⟨id, (k : Int), false, d⟩ : Prt), Value.slice av z cv)], ∀ g, p.2.ownBlock = some g → Value.ownBlock (.slice none 0 0) ≠ some g) := ⟨fun p _ g _ h => by simp [Value.ownBlock] at h⟩
        have HKX : Box' ((k + 1) * z + ([] : List UInt8).length = i ∧ ([] : List UInt8).length < z) := ⟨by have := HKZ.out; rw [Nat.succ_mul]; simp; omega⟩
        have HDD : Box' (([] : List UInt8) = (b.take i).drop ((k + 1) * z)) := ⟨by
          symm
          apply List.drop_eq_nil_of_le
          rw [List.length_take]
          have := HKX.out
          simp only [List.length_nil] at this
          omega⟩
        have HAMX : Box' ((A ++ [((⟨id, (k : Int), false, d⟩ : Prt), Value.slice av z cv)]).map (·.1) = fulP id z b (k + 1)) := ⟨by
          rw [List.map_append, HAM.out, fulP_succ]
          congr 1
          simp only [List.map_cons, List.map_nil, List.cons.injEq, and_true, Prt.mk.injEq, true_and]
          rw [HD.out, List.drop_take]
          congr 1
          have := HKZ.out
          omega⟩
        clear HQ HB HAL HKZ HD HAM HDS HOB HRQ c2 c3 HQ4 HB4 G5 R4 HDL HFU hkk hki
        have HRW : Box' (w5.ownsRow w.heap.size 25 4 (.slice (some ⟨g5, 0, none⟩) ((k + 1) + 1) c5) ((k + 1) + 1) (((A ++ [((⟨id, (k : Int), false, d⟩ : Prt), Value.slice av z cv)]) ++ [((⟨id, (((k + 1) : Nat) : Int), false, ([] : List UInt8)⟩ : Prt), Value.slice none 0 0)]).flatMap fun p => prC p.1 p.2)) := ⟨by have := OQ.out.row; rw [show ((A ++ [((⟨id, (k : Int), false, d⟩ : Prt), Value.slice av z cv)]) ++ [((⟨id, (((k + 1) : Nat) : Int), false, ([] : List UInt8)⟩ : Prt), Value.slice none 0 0)]).length = (k + 1) + 1 by simp [HALX.out, HALY.out]] at this; exact this⟩
        have HOB5 : Box' (OwnB w.heap.size w5 (.slice none 0 0) ([] : List UInt8)) := ⟨OQ.out.own _ (by simp : ((⟨id, (((k + 1) : Nat) : Int), false, ([] : List UInt8)⟩ : Prt), Value.slice none 0 0) ∈ _)⟩
        obtain ⟨cur5, HR5⟩ : ∃ cur, Box' (Row w5 g5 25 cur) := by
          obtain ⟨_, cur, r⟩ := OQ.out.lt g5 rfl
          exact ⟨cur, ⟨r⟩⟩
        have hne5 : some g5 ≠ Value.ownBlock (.slice none 0 0) := fun e => own_ne HOB5.out HR5.out (by decide) g5 e.symm rfl
        have hsame : ∀ w1, w5.grownBy w1 (Value.ownBlock (.slice none 0 0)) → w1.heap[g5]? = w5.heap[g5]? := fun w1 hg => hg.block g5 HR5.out.lt hne5
        have hcl5 : w5.cell? ⟨g5, (k + 1) * 4 + 3, none⟩ = some (.slice none 0 0) := by
          obtain ⟨g', c', e, _, r⟩ := OQ.out.at (k := (k + 1)) (by simp [HALX.out, HALY.out])
          injection e with e1
          injection e1 with e1
          injection e1 with e1
          subst e1
          have e2 : ((A ++ [((⟨id, (k : Int), false, d⟩ : Prt), Value.slice av z cv)]) ++ [((⟨id, (((k + 1) : Nat) : Int), false, ([] : List UInt8)⟩ : Prt), Value.slice none 0 0)])[(k + 1)]'(by simp [HALX.out, HALY.out]) = (⟨id, (((k + 1) : Nat) : Int), false, ([] : List UInt8)⟩, Value.slice none 0 0) := by
            rw [List.getElem_append_right (by have := HALX.out; omega)]
            simp [HALX.out, HALY.out]
          rw [e2] at r
          exact r 3 _ rfl
        have hCL : ∀ w1, w5.grownBy w1 (Value.ownBlock (.slice none 0 0)) → w1.cell? ⟨g5, (k + 1) * 4 + 3, none⟩ = some (.slice none 0 0) := fun w1 hg => by
          have := hcl5
          simp only [World.cell?, hsame w1 hg] at *
          exact this
        have hFZ : ∀ w1, w5.grownBy w1 (Value.ownBlock (.slice none 0 0)) → ∀ j, w1.frozen? ⟨g5, j, none⟩ = false := fun w1 hg j => HR5.out.frz (hsame w1 hg) j
        have hBY : ∀ w1, w5.grownBy w1 (Value.ownBlock (.slice none 0 0)) → w1.cell? ⟨gb, ob + i, none⟩ = some (.int .u8 (x.toNat : Int)) := fun w1 hg => by
          obtain ⟨g', o', c', e, hgN, hc⟩ := HI.out.cell (k := i) (by rw [HBL.out]; exact hlt)
          injection e with e1
          injection e1 with e1
          injection e1 with e1 e2
          subst e1 e2
          have h1 := hc i (by rw [HBL.out]; exact hlt)
          rw [← HX.out] at h1
          have hgw : gb < w.heap.size := Nat.lt_of_lt_of_le hgN HN.out
          have h2 : w5.heap[gb]? = w.heap[gb]? := HBX.out.block gb hgw
          have h3 : w1.heap[gb]? = w5.heap[gb]? := hg.block gb (Nat.lt_of_lt_of_le hgw HBX.out.size) (fun e => by have := (HOB5.out.lt gb e.symm).1; omega)
          simp only [World.cell?, h3, h2] at *
          exact h1
        have hk3 : (k + 1) ≤ 262144 := Nat.le_trans (Nat.le_mul_of_pos_right (k + 1) hz1) (by have := HKX.out; omega)
        have hk2 : (k + 1) ≤ 262145 := by omega
        refine wp_mono (rsReg w.heap.size g5 ((k + 1)) c5 gb ob bl vc i 0 0 none x ([] : List UInt8) _ _ _ _ _ _ _ _ _ _ _ _ _ _ _ _ _ _ _ _ _ _ _ _ _ _ _ _ _ _ _ _ _ _ _ _ _ _ _ _ _ _ _ _ _ _ _ _ _ _ _ _ _ _ _ _ _ _ _ _ _ _ _ _ _ _ _ _ _ _ _ hk2 hlt HBX.out.size HOB5.out hCL hFZ hBY (by have := HKX.out; omega)) ?_
        rintro r a' w7 ⟨rfl, v47, v48, v49, v50, v51, v52, v53, v54, v55, v56, v57, v58, v59, v60, v61, v62, v63, v64, v65, rfl, vd6, w6, g6, o6, hw6, rfl⟩
        clear hCL hFZ hBY hcl5
        have r6 : Row w6 g5 25 cur5 := HR5.out.same (hsame w6 g6)
        have HQ7 : Box' (OwnQ w.heap.size (w6.setCell ⟨g5, (k + 1) * 4 + 3, none⟩ vd6) (.slice (some ⟨g5, 0, none⟩) ((k + 1) + 1) c5) ((A ++ [((⟨id, (k : Int), false, d⟩ : Prt), Value.slice av z cv)]) ++ [(⟨id, (((k + 1) : Nat) : Int), false, ([] : List UInt8) ++ [x]⟩, vd6)])) := ⟨by
          have hr6 := owns_same HRW.out rfl (hsame w6 g6)
          have e0 : (k + 1) = (A ++ [((⟨id, (k : Int), false, d⟩ : Prt), Value.slice av z cv)]).length := HALX.out.symm
          have hset : ∀ q ∈ (A ++ [((⟨id, (k : Int), false, d⟩ : Prt), Value.slice av z cv)]) ++ [((⟨id, (((k + 1) : Nat) : Int), false, ([] : List UInt8) ++ [x]⟩ : Prt), vd6)], OwnB w.heap.size (w6.setCell ⟨g5, (k + 1) * 4 + 3, none⟩ vd6) q.2 q.1.d := fun q hq => by
            have hq6 : OwnB w.heap.size w6 q.2 q.1.d := by
              rcases List.mem_append.1 hq with hq | hq
              · have o5 := OQ.out.own q (List.mem_append.2 (.inl hq))
                refine o5.same fun g hg => ?_
                obtain ⟨_, cur, rr⟩ := o5.lt g hg
                exact g6.block g rr.lt (fun e => HDX.out q hq g hg e.symm)
              · rw [List.mem_singleton] at hq
                subst hq
                exact o6
            exact hq6.same fun g hg => Below.heap_setCell _ _ _ _ (own_ne hq6 r6 (by decide) g hg)
          rw [e0] at hr6 hset ⊢
          exact OwnQ.setLast hr6 rfl 3 (by omega) vd6 rfl hset⟩
        have HDS7 : Box' (∀ p ∈ (A ++ [((⟨id, (k : Int), false, d⟩ : Prt), Value.slice av z cv)]), ∀ g, p.2.ownBlock = some g → vd6.ownBlock ≠ some g) := ⟨fun p hp g hg he => by
          rcases hw6 with h | h
          · exact HDX.out p hp g hg (by rw [← h]; exact he)
          · have h1 := h g he
            obtain ⟨_, cur, rr⟩ := (OQ.out.own p (List.mem_append.2 (.inl hp))).lt g hg
            have := rr.lt
            omega⟩
        have HB7 : Box' (Below w.heap.size w (w6.setCell ⟨g5, (k + 1) * 4 + 3, none⟩ vd6)) := ⟨by
          have hb6 : Below w.heap.size w w6 := ⟨g6.os.trans HBX.out.os, g6.tape.trans HBX.out.tape, g6.output.trans HBX.out.output, Nat.le_trans HBX.out.size g6.size, fun k hk => (g6.block k (Nat.lt_of_lt_of_le hk HBX.out.size) (fun e => by have := (HOB5.out.lt k e.symm).1; omega)).trans (HBX.out.block k hk)⟩
          exact hb6.setCell (p := ⟨g5, (k + 1) * 4 + 3, none⟩) (OQ.out.lt g5 rfl).1 _⟩
        have HKZ7 : Box' ((k + 1) * z + (([] : List UInt8) ++ [x]).length = i + 1 ∧ (([] : List UInt8) ++ [x]).length ≤ z ∧ ((k + 1) = 0 ∨ 0 < (([] : List UInt8) ++ [x]).length)) := ⟨by have := HKX.out; rw [List.length_append, List.length_singleton]; omega⟩
        have HD7 : Box' (([] : List UInt8) ++ [x] = (b.take (i + 1)).drop ((k + 1) * z)) := ⟨by
          rw [HTK.out, List.drop_append_of_le_length (by rw [List.length_take, HBL.out]; have := HKX.out; omega), ← HDD.out]⟩
        generalize hw8 : w6.setCell ⟨g5, (k + 1) * 4 + 3, none⟩ vd6 = w8 at *
        clear hw8 g6 o6 hw6 r6 hne5 hsame HRW HOB5 HR5
        go_wp2_with fail
        exact ⟨⟨i + 1, (k + 1), ([] : List UInt8) ++ [x], vd6, (A ++ [((⟨id, (k : Int), false, d⟩ : Prt), Value.slice av z cv)]), g5, c5, by go_num, rfl, by omega, by omega, HALX, HKZ7, HD7, HAMX, HQ7, HDS7, HB7⟩, by simp [intOf]; omega⟩
      · generalize hdl : d.length = dl at *
        have HDL := Box'.mk hdl
        clear hdl
        have hneq : ¬ ((dl : Int) = (z : Int)) := by omega
        go_upto_region 11 with fail
        have OQ := HQ
        have HALY := HAL
        have HBX := HB
        have HALX := HAL
        have HDX := HDS
        have HKX : Box' (k * z + d.length = i ∧ d.length < z) := ⟨by have := HKZ.out; have := HDL.out; omega⟩
        have HDD := HD
        have HAMX := HAM
        clear HQ HB HAL HKZ HD HAM HDS HOB HRQ c2 c3 hkk hki hneq
        have HRW : Box' (wr.ownsRow w.heap.size 25 4 (.slice (some ⟨gq, 0, none⟩) (k + 1) cq) (k + 1) ((A ++ [((⟨id, ((k : Nat) : Int), false, d⟩ : Prt), Value.slice av dl cv)]).flatMap fun p => prC p.1 p.2)) := ⟨by have := OQ.out.row; rw [show (A ++ [((⟨id, ((k : Nat) : Int), false, d⟩ : Prt), Value.slice av dl cv)]).length = k + 1 by simp [HALX.out, HALY.out]] at this; exact this⟩
        have HOB5 : Box' (OwnB w.heap.size wr (.slice av dl cv) d) := ⟨OQ.out.own _ (by simp : ((⟨id, ((k : Nat) : Int), false, d⟩ : Prt), Value.slice av dl cv) ∈ _)⟩
        obtain ⟨cur5, HR5⟩ : ∃ cur, Box' (Row wr gq 25 cur) := by
          obtain ⟨_, cur, r⟩ := OQ.out.lt gq rfl
          exact ⟨cur, ⟨r⟩⟩
        have hne5 : some gq ≠ Value.ownBlock (.slice av dl cv) := fun e => own_ne HOB5.out HR5.out (by decide) gq e.symm rfl
        have hsame : ∀ w1, wr.grownBy w1 (Value.ownBlock (.slice av dl cv)) → w1.heap[gq]? = wr.heap[gq]? := fun w1 hg => hg.block gq HR5.out.lt hne5
        have hcl5 : wr.cell? ⟨gq, k * 4 + 3, none⟩ = some (.slice av dl cv) := by
          obtain ⟨g', c', e, _, r⟩ := OQ.out.at (k := k) (by simp [HALX.out, HALY.out])
          injection e with e1
          injection e1 with e1
          injection e1 with e1
          subst e1
          have e2 : (A ++ [((⟨id, ((k : Nat) : Int), false, d⟩ : Prt), Value.slice av dl cv)])[k]'(by simp [HALX.out, HALY.out]) = (⟨id, ((k : Nat) : Int), false, d⟩, Value.slice av dl cv) := by
            rw [List.getElem_append_right (by have := HALX.out; omega)]
            simp [HALX.out, HALY.out]
          rw [e2] at r
          exact r 3 _ rfl
        have hCL : ∀ w1, wr.grownBy w1 (Value.ownBlock (.slice av dl cv)) → w1.cell? ⟨gq, k * 4 + 3, none⟩ = some (.slice av dl cv) := fun w1 hg => by
          have := hcl5
          simp only [World.cell?, hsame w1 hg] at *
          exact this
        have hFZ : ∀ w1, wr.grownBy w1 (Value.ownBlock (.slice av dl cv)) → ∀ j, w1.frozen? ⟨gq, j, none⟩ = false := fun w1 hg j => HR5.out.frz (hsame w1 hg) j
        have hBY : ∀ w1, wr.grownBy w1 (Value.ownBlock (.slice av dl cv)) → w1.cell? ⟨gb, ob + i, none⟩ = some (.int .u8 (x.toNat : Int)) := fun w1 hg => by
          obtain ⟨g', o', c', e, hgN, hc⟩ := HI.out.cell (k := i) (by rw [HBL.out]; exact hlt)
          injection e with e1
          injection e1 with e1
          injection e1 with e1 e2
          subst e1 e2
          have h1 := hc i (by rw [HBL.out]; exact hlt)
          rw [← HX.out] at h1
          have hgw : gb < w.heap.size := Nat.lt_of_lt_of_le hgN HN.out
          have h2 : wr.heap[gb]? = w.heap[gb]? := HBX.out.block gb hgw
          have h3 : w1.heap[gb]? = wr.heap[gb]? := hg.block gb (Nat.lt_of_lt_of_le hgw HBX.out.size) (fun e => by have := (HOB5.out.lt gb e.symm).1; omega)
          simp only [World.cell?, h3, h2] at *
          exact h1
        have hk3 : k ≤ 262144 := hk
        have hk2 : k ≤ 262145 := by omega
        refine wp_mono (rsReg w.heap.size gq (k) cq gb ob bl vc i dl cv av x d _ _ _ _ _ _ _ _ _ _ _ _ _ _ _ _ _ _ _ _ _ _ _ _ _ _ _ _ _ _ _ _ _ _ _ _ _ _ _ _ _ _ _ _ _ _ _ _ _ _ _ _ _ _ _ _ _ _ _ _ _ _ _ _ _ _ _ _ _ _ _ hk2 hlt HBX.out.size HOB5.out hCL hFZ hBY (by have := HKX.out; omega)) ?_
        rintro r a' w7 ⟨rfl, v47, v48, v49, v50, v51, v52, v53, v54, v55, v56, v57, v58, v59, v60, v61, v62, v63, v64, v65, rfl, vd6, w6, g6, o6, hw6, rfl⟩
        clear hCL hFZ hBY hcl5
        have r6 : Row w6 gq 25 cur5 := HR5.out.same (hsame w6 g6)
        have HQ7 : Box' (OwnQ w.heap.size (w6.setCell ⟨gq, k * 4 + 3, none⟩ vd6) (.slice (some ⟨gq, 0, none⟩) (k + 1) cq) (A ++ [(⟨id, ((k : Nat) : Int), false, d ++ [x]⟩, vd6)])) := ⟨by
          have hr6 := owns_same HRW.out rfl (hsame w6 g6)
          have e0 : k = A.length := HALX.out.symm
          have hset : ∀ q ∈ A ++ [((⟨id, ((k : Nat) : Int), false, d ++ [x]⟩ : Prt), vd6)], OwnB w.heap.size (w6.setCell ⟨gq, k * 4 + 3, none⟩ vd6) q.2 q.1.d := fun q hq => by
            have hq6 : OwnB w.heap.size w6 q.2 q.1.d := by
              rcases List.mem_append.1 hq with hq | hq
              · have o5 := OQ.out.own q (List.mem_append.2 (.inl hq))
                refine o5.same fun g hg => ?_
                obtain ⟨_, cur, rr⟩ := o5.lt g hg
                exact g6.block g rr.lt (fun e => HDX.out q hq g hg e.symm)
              · rw [List.mem_singleton] at hq
                subst hq
                exact o6
            exact hq6.same fun g hg => Below.heap_setCell _ _ _ _ (own_ne hq6 r6 (by decide) g hg)
          rw [e0] at hr6 hset ⊢
          exact OwnQ.setLast hr6 rfl 3 (by omega) vd6 rfl hset⟩
        have HDS7 : Box' (∀ p ∈ A, ∀ g, p.2.ownBlock = some g → vd6.ownBlock ≠ some g) := ⟨fun p hp g hg he => by
          rcases hw6 with h | h
          · exact HDX.out p hp g hg (by rw [← h]; exact he)
          · have h1 := h g he
            obtain ⟨_, cur, rr⟩ := (OQ.out.own p (List.mem_append.2 (.inl hp))).lt g hg
            have := rr.lt
            omega⟩
        have HB7 : Box' (Below w.heap.size w (w6.setCell ⟨gq, k * 4 + 3, none⟩ vd6)) := ⟨by
          have hb6 : Below w.heap.size w w6 := ⟨g6.os.trans HBX.out.os, g6.tape.trans HBX.out.tape, g6.output.trans HBX.out.output, Nat.le_trans HBX.out.size g6.size, fun k hk => (g6.block k (Nat.lt_of_lt_of_le hk HBX.out.size) (fun e => by have := (HOB5.out.lt k e.symm).1; omega)).trans (HBX.out.block k hk)⟩
          exact hb6.setCell (p := ⟨gq, k * 4 + 3, none⟩) (OQ.out.lt gq rfl).1 _⟩
        have HKZ7 : Box' (k * z + (d ++ [x]).length = i + 1 ∧ (d ++ [x]).length ≤ z ∧ (k = 0 ∨ 0 < (d ++ [x]).length)) := ⟨by have := HKX.out; rw [List.length_append, List.length_singleton]; omega⟩
        have HD7 : Box' (d ++ [x] = (b.take (i + 1)).drop (k * z)) := ⟨by
          rw [HTK.out, List.drop_append_of_le_length (by rw [List.length_take, HBL.out]; have := HKX.out; omega), ← HDD.out]⟩
        generalize hw8 : w6.setCell ⟨gq, k * 4 + 3, none⟩ vd6 = w8 at *
        clear hw8 g6 o6 hw6 r6 hne5 hsame HRW HOB5 HR5
        go_wp2_with fail
        exact ⟨⟨i + 1, k, d ++ [x], vd6, A, gq, cq, by go_num, rfl, by omega, by omega, HALX, HKZ7, HD7, HAMX, HQ7, HDS7, HB7⟩, by simp [intOf]; omega⟩
    · obtain rfl : i = bl := by omega
      have hown2 : ∀ q ∈ A ++ [((⟨id, (k : Int), true, d⟩ : Prt), Value.slice av d.length cv)], OwnB w.heap.size (wr.setCell ⟨gq, k * 4 + 2, none⟩ (.bool true)) q.2 q.1.d := fun q hq => by
        have hq6 : OwnB w.heap.size wr q.2 q.1.d := by
          rcases List.mem_append.1 hq with hq | hq
          · exact HQ.out.own q (List.mem_append.2 (.inl hq))
          · rw [List.mem_singleton] at hq
            subst hq
            exact HOB.out
        exact hq6.same fun g hg => Below.heap_setCell _ _ _ _ (own_ne hq6 HRQ.out (by decide) g hg)
      have HQE : Box' (OwnQ w.heap.size (wr.setCell ⟨gq, k * 4 + 2, none⟩ (.bool true)) (.slice (some ⟨gq, 0, none⟩) (k + 1) cq) (A ++ [((⟨id, (k : Int), true, d⟩ : Prt), Value.slice av d.length cv)])) := ⟨by
        have hr6 := HQ.out.row
        rw [show (A ++ [((⟨id, (k : Int), false, d⟩ : Prt), Value.slice av d.length cv)]).length = k + 1 by simp [HAL.out]] at hr6
        have e0 : k = A.length := HAL.out.symm
        rw [e0] at hr6 hown2 ⊢
        exact OwnQ.setLast hr6 rfl 2 (by omega) (.bool true) rfl hown2⟩
      have HBE : Box' (Below w.heap.size w (wr.setCell ⟨gq, k * 4 + 2, none⟩ (.bool true))) := ⟨HB.out.setCell (p := ⟨gq, k * 4 + 2, none⟩) (HQ.out.lt gq rfl).1 _⟩
      have HLE : Box' ((A ++ [((⟨id, (k : Int), true, d⟩ : Prt), Value.slice av d.length cv)]).map (·.1) = spL id z b) := ⟨by
        have h1 := HKZ.out
        have h2 := HD.out
        rw [← HBL.out, List.take_length] at h2
        rw [spL_ful (k := k) hz1 (by rw [HBL.out]; omega) (by rw [HBL.out]; omega) (by rw [HBL.out]; omega), List.map_append, HAM.out, h2]
        rfl⟩
      have ff := HRQ.out.frozen
      clear hown2 HQ HB HKZ HD HAM HDS HOB HAL
      generalize d.length = dl at *
      go_wp2_with fail
      go_ret2
      exact ⟨_, _, rfl, HQE.out, HLE.out, HBE.out⟩
end Go.Proofs.Ythmcmdojnnbefaa
