/- Halves that stand alone: the closures; rows that are whole; mending. -/
import Derived.Test.YtnbonlkmadmpcaaNf
namespace Go.Proofs.Ytnbonlkmadmpcaa
open Go.RowKit Go.BigFrame
set_option linter.unusedVariables false
set_option linter.unusedSimpArgs false
theorem pair_any (p b x n c : Nat) (r : List Cl) (i : Int) (h1 : -2 < i) (h2 : i < 1000000) (w : World) (hn : n ≤ 1000000) (hr : RowM w p b x n c r) :
  Calls Try.prog 59 #[.int .i64 i, .pointer (some ⟨p, 0, none⟩)] w fun e w' => e = .returned (.bool (prF r i)) ∧ Below w.heap.size w w' := by
 by_cases h : 0 ≤ i ∧ i + 1 < (n : Int)
 ·obtain ⟨k, rfl⟩ : ∃ k : Nat, i = (k : Int) := ⟨i.toNat, by omega⟩
  have e : prF r (k : Int) = (decide ((cat r k).wd = 2) && (decide ((cat r (k + 1)).wd = 0) && stB (cat r k).st (cat r (k + 1)).st)) := by
   unfold prF
   rw [hr.len, decide_eq_true h, Int.toNat_natCast, Bool.true_and]
  rw [e]
  exact pair_in p b x n c r k (by omega) w hn hr
 ·have e : prF r i = false := by
   unfold prF
   rw [hr.len, decide_eq_false h, Bool.false_and]
  rw [e]
  exact pair_out p b x n c r i h h1 h2 w hn hr
/-- The closure that tells which place of a row has half a character alone. -/
structure LnM (w : World) (p q b x n c : Nat) (r : List Cl) : Prop where
 row : RowM w p b x n c r
 fn : Row w q 56 #[.func (.func 59) #[] #[.pointer (some ⟨p, 0, none⟩)]]
theorem LnM.below {w w' : World} {p q b x n c : Nat} {r : List Cl} (h : LnM w p q b x n c r) (hb : Below w.heap.size w w') : LnM w' p q b x n c r := ⟨h.row.below hb, h.fn.below hb h.fn.lt⟩
set_option maxRecDepth 100000 in
set_option maxHeartbeats 8000000 in
theorem lone_any (p q b x n c : Nat) (r : List Cl) (i : Nat) (hi : i < n) (w : World) (hn : n ≤ 1000000) (h : LnM w p q b x n c r) :
  Calls Try.prog 60 #[.int .i64 (i : Int), .pointer (some ⟨p, 0, none⟩), .pointer (some ⟨q, 0, none⟩)] w fun e w' => e = .returned (.bool (bad r i)) ∧ Below w.heap.size w w' := by
 have c0 : w.cell? ⟨p, 0, none⟩ = some (.slice (some ⟨b, x, none⟩) n c) := h.row.box.cell 0
 have d0 : w.cell? ⟨q, 0, none⟩ = some (.func (.func 59) #[] #[.pointer (some ⟨p, 0, none⟩)]) := h.fn.cell 0
 have e4 := h.row.wide i hi
 have E := Box'.mk (bad_pr r i (by rw [h.row.len]; exact hi))
 have P0 := Box'.mk (pair_any p b x n c r (i : Int) (by omega) (by omega) w hn h.row)
 have P1 := Box'.mk (pair_any p b x n c r ((i : Int) - 1) (by omega) (by omega) w hn h.row)
 clear h
 by_cases h2 : ((cat r i).wd : Int) = 2
 ·have E2 : Box' (bad r i = !prF r (i : Int)) := ⟨by rw [E.out, if_pos (by omega)]⟩
  rw [h2] at e4
  clear E P1 h2
  generalize prF r (i : Int) = v at *
  go_enter Try.func60, Try.ntmps60
  go_wp2_with fail
  refine P0.out.mono ?_
  rintro e w2 ⟨rfl, hb2⟩
  have B2 := Box'.mk hb2
  clear hb2
  go_wp2_with fail
  go_ret
  exact ⟨by rw [E2.out]; rfl, B2.out⟩
 ·by_cases h0 : ((cat r i).wd : Int) = 0
  ·have E2 : Box' (bad r i = !prF r ((i : Int) - 1)) := ⟨by rw [E.out, if_neg (by omega), if_pos (by omega)]⟩
   rw [h0] at e4
   clear E P0 h2 h0
   generalize prF r ((i : Int) - 1) = v at *
   go_enter Try.func60, Try.ntmps60
   go_wp2_with fail
   refine P1.out.mono ?_
   rintro e w2 ⟨rfl, hb2⟩
   have B2 := Box'.mk hb2
   clear hb2
   go_wp2_with fail
   go_ret
   exact ⟨by rw [E2.out]; rfl, B2.out⟩
  ·have E2 : Box' (bad r i = false) := ⟨by rw [E.out, if_neg (by omega), if_neg (by omega)]⟩
   generalize ((cat r i).wd : Int) = z at *
   clear E P0 P1
   go_enter Try.func60, Try.ntmps60
   go_wp2_with fail
   go_ret
   exact ⟨by rw [E2.out]; rfl, Below.refl _ _⟩
set_option maxRecDepth 100000 in
set_option maxHeartbeats 8000000 in
theorem loneIn_any (b x n c : Nat) (w : World) : Calls Try.prog 52 #[.slice (some ⟨b, x, none⟩) n c] w fun e w' => ∃ p q, e = .returned (.func (.func 60) #[] #[.pointer (some ⟨p, 0, none⟩), .pointer (some ⟨q, 0, none⟩)]) ∧ w.heap.size ≤ p ∧ w.heap.size ≤ q ∧
   Row w' p 22 #[.slice (some ⟨b, x, none⟩) n c] ∧ Row w' q 56 #[.func (.func 59) #[] #[.pointer (some ⟨p, 0, none⟩)]] ∧ Below w.heap.size w w' := by
 have hmf : ∀ (fn : Fn) (first cap : Array Value) (w : World), (Instr.makeFunc fn first cap).run Try.prog w = .ok (.func fn first cap) w := fun _ _ _ _ => rfl
 have R2 : Row ((w.alloc (.cells #[.slice (some ⟨b, x, none⟩) n c] 22)).alloc (.cells #[.nilFunc] 56)) (w.heap.size + 1) 56 #[.nilFunc] := Row.made _ _ _ _ _ rfl (by simp)
 have R1 : Row ((w.alloc (.cells #[.slice (some ⟨b, x, none⟩) n c] 22)).alloc (.cells #[.nilFunc] 56)) w.heap.size 22 #[.slice (some ⟨b, x, none⟩) n c] := (Row.new _ _ _).alloc _
 have B2 : Below w.heap.size w ((w.alloc (.cells #[.slice (some ⟨b, x, none⟩) n c] 22)).alloc (.cells #[.nilFunc] 56)) := ((Below.refl w.heap.size w).alloc (Nat.le_refl _) _).alloc (by simp) _
 have hst : (store ⟨w.heap.size + 1, 0, none⟩ (.func (.func 59) #[] #[.pointer (some ⟨w.heap.size, 0, none⟩)])).run Try.prog ((w.alloc (.cells #[.slice (some ⟨b, x, none⟩) n c] 22)).alloc (.cells #[.nilFunc] 56)) = .ok () (((w.alloc (.cells #[.slice (some ⟨b, x, none⟩) n c] 22)).alloc (.cells #[.nilFunc] 56)).setCell ⟨w.heap.size + 1, 0, none⟩ (.func (.func 59) #[] #[.pointer (some ⟨w.heap.size, 0, none⟩)])) := by
  have hc : ((w.alloc (.cells #[.slice (some ⟨b, x, none⟩) n c] 22)).alloc (.cells #[.nilFunc] 56)).cell? ⟨w.heap.size + 1, 0, none⟩ = some .nilFunc := R2.cell 0
  have hf : ((w.alloc (.cells #[.slice (some ⟨b, x, none⟩) n c] 22)).alloc (.cells #[.nilFunc] 56)).frozen? ⟨w.heap.size + 1, 0, none⟩ = false := R2.frozen 0
  rw [run_store Try.prog _ _ _ _ rfl, hc, hf]
  rfl
 clear R1 B2 R2
 go_enter Try.func52, Try.ntmps52
 go_wp2_with fail
 go_ret
 exact ⟨_, _, rfl, Nat.le_refl _, Nat.le_succ _, (Row.new _ _ _).alloc _, Row.made _ _ _ _ _ rfl (by simp), ((Below.refl w.heap.size w).alloc (Nat.le_refl _) _).alloc (by simp) _⟩
/-- Does no half stand alone in a row? -/
def whF (r : List Cl) : Bool := (List.range r.length).all fun i => !bad r i
set_option maxRecDepth 100000 in
set_option maxHeartbeats 8000000 in
theorem isWhole_any (b x n c : Nat) (r : List Cl) (w : World) (hn : n ≤ 1000000) (hnc : n ≤ c) (hlen : r.length = n) (hb : b < w.heap.size) (hcl : ∀ k, k < n → ∀ j, j < 15 → w.cell? ⟨b, x + k * 15 + j, none⟩ = (cA (cat r k))[j]?) :
  Calls Try.prog 46 #[.slice (some ⟨b, x, none⟩) n c] w fun e w' => e = .returned (.bool (whF r)) ∧ Below w.heap.size w w' := by
 have LI := Box'.mk (loneIn_any b x n c w)
 have WT : Box' ((∀ i, i < n → bad r i = false) → whF r = true) := ⟨fun h => by
  unfold whF
  rw [List.all_eq_true]
  intro i hi
  rw [List.mem_range, hlen] at hi
  rw [h i hi]
  rfl⟩
 have WF : Box' (∀ i, i < n → bad r i = true → whF r = false) := ⟨fun i hi h => by
  unfold whF
  rw [List.all_eq_false]
  exact ⟨i, by rw [List.mem_range, hlen]; exact hi, by rw [h]; simp⟩⟩
 have LM : Box' (∀ wx p q, Below w.heap.size w wx → Row wx p 22 #[.slice (some ⟨b, x, none⟩) n c] → Row wx q 56 #[.func (.func 59) #[] #[.pointer (some ⟨p, 0, none⟩)]] → LnM wx p q b x n c r) := ⟨fun wx p q hbe h1 h2 => ⟨⟨h1, hlen, fun k hk j hj => by rw [hbe.cell (p := ⟨b, x + k * 15 + j, none⟩) hb]; exact hcl k hk j hj, Nat.lt_of_lt_of_le hb hbe.size⟩, h2⟩⟩
 have LO : Box' (∀ wx p q i, i < n → LnM wx p q b x n c r → Calls Try.prog 60 #[.int .i64 (i : Int), .pointer (some ⟨p, 0, none⟩), .pointer (some ⟨q, 0, none⟩)] wx fun e w' => e = .returned (.bool (bad r i)) ∧ Below wx.heap.size wx w') := ⟨fun wx p q i hi h => lone_any p q b x n c r i hi wx hn h⟩
 clear hcl hlen
 go_enter Try.func46, Try.ntmps46
 go_wp2_with fail
 refine LI.out.mono ?_
 rintro e w1 ⟨p, q, rfl, hp, hq, rp, rq, hb1⟩
 have L1 := Box'.mk (LM.out w1 p q hb1 rp rq)
 have B1 := Box'.mk hb1
 clear rp rq hb1 LI LM hp hq
 go_wp2_with fail
 go_loopw [9] (fun i wr => ∃ k : Nat, k ≤ n ∧ i = .int .i64 (k : Int) ∧ Box' (∀ i, i < k → bad r i = false) ∧ Box' (LnM wr p q b x n c r) ∧ Box' (Below w.heap.size w wr)) (fun i _ => n - (intOf i).toNat)
 case atStart => exact ⟨0, by omega, rfl, ⟨fun i hi => by omega⟩, L1, B1⟩
 case round =>
  obtain ⟨k, hk, rfl, OK, LL, BB⟩ := hrel
  clear L1 B1
  by_cases hlt : k < n
  case neg =>
   obtain rfl : k = n := by omega
   have E := Box'.mk (WT.out OK.out)
   go_wp2_with fail
   go_ret
   exact ⟨by rw [E.out]; rfl, BB.out⟩
  case pos =>
   have CA := Box'.mk (LO.out wr p q k hlt LL.out)
   cases hbd : bad r k with
   | true =>
    have E := Box'.mk (WF.out k hlt hbd)
    rw [hbd] at CA
    clear hbd
    go_wp2_with fail
    refine CA.out.mono ?_
    rintro e w2 ⟨rfl, hb2⟩
    have B2 := Box'.mk (BB.out.trans (hb2.mono BB.out.size))
    clear hb2
    go_wp2_with fail
    go_ret
    exact ⟨by rw [E.out]; rfl, B2.out⟩
   | false =>
    have OK2 : Box' (∀ i, i < k + 1 → bad r i = false) := ⟨fun i hi => by
     rcases Nat.lt_or_ge i k with q | q
     ·exact OK.out i q
     ·rw [show i = k by omega]; exact hbd⟩
    rw [hbd] at CA
    clear hbd
    go_wp2_with fail
    refine CA.out.mono ?_
    rintro e w2 ⟨rfl, hb2⟩
    have B2 := Box'.mk (BB.out.trans (hb2.mono BB.out.size))
    have L2 := Box'.mk (LL.out.below hb2)
    clear hb2
    go_wp2_with fail
    exact ⟨⟨k + 1, by omega, by go_num, OK2, L2, B2⟩, by simp [intOf]; omega⟩
theorem gd_app (a b : List Cl) (i : Nat) (d : Cl) (h : i < a.length) : (a ++ b).getD i d = a.getD i d := by
 rw [List.getD_eq_getElem?_getD, List.getElem?_append_left h, ← List.getD_eq_getElem?_getD]
theorem gd_appr (a b : List Cl) (i : Nat) (d : Cl) (h : a.length ≤ i) : (a ++ b).getD i d = b.getD (i - a.length) d := by
 rw [List.getD_eq_getElem?_getD, List.getElem?_append_right h, ← List.getD_eq_getElem?_getD]
/-- A row mended up to a place. -/
def mid (r : List Cl) (k : Nat) : List Cl := (mnd r).take k ++ r.drop k
theorem mid_len (r : List Cl) (k : Nat) (h : k ≤ r.length) : (mid r k).length = r.length := by
 unfold mid
 rw [List.length_append, List.length_take, mnd_len, List.length_drop]
 omega
theorem mid_cat (r : List Cl) (k i : Nat) (h : k ≤ r.length) : cat (mid r k) i = if i < k then mAt r i else cat r i := by
 unfold mid cat
 have hl : ((mnd r).take k).length = k := by rw [List.length_take, mnd_len]; omega
 split
 ·rename_i hi
  rw [gd_app _ _ _ _ (by omega)]
  have := mnd_at r i (by omega)
  unfold cat at this
  rw [← this]
  simp [List.getElem?_take_of_lt hi]
 ·rename_i hi
  rw [gd_appr _ _ _ _ (by omega), hl]
  simp [show k + (i - k) = i by omega]
theorem bad_mid (r : List Cl) (k : Nat) (hk : k < r.length) : bad (mid r k) k = bad r k := by
 have hl := mid_len r k (by omega)
 unfold bad
 rw [hl, mid_cat r k k (by omega), mid_cat r k (k + 1) (by omega), mid_cat r k (k - 1) (by omega), if_neg (by omega), if_neg (by omega)]
 by_cases h0 : k = 0
 ·subst h0; simp
 ·rw [if_pos (by omega)]
  congr 1
  by_cases hw : (cat r k).wd = 0
  ·have hs : k - 1 + 1 = k := by omega
   unfold mAt
   by_cases hb : bad r (k - 1) = true
   ·rw [if_pos hb]
    have hblw : ¬ (bl (cat r (k - 1)).st).wd = 2 := by show ¬ (1 : Nat) = 2; decide
    rw [decide_eq_true hblw]
    unfold bad at hb
    rw [hs] at hb
    by_cases h2 : (cat r (k - 1)).wd = 2
    ·simp only [h2, hw, decide_true, Bool.true_and, show ¬ (2 : Nat) = 0 by decide, decide_false, Bool.false_and, Bool.or_false, not_true, not_true_eq_false, decide_eq_false (show ¬ r.length ≤ k by omega), Bool.false_or] at hb
     rw [stB_comm] at hb
     simp [hb]
    ·simp [h2]
   ·rw [if_neg hb]
  ·rw [decide_eq_false hw]; simp
theorem mid_set (r : List Cl) (k : Nat) (hk : k < r.length) : (mid r k).set k (mAt r k) = mid r (k + 1) := by
 have hl : ((mnd r).take k).length = k := by rw [List.length_take, mnd_len]; omega
 have hm : (mnd r).take (k + 1) = (mnd r).take k ++ [mAt r k] := by
  rw [List.take_succ_eq_append_getElem (by rw [mnd_len]; exact hk)]
  congr 2
  have := mnd_at r k hk
  unfold cat at this
  rw [List.getD_eq_getElem?_getD, List.getElem?_eq_getElem (by rw [mnd_len]; exact hk)] at this
  exact this
 unfold mid
 rw [List.set_append_right _ _ (by omega), hl, Nat.sub_self, List.drop_eq_getElem_cons hk, stZ, hm]
 simp
theorem mid_keep (r : List Cl) (k : Nat) (hk : k < r.length) (hb : bad r k = false) : mid r (k + 1) = mid r k := by
 have e : mAt r k = cat r k := by unfold mAt; rw [hb]; rfl
 rw [← mid_set r k hk, e, show cat r k = cat (mid r k) k by rw [mid_cat r k k (by omega), if_neg (by omega)]]
 unfold cat
 rw [List.getD_eq_getElem?_getD, List.getElem?_eq_getElem (by rw [mid_len r k (by omega)]; exact hk)]
 exact List.set_getElem_self _
theorem mid_0 (r : List Cl) : mid r 0 = r := by simp [mid]
theorem mid_all (r : List Cl) : mid r r.length = mnd r := by
 unfold mid
 rw [List.take_of_length_le (by rw [mnd_len]; omega), List.drop_of_length_le (by omega), List.append_nil]
theorem lay_set (l : List Cl) (o : Nat) (m : List Cl) (k : Nat) (y : Cl) (hk : k < m.length) (h : o + m.length ≤ l.length) : (lay l o m).set (o + k) y = lay l o (m.set k y) := by
 unfold lay
 have hl : (l.take o).length = o := by rw [List.length_take]; omega
 rw [List.append_assoc, List.set_append_right _ _ (by omega), hl, Nat.add_sub_cancel_left, List.set_append_left _ _ hk, List.length_set, List.append_assoc]
theorem lay_get (l : List Cl) (o : Nat) (m : List Cl) (k : Nat) (hk : k < m.length) (h : o + m.length ≤ l.length) : (lay l o m).getD (o + k) (hf pl) = cat m k := by
 unfold lay cat
 have hl : (l.take o).length = o := by rw [List.length_take]; omega
 rw [List.append_assoc, gd_appr _ _ _ _ (by omega), hl, Nat.add_sub_cancel_left, gd_app _ _ _ _ hk]
theorem RC.rowM {w : World} {g : Nat} {l : List Cl} {sp : List Value} {o n c p : Nat} {m : List Cl} (h : RC w g (lay l o m) sp) (hm : m.length = n) (hl : o + n ≤ l.length) (hp : Row w p 22 #[.slice (some ⟨g, o * 15, none⟩) n c]) : RowM w p g (o * 15) n c m :=
 ⟨hp, hm, fun k hk j hj => by rw [← Nat.add_mul, h.cell (o + k) j (by rw [lay_len l o m (by omega)]; omega) hj, lay_get l o m k (by omega) (by omega)], h.lt⟩
theorem row_style {w : World} {g : Nat} {y : Cl} (h : Row w g 49 (cA y)) : w.rangeAt g 5 (sA y.st).toList := fun j v hv => by
 have hj : j < 10 := by have := (List.getElem?_eq_some_iff.1 hv).1; exact this
 rw [h.cell]
 have e : ∀ j, j < 10 → (cA y)[5 + j]? = (sA y.st).toList[j]? := by
  intro j hj
  rcases (show j = 0 ∨ j = 1 ∨ j = 2 ∨ j = 3 ∨ j = 4 ∨ j = 5 ∨ j = 6 ∨ j = 7 ∨ j = 8 ∨ j = 9 by omega) with rfl | rfl | rfl | rfl | rfl | rfl | rfl | rfl | rfl | rfl <;> rfl
 rw [e j hj]
 exact hv
set_option maxRecDepth 100000 in
set_option maxHeartbeats 8000000 in
theorem mend_any (b o n c : Nat) (l : List Cl) (sp : List Value) (r : List Cl) (w : World) (hn : n ≤ 1000000) (hnc : n ≤ c) (hlen : r.length = n) (hl : o + n ≤ l.length) (hr : RC w b (lay l o r) sp) :
  Calls Try.prog 36 #[.slice (some ⟨b, o * 15, none⟩) n c] w fun e w' => (∃ v, e = .returned v) ∧ RC w' b (lay l o (mnd r)) sp ∧ Tc b w w' := by
 have LI := Box'.mk (loneIn_any b (o * 15) n c w)
 have M0 := Box'.mk (mid_0 r)
 have MA : Box' (mid r n = mnd r) := ⟨by rw [← hlen]; exact mid_all r⟩
 have BD : Box' (∀ k, k < n → bad (mid r k) k = bad r k) := ⟨fun k hk => bad_mid r k (by omega)⟩
 have CX : Box' (∀ k, k < n → cat (mid r k) k = cat r k) := ⟨fun k hk => by rw [mid_cat r k k (by omega), if_neg (by omega)]⟩
 have MK : Box' (∀ k, k < n → bad r k = false → mid r (k + 1) = mid r k) := ⟨fun k hk h => mid_keep r k (by omega) h⟩
 have MS : Box' (∀ k, k < n → bad r k = true → (lay l o (mid r k)).set (o + k) (bl (cat r k).st) = lay l o (mid r (k + 1))) := ⟨fun k hk h => by
  rw [lay_set l o (mid r k) k _ (by rw [mid_len r k (by omega)]; omega) (by rw [mid_len r k (by omega)]; omega), ← mid_set r k (by omega)]
  unfold mAt
  rw [if_pos h]⟩
 have ML : Box' (∀ k, k ≤ n → (mid r k).length = n) := ⟨fun k hk => by rw [mid_len r k (by omega)]; exact hlen⟩
 have LO : Box' (∀ wx p q i (m : List Cl), i < n → LnM wx p q b (o * 15) n c m → Calls Try.prog 60 #[.int .i64 (i : Int), .pointer (some ⟨p, 0, none⟩), .pointer (some ⟨q, 0, none⟩)] wx fun e w' => e = .returned (.bool (bad m i)) ∧ Below wx.heap.size wx w') := ⟨fun wx p q i m hi h => lone_any p q b (o * 15) n c m i hi wx hn h⟩
 have BL := Box'.mk blank_any
 have S26 := Box'.mk s26
 have hbw := hr.lt
 have C0 := Box'.mk hr
 clear hr hlen
 go_enter Try.func36, Try.ntmps36
 go_wp2_with fail
 refine LI.out.mono ?_
 rintro e w1 ⟨p, q, rfl, hp, hq, rp, rq, hb1⟩
 have P1 := Box'.mk rp
 have Q1 := Box'.mk rq
 have C1 : Box' (RC w1 b (lay l o r) sp) := ⟨C0.out.below hb1 hbw⟩
 have T1 : Box' (Tc b w w1) := ⟨Tc.of hb1⟩
 have hpb : p ≠ b := by omega
 have hqb : q ≠ b := by omega
 clear rp rq hb1 LI C0
 go_wp2_with fail
 go_loopw [9] (fun i wr => ∃ k : Nat, k ≤ n ∧ i = .int .i64 (k : Int) ∧ Box' (RC wr b (lay l o (mid r k)) sp) ∧ Box' (Row wr p 22 #[.slice (some ⟨b, o * 15, none⟩) n c]) ∧ Box' (Row wr q 56 #[.func (.func 59) #[] #[.pointer (some ⟨p, 0, none⟩)]]) ∧ Box' (Tc b w wr)) (fun i _ => n - (intOf i).toNat)
 case atStart => exact ⟨0, by omega, rfl, by rw [M0.out]; exact C1, P1, Q1, T1⟩
 case round =>
  obtain ⟨k, hk, rfl, CC, PP, QQ, TT⟩ := hrel
  clear C1 P1 Q1 T1
  by_cases hlt : k < n
  case neg =>
   obtain rfl : k = n := by omega
   rw [MA.out] at CC
   go_wp2_with fail
   exact bodyPost_end (results_none rfl _ _) rfl ⟨⟨_, rfl⟩, CC.out, TT.out⟩
  case pos =>
   have RG : Box' (wr.rangeAt b (o * 15 + k * 15) (cA (cat r k)).toList) := ⟨by rw [← CX.out k hlt]; exact (CC.out.rowM (ML.out k (by omega)) (by omega) PP.out).range k hlt⟩
   have hbr : b < wr.heap.size := CC.out.lt
   have hpr := PP.out.lt
   have hqr := QQ.out.lt
   have RM : Box' (Room (wr.alloc (.cells #[.int .i32 0, .int .i32 0, .int .i32 0, .int .i32 0, .int .u8 0, .int .i64 0, .int .i64 0, .bool false, .bool false, .bool false, .bool false, .bool false, .bool false, .bool false, .bool false] 49)) wr.heap.size 49 15) := ⟨Room.new _ _ _ _ rfl⟩
   have R3 : Box' (Row ((wr.alloc (.cells #[.int .i32 0, .int .i32 0, .int .i32 0, .int .i32 0, .int .u8 0, .int .i64 0, .int .i64 0, .bool false, .bool false, .bool false, .bool false, .bool false, .bool false, .bool false, .bool false] 49)).setRow wr.heap.size (cA (cat r k))) wr.heap.size 49 (cA (cat r k))) := ⟨RM.out.setRow _⟩
   have C3 : Box' (RC ((wr.alloc (.cells #[.int .i32 0, .int .i32 0, .int .i32 0, .int .i32 0, .int .u8 0, .int .i64 0, .int .i64 0, .bool false, .bool false, .bool false, .bool false, .bool false, .bool false, .bool false, .bool false] 49)).setRow wr.heap.size (cA (cat r k))) b (lay l o (mid r k)) sp) := ⟨Row.setRowOther (Row.alloc CC.out _) _ _ (by omega)⟩
   have P3 : Box' (Row ((wr.alloc (.cells #[.int .i32 0, .int .i32 0, .int .i32 0, .int .i32 0, .int .u8 0, .int .i64 0, .int .i64 0, .bool false, .bool false, .bool false, .bool false, .bool false, .bool false, .bool false, .bool false] 49)).setRow wr.heap.size (cA (cat r k))) p 22 #[.slice (some ⟨b, o * 15, none⟩) n c]) := ⟨Row.setRowOther (Row.alloc PP.out _) _ _ (by omega)⟩
   have Q3 : Box' (Row ((wr.alloc (.cells #[.int .i32 0, .int .i32 0, .int .i32 0, .int .i32 0, .int .u8 0, .int .i64 0, .int .i64 0, .bool false, .bool false, .bool false, .bool false, .bool false, .bool false, .bool false, .bool false] 49)).setRow wr.heap.size (cA (cat r k))) q 56 #[.func (.func 59) #[] #[.pointer (some ⟨p, 0, none⟩)]]) := ⟨Row.setRowOther (Row.alloc QQ.out _) _ _ (by omega)⟩
   have T3 : Box' (Tc b w ((wr.alloc (.cells #[.int .i32 0, .int .i32 0, .int .i32 0, .int .i32 0, .int .u8 0, .int .i64 0, .int .i64 0, .bool false, .bool false, .bool false, .bool false, .bool false, .bool false, .bool false, .bool false] 49)).setRow wr.heap.size (cA (cat r k)))) := ⟨(TT.out.then (bR.alloc (Nat.le_refl _) _)).setNew _ TT.out.size _⟩
   have O := Box'.mk (one15 (cat r k))
   have hgb : b ≠ wr.heap.size := by omega
   go_wp2_with (first
    | (refine wpList_load_cell rfl (.tmp 12) rfl b (o * 15 + k * 15) (cat r k) rfl RG.out ?_)
    | (refine wpList_store_row rfl 49 (.tmp 4) (.tmp 13) rfl wr.heap.size rfl (cA (cat r k)) rfl 49 15 RM.out S26.out rfl O.out ?_))
   generalize ((wr.alloc (.cells #[.int .i32 0, .int .i32 0, .int .i32 0, .int .i32 0, .int .u8 0, .int .i64 0, .int .i64 0, .bool false, .bool false, .bool false, .bool false, .bool false, .bool false, .bool false, .bool false] 49)).setRow wr.heap.size (cA (cat r k))) = w3 at *
   have LN := Box'.mk (LO.out w3 p q k (mid r k) hlt ⟨C3.out.rowM (ML.out k (by omega)) (by omega) P3.out, Q3.out⟩)
   rw [BD.out k hlt] at LN
   clear RM RG hbr hpr hqr CC PP QQ TT
   generalize wr.heap.size = g at *
   cases hbd : bad r k with
   | false =>
    rw [hbd] at LN
    have E := Box'.mk (MK.out k hlt hbd)
    clear hbd
    refine LN.out.mono ?_
    rintro e w4 ⟨rfl, hb4⟩
    have C4 : Box' (RC w4 b (lay l o (mid r (k + 1))) sp) := ⟨by rw [E.out]; exact C3.out.below hb4 C3.out.lt⟩
    have P4 := Box'.mk (P3.out.below hb4 P3.out.lt)
    have Q4 := Box'.mk (Q3.out.below hb4 Q3.out.lt)
    have T4 := Box'.mk (T3.out.then hb4)
    clear hb4 C3 P3 Q3 T3 R3
    go_wp2_with fail
    exact ⟨⟨k + 1, by omega, by go_num, C4, P4, Q4, T4⟩, by simp [intOf]; omega⟩
   | true =>
    rw [hbd] at LN
    have E := Box'.mk (MS.out k hlt hbd)
    clear hbd
    refine LN.out.mono ?_
    rintro e w4 ⟨rfl, hb4⟩
    have C4 : Box' (RC w4 b (lay l o (mid r k)) sp) := ⟨C3.out.below hb4 C3.out.lt⟩
    have P4 := Box'.mk (P3.out.below hb4 P3.out.lt)
    have Q4 := Box'.mk (Q3.out.below hb4 Q3.out.lt)
    have T4 := Box'.mk (T3.out.then hb4)
    have R4 := Box'.mk (R3.out.below hb4 R3.out.lt)
    have RS : Box' (w4.rangeAt g 5 (sA (cat r k).st).toList) := ⟨row_style R4.out⟩
    clear hb4 C3 P3 Q3 T3 R3 LN R4
    go_wp2_with (first
     | (refine wpList_load_style rfl (.tmp 19) rfl g 5 (cat r k).st rfl RS.out ?_))
    refine (BL.out (cat r k).st _).mono ?_
    rintro e w5 ⟨rfl, hb5⟩
    have C5 : Box' (RC w5 b (lay l o (mid r k)) sp) := ⟨C4.out.below hb5 C4.out.lt⟩
    have SC : Box' (o + k < (lay l o (mid r k)).length) := ⟨by rw [lay_len l o (mid r k) (by rw [ML.out k (by omega)]; omega)]; omega⟩
    have C6 : Box' (RC (w5.setRow b (cLs ((lay l o (mid r k)).set (o + k) (bl (cat r k).st)) ++ sp).toArray) b (lay l o (mid r (k + 1))) sp) := ⟨by rw [E.out]; exact C5.out.setRow _ _⟩
    have P6 : Box' (Row (w5.setRow b (cLs ((lay l o (mid r k)).set (o + k) (bl (cat r k).st)) ++ sp).toArray) p 22 #[.slice (some ⟨b, o * 15, none⟩) n c]) := ⟨Row.setRowOther (P4.out.below hb5 P4.out.lt) _ _ hpb⟩
    have Q6 : Box' (Row (w5.setRow b (cLs ((lay l o (mid r k)).set (o + k) (bl (cat r k).st)) ++ sp).toArray) q 56 #[.func (.func 59) #[] #[.pointer (some ⟨p, 0, none⟩)]]) := ⟨Row.setRowOther (Q4.out.below hb5 Q4.out.lt) _ _ hqb⟩
    have T6 : Box' (Tc b w (w5.setRow b (cLs ((lay l o (mid r k)).set (o + k) (bl (cat r k).st)) ++ sp).toArray)) := ⟨(T4.out.then hb5).setRow _⟩
    clear hb5 C4 P4 Q4 T4 RS
    go_wp2_with (first
     | (refine wpList_store_cell rfl (.tmp 22) (.tmp 21) rfl b (lay l o (mid r k)) sp (o + k) (bl (cat r k).st) (by rw [Nat.add_mul]; rfl) rfl C5.out SC.out ?_))
    exact ⟨⟨k + 1, by omega, by go_num, C6, P6, Q6, T6⟩, by simp [intOf]; omega⟩
end Go.Proofs.Ytnbonlkmadmpcaa
