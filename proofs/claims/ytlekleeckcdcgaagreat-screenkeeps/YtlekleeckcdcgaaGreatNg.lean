/- Halves that stand alone: the closures; rows that are whole; mending. Which grids may be, by their cells and their rows. Cells and styles that may be, as the grid asks. -/
import Derived.Test.YtlekleeckcdcgaaGreatNf
import Derived.Test.YtlekleeckcdcgaaGreatRb
import Derived.Test.YtlekleeckcdcgaaGreatGw
import Derived.Test.YtlekleeckcdcgaaGreatEq
namespace Go.Proofs.YtlekleeckcdcgaaGreat
open Go.RowKit Go.BigFrame
set_option linter.unusedVariables false
set_option linter.unusedSimpArgs false
set_option maxRecDepth 100000
set_option maxHeartbeats 16000000
theorem pair_any (p b x n c : Nat) (r : List Cl) (i : Int) (h1 : -2 < i) (h2 : i < 1000000) (w : World) (hn : n ≤ 1000000) (hr : RowM w p b x n c r) :
  Calls Tryz.prog 181 #[.int .i64 i, .pointer (some ⟨p, 0, none⟩)] w fun e w' => e = .returned (.bool (prF r i)) ∧ Below w.heap.size w w' := by
 by_cases h : 0 ≤ i ∧ i + 1 < (n : Int)
 ·obtain ⟨k, rfl⟩ : ∃ k : Nat, i = (k : Int) := ⟨i.toNat, by omega⟩
  have e : prF r (k : Int) = (decide ((cat r k).wd = 2) && (decide ((cat r (k + 1)).wd = 0) && stB (cat r k).st (cat r (k + 1)).st)) := by
   unfold prF
   rw [hr.len, decide_eq_true h, Int.toNat_natCast, Bool.true_and]
  rw [e]
  exact pair_in p b x n c r k (by omega) w hn hr
 ·have e : prF r i = false := by
   unfold prF
   rw [hr.len, decide_eq_false h, Bool.false_and]
  rw [e]
  exact pair_out p b x n c r i h h1 h2 w hn hr
/-- The closure that tells which place of a row has half a character alone. -/
structure LnM (w : World) (p q b x n c : Nat) (r : List Cl) : Prop where
 row : RowM w p b x n c r
 fn : Row w q 112 #[.func (.func 181) #[] #[.pointer (some ⟨p, 0, none⟩)]]
theorem LnM.below {w w' : World} {p q b x n c : Nat} {r : List Cl} (h : LnM w p q b x n c r) (hb : Below w.heap.size w w') : LnM w' p q b x n c r := ⟨h.row.below hb, h.fn.below hb h.fn.lt⟩
theorem lone_any (p q b x n c : Nat) (r : List Cl) (i : Nat) (hi : i < n) (w : World) (hn : n ≤ 1000000) (h : LnM w p q b x n c r) :
  Calls Tryz.prog 182 #[.int .i64 (i : Int), .pointer (some ⟨p, 0, none⟩), .pointer (some ⟨q, 0, none⟩)] w fun e w' => e = .returned (.bool (bad r i)) ∧ Below w.heap.size w w' := by
 have c0 : w.cell? ⟨p, 0, none⟩ = some (.slice (some ⟨b, x, none⟩) n c) := h.row.box.cell 0
 have d0 : w.cell? ⟨q, 0, none⟩ = some (.func (.func 181) #[] #[.pointer (some ⟨p, 0, none⟩)]) := h.fn.cell 0
 have e4 := h.row.wide i hi
 have E := Box'.mk (bad_pr r i (by rw [h.row.len]; exact hi))
 have P0 := Box'.mk (pair_any p b x n c r (i : Int) (by omega) (by omega) w hn h.row)
 have P1 := Box'.mk (pair_any p b x n c r ((i : Int) - 1) (by omega) (by omega) w hn h.row)
 clear h
 by_cases h2 : ((cat r i).wd : Int) = 2
 ·have E2 : Box' (bad r i = !prF r (i : Int)) := ⟨by rw [E.out, if_pos (by omega)]⟩
  rw [h2] at e4
  clear E P1 h2
  generalize prF r (i : Int) = v at *
  go_enter Tryz.func182, Tryz.ntmps182
  go_wp2_with fail
  refine P0.out.mono ?_
  rintro e w2 ⟨rfl, hb2⟩
  have B2 := Box'.mk hb2
  clear hb2
  go_wp2_with fail
  go_ret
  exact ⟨by rw [E2.out]; rfl, B2.out⟩
 ·by_cases h0 : ((cat r i).wd : Int) = 0
  ·have E2 : Box' (bad r i = !prF r ((i : Int) - 1)) := ⟨by rw [E.out, if_neg (by omega), if_pos (by omega)]⟩
   rw [h0] at e4
   clear E P0 h2 h0
   generalize prF r ((i : Int) - 1) = v at *
   go_enter Tryz.func182, Tryz.ntmps182
   go_wp2_with fail
   refine P1.out.mono ?_
   rintro e w2 ⟨rfl, hb2⟩
   have B2 := Box'.mk hb2
   clear hb2
   go_wp2_with fail
   go_ret
   exact ⟨by rw [E2.out]; rfl, B2.out⟩
  ·have E2 : Box' (bad r i = false) := ⟨by rw [E.out, if_neg (by omega), if_neg (by omega)]⟩
   generalize ((cat r i).wd : Int) = z at *
   clear E P0 P1
   go_enter Tryz.func182, Tryz.ntmps182
   go_wp2_with fail
   go_ret
   exact ⟨by rw [E2.out]; rfl, Below.refl _ _⟩
theorem loneIn_any (b x n c : Nat) (w : World) : Calls Tryz.prog 156 #[.slice (some ⟨b, x, none⟩) n c] w fun e w' => ∃ p q, e = .returned (.func (.func 182) #[] #[.pointer (some ⟨p, 0, none⟩), .pointer (some ⟨q, 0, none⟩)]) ∧ w.heap.size ≤ p ∧ w.heap.size ≤ q ∧
   Row w' p 22 #[.slice (some ⟨b, x, none⟩) n c] ∧ Row w' q 112 #[.func (.func 181) #[] #[.pointer (some ⟨p, 0, none⟩)]] ∧ Below w.heap.size w w' := by
 have hmf : ∀ (fn : Fn) (first cap : Array Value) (w : World), (Instr.makeFunc fn first cap).run Tryz.prog w = .ok (.func fn first cap) w := fun _ _ _ _ => rfl
 have R2 : Row ((w.alloc (.cells #[.slice (some ⟨b, x, none⟩) n c] 22)).alloc (.cells #[.nilFunc] 112)) (w.heap.size + 1) 112 #[.nilFunc] := Row.made _ _ _ _ _ rfl (by simp)
 have R1 : Row ((w.alloc (.cells #[.slice (some ⟨b, x, none⟩) n c] 22)).alloc (.cells #[.nilFunc] 112)) w.heap.size 22 #[.slice (some ⟨b, x, none⟩) n c] := (Row.new _ _ _).alloc _
 have B2 : Below w.heap.size w ((w.alloc (.cells #[.slice (some ⟨b, x, none⟩) n c] 22)).alloc (.cells #[.nilFunc] 112)) := ((Below.refl w.heap.size w).alloc (Nat.le_refl _) _).alloc (by simp) _
 have hst : (store ⟨w.heap.size + 1, 0, none⟩ (.func (.func 181) #[] #[.pointer (some ⟨w.heap.size, 0, none⟩)])).run Tryz.prog ((w.alloc (.cells #[.slice (some ⟨b, x, none⟩) n c] 22)).alloc (.cells #[.nilFunc] 112)) = .ok () (((w.alloc (.cells #[.slice (some ⟨b, x, none⟩) n c] 22)).alloc (.cells #[.nilFunc] 112)).setCell ⟨w.heap.size + 1, 0, none⟩ (.func (.func 181) #[] #[.pointer (some ⟨w.heap.size, 0, none⟩)])) := by
  have hc : ((w.alloc (.cells #[.slice (some ⟨b, x, none⟩) n c] 22)).alloc (.cells #[.nilFunc] 112)).cell? ⟨w.heap.size + 1, 0, none⟩ = some .nilFunc := R2.cell 0
  have hf : ((w.alloc (.cells #[.slice (some ⟨b, x, none⟩) n c] 22)).alloc (.cells #[.nilFunc] 112)).frozen? ⟨w.heap.size + 1, 0, none⟩ = false := R2.frozen 0
  rw [run_store Tryz.prog _ _ _ _ rfl, hc, hf]
  rfl
 clear R1 B2 R2
 go_enter Tryz.func156, Tryz.ntmps156
 go_wp2_with fail
 go_ret
 exact ⟨_, _, rfl, Nat.le_refl _, Nat.le_succ _, (Row.new _ _ _).alloc _, Row.made _ _ _ _ _ rfl (by simp), ((Below.refl w.heap.size w).alloc (Nat.le_refl _) _).alloc (by simp) _⟩
/-- Does no half stand alone in a row? -/
def whF (r : List Cl) : Bool := (List.range r.length).all fun i => !bad r i
theorem isWhole_any (b x n c : Nat) (r : List Cl) (w : World) (hn : n ≤ 1000000) (hnc : n ≤ c) (hlen : r.length = n) (hb : b < w.heap.size) (hcl : ∀ k, k < n → ∀ j, j < 15 → w.cell? ⟨b, x + k * 15 + j, none⟩ = (cA (cat r k))[j]?) :
  Calls Tryz.prog 116 #[.slice (some ⟨b, x, none⟩) n c] w fun e w' => e = .returned (.bool (whF r)) ∧ Below w.heap.size w w' := by
 have LI := Box'.mk (loneIn_any b x n c w)
 have WT : Box' ((∀ i, i < n → bad r i = false) → whF r = true) := ⟨fun h => by
  unfold whF
  rw [List.all_eq_true]
  intro i hi
  rw [List.mem_range, hlen] at hi
  rw [h i hi]
  rfl⟩
 have WF : Box' (∀ i, i < n → bad r i = true → whF r = false) := ⟨fun i hi h => by
  unfold whF
  rw [List.all_eq_false]
  exact ⟨i, by rw [List.mem_range, hlen]; exact hi, by rw [h]; simp⟩⟩
 have LM : Box' (∀ wx p q, Below w.heap.size w wx → Row wx p 22 #[.slice (some ⟨b, x, none⟩) n c] → Row wx q 112 #[.func (.func 181) #[] #[.pointer (some ⟨p, 0, none⟩)]] → LnM wx p q b x n c r) := ⟨fun wx p q hbe h1 h2 => ⟨⟨h1, hlen, fun k hk j hj => by rw [hbe.cell (p := ⟨b, x + k * 15 + j, none⟩) hb]; exact hcl k hk j hj, Nat.lt_of_lt_of_le hb hbe.size⟩, h2⟩⟩
 have LO : Box' (∀ wx p q i, i < n → LnM wx p q b x n c r → Calls Tryz.prog 182 #[.int .i64 (i : Int), .pointer (some ⟨p, 0, none⟩), .pointer (some ⟨q, 0, none⟩)] wx fun e w' => e = .returned (.bool (bad r i)) ∧ Below wx.heap.size wx w') := ⟨fun wx p q i hi h => lone_any p q b x n c r i hi wx hn h⟩
 clear hcl hlen
 go_enter Tryz.func116, Tryz.ntmps116
 go_wp2_with fail
 refine LI.out.mono ?_
 rintro e w1 ⟨p, q, rfl, hp, hq, rp, rq, hb1⟩
 have L1 := Box'.mk (LM.out w1 p q hb1 rp rq)
 have B1 := Box'.mk hb1
 clear rp rq hb1 LI LM hp hq
 go_wp2_with fail
 go_loopw [9] (fun i wr => ∃ k : Nat, k ≤ n ∧ i = .int .i64 (k : Int) ∧ Box' (∀ i, i < k → bad r i = false) ∧ Box' (LnM wr p q b x n c r) ∧ Box' (Below w.heap.size w wr)) (fun i _ => n - (intOf i).toNat)
 case atStart => exact ⟨0, by omega, rfl, ⟨fun i hi => by omega⟩, L1, B1⟩
 case round =>
  obtain ⟨k, hk, rfl, OK, LL, BB⟩ := hrel
  clear L1 B1
  by_cases hlt : k < n
  case neg =>
   obtain rfl : k = n := by omega
   have E := Box'.mk (WT.out OK.out)
   go_wp2_with fail
   go_ret
   exact ⟨by rw [E.out]; rfl, BB.out⟩
  case pos =>
   have CA := Box'.mk (LO.out wr p q k hlt LL.out)
   cases hbd : bad r k with
   | true =>
    have E := Box'.mk (WF.out k hlt hbd)
    rw [hbd] at CA
    clear hbd
    go_wp2_with fail
    refine CA.out.mono ?_
    rintro e w2 ⟨rfl, hb2⟩
    have B2 := Box'.mk (BB.out.trans (hb2.mono BB.out.size))
    clear hb2
    go_wp2_with fail
    go_ret
    exact ⟨by rw [E.out]; rfl, B2.out⟩
   | false =>
    have OK2 : Box' (∀ i, i < k + 1 → bad r i = false) := ⟨fun i hi => by
     rcases Nat.lt_or_ge i k with q | q
     ·exact OK.out i q
     ·rw [show i = k by omega]; exact hbd⟩
    rw [hbd] at CA
    clear hbd
    go_wp2_with fail
    refine CA.out.mono ?_
    rintro e w2 ⟨rfl, hb2⟩
    have B2 := Box'.mk (BB.out.trans (hb2.mono BB.out.size))
    have L2 := Box'.mk (LL.out.below hb2)
    clear hb2
    go_wp2_with fail
    exact ⟨⟨k + 1, by omega, by go_num, OK2, L2, B2⟩, by simp [intOf]; omega⟩
theorem gd_app (a b : List Cl) (i : Nat) (d : Cl) (h : i < a.length) : (a ++ b).getD i d = a.getD i d := by
 rw [List.getD_eq_getElem?_getD, List.getElem?_append_left h, ← List.getD_eq_getElem?_getD]
theorem gd_appr (a b : List Cl) (i : Nat) (d : Cl) (h : a.length ≤ i) : (a ++ b).getD i d = b.getD (i - a.length) d := by
 rw [List.getD_eq_getElem?_getD, List.getElem?_append_right h, ← List.getD_eq_getElem?_getD]
/-- A row mended up to a place. -/
def mid (r : List Cl) (k : Nat) : List Cl := (mnd r).take k ++ r.drop k
theorem mid_len (r : List Cl) (k : Nat) (h : k ≤ r.length) : (mid r k).length = r.length := by
 unfold mid
 rw [List.length_append, List.length_take, mnd_len, List.length_drop]
 omega
theorem mid_cat (r : List Cl) (k i : Nat) (h : k ≤ r.length) : cat (mid r k) i = if i < k then mAt r i else cat r i := by
 unfold mid cat
 have hl : ((mnd r).take k).length = k := by rw [List.length_take, mnd_len]; omega
 split
 ·rename_i hi
  rw [gd_app _ _ _ _ (by omega)]
  have := mnd_at r i (by omega)
  unfold cat at this
  rw [← this]
  simp [List.getElem?_take_of_lt hi]
 ·rename_i hi
  rw [gd_appr _ _ _ _ (by omega), hl]
  simp [show k + (i - k) = i by omega]
theorem bad_mid (r : List Cl) (k : Nat) (hk : k < r.length) : bad (mid r k) k = bad r k := by
 have hl := mid_len r k (by omega)
 unfold bad
 rw [hl, mid_cat r k k (by omega), mid_cat r k (k + 1) (by omega), mid_cat r k (k - 1) (by omega), if_neg (by omega), if_neg (by omega)]
 by_cases h0 : k = 0
 ·subst h0; simp
 ·rw [if_pos (by omega)]
  congr 1
  by_cases hw : (cat r k).wd = 0
  ·have hs : k - 1 + 1 = k := by omega
   unfold mAt
   by_cases hb : bad r (k - 1) = true
   ·rw [if_pos hb]
    have hblw : ¬ (bl (cat r (k - 1)).st).wd = 2 := by show ¬ (1 : Nat) = 2; decide
    rw [decide_eq_true hblw]
    unfold bad at hb
    rw [hs] at hb
    by_cases h2 : (cat r (k - 1)).wd = 2
    ·simp only [h2, hw, decide_true, Bool.true_and, show ¬ (2 : Nat) = 0 by decide, decide_false, Bool.false_and, Bool.or_false, not_true, not_true_eq_false, decide_eq_false (show ¬ r.length ≤ k by omega), Bool.false_or] at hb
     rw [stB_comm] at hb
     simp [hb]
    ·simp [h2]
   ·rw [if_neg hb]
  ·rw [decide_eq_false hw]; simp
theorem mid_set (r : List Cl) (k : Nat) (hk : k < r.length) : (mid r k).set k (mAt r k) = mid r (k + 1) := by
 have hl : ((mnd r).take k).length = k := by rw [List.length_take, mnd_len]; omega
 have hm : (mnd r).take (k + 1) = (mnd r).take k ++ [mAt r k] := by
  rw [List.take_succ_eq_append_getElem (by rw [mnd_len]; exact hk)]
  congr 2
  have := mnd_at r k hk
  unfold cat at this
  rw [List.getD_eq_getElem?_getD, List.getElem?_eq_getElem (by rw [mnd_len]; exact hk)] at this
  exact this
 unfold mid
 rw [List.set_append_right _ _ (by omega), hl, Nat.sub_self, List.drop_eq_getElem_cons hk, stZ, hm]
 simp
theorem mid_keep (r : List Cl) (k : Nat) (hk : k < r.length) (hb : bad r k = false) : mid r (k + 1) = mid r k := by
 have e : mAt r k = cat r k := by unfold mAt; rw [hb]; rfl
 rw [← mid_set r k hk, e, show cat r k = cat (mid r k) k by rw [mid_cat r k k (by omega), if_neg (by omega)]]
 unfold cat
 rw [List.getD_eq_getElem?_getD, List.getElem?_eq_getElem (by rw [mid_len r k (by omega)]; exact hk)]
 exact List.set_getElem_self _
theorem mid_0 (r : List Cl) : mid r 0 = r := by simp [mid]
theorem mid_all (r : List Cl) : mid r r.length = mnd r := by
 unfold mid
 rw [List.take_of_length_le (by rw [mnd_len]; omega), List.drop_of_length_le (by omega), List.append_nil]
theorem lay_set (l : List Cl) (o : Nat) (m : List Cl) (k : Nat) (y : Cl) (hk : k < m.length) (h : o + m.length ≤ l.length) : (lay l o m).set (o + k) y = lay l o (m.set k y) := by
 unfold lay
 have hl : (l.take o).length = o := by rw [List.length_take]; omega
 rw [List.append_assoc, List.set_append_right _ _ (by omega), hl, Nat.add_sub_cancel_left, List.set_append_left _ _ hk, List.length_set, List.append_assoc]
theorem lay_get (l : List Cl) (o : Nat) (m : List Cl) (k : Nat) (hk : k < m.length) (h : o + m.length ≤ l.length) : (lay l o m).getD (o + k) (hf pl) = cat m k := by
 unfold lay cat
 have hl : (l.take o).length = o := by rw [List.length_take]; omega
 rw [List.append_assoc, gd_appr _ _ _ _ (by omega), hl, Nat.add_sub_cancel_left, gd_app _ _ _ _ hk]
theorem RC.rowM {w : World} {g : Nat} {l : List Cl} {sp : List Value} {o n c p : Nat} {m : List Cl} (h : RC w g (lay l o m) sp) (hm : m.length = n) (hl : o + n ≤ l.length) (hp : Row w p 22 #[.slice (some ⟨g, o * 15, none⟩) n c]) : RowM w p g (o * 15) n c m :=
 ⟨hp, hm, fun k hk j hj => by rw [← Nat.add_mul, h.cell (o + k) j (by rw [lay_len l o m (by omega)]; omega) hj, lay_get l o m k (by omega) (by omega)], h.lt⟩
theorem row_style {w : World} {g : Nat} {y : Cl} (h : Row w g 56 (cA y)) : w.rangeAt g 5 (sA y.st).toList := fun j v hv => by
 have hj : j < 10 := by have := (List.getElem?_eq_some_iff.1 hv).1; exact this
 rw [h.cell]
 have e : ∀ j, j < 10 → (cA y)[5 + j]? = (sA y.st).toList[j]? := by
  intro j hj
  rcases (show j = 0 ∨ j = 1 ∨ j = 2 ∨ j = 3 ∨ j = 4 ∨ j = 5 ∨ j = 6 ∨ j = 7 ∨ j = 8 ∨ j = 9 by omega) with rfl | rfl | rfl | rfl | rfl | rfl | rfl | rfl | rfl | rfl <;> rfl
 rw [e j hj]
 exact hv
theorem mend_any (b o n c : Nat) (l : List Cl) (sp : List Value) (r : List Cl) (w : World) (hn : n ≤ 1000000) (hnc : n ≤ c) (hlen : r.length = n) (hl : o + n ≤ l.length) (hr : RC w b (lay l o r) sp) :
  Calls Tryz.prog 144 #[.slice (some ⟨b, o * 15, none⟩) n c] w fun e w' => (∃ v, e = .returned v) ∧ RC w' b (lay l o (mnd r)) sp ∧ Tc b w w' := by
 have LI := Box'.mk (loneIn_any b (o * 15) n c w)
 have M0 := Box'.mk (mid_0 r)
 have MA : Box' (mid r n = mnd r) := ⟨by rw [← hlen]; exact mid_all r⟩
 have BD : Box' (∀ k, k < n → bad (mid r k) k = bad r k) := ⟨fun k hk => bad_mid r k (by omega)⟩
 have CX : Box' (∀ k, k < n → cat (mid r k) k = cat r k) := ⟨fun k hk => by rw [mid_cat r k k (by omega), if_neg (by omega)]⟩
 have MK : Box' (∀ k, k < n → bad r k = false → mid r (k + 1) = mid r k) := ⟨fun k hk h => mid_keep r k (by omega) h⟩
 have MS : Box' (∀ k, k < n → bad r k = true → (lay l o (mid r k)).set (o + k) (bl (cat r k).st) = lay l o (mid r (k + 1))) := ⟨fun k hk h => by
  rw [lay_set l o (mid r k) k _ (by rw [mid_len r k (by omega)]; omega) (by rw [mid_len r k (by omega)]; omega), ← mid_set r k (by omega)]
  unfold mAt
  rw [if_pos h]⟩
 have ML : Box' (∀ k, k ≤ n → (mid r k).length = n) := ⟨fun k hk => by rw [mid_len r k (by omega)]; exact hlen⟩
 have LO : Box' (∀ wx p q i (m : List Cl), i < n → LnM wx p q b (o * 15) n c m → Calls Tryz.prog 182 #[.int .i64 (i : Int), .pointer (some ⟨p, 0, none⟩), .pointer (some ⟨q, 0, none⟩)] wx fun e w' => e = .returned (.bool (bad m i)) ∧ Below wx.heap.size wx w') := ⟨fun wx p q i m hi h => lone_any p q b (o * 15) n c m i hi wx hn h⟩
 have BL := Box'.mk blank_any
 have S26 := Box'.mk s26
 have hbw := hr.lt
 have C0 := Box'.mk hr
 clear hr hlen
 go_enter Tryz.func144, Tryz.ntmps144
 go_wp2_with fail
 refine LI.out.mono ?_
 rintro e w1 ⟨p, q, rfl, hp, hq, rp, rq, hb1⟩
 have P1 := Box'.mk rp
 have Q1 := Box'.mk rq
 have C1 : Box' (RC w1 b (lay l o r) sp) := ⟨C0.out.below hb1 hbw⟩
 have T1 : Box' (Tc b w w1) := ⟨Tc.of hb1⟩
 have hpb : p ≠ b := by omega
 have hqb : q ≠ b := by omega
 clear rp rq hb1 LI C0
 go_wp2_with fail
 go_loopw [9] (fun i wr => ∃ k : Nat, k ≤ n ∧ i = .int .i64 (k : Int) ∧ Box' (RC wr b (lay l o (mid r k)) sp) ∧ Box' (Row wr p 22 #[.slice (some ⟨b, o * 15, none⟩) n c]) ∧ Box' (Row wr q 112 #[.func (.func 181) #[] #[.pointer (some ⟨p, 0, none⟩)]]) ∧ Box' (Tc b w wr)) (fun i _ => n - (intOf i).toNat)
 case atStart => exact ⟨0, by omega, rfl, by rw [M0.out]; exact C1, P1, Q1, T1⟩
 case round =>
  obtain ⟨k, hk, rfl, CC, PP, QQ, TT⟩ := hrel
  clear C1 P1 Q1 T1
  by_cases hlt : k < n
  case neg =>
   obtain rfl : k = n := by omega
   rw [MA.out] at CC
   go_wp2_with fail
   exact bodyPost_end (results_none rfl _ _) rfl ⟨⟨_, rfl⟩, CC.out, TT.out⟩
  case pos =>
   have RG : Box' (wr.rangeAt b (o * 15 + k * 15) (cA (cat r k)).toList) := ⟨by rw [← CX.out k hlt]; exact (CC.out.rowM (ML.out k (by omega)) (by omega) PP.out).range k hlt⟩
   have hbr : b < wr.heap.size := CC.out.lt
   have hpr := PP.out.lt
   have hqr := QQ.out.lt
   have RM : Box' (Room (wr.alloc (.cells #[.int .i32 0, .int .i32 0, .int .i32 0, .int .i32 0, .int .u8 0, .int .i64 0, .int .i64 0, .bool false, .bool false, .bool false, .bool false, .bool false, .bool false, .bool false, .bool false] 56)) wr.heap.size 56 15) := ⟨Room.new _ _ _ _ rfl⟩
   have R3 : Box' (Row ((wr.alloc (.cells #[.int .i32 0, .int .i32 0, .int .i32 0, .int .i32 0, .int .u8 0, .int .i64 0, .int .i64 0, .bool false, .bool false, .bool false, .bool false, .bool false, .bool false, .bool false, .bool false] 56)).setRow wr.heap.size (cA (cat r k))) wr.heap.size 56 (cA (cat r k))) := ⟨RM.out.setRow _⟩
   have C3 : Box' (RC ((wr.alloc (.cells #[.int .i32 0, .int .i32 0, .int .i32 0, .int .i32 0, .int .u8 0, .int .i64 0, .int .i64 0, .bool false, .bool false, .bool false, .bool false, .bool false, .bool false, .bool false, .bool false] 56)).setRow wr.heap.size (cA (cat r k))) b (lay l o (mid r k)) sp) := ⟨Row.setRowOther (Row.alloc CC.out _) _ _ (by omega)⟩
   have P3 : Box' (Row ((wr.alloc (.cells #[.int .i32 0, .int .i32 0, .int .i32 0, .int .i32 0, .int .u8 0, .int .i64 0, .int .i64 0, .bool false, .bool false, .bool false, .bool false, .bool false, .bool false, .bool false, .bool false] 56)).setRow wr.heap.size (cA (cat r k))) p 22 #[.slice (some ⟨b, o * 15, none⟩) n c]) := ⟨Row.setRowOther (Row.alloc PP.out _) _ _ (by omega)⟩
   have Q3 : Box' (Row ((wr.alloc (.cells #[.int .i32 0, .int .i32 0, .int .i32 0, .int .i32 0, .int .u8 0, .int .i64 0, .int .i64 0, .bool false, .bool false, .bool false, .bool false, .bool false, .bool false, .bool false, .bool false] 56)).setRow wr.heap.size (cA (cat r k))) q 112 #[.func (.func 181) #[] #[.pointer (some ⟨p, 0, none⟩)]]) := ⟨Row.setRowOther (Row.alloc QQ.out _) _ _ (by omega)⟩
   have T3 : Box' (Tc b w ((wr.alloc (.cells #[.int .i32 0, .int .i32 0, .int .i32 0, .int .i32 0, .int .u8 0, .int .i64 0, .int .i64 0, .bool false, .bool false, .bool false, .bool false, .bool false, .bool false, .bool false, .bool false] 56)).setRow wr.heap.size (cA (cat r k)))) := ⟨(TT.out.then (bR.alloc (Nat.le_refl _) _)).setNew _ TT.out.size _⟩
   have O := Box'.mk (one15 (cat r k))
   have hgb : b ≠ wr.heap.size := by omega
   go_wp2_with (first
    | (refine wpList_load_cell rfl (.tmp 12) rfl b (o * 15 + k * 15) (cat r k) rfl RG.out ?_)
    | (refine wpList_store_row rfl 56 (.tmp 4) (.tmp 13) rfl wr.heap.size rfl (cA (cat r k)) rfl 56 15 RM.out S26.out rfl O.out ?_))
   generalize ((wr.alloc (.cells #[.int .i32 0, .int .i32 0, .int .i32 0, .int .i32 0, .int .u8 0, .int .i64 0, .int .i64 0, .bool false, .bool false, .bool false, .bool false, .bool false, .bool false, .bool false, .bool false] 56)).setRow wr.heap.size (cA (cat r k))) = w3 at *
   have LN := Box'.mk (LO.out w3 p q k (mid r k) hlt ⟨C3.out.rowM (ML.out k (by omega)) (by omega) P3.out, Q3.out⟩)
   rw [BD.out k hlt] at LN
   clear RM RG hbr hpr hqr CC PP QQ TT
   generalize wr.heap.size = g at *
   cases hbd : bad r k with
   | false =>
    rw [hbd] at LN
    have E := Box'.mk (MK.out k hlt hbd)
    clear hbd
    refine LN.out.mono ?_
    rintro e w4 ⟨rfl, hb4⟩
    have C4 : Box' (RC w4 b (lay l o (mid r (k + 1))) sp) := ⟨by rw [E.out]; exact C3.out.below hb4 C3.out.lt⟩
    have P4 := Box'.mk (P3.out.below hb4 P3.out.lt)
    have Q4 := Box'.mk (Q3.out.below hb4 Q3.out.lt)
    have T4 := Box'.mk (T3.out.then hb4)
    clear hb4 C3 P3 Q3 T3 R3
    go_wp2_with fail
    exact ⟨⟨k + 1, by omega, by go_num, C4, P4, Q4, T4⟩, by simp [intOf]; omega⟩
   | true =>
    rw [hbd] at LN
    have E := Box'.mk (MS.out k hlt hbd)
    clear hbd
    refine LN.out.mono ?_
    rintro e w4 ⟨rfl, hb4⟩
    have C4 : Box' (RC w4 b (lay l o (mid r k)) sp) := ⟨C3.out.below hb4 C3.out.lt⟩
    have P4 := Box'.mk (P3.out.below hb4 P3.out.lt)
    have Q4 := Box'.mk (Q3.out.below hb4 Q3.out.lt)
    have T4 := Box'.mk (T3.out.then hb4)
    have R4 := Box'.mk (R3.out.below hb4 R3.out.lt)
    have RS : Box' (w4.rangeAt g 5 (sA (cat r k).st).toList) := ⟨row_style R4.out⟩
    clear hb4 C3 P3 Q3 T3 R3 LN R4
    go_wp2_with (first
     | (refine wpList_load_style rfl (.tmp 19) rfl g 5 (cat r k).st rfl RS.out ?_))
    refine (BL.out (cat r k).st _).mono ?_
    rintro e w5 ⟨rfl, hb5⟩
    have C5 : Box' (RC w5 b (lay l o (mid r k)) sp) := ⟨C4.out.below hb5 C4.out.lt⟩
    have SC : Box' (o + k < (lay l o (mid r k)).length) := ⟨by rw [lay_len l o (mid r k) (by rw [ML.out k (by omega)]; omega)]; omega⟩
    have C6 : Box' (RC (w5.setRow b (cLs ((lay l o (mid r k)).set (o + k) (bl (cat r k).st)) ++ sp).toArray) b (lay l o (mid r (k + 1))) sp) := ⟨by rw [E.out]; exact C5.out.setRow _ _⟩
    have P6 : Box' (Row (w5.setRow b (cLs ((lay l o (mid r k)).set (o + k) (bl (cat r k).st)) ++ sp).toArray) p 22 #[.slice (some ⟨b, o * 15, none⟩) n c]) := ⟨Row.setRowOther (P4.out.below hb5 P4.out.lt) _ _ hpb⟩
    have Q6 : Box' (Row (w5.setRow b (cLs ((lay l o (mid r k)).set (o + k) (bl (cat r k).st)) ++ sp).toArray) q 112 #[.func (.func 181) #[] #[.pointer (some ⟨p, 0, none⟩)]]) := ⟨Row.setRowOther (Q4.out.below hb5 Q4.out.lt) _ _ hqb⟩
    have T6 : Box' (Tc b w (w5.setRow b (cLs ((lay l o (mid r k)).set (o + k) (bl (cat r k).st)) ++ sp).toArray)) := ⟨(T4.out.then hb5).setRow _⟩
    clear hb5 C4 P4 Q4 T4 RS
    go_wp2_with (first
     | (refine wpList_store_cell rfl (.tmp 22) (.tmp 21) rfl b (lay l o (mid r k)) sp (o + k) (bl (cat r k).st) (by rw [Nat.add_mul]; rfl) rfl C5.out SC.out ?_))
    exact ⟨⟨k + 1, by omega, by go_num, C6, P6, Q6, T6⟩, by simp [intOf]; omega⟩
theorem ok_row (r : List Cl) : (∀ j, j < r.length → okAt r.length r j = true) ↔ (∀ j, j < r.length → mayC (cat r j) = true) ∧ (∀ j, j < r.length → bad r j = false) := by
 have hfe : ∀ j, j < r.length → hfAt r.length r j = (decide (0 < j) && decide ((cat r (j - 1)).wd = 2)) := fun j hj => by
  unfold hfAt; rw [Nat.mod_eq_of_lt hj]
 have oke : ∀ j, j < r.length → okAt r.length r j = true → mayC (cat r j) = true ∧ ((cat r j).wd = 0 ↔ 0 < j ∧ (cat r (j - 1)).wd = 2) ∧ ((0 < j ∧ (cat r (j - 1)).wd = 2) → (cat r j).st = (cat r (j - 1)).st) ∧ ¬ ((cat r j).wd = 2 ∧ j = r.length - 1) := fun j hj h => by
  unfold okAt at h
  rw [hfe j hj, Nat.mod_eq_of_lt hj] at h
  simp only [Bool.and_eq_true, Bool.or_eq_true, Bool.not_eq_true', Bool.and_eq_false_iff, decide_eq_true_eq, decide_eq_false_iff_not, beq_iff_eq] at h
  obtain ⟨⟨⟨h1, h2⟩, h3⟩, h4⟩ := h
  refine ⟨h1, ⟨fun h => ?_, fun h => ?_⟩, fun h => ?_, fun h => ?_⟩
  ·rw [decide_eq_true h] at h2
   have := h2.symm
   simp only [Bool.and_eq_true, decide_eq_true_eq] at this
   exact this
  ·have e : (decide (0 < j) && decide ((cat r (j - 1)).wd = 2)) = true := by simp [h.1, h.2]
   rw [e] at h2
   exact of_decide_eq_true h2
  ·rcases h3 with (h3 | h3) | h3
   ·exact absurd h.1 h3
   ·exact absurd h.2 h3
   ·exact (stB_iff _ _).1 h3
  ·rcases h4 with h4 | h4
   ·exact h4 h.1
   ·exact h4 h.2
 have okm : ∀ j, j < r.length → mayC (cat r j) = true → ((cat r j).wd = 0 ↔ 0 < j ∧ (cat r (j - 1)).wd = 2) → ((0 < j ∧ (cat r (j - 1)).wd = 2) → (cat r j).st = (cat r (j - 1)).st) → ¬ ((cat r j).wd = 2 ∧ j = r.length - 1) → okAt r.length r j = true := fun j hj h1 h2 h3 h4 => by
  unfold okAt
  rw [hfe j hj, Nat.mod_eq_of_lt hj, h1]
  by_cases hp : 0 < j ∧ (cat r (j - 1)).wd = 2
  ·have e : (decide (0 < j) && decide ((cat r (j - 1)).wd = 2)) = true := by simp [hp.1, hp.2]
   have hw := h2.2 hp
   rw [e, decide_eq_true hw, stB_yes (h3 hp), hw]
   simp
  ·have e : (decide (0 < j) && decide ((cat r (j - 1)).wd = 2)) = false := by
    by_cases a : 0 < j
    ·have : ¬ (cat r (j - 1)).wd = 2 := fun q => hp ⟨a, q⟩
     simp [this]
    ·simp [a]
   have hw : ¬ (cat r j).wd = 0 := fun q => hp (h2.1 q)
   rw [e, decide_eq_false hw]
   by_cases a : (cat r j).wd = 2
   ·have : ¬ j = r.length - 1 := fun q => h4 ⟨a, q⟩
    simp [this]
   ·simp [a]
 have bde : ∀ j, bad r j = false ↔ ((cat r j).wd = 2 → j + 1 < r.length ∧ (cat r (j + 1)).wd = 0 ∧ (cat r (j + 1)).st = (cat r j).st) ∧ ((cat r j).wd = 0 → 0 < j ∧ (cat r (j - 1)).wd = 2 ∧ (cat r (j - 1)).st = (cat r j).st) := fun j => by
  unfold bad
  by_cases a : (cat r j).wd = 2
  ·have hz : ¬ (cat r j).wd = 0 := by omega
   simp only [a, decide_true, Bool.true_and, show ¬ (2 : Nat) = 0 by decide, decide_false, Bool.false_and, Bool.or_false, Bool.or_eq_false_iff, decide_eq_false_iff_not, Bool.not_eq_false', stB_iff, false_implies, and_true, forall_const, Decidable.not_not, Nat.not_le, and_assoc]
  ·by_cases hz : (cat r j).wd = 0
   ·simp only [hz, show ¬ (0 : Nat) = 2 by decide, decide_true, Bool.true_and, decide_false, Bool.false_and, Bool.false_or, Bool.or_eq_false_iff, decide_eq_false_iff_not, Bool.not_eq_false', stB_iff, false_implies, true_and, forall_const, Decidable.not_not, and_assoc, Nat.pos_iff_ne_zero, ne_eq]
   ·simp [a, hz]
 constructor
 ·intro h
  refine ⟨fun j hj => (oke j hj (h j hj)).1, fun j hj => (bde j).2 ⟨fun h2 => ?_, fun h0 => ?_⟩⟩
  ·have h1 := oke j hj (h j hj)
   have hl : j + 1 < r.length := by
    have := h1.2.2.2
    rcases Nat.lt_or_ge (j + 1) r.length with q | q
    ·exact q
    ·exact absurd ⟨h2, by omega⟩ this
   have h3 := oke (j + 1) hl (h (j + 1) hl)
   rw [Nat.add_sub_cancel] at h3
   exact ⟨hl, h3.2.1.2 ⟨by omega, h2⟩, h3.2.2.1 ⟨by omega, h2⟩⟩
  ·have h1 := oke j hj (h j hj)
   have h2 := h1.2.1.1 h0
   exact ⟨h2.1, h2.2, (h1.2.2.1 h2).symm⟩
 ·rintro ⟨hm, hb⟩ j hj
  refine okm j hj (hm j hj) ⟨fun h0 => ?_, fun hp => ?_⟩ (fun hp => ?_) (fun hp => ?_)
  ·have := ((bde j).1 (hb j hj)).2 h0
   exact ⟨this.1, this.2.1⟩
  ·have := ((bde (j - 1)).1 (hb (j - 1) (by omega))).1 hp.2
   rw [show j - 1 + 1 = j by omega] at this
   exact this.2.1
  ·have := ((bde (j - 1)).1 (hb (j - 1) (by omega))).1 hp.2
   rw [show j - 1 + 1 = j by omega] at this
   exact this.2.2
  ·have := (((bde j).1 (hb j hj)).1 hp.1).1
   omega
theorem row_mem (c : List Cl) (cols rows : Nat) (hc : 1 ≤ cols) (hl : c.length = cols * rows) (i : Nat) (hi : i < c.length) : i / cols < rows ∧ i % cols < cols ∧ cat c i = cat (rowF c cols (i / cols)) (i % cols) := by
 have hm : i % cols < cols := Nat.mod_lt _ (by omega)
 refine ⟨Nat.div_lt_of_lt_mul (by omega), hm, ?_⟩
 rw [cat_row c cols _ _ hm, Nat.mul_comm, Nat.div_add_mod]
theorem cat_all (l : List Cl) (f : Cl → Bool) : l.all f = true ↔ ∀ i, i < l.length → f (cat l i) = true := by
 rw [List.all_eq_true]
 constructor
 ·intro h i hi
  exact h _ (cat_mem hi)
 ·intro h x hx
  obtain ⟨i, hi, rfl⟩ := List.mem_iff_getElem.1 hx
  have := h i hi
  unfold cat at this
  rwa [List.getD_eq_getElem?_getD, List.getElem?_eq_getElem hi] at this
/-- A grid may be, just where all its cells may and no half stands alone in a row. -/
theorem may_whole (cols rows : Nat) (c : List Cl) (hc : 1 ≤ cols) (hc2 : cols ≤ 512) (hr : 1 ≤ rows) (hr2 : rows ≤ 512) (hl : c.length = cols * rows) :
  mayG (cols : Int) (rows : Int) c = (c.all mayC && (List.range rows).all fun n => whF (rowF c cols n)) := by
 have hrl : ∀ n, n < rows → (rowF c cols n).length = cols := fun n hn => rowF_len c cols n (by rw [hl]; exact fits hn)
 have key : mayG (cols : Int) (rows : Int) c = true ↔ (c.all mayC && (List.range rows).all fun n => whF (rowF c cols n)) = true := by
  rw [mayG_rows cols rows c hc hc2 hr hr2 hl, Bool.and_eq_true, cat_all, List.all_eq_true]
  constructor
  ·intro h
   have h2 : ∀ n, n < rows → (∀ j, j < cols → mayC (cat (rowF c cols n) j) = true) ∧ (∀ j, j < cols → bad (rowF c cols n) j = false) := fun n hn => by
    have := (ok_row (rowF c cols n)).1 (by rw [hrl n hn]; exact h n hn)
    rwa [hrl n hn] at this
   refine ⟨fun i hi => ?_, fun n hn => ?_⟩
   ·obtain ⟨a, b, e⟩ := row_mem c cols rows hc hl i hi
    rw [e]
    exact (h2 _ a).1 _ b
   ·rw [List.mem_range] at hn
    unfold whF
    rw [List.all_eq_true, hrl n hn]
    intro j hj
    rw [List.mem_range] at hj
    rw [(h2 n hn).2 j hj]
    rfl
  ·rintro ⟨h1, h2⟩ n hn
   have h3 := h2 n (List.mem_range.2 hn)
   unfold whF at h3
   rw [List.all_eq_true, hrl n hn] at h3
   have := (ok_row (rowF c cols n)).2 ⟨fun j hj => ?_, fun j hj => ?_⟩
   ·rwa [hrl n hn] at this
   ·rw [hrl n hn] at hj
    rw [cat_row c cols n j hj]
    have hf := fits (cols := cols) hn
    exact h1 _ (by omega)
   ·rw [hrl n hn] at hj
    have := h3 j (List.mem_range.2 hj)
    cases hb : bad (rowF c cols n) j with
    | false => rfl
    | true => rw [hb] at this; cases this
 cases h1 : mayG (cols : Int) (rows : Int) c with
 | true => exact (key.1 h1).symm
 | false =>
  cases h2 : (c.all mayC && (List.range rows).all fun n => whF (rowF c cols n)) with
  | false => rfl
  | true => rw [key.2 h2] at h1; cases h1
theorem mayStyle15_any (s : St) (w : World) : Calls Tryz.prog 122 #[.agg (sA s)] w fun e w' => e = .returned (.bool (mayS s)) ∧ Below w.heap.size w w' := by
 have MF := Box'.mk (mayF_any (hf s))
 have E : mayC (hf s) = mayS s := by
  unfold mayC
  cases h : mayS s with
  | false => rw [if_pos (show mayS (hf s).st = false from h)]
  | true => rw [if_neg (show ¬ mayS (hf s).st = false by show ¬ mayS s = false; rw [h]; simp)]; rfl
 rw [E] at MF
 have S24 := Box'.mk s24
 have U24 := Box'.mk Tryz.underlying26
 have R1 := Box'.mk (Row.new w 26 (sA s))
 have B1 := Box'.mk ((Below.refl w.heap.size w).alloc (Nat.le_refl _) (.cells (sA s) 26))
 have HF : Box' (cA (hf s) = #[.int .i32 0, .int .i32 0, .int .i32 0, .int .i32 0, .int .u8 0, .int .i64 s.fg, .int .i64 s.bg, .bool s.b1, .bool s.b2, .bool s.b3, .bool s.b4, .bool s.b5, .bool s.b7, .bool s.b8, .bool s.b9]) := ⟨rfl⟩
 clear E
 generalize mayS s = v at *
 go_enter Tryz.func122, Tryz.ntmps122
 go_upto_region 1 with (fail)
 generalize (w.alloc (.cells (sA s) 26)) = w1 at *
 obtain ⟨c0, c1, c2, c3, c4, c5, c6, c7, c8, c9⟩ := R1.out.s10
 go_wp2_with fail
 refine (MF.out _).mono ?_
 rintro e w2 ⟨rfl, hb2⟩
 have B2 := Box'.mk (B1.out.trans (hb2.mono B1.out.size))
 clear hb2
 go_wp2_with fail
 go_ret
 exact ⟨rfl, B2.out⟩
theorem mayCells_any (v : Value) (l : List Cl) (hl : l.length ≤ 140737488355328) (w : World) (h : Cls w.heap.size w v l) :
  Calls Tryz.prog 115 #[v] w fun e w' => e = .returned (.bool (l.all mayC)) ∧ Below w.heap.size w w' := by
 obtain ⟨a, c, rfl, hc, h3⟩ := h
 have HCL : Box' (∀ k, k < l.length → ∃ b o, a = some ⟨b, o, none⟩ ∧ ∀ k, k < l.length → ∀ wx, Below w.heap.size w wx → wx.rangeAt b (o + k * 15) (cA (cat l k)).toList) := ⟨fun k hk => by
  rcases h3 with rfl | ⟨b, o, rfl, h5, h6⟩
  ·simp at hk
  ·refine ⟨b, o, rfl, fun k hk wx hb => ?_⟩
   intro j v hv
   have hj : j < 15 := by have := (List.getElem?_eq_some_iff.1 hv).1; rwa [cA_len] at this
   rw [hb.cell (p := ⟨b, o + k * 15 + j, none⟩) h5, h6 k hk j hj]
   simpa [cat] using hv⟩
 have WT : Box' ((∀ i, i < l.length → mayC (cat l i) = true) → l.all mayC = true) := ⟨fun h => (cat_all l mayC).2 h⟩
 have WF : Box' (∀ i, i < l.length → mayC (cat l i) = false → l.all mayC = false) := ⟨fun i hi h => by
  cases e : l.all mayC with
  | false => rfl
  | true => rw [(cat_all l mayC).1 e i hi] at h; cases h⟩
 have MF := Box'.mk mayF_any
 generalize hn : l.length = n at *
 clear h3 hn
 go_enter Tryz.func115, Tryz.ntmps115
 go_wp2_with fail
 go_loopw [6] (fun i wr => ∃ k : Nat, k ≤ n ∧ i = .int .i64 (k : Int) ∧ Box' (∀ i, i < k → mayC (cat l i) = true) ∧ Box' (Below w.heap.size w wr)) (fun i _ => n - (intOf i).toNat)
 case atStart => exact ⟨0, by omega, rfl, ⟨fun i hi => by omega⟩, ⟨Below.refl _ _⟩⟩
 case round =>
  obtain ⟨k, hk, rfl, OK, BB⟩ := hrel
  by_cases hlt : k < n
  case neg =>
   obtain rfl : k = n := by omega
   have E := Box'.mk (WT.out OK.out)
   clear HCL
   go_wp2_with fail
   go_ret
   exact ⟨by rw [E.out]; rfl, BB.out⟩
  case pos =>
   obtain ⟨b, o, rfl, HC0⟩ := HCL.out k hlt
   have HX := Box'.mk (HC0 k hlt)
   have HY := Box'.mk (fun h => HC0 (k - 1) (by omega) h)
   have MY := Box'.mk (MF.out (cat l k))
   clear HCL HC0 MF
   go_wp2_with fail
   by_cases hz : k = 0
   case pos =>
    subst hz
    cases hm : mayC (cat l 0) with
    | false =>
     have MZ := Box'.mk MY.out
     rw [hm] at MZ
     refine wp_region_lex (fun wa => Below w.heap.size w wa) (by kernel_rfl) (by kernel_rfl) (BB.out.drew) ?_
     (go_big_quiet_want; go_big_quiet_op; first | go_big_quiet_on | (refine ⟨_, fun _ _ => rfl, ?_⟩; go_big_quiet_on) | (refine ⟨_, fun _ _ _ => rfl, ?_⟩; go_big_quiet_on))
     (go_big_quiet_want; refine qC_of (.bool true) (fun wq hC => by unfold execOp; simp [go_sem] <;> first | assumption | omega) ?_; simp only [Act.put, siB, stS, stZ]; go_big_quiet_on)
     (go_big_quiet_want; go_big_quiet_op; first | go_big_quiet_on | (refine ⟨_, fun _ _ => rfl, ?_⟩; go_big_quiet_on) | (refine ⟨_, fun _ _ _ => rfl, ?_⟩; go_big_quiet_on))
     iterate 10 go_big_quiet_skip
     iterate 5 (go_big_quiet_want; go_big_quiet_op; first | go_big_quiet_on | (refine ⟨_, fun _ _ => rfl, ?_⟩; go_big_quiet_on) | (refine ⟨_, fun _ _ _ => rfl, ?_⟩; go_big_quiet_on))
     (go_big_quiet_want; refine qC_mid 56 (.tmp 26) rfl b (o) (cA (cat l 0)) _ Tryz.underlying56 rfl s26 rfl (fun wq hC => (by have := HX.out wq hC; simpa using this)) ?_; simp only [Act.put, siB, stS, stZ]; go_big_quiet_on)
     (go_big_quiet_want; refine qC_call 112 #[.agg (cA (cat l 0))] (.bool false) (fun w => by simp [go_sem]) (fun wq hC => (MZ.out wq).mono fun e w' h => ⟨h.1, hC.trans (h.2.mono hC.size)⟩) ?_; simp only [Act.put, siB, stS, stZ]; go_big_quiet_on)
     iterate 2 (go_big_quiet_want; go_big_quiet_op; first | go_big_quiet_on | (refine ⟨_, fun _ _ => rfl, ?_⟩; go_big_quiet_on) | (refine ⟨_, fun _ _ _ => rfl, ?_⟩; go_big_quiet_on))
     refine wpQuiet_nil ?_
     intro wz hC
     have E := Box'.mk (WF.out 0 hlt hm)
     have B2 := Box'.mk hC
     clear hC
     go_wp2_with fail
     go_ret
     exact ⟨by rw [E.out]; rfl, B2.out⟩
    | true =>
     have MZ := Box'.mk MY.out
     rw [hm] at MZ
     have OK2 : Box' (∀ i, i < 0 + 1 → mayC (cat l i) = true) := ⟨fun i hi => by
      rcases Nat.lt_or_ge i 0 with q | q
      ·exact OK.out i q
      ·rw [show i = 0 by omega]; exact hm⟩
     refine wp_region_lex (fun wa => Below w.heap.size w wa) (by kernel_rfl) (by kernel_rfl) (BB.out.drew) ?_
     (go_big_quiet_want; go_big_quiet_op; first | go_big_quiet_on | (refine ⟨_, fun _ _ => rfl, ?_⟩; go_big_quiet_on) | (refine ⟨_, fun _ _ _ => rfl, ?_⟩; go_big_quiet_on))
     (go_big_quiet_want; refine qC_of (.bool true) (fun wq hC => by unfold execOp; simp [go_sem] <;> first | assumption | omega) ?_; simp only [Act.put, siB, stS, stZ]; go_big_quiet_on)
     (go_big_quiet_want; go_big_quiet_op; first | go_big_quiet_on | (refine ⟨_, fun _ _ => rfl, ?_⟩; go_big_quiet_on) | (refine ⟨_, fun _ _ _ => rfl, ?_⟩; go_big_quiet_on))
     iterate 10 go_big_quiet_skip
     iterate 5 (go_big_quiet_want; go_big_quiet_op; first | go_big_quiet_on | (refine ⟨_, fun _ _ => rfl, ?_⟩; go_big_quiet_on) | (refine ⟨_, fun _ _ _ => rfl, ?_⟩; go_big_quiet_on))
     (go_big_quiet_want; refine qC_mid 56 (.tmp 26) rfl b (o) (cA (cat l 0)) _ Tryz.underlying56 rfl s26 rfl (fun wq hC => (by have := HX.out wq hC; simpa using this)) ?_; simp only [Act.put, siB, stS, stZ]; go_big_quiet_on)
     (go_big_quiet_want; refine qC_call 112 #[.agg (cA (cat l 0))] (.bool true) (fun w => by simp [go_sem]) (fun wq hC => (MZ.out wq).mono fun e w' h => ⟨h.1, hC.trans (h.2.mono hC.size)⟩) ?_; simp only [Act.put, siB, stS, stZ]; go_big_quiet_on)
     iterate 2 (go_big_quiet_want; go_big_quiet_op; first | go_big_quiet_on | (refine ⟨_, fun _ _ => rfl, ?_⟩; go_big_quiet_on) | (refine ⟨_, fun _ _ _ => rfl, ?_⟩; go_big_quiet_on))
     refine wpQuiet_nil ?_
     intro wz hC
     have B2 := Box'.mk hC
     clear hC
     go_wp2_with fail
     exact ⟨⟨0 + 1, by omega, by go_num, OK2, B2⟩, by simp [intOf]; omega⟩
   case neg =>
    by_cases he : cat l k = cat l (k - 1)
    case pos =>
     have hm : mayC (cat l k) = true := by rw [he]; exact OK.out (k - 1) (by omega)
     have EQ : Box' ((!clB (cat l k) (cat l (k - 1))) = false) := ⟨by rw [clB_yes he]; rfl⟩
     have OK2 : Box' (∀ i, i < k + 1 → mayC (cat l i) = true) := ⟨fun i hi => by
      rcases Nat.lt_or_ge i k with q | q
      ·exact OK.out i q
      ·rw [show i = k by omega]; exact hm⟩
     clear he hm
     refine wp_region_lex (fun wa => Below w.heap.size w wa) (by kernel_rfl) (by kernel_rfl) (BB.out.drew) ?_
     (go_big_quiet_want; go_big_quiet_op; first | go_big_quiet_on | (refine ⟨_, fun _ _ => rfl, ?_⟩; go_big_quiet_on) | (refine ⟨_, fun _ _ _ => rfl, ?_⟩; go_big_quiet_on))
     (go_big_quiet_want; refine qC_of (.bool false) (fun wq hC => by unfold execOp; simp [go_sem] <;> first | assumption | omega) ?_; simp only [Act.put, siB, stS, stZ]; go_big_quiet_on)
     iterate 4 (go_big_quiet_want; go_big_quiet_op; first | go_big_quiet_on | (refine ⟨_, fun _ _ => rfl, ?_⟩; go_big_quiet_on) | (refine ⟨_, fun _ _ _ => rfl, ?_⟩; go_big_quiet_on))
     (go_big_quiet_want; refine qC_mid 56 (.tmp 14) rfl b (o + k * 15) (cA (cat l k)) _ Tryz.underlying56 rfl s26 rfl (fun wq hC => (HX.out wq hC)) ?_; simp only [Act.put, siB, stS, stZ]; go_big_quiet_on)
     iterate 3 (go_big_quiet_want; go_big_quiet_op; first | go_big_quiet_on | (refine ⟨_, fun _ _ => rfl, ?_⟩; go_big_quiet_on) | (refine ⟨_, fun _ _ _ => rfl, ?_⟩; go_big_quiet_on))
     (go_big_quiet_want; refine qC_of (.pointer (some ⟨b, o + (k - 1) * 15, none⟩)) (fun wq hC => by unfold execOp; simp [go_sem] <;> omega) ?_; simp only [Act.put, siB, stS, stZ]; go_big_quiet_on)
     (go_big_quiet_want; refine qC_mid 56 (.tmp 19) rfl b (o + (k - 1) * 15) (cA (cat l (k - 1))) _ Tryz.underlying56 rfl s26 rfl (fun wq hC => (HY.out wq hC)) ?_; simp only [Act.put, siB, stS, stZ]; go_big_quiet_on)
     (go_big_quiet_want; refine qC_of (.bool false) (fun wq hC => (run_neq_cell_op 56 (.tmp 15) (.tmp 20) rfl (cat l k) (cat l (k - 1)) rfl rfl _ EQ.out wq)) ?_; simp only [Act.put, siB, stS, stZ]; go_big_quiet_on)
     iterate 2 (go_big_quiet_want; go_big_quiet_op; first | go_big_quiet_on | (refine ⟨_, fun _ _ => rfl, ?_⟩; go_big_quiet_on) | (refine ⟨_, fun _ _ _ => rfl, ?_⟩; go_big_quiet_on))
     iterate 6 go_big_quiet_skip
     (go_big_quiet_want; go_big_quiet_op; first | go_big_quiet_on | (refine ⟨_, fun _ _ => rfl, ?_⟩; go_big_quiet_on) | (refine ⟨_, fun _ _ _ => rfl, ?_⟩; go_big_quiet_on))
     refine wpQuiet_nil ?_
     intro wz hC
     have B2 := Box'.mk hC
     clear hC
     go_wp2_with fail
     exact ⟨⟨k + 1, by omega, by go_num, OK2, B2⟩, by simp [intOf]; omega⟩
    case neg =>
     have EQ : Box' ((!clB (cat l k) (cat l (k - 1))) = true) := ⟨by rw [clB_no he]; rfl⟩
     clear he
     cases hm : mayC (cat l k) with
     | false =>
      have MZ := Box'.mk MY.out
      rw [hm] at MZ
      refine wp_region_lex (fun wa => Below w.heap.size w wa) (by kernel_rfl) (by kernel_rfl) (BB.out.drew) ?_
      (go_big_quiet_want; go_big_quiet_op; first | go_big_quiet_on | (refine ⟨_, fun _ _ => rfl, ?_⟩; go_big_quiet_on) | (refine ⟨_, fun _ _ _ => rfl, ?_⟩; go_big_quiet_on))
      (go_big_quiet_want; refine qC_of (.bool false) (fun wq hC => by unfold execOp; simp [go_sem] <;> first | assumption | omega) ?_; simp only [Act.put, siB, stS, stZ]; go_big_quiet_on)
      iterate 4 (go_big_quiet_want; go_big_quiet_op; first | go_big_quiet_on | (refine ⟨_, fun _ _ => rfl, ?_⟩; go_big_quiet_on) | (refine ⟨_, fun _ _ _ => rfl, ?_⟩; go_big_quiet_on))
      (go_big_quiet_want; refine qC_mid 56 (.tmp 14) rfl b (o + k * 15) (cA (cat l k)) _ Tryz.underlying56 rfl s26 rfl (fun wq hC => (HX.out wq hC)) ?_; simp only [Act.put, siB, stS, stZ]; go_big_quiet_on)
      iterate 3 (go_big_quiet_want; go_big_quiet_op; first | go_big_quiet_on | (refine ⟨_, fun _ _ => rfl, ?_⟩; go_big_quiet_on) | (refine ⟨_, fun _ _ _ => rfl, ?_⟩; go_big_quiet_on))
      (go_big_quiet_want; refine qC_of (.pointer (some ⟨b, o + (k - 1) * 15, none⟩)) (fun wq hC => by unfold execOp; simp [go_sem] <;> omega) ?_; simp only [Act.put, siB, stS, stZ]; go_big_quiet_on)
      (go_big_quiet_want; refine qC_mid 56 (.tmp 19) rfl b (o + (k - 1) * 15) (cA (cat l (k - 1))) _ Tryz.underlying56 rfl s26 rfl (fun wq hC => (HY.out wq hC)) ?_; simp only [Act.put, siB, stS, stZ]; go_big_quiet_on)
      (go_big_quiet_want; refine qC_of (.bool true) (fun wq hC => (run_neq_cell_op 56 (.tmp 15) (.tmp 20) rfl (cat l k) (cat l (k - 1)) rfl rfl _ EQ.out wq)) ?_; simp only [Act.put, siB, stS, stZ]; go_big_quiet_on)
      iterate 5 (go_big_quiet_want; go_big_quiet_op; first | go_big_quiet_on | (refine ⟨_, fun _ _ => rfl, ?_⟩; go_big_quiet_on) | (refine ⟨_, fun _ _ _ => rfl, ?_⟩; go_big_quiet_on))
      (go_big_quiet_want; refine qC_mid 56 (.tmp 26) rfl b (o + k * 15) (cA (cat l k)) _ Tryz.underlying56 rfl s26 rfl (fun wq hC => (HX.out wq hC)) ?_; simp only [Act.put, siB, stS, stZ]; go_big_quiet_on)
      (go_big_quiet_want; refine qC_call 112 #[.agg (cA (cat l k))] (.bool false) (fun w => by simp [go_sem]) (fun wq hC => (MZ.out wq).mono fun e w' h => ⟨h.1, hC.trans (h.2.mono hC.size)⟩) ?_; simp only [Act.put, siB, stS, stZ]; go_big_quiet_on)
      iterate 2 (go_big_quiet_want; go_big_quiet_op; first | go_big_quiet_on | (refine ⟨_, fun _ _ => rfl, ?_⟩; go_big_quiet_on) | (refine ⟨_, fun _ _ _ => rfl, ?_⟩; go_big_quiet_on))
      refine wpQuiet_nil ?_
      intro wz hC
      have E := Box'.mk (WF.out k hlt hm)
      have B2 := Box'.mk hC
      clear hC
      go_wp2_with fail
      go_ret
      exact ⟨by rw [E.out]; rfl, B2.out⟩
     | true =>
      have MZ := Box'.mk MY.out
      rw [hm] at MZ
      have OK2 : Box' (∀ i, i < k + 1 → mayC (cat l i) = true) := ⟨fun i hi => by
       rcases Nat.lt_or_ge i k with q | q
       ·exact OK.out i q
       ·rw [show i = k by omega]; exact hm⟩
      refine wp_region_lex (fun wa => Below w.heap.size w wa) (by kernel_rfl) (by kernel_rfl) (BB.out.drew) ?_
      (go_big_quiet_want; go_big_quiet_op; first | go_big_quiet_on | (refine ⟨_, fun _ _ => rfl, ?_⟩; go_big_quiet_on) | (refine ⟨_, fun _ _ _ => rfl, ?_⟩; go_big_quiet_on))
      (go_big_quiet_want; refine qC_of (.bool false) (fun wq hC => by unfold execOp; simp [go_sem] <;> first | assumption | omega) ?_; simp only [Act.put, siB, stS, stZ]; go_big_quiet_on)
      iterate 4 (go_big_quiet_want; go_big_quiet_op; first | go_big_quiet_on | (refine ⟨_, fun _ _ => rfl, ?_⟩; go_big_quiet_on) | (refine ⟨_, fun _ _ _ => rfl, ?_⟩; go_big_quiet_on))
      (go_big_quiet_want; refine qC_mid 56 (.tmp 14) rfl b (o + k * 15) (cA (cat l k)) _ Tryz.underlying56 rfl s26 rfl (fun wq hC => (HX.out wq hC)) ?_; simp only [Act.put, siB, stS, stZ]; go_big_quiet_on)
      iterate 3 (go_big_quiet_want; go_big_quiet_op; first | go_big_quiet_on | (refine ⟨_, fun _ _ => rfl, ?_⟩; go_big_quiet_on) | (refine ⟨_, fun _ _ _ => rfl, ?_⟩; go_big_quiet_on))
      (go_big_quiet_want; refine qC_of (.pointer (some ⟨b, o + (k - 1) * 15, none⟩)) (fun wq hC => by unfold execOp; simp [go_sem] <;> omega) ?_; simp only [Act.put, siB, stS, stZ]; go_big_quiet_on)
      (go_big_quiet_want; refine qC_mid 56 (.tmp 19) rfl b (o + (k - 1) * 15) (cA (cat l (k - 1))) _ Tryz.underlying56 rfl s26 rfl (fun wq hC => (HY.out wq hC)) ?_; simp only [Act.put, siB, stS, stZ]; go_big_quiet_on)
      (go_big_quiet_want; refine qC_of (.bool true) (fun wq hC => (run_neq_cell_op 56 (.tmp 15) (.tmp 20) rfl (cat l k) (cat l (k - 1)) rfl rfl _ EQ.out wq)) ?_; simp only [Act.put, siB, stS, stZ]; go_big_quiet_on)
      iterate 5 (go_big_quiet_want; go_big_quiet_op; first | go_big_quiet_on | (refine ⟨_, fun _ _ => rfl, ?_⟩; go_big_quiet_on) | (refine ⟨_, fun _ _ _ => rfl, ?_⟩; go_big_quiet_on))
      (go_big_quiet_want; refine qC_mid 56 (.tmp 26) rfl b (o + k * 15) (cA (cat l k)) _ Tryz.underlying56 rfl s26 rfl (fun wq hC => (HX.out wq hC)) ?_; simp only [Act.put, siB, stS, stZ]; go_big_quiet_on)
      (go_big_quiet_want; refine qC_call 112 #[.agg (cA (cat l k))] (.bool true) (fun w => by simp [go_sem]) (fun wq hC => (MZ.out wq).mono fun e w' h => ⟨h.1, hC.trans (h.2.mono hC.size)⟩) ?_; simp only [Act.put, siB, stS, stZ]; go_big_quiet_on)
      iterate 2 (go_big_quiet_want; go_big_quiet_op; first | go_big_quiet_on | (refine ⟨_, fun _ _ => rfl, ?_⟩; go_big_quiet_on) | (refine ⟨_, fun _ _ _ => rfl, ?_⟩; go_big_quiet_on))
      refine wpQuiet_nil ?_
      intro wz hC
      have B2 := Box'.mk hC
      clear hC
      go_wp2_with fail
      exact ⟨⟨k + 1, by omega, by go_num, OK2, B2⟩, by simp [intOf]; omega⟩
end Go.Proofs.YtlekleeckcdcgaaGreat
