/- The plain mathematics of the reference's beginning: bits of stretched bytes, one by one. -/
import Derived.Test.YthcokaffbgbanaaDoorXf
import Derived.Test.YthcokaffbgbanaaDoorXc
import Derived.Test.YthcokaffbgbanaaDoorXh
import Derived.Laws.AppendOwnNone
namespace Go.Proofs.YthcokaffbgbanaaDoor.Gf

def more (k : List UInt8) : Nat → List UInt8
  | 0 => k
  | i + 1 => more k i ++ [bx (k.getD i 0) (k.getD (i + 1) 0)]
set_option maxRecDepth 100000 in
theorem more_len (k : List UInt8) (i : Nat) : (more k i).length = k.length + i := by
  induction i with
  | zero => rfl
  | succ i ih => rw [more, List.length_append, ih]; rfl
set_option maxRecDepth 100000 in
theorem more_lo (k : List UInt8) (i j : Nat) (h : j < k.length) : (more k i)[j]? = k[j]? := by
  induction i with
  | zero => rfl
  | succ i ih => rw [more, List.getElem?_append_left (by rw [more_len]; omega), ih]
set_option maxRecDepth 100000 in
theorem more_hi (k : List UInt8) (i j : Nat) (h : j < i) : (more k i)[k.length + j]? = some (bx (k.getD j 0) (k.getD (j + 1) 0)) := by
  induction i with
  | zero => omega
  | succ i ih =>
    rw [more]
    by_cases e : j = i
    · subst e
      rw [List.getElem?_append_right (by rw [more_len]; omega), more_len, Nat.sub_self]; rfl
    · rw [List.getElem?_append_left (by rw [more_len]; omega)]; exact ih (by omega)
def bitAt (s : List UInt8) (q : Nat) : Nat := (s.getD (q / 8) 0).toNat / 2 ^ (7 - q % 8) % 2
set_option maxRecDepth 100000 in
theorem bitAt_bit (s : List UInt8) (q : Nat) : (bitAt s q = 1) = ((s.getD (q / 8) 0).toNat.testBit (7 - q % 8) = true) := by
  unfold bitAt
  rw [Nat.testBit_eq_decide_div_mod_eq, decide_eq_true_eq]
def oTo (s : List UInt8) (p : Nat) : Nat → List UInt8
  | 0 => zeros 16
  | t + 1 => (oTo s p t).set (t / 8) ((oTo s p t).getD (t / 8) 0 ||| UInt8.ofNat (bitAt s (p + t) * 2 ^ (7 - t % 8)))
set_option maxRecDepth 100000 in
theorem oTo_len (s : List UInt8) (p t : Nat) : (oTo s p t).length = 16 := by
  induction t with
  | zero => rfl
  | succ t ih => rw [oTo, List.length_set, ih]
set_option maxRecDepth 100000 in
theorem one_bit (d m r : Nat) (hd : d < 2) (hm : m < 8) : (UInt8.ofNat (d * 2 ^ m)).toNat.testBit r = (decide (r = m) && decide (d = 1)) := by
  have h2 : d * 2 ^ m < 256 := by
    have h3 : d * 2 ^ m ≤ 1 * 2 ^ m := Nat.mul_le_mul_right _ (by omega)
    have h4 : 2 ^ m ≤ 2 ^ 7 := Nat.pow_le_pow_right (by decide) (by omega)
    omega
  rw [UInt8.toNat_ofNat_of_lt' (show _ < 256 from h2), Nat.mul_comm, Nat.testBit_two_pow_mul]
  have hc : d = 0 ∨ d = 1 := by omega
  rcases hc with rfl | rfl
  · simp
  · by_cases e : r = m
    · subst e; simp
    · by_cases h : m ≤ r
      · have : r - m ≠ 0 := by omega
        simp only [ge_iff_le, h, decide_true, Bool.true_and, e, decide_false, Bool.false_and]
        exact Nat.testBit_lt_two_pow (Nat.lt_of_lt_of_le (show 1 < 2 ^ 1 by decide) (Nat.pow_le_pow_right (by decide) (by omega)))
      · simp [h, e]
set_option maxRecDepth 100000 in
theorem oTo_bit (s : List UInt8) (p t j r : Nat) (hj : j < 16) (hr : r < 8) (ht : t ≤ 128) : ((oTo s p t).getD j 0).toNat.testBit r = (decide (8 * j + 7 - r < t) && (s.getD ((p + (8 * j + 7 - r)) / 8) 0).toNat.testBit (7 - (p + (8 * j + 7 - r)) % 8)) := by
  induction t with
  | zero =>
    have : (oTo s p 0).getD j 0 = 0 := by rw [oTo, zeros, List.getD_eq_getElem?_getD, List.getElem?_replicate, if_pos hj]; rfl
    rw [this]; simp
  | succ t ih =>
    have ih := ih (by omega)
    rw [oTo]
    by_cases e : j = t / 8
    · subst e
      rw [List.getD_eq_getElem?_getD, List.getElem?_set_self (by rw [oTo_len]; exact hj)]
      simp only [Option.getD_some, UInt8.toNat_or, Nat.testBit_or]
      rw [ih, one_bit _ _ _ (show bitAt s (p + t) < 2 from Nat.mod_lt _ (by decide)) (by omega)]
      by_cases hq : r = 7 - t % 8
      · have e2 : 8 * (t / 8) + 7 - r = t := by omega
        rw [e2]
        have h1 : ¬ t < t := by omega
        have h2 : t < t + 1 := by omega
        simp only [h1, h2, decide_true, decide_false, Bool.false_and, Bool.true_and, Bool.false_or, hq]
        rw [Bool.eq_iff_iff, decide_eq_true_eq, bitAt_bit]
      · have h3 : (8 * (t / 8) + 7 - r < t) ↔ (8 * (t / 8) + 7 - r < t + 1) := by omega
        simp [hq, h3]
    · rw [List.getD_eq_getElem?_getD, List.getElem?_set_ne (by omega), ← List.getD_eq_getElem?_getD, ih]
      have h3 : (8 * j + 7 - r < t) ↔ (8 * j + 7 - r < t + 1) := by omega
      simp [h3]
set_option maxRecDepth 100000 in
theorem behind_bit (k : List UInt8) (x : Nat) (hx : x < 64) : (behind (half k 0) (half k 8)).testBit x = (bx (k.getD (7 - x / 8) 0) (k.getD (7 - x / 8 + 1) 0)).toNat.testBit (x % 8) := by
  unfold behind bx
  rw [UInt8.toNat_xor, Nat.testBit_xor, Nat.testBit_xor, Nat.testBit_or, show (18446744073709551616 : Nat) = 2 ^ 64 from rfl, show (72057594037927936 : Nat) = 2 ^ 56 from rfl, Nat.testBit_mod_two_pow, Nat.mul_comm, show 256 * half k 0 = 2 ^ 8 * half k 0 from rfl, Nat.testBit_two_pow_mul, Nat.testBit_div_two_pow, half_bit k 0 x hx]
  rw [Nat.zero_add]
  congr 1
  by_cases h8 : 8 ≤ x
  · rw [half_out k 8 _ (by omega), half_bit k 0 (x - 8) (by omega)]
    have e1 : 0 + (7 - (x - 8) / 8) = 7 - x / 8 + 1 := by omega
    have e2 : (x - 8) % 8 = x % 8 := by omega
    rw [e1, e2]
    simp only [hx, decide_true, Bool.true_and, ge_iff_le, h8, Bool.or_false]
  · rw [half_bit k 8 (x + 56) (by omega)]
    have e1 : 8 + (7 - (x + 56) / 8) = 7 - x / 8 + 1 := by omega
    have e2 : (x + 56) % 8 = x % 8 := by omega
    rw [e1, e2]
    simp only [ge_iff_le, h8, decide_false, Bool.false_and, Bool.and_false, Bool.false_or]
set_option maxRecDepth 100000 in
theorem behind_out (k : List UInt8) (x : Nat) (hx : 64 ≤ x) : (behind (half k 0) (half k 8)).testBit x = false := by
  unfold behind
  rw [Nat.testBit_xor, Nat.testBit_or, show (18446744073709551616 : Nat) = 2 ^ 64 from rfl, show (72057594037927936 : Nat) = 2 ^ 56 from rfl, Nat.testBit_mod_two_pow, Nat.testBit_div_two_pow, half_out k 0 x hx, half_out k 8 _ (by omega)]
  have : ¬ x < 64 := by omega
  simp [this]
set_option maxRecDepth 100000 in
theorem shift_bit (h l p q : Nat) (hp : p < 64) (hq : q < 64) (hl : ∀ x, 64 ≤ x → l.testBit x = false) : ((h * 2 ^ p % 18446744073709551616) ||| (l / 2 ^ (64 - p))).testBit q = if p ≤ q then h.testBit (q - p) else l.testBit (q + 64 - p) := by
  rw [Nat.testBit_or, show (18446744073709551616 : Nat) = 2 ^ 64 from rfl, Nat.testBit_mod_two_pow, Nat.mul_comm, Nat.testBit_two_pow_mul, Nat.testBit_div_two_pow]
  by_cases h1 : p ≤ q
  · rw [if_pos h1, hl _ (by omega)]
    simp only [hq, decide_true, Bool.true_and, ge_iff_le, h1, Bool.or_false]
  · rw [if_neg h1, show q + (64 - p) = q + 64 - p by omega]
    simp only [ge_iff_le, h1, decide_false, Bool.false_and, Bool.and_false, Bool.false_or]
set_option maxRecDepth 100000 in
theorem begin_eq (k : List UInt8) (hk : k.length = 16) (p : Nat) (hp : p < 64) : oTo (more k 8) p 128 = shifted (half k 0) (half k 8) p := by
  apply ext_bits
  · rw [oTo_len]; unfold shifted; rw [joinL_len]
  intro j hj r hr
  rw [oTo_len] at hj
  rw [oTo_bit _ _ _ _ _ hj hr (Nat.le_refl _)]
  have h128 : 8 * j + 7 - r < 128 := by omega
  rw [decide_eq_true h128, Bool.true_and]
  have lo : ∀ i, i < 16 → (more k 8).getD i 0 = k.getD i 0 := fun i hi => by rw [List.getD_eq_getElem?_getD, more_lo k 8 i (by omega), ← List.getD_eq_getElem?_getD]
  have hi' : ∀ i, i < 8 → (more k 8).getD (16 + i) 0 = bx (k.getD i 0) (k.getD (i + 1) 0) := fun i hi => by rw [List.getD_eq_getElem?_getD, ← hk, more_hi k 8 i hi]; rfl
  unfold shifted
  by_cases h8 : j < 8
  · rw [joinL_lo _ _ j h8, ofNat_bit _ _ _ hr, shift_bit _ _ _ _ hp (by omega) (fun x hx => half_out k 8 x hx)]
    by_cases h1 : p ≤ 56 - 8 * j + r
    · rw [if_pos h1, half_bit k 0 _ (by omega), lo _ (by omega)]
      congr 1
      · congr 2; omega
      · omega
    · rw [if_neg h1, half_bit k 8 _ (by omega), lo _ (by omega)]
      congr 1
      · congr 2; omega
      · omega
  · obtain ⟨i, rfl⟩ : ∃ i, j = i + 8 := ⟨j - 8, by omega⟩
    rw [joinL_hi _ _ i (by omega), ofNat_bit _ _ _ hr, shift_bit _ _ _ _ hp (by omega) (fun x hx => behind_out k x hx)]
    by_cases h1 : p ≤ 56 - 8 * i + r
    · rw [if_pos h1, half_bit k 8 _ (by omega), lo _ (by omega)]
      congr 1
      · congr 2; omega
      · omega
    · rw [if_neg h1, behind_bit k _ (by omega)]
      have e : (p + (8 * (i + 8) + 7 - r)) / 8 = 16 + (7 - (56 - 8 * i + r + 64 - p) / 8) := by omega
      rw [e, hi' _ (by omega)]
      congr 1
      omega

/-! The block of a nonce. -/
set_option maxRecDepth 100000 in
theorem nblock_eq (l : List UInt8) (h : l.length ≤ 15) : (splice (zeros 16) (16 - l.length) l).set (15 - l.length) 1 = nblock l := by
  unfold nblock
  have hz : (zeros 16).length = 16 := rfl
  have hs : ∀ z : List UInt8, z.length = 16 → (splice z (16 - l.length) l).length = 16 := fun z hz => by rw [splice_len _ _ _ (by omega)]; exact hz
  apply List.ext_getElem?
  intro i
  by_cases e : i = 15 - l.length
  · subst e
    rw [List.getElem?_set_self (by rw [hs _ hz]; omega)]
    unfold splice
    rw [List.getElem?_append_left (by simp [hz]; omega), List.getElem?_take_of_lt (by omega), List.getElem?_set_self (by rw [hz]; omega)]
  · rw [List.getElem?_set_ne (by omega)]
    unfold splice
    by_cases h1 : i < 16 - l.length
    · rw [List.getElem?_append_left (by simp [hz]; omega), List.getElem?_append_left (by simp [hz]; omega), List.getElem?_take_of_lt h1, List.getElem?_take_of_lt h1, List.getElem?_set_ne (by omega)]
    · have e1 : (List.take (16 - l.length) (zeros 16)).length = 16 - l.length := by simp [hz]
      have e2 : (List.take (16 - l.length) ((zeros 16).set (15 - l.length) 1)).length = 16 - l.length := by simp [hz]
      rw [List.getElem?_append_right (by rw [e1]; omega), List.getElem?_append_right (l₁ := List.take (16 - l.length) ((zeros 16).set (15 - l.length) 1)) (by rw [e2]; omega), e1, e2]
      by_cases h2 : i - (16 - l.length) < l.length
      · rw [List.getElem?_append_left h2, List.getElem?_append_left h2]
      · rw [List.getElem?_append_right (by omega), List.getElem?_append_right (by omega), List.getElem?_drop, List.getElem?_drop, List.getElem?_set_ne (by omega)]
end Go.Proofs.YthcokaffbgbanaaDoor.Gf

/- Bytes that a call puts behind each other in a row of its own. -/
namespace Go.Proofs.YthcokaffbgbanaaDoor
open Go.RowKit Go.BigFrame

def Own (N : Nat) (w : World) (v : Value) (d : List UInt8) : Prop := w.ownsRow N 5 1 v d.length (d.map B)
set_option maxRecDepth 100000 in
theorem Own.nil (N : Nat) (w : World) : Own N w (.slice none 0 0) [] := ⟨rfl, .inl ⟨rfl, rfl⟩⟩
set_option maxRecDepth 100000 in
theorem Own.new (N : Nat) (w : World) (h : N ≤ w.heap.size) : Own N (w.alloc (.cells #[] 5)) (.slice (some ⟨w.heap.size, 0, none⟩) 0 0) [] :=
  ⟨rfl, .inr ⟨_, _, #[], rfl, h, Row.new w 5 #[], Nat.le_refl _, Nat.zero_le _, rfl, rfl⟩⟩
set_option maxRecDepth 100000 in
theorem Own.same {N : Nat} {w w' : World} {v : Value} {d : List UInt8} (h : Own N w v d) (hk : ∀ b c, Row w b 5 c → Row w' b 5 c) : Own N w' v d := by
  refine ⟨h.1, ?_⟩
  rcases h.2 with h2 | ⟨g, cap, cur, e1, e2, e3, e4⟩
  · exact .inl h2
  · exact .inr ⟨g, cap, cur, e1, e2, hk g cur e3, e4⟩
set_option maxRecDepth 100000 in
theorem Own.below {N : Nat} {w w' : World} {v : Value} {d : List UInt8} (h : Own N w v d) (hb : Below w.heap.size w w') : Own N w' v d := h.same fun _ _ hr => hr.below hb hr.lt
set_option maxRecDepth 100000 in
theorem Own.alloc {N : Nat} {w : World} {v : Value} {d : List UInt8} (h : Own N w v d) (o : Obj) : Own N (w.alloc o) v d := h.same fun _ _ hr => hr.alloc o
set_option maxRecDepth 100000 in
theorem Own.drew {N : Nat} {w : World} {v : Value} {d : List UInt8} (h : Own N w v d) : Own N w.drew v d := h
set_option maxRecDepth 100000 in
theorem row_ne {w : World} {b p : Nat} {t t' : TypeId} {c c' : Array Value} (h : Row w b t c) (h' : Row w p t' c') (ht : t ≠ t') : b ≠ p := by
  rintro rfl
  have e : some (Obj.cells c t (0, 0)) = some (.cells c' t' (0, 0)) := Eq.trans (Eq.symm h) h'
  injection e with e
  injection e with _ e
  exact ht e
set_option maxRecDepth 100000 in
theorem Own.setRow {N : Nat} {w : World} {v : Value} {d : List UInt8} (h : Own N w v d) {p : Nat} {t : TypeId} {n : Nat} (hp : Room w p t n) (ht : t ≠ 5) (c' : Array Value) : Own N (w.setRow p c') v d := by
  obtain ⟨c, hp, _⟩ := hp
  exact h.same fun b _ hr => hr.setRowOther _ _ (row_ne hr hp (Ne.symm ht))
set_option maxRecDepth 100000 in
theorem Own.setCell {N : Nat} {w : World} {v : Value} {d : List UInt8} (h : Own N w v d) {p : Nat} {t : TypeId} {n : Nat} (hp : Room w p t n) (ht : t ≠ 5) (k : Nat) (u : Value) : Own N (w.setCell ⟨p, k, none⟩ u) v d := by
  obtain ⟨c, hp, _⟩ := hp
  exact h.same fun b _ hr => hr.setOther _ _ (row_ne hr hp (Ne.symm ht))
set_option maxRecDepth 100000 in
theorem Own.at {N : Nat} {w : World} {v : Value} {d : List UInt8} (h : Own N w v d) (hd : d ≠ []) : ∃ g cap, v = .slice (some ⟨g, 0, none⟩) d.length cap ∧ N ≤ g ∧ d.length ≤ cap ∧ ∀ k, k < d.length → w.cell? ⟨g, k, none⟩ = some (.int .u8 ((d.getD k 0).toNat : Int)) := by
  rcases h.2 with ⟨_, h2⟩ | ⟨g, cap, cur, e1, e2, e3, e4, e5, e6, e7⟩
  · exact absurd (List.eq_nil_of_length_eq_zero h2) hd
  · refine ⟨g, cap, e1, e2, e4, fun k hk => ?_⟩
    have r : Row w g 5 cur := e3
    rw [r.cell, ← Array.getElem?_toList]
    have h3 : (cur.toList.take (d.length * 1))[k]? = cur.toList[k]? := List.getElem?_take_of_lt (by omega)
    rw [← h3, e7]
    simp [hk, B]
set_option maxRecDepth 100000 in
theorem Own.bts {N : Nat} {w : World} {v : Value} {d : List UInt8} (h : Own N w v d) : Bts (· < w.heap.size) w v d := by
  rcases h.2 with ⟨h1, h2⟩ | ⟨g, cap, cur, e1, e2, e3, e4, e5, e6, e7⟩
  · obtain rfl := List.eq_nil_of_length_eq_zero h2
    exact ⟨none, 0, h1, Nat.le_refl _, .inl rfl⟩
  · refine ⟨_, cap, e1, e4, .inr ⟨g, 0, rfl, Row.lt (show Row w g 5 cur from e3), fun j u hu => ?_⟩⟩
    have r : Row w g 5 cur := e3
    have hj : j < d.length := by
      have := (List.getElem?_eq_some_iff.1 hu).1
      rw [List.length_map] at this; exact this
    rw [Nat.zero_add, r.cell, ← Array.getElem?_toList]
    have h3 : (cur.toList.take (d.length * 1))[j]? = cur.toList[j]? := List.getElem?_take_of_lt (by omega)
    rw [← h3, e7]; exact hu

set_option maxRecDepth 100000 in
theorem run_build1 (w : World) (n : Int) : (Instr.buildSlice 26 1 #[(0, .int .u8 n)]).run Tryd.prog w = .ok (.slice (some ⟨w.heap.size, 0, none⟩) 1 1) (w.alloc (.cells #[.int .u8 n] 5)) := by
  simp [go_sem, Instr.buildSlice]
set_option maxRecDepth 100000 in
theorem wp_build1 {op : Oper} {a : Act} {w : World} {K : Act → World → Prop} {Q : Exit → Act → World → Prop} (x : Operand) (ho : op.op = .buildSlice 26 1 #[(0, x)]) (n : Int) (hx : a.eval x = .int .u8 n)
    (h : K (a.put op.dst (.slice (some ⟨w.heap.size, 0, none⟩) 1 1)) (w.alloc (.cells #[.int .u8 n] 5))) : op.wp Tryd.prog a w K Q := by
  have hr := run_build1 w n
  unfold Oper.wp execOp
  simp only [ho, List.map_toArray, List.map_cons, List.map_nil, hx, Sem.run_bind, hr, Result.andThen_ok]
  exact h
/-- What an append leaves as it was. -/
structure Apd (N : Nat) (w w' : World) : Prop where
  rows : ∀ b t c, t ≠ 5 → Row w b t c → Row w' b t c
  bel : ∀ w0, Below N w0 w → Below N w0 w'
set_option maxRecDepth 100000 in
theorem Apd.room {N : Nat} {w w' : World} (h : Apd N w w') {p : Nat} {t : TypeId} {n : Nat} (ht : t ≠ 5) (hp : Room w p t n) : Room w' p t n := let ⟨c, h1, h2⟩ := hp; ⟨c, h.rows _ _ _ ht h1, h2⟩

set_option maxRecDepth 100000 in
theorem one_By (l : List UInt8) : ∀ u ∈ l.map B, u.oneCell' = true := by
  intro u hu
  obtain ⟨x, _, rfl⟩ := List.mem_map.1 hu
  rfl
set_option maxRecDepth 100000 in
theorem Tryd.info5a : ∃ i, Tryd.prog.info? 5 = some i ∧ i.zero = some (.int .u8 0) ∧ i.size = 1 ∧ i.bytes = 1 := ⟨_, rfl, rfl, rfl, rfl⟩
/-- append(v, x...) of bytes that lie somewhere. -/
theorem wpList_append_bytes {ops : Array Oper} {rest : List Oper} {o : Oper} {a : Act} {w : World} {Q : Exit → Act → World → Prop} (hgd : o.guard = none) (s x : Operand)
    (ho : o.op = .call { callee := .builtin .append, args := #[s, x], argTypes := #[26, 26] }) (N : Nat) (hN : N ≤ w.heap.size)
    (v : Value) (d : List UInt8) (hs : a.eval s = v) (hown : Own N w v d) (ad : Addr) (m c : Nat) (l : List UInt8) (hx : a.eval x = .slice (some ad) m c) (hm : l.length = m)
    (hc : ∀ j u, (l.map B)[j]? = some u → w.cell? (ad.add j) = some u) (hmax : d.length + l.length ≤ 1000000)
    (h : ∀ v' w', Own N w' v' (d ++ l) → Apd N w w' → wpList Tryd.prog ops Q rest (a.put o.dst v') w') : wpList Tryd.prog ops Q (o :: rest) a w := by
  obtain ⟨i, h1, h2, h3, h4⟩ := Tryd.info5a
  obtain ⟨v', w', hr, g2, g3, _⟩ := run_append_own (P := Tryd.prog) w N 26 o.type 5 i _ 1 1 Tryd.underlying26 h1 h2 h3 h4 rfl (by decide) v d.length (d.map B) hown ad m c (l.map B) (by rw [List.length_map, hm, Nat.mul_one]) hc (one_By l) (by unfold maxLen; omega) (by omega) hN
  have g2' : Own N w' v' (d ++ l) := by unfold Own; rw [List.length_append, List.map_append, hm]; exact g2
  have hblk : ∀ k, v.ownBlock = some k → N ≤ k ∧ ∃ cur, Row w k 5 cur := by
    intro k hk
    rcases hown.2 with ⟨e, _⟩ | ⟨g, cap, cur, e1, e2, e3, _⟩
    · rw [e] at hk; simp [Value.ownBlock] at hk
    · rw [e1] at hk; simp [Value.ownBlock] at hk; subst hk; exact ⟨e2, cur, e3⟩
  have hap : Apd N w w' := by
    refine ⟨fun b t c ht hr => ?_, fun w0 hb => ⟨g3.os.trans hb.os, g3.tape.trans hb.tape, g3.output.trans hb.output, Nat.le_trans hb.size g3.size, fun k hk => ?_⟩⟩
    · have := g3.block b hr.lt (fun e => by obtain ⟨_, cur, r5⟩ := hblk b e.symm; exact row_ne hr r5 ht rfl)
      unfold Row at *
      rw [this]; exact hr
    · exact (g3.block k (by omega) (fun e => by have := (hblk k e.symm).1; omega)).trans (hb.block k hk)
  refine wpList_plain hgd fun K hK => ?_
  unfold Oper.wp execOp
  simp only [ho, resolve, invoke, builtin, Sem.run_bind, Sem.run_pure, Result.andThen_ok, List.map_toArray, List.map_cons, List.map_nil, hs, hx, hr]
  exact hK _ _ (h v' w' g2' hap)
set_option maxRecDepth 100000 in
theorem wpList_slice {P : Program} {ops : Array Oper} {rest : List Oper} {op : Oper} {a : Act} {w : World} {Q : Exit → Act → World → Prop} (hgd : op.guard = none) (t : TypeId) (x : Operand) (lo hi mx : Option Operand) (ho : op.op = .slice t x lo hi mx) (v : Value)
    (hrun : (Instr.sliceAt t (a.eval x) (lo.map a.eval) (hi.map a.eval) (mx.map a.eval)).run P w = .ok v w) (h : wpList P ops Q rest (a.put op.dst v) w) : wpList P ops Q (op :: rest) a w :=
  wpList_val hgd v (slice_op t x lo hi mx ho v w hrun) h
end Go.Proofs.YthcokaffbgbanaaDoor

/- The walk of the reference's beginning. -/
namespace Go.Proofs.YthcokaffbgbanaaDoor
open Go.RowKit Go.BigFrame

set_option maxRecDepth 100000 in
theorem and192 : ∀ n : Nat, n < 256 → bits .and .u8 (n : Int) 192 = ((n / 64 * 64 : Nat) : Int) := by decide +kernel
set_option maxRecDepth 100000 in
theorem nonce_zero (l : List UInt8) (h1 : l.length ≤ 15) : (splice (Gf.zeros 16) (16 - l.length) l).getD (15 - l.length) 0 = 0 := by
  have hz : (Gf.zeros 16).length = 16 := rfl
  unfold splice
  rw [List.getD_eq_getElem?_getD, List.getElem?_append_left (by simp [hz]; omega), List.getElem?_take_of_lt (by omega), Gf.zeros, List.getElem?_replicate]
  split <;> rfl

set_option maxRecDepth 100000 in
theorem bit8 (y : UInt8) (m : Nat) : bits .and .u8 ((y.toNat : Int) / 2 ^ m) 1 = ((y.toNat / 2 ^ m % 2 : Nat) : Int) := by
  have hy : y.toNat < 256 := y.toNat_lt
  have e : ((y.toNat : Int) / 2 ^ m) = ((y.toNat / 2 ^ m : Nat) : Int) := by simp
  have h2 : y.toNat / 2 ^ m < 256 := Nat.lt_of_le_of_lt (Nat.div_le_self _ _) hy
  have := u8_and_nat (y.toNat / 2 ^ m) 1 h2 (by decide)
  rw [Nat.and_one_is_mod] at this
  rw [e]; exact this
set_option maxRecDepth 100000 in
theorem or8 (x y : UInt8) : bits .or .u8 (x.toNat : Int) (y.toNat : Int) = (((x ||| y).toNat : Nat) : Int) := by
  rw [u8_or_nat _ _ x.toNat_lt y.toNat_lt]; simp
set_option maxRecDepth 100000 in
theorem o_byte (z : UInt8) (d r : Nat) : bits .or .u8 (z.toNat : Int) ((d : Int) * 2 ^ r % 256) = (((z ||| UInt8.ofNat (d * 2 ^ r)).toNat : Nat) : Int) := by
  have e5 : (((UInt8.ofNat (d * 2 ^ r)).toNat : Nat) : Int) = (d : Int) * 2 ^ r % 256 := by rw [UInt8.toNat_ofNat']; simp
  rw [← or8, e5]

set_option maxRecDepth 100000 in
set_option maxHeartbeats 4000000 in
theorem refBegin_any (S : Nat → Prop) (key : List UInt8) (v : Value) (l : List UInt8) (h0 : 0 < l.length) (h15 : l.length ≤ 15) (w : World) (hl : Bts S w v l) (sb : Nat) (hT : Row w sb 118 (ag Gf.sbox)) :
    Calls Tryd.prog 53 #[.agg (elk key sb), v] w fun e w' => e = .returned (.agg (ag (Gf.begin key l))) ∧ Below w.heap.size w w' := by
  obtain ⟨a, c, rfl, hc, h3⟩ := hl
  rcases h3 with rfl | ⟨b, o, rfl, hS, hr⟩
  · simp at h0
  have hlt := range_lt hr h0
  have hst := hT.lt
  have lB := Gf.nblock_len l (by omega)
  have lC := Gf.nclean_len l (by omega)
  have HB0 := Box'.mk (Gf.nblock_eq l h15)
  have HZ0 := Box'.mk (nonce_zero l h15)
  have lS : (splice (Gf.zeros 16) (16 - l.length) l).length = 16 := splice_len _ _ _ (by show _ ≤ (List.replicate 16 (0 : UInt8)).length; rw [List.length_replicate]; omega)
  have HC : Box' ((Gf.nblock l).set 15 (UInt8.ofNat (((Gf.nblock l).getD 15 0).toNat / 64 * 64)) = Gf.nclean l) := ⟨rfl⟩
  have HP : Box' (Gf.place l = ((Gf.nblock l).getD 15 0).toNat % 64) := ⟨rfl⟩
  have lE := Gf.encrypt_len key (Gf.nclean l)
  have HG : Box' (Gf.oTo (Gf.more (Gf.encrypt key (Gf.nclean l)) 8) (Gf.place l) 128 = Gf.begin key l) := ⟨Gf.begin_eq _ lE _ (Nat.mod_lt _ (by decide))⟩
  have hE : ∀ w, Row w sb 118 (ag Gf.sbox) → Calls Tryd.prog 57 #[.agg (cip (.pointer (some ⟨sb, 0, none⟩)) (Gf.keys Gf.sbox key)), .agg (ag (Gf.nclean l))] w fun e w' => e = .returned (.agg (ag (Gf.encrypt key (Gf.nclean l)))) ∧ Below w.heap.size w w' :=
    fun w h => cipher_any Gf.sbox (Gf.keys Gf.sbox key) (Gf.nclean l) Gf.sbox_len (Gf.keys_len _ _) lC w sb h
  have HE := Box'.mk hE
  have hrng := (elk_range (Row.new w 110 (elk key sb))).1
  have lcip : (cip (.pointer (some ⟨sb, 0, none⟩)) (Gf.keys Gf.sbox key)).size = 177 := by rw [cip_size, Gf.keys_len]
  clear hE
  generalize cip (.pointer (some ⟨sb, 0, none⟩)) (Gf.keys Gf.sbox key) = cp at *
  generalize elk key sb = EL at *
  generalize Gf.begin key l = BG at *
  generalize Gf.encrypt key (Gf.nclean l) = E at *
  generalize Gf.nclean l = NC at *
  generalize Gf.place l = pl at *
  generalize Gf.nblock l = NB at *
  generalize Gf.sbox = T at *
  obtain ⟨x, hx⟩ : ∃ x, NB.getD 15 0 = x := ⟨_, rfl⟩
  rw [hx] at HC HP
  obtain ⟨n, hn⟩ : ∃ n, l.length = n := ⟨_, rfl⟩
  rw [hn] at h0 h15 hc HB0 HZ0 lS
  rw [hn]
  have hxl := x.toNat_lt
  have a1 : bits .and .u8 (x.toNat : Int) 63 = (pl : Int) := by rw [and63 x.toNat hxl, HP.out]
  have hpl : pl < 64 := by rw [HP.out]; exact Nat.mod_lt _ (by decide)
  have a2 := and192 x.toNat hxl
  have e1 : (16 : Int) - (n : Int) = ((16 - n : Nat) : Int) := by omega
  have e2 : (15 : Int) - (n : Int) = ((15 - n : Nat) : Int) := by omega
  have hw0 : Below w.heap.size w (((w.alloc (.cells EL 110)).alloc (.cells (ag (Gf.zeros 16)) 23)).alloc (.cells (ag (Gf.zeros 16)) 23)) := (((Below.refl _ _).alloc (Nat.le_refl _) _).alloc (by simp) _).alloc (by simp; omega) _
  have hr' := range_below hr hw0 hlt
  have T0 := hT.below hw0 hst
  have g0 : (((w.alloc (.cells EL 110)).alloc (.cells (ag (Gf.zeros 16)) 23)).alloc (.cells (ag (Gf.zeros 16)) 23)).rangeAt w.heap.size 0 cp.toList := range_below hrng (((Below.refl _ _).alloc (Nat.le_refl _) _).alloc (by simp) _) (by simp)
  have r0 : Room (((w.alloc (.cells EL 110)).alloc (.cells (ag (Gf.zeros 16)) 23)).alloc (.cells (ag (Gf.zeros 16)) 23)) (w.heap.size + 1) 23 16 := (Room.made _ _ _ _ _ rfl (by simp)).alloc _
  have r1 : Row (((w.alloc (.cells EL 110)).alloc (.cells (ag (Gf.zeros 16)) 23)).alloc (.cells (ag (Gf.zeros 16)) 23)) (w.heap.size + 1 + 1) 23 (ag (Gf.zeros 16)) := Row.made _ _ _ _ _ rfl (by simp)
  go_enter Tryd.func53, Tryd.ntmps53
  go_upto_region 2 with (first
    | (refine wpList_alloc_row rfl 23 rfl _ _ Tryd.zero23 ?_)
    | fail)
  generalize hW0 : World.alloc (World.alloc (World.alloc w _) _) _ = W0
  rw [hW0] at hw0 hr' T0 g0 r0 r1
  clear hW0 hr hrng
  have hcp : l.length = Nat.min n (16 - (16 - n)) := by rw [hn, Nat.sub_sub_self (by omega)]; exact (Nat.min_self n).symm
  have hlt16 : 16 - n < 16 := by omega
  have hsl := run_slice_from (P := Tryd.prog) W0 23 5 16 Tryd.underlying23 (by kernel_rfl) (w.heap.size + 1 + 1) 0 (16 - n) hlt16
  rw [Nat.zero_add] at hsl
  go_upto_region 3 with (first
    | (refine wpList_slice rfl 23 (.tmp 5) (some (.tmp 16)) none none rfl (.slice (some ⟨w.heap.size + 1 + 1, 16 - n, none⟩) (16 - (16 - n)) (16 - (16 - n))) ?_ ?_; exact hsl)
    | (refine wpList_copy_range rfl (.tmp 17) (.tmp 18) 26 26 rfl 5 Tryd.underlying26 (by kernel_rfl) (w.heap.size + 1 + 1) (16 - n) (16 - (16 - n)) (16 - (16 - n)) b o n c rfl rfl (Gf.zeros 16) l 23 r1 hr' hcp (by show 16 - n + l.length ≤ (List.replicate 16 (0 : UInt8)).length; rw [List.length_replicate]; omega) ?_)
    | fail)
  have w1B : Below w.heap.size w (W0.setRow (w.heap.size + 1 + 1) (ag (splice (Gf.zeros 16) (16 - n) l))) := below_setRow hw0 (by omega) _
  have r2 := r1.setRow (ag (splice (Gf.zeros 16) (16 - n) l))
  have q2 := r0.setRowOther (w.heap.size + 1 + 1) (ag (splice (Gf.zeros 16) (16 - n) l)) (by omega)
  have T1 := T0.setRowOther (w.heap.size + 1 + 1) (ag (splice (Gf.zeros 16) (16 - n) l)) (by omega)
  have g1 : (W0.setRow (w.heap.size + 1 + 1) (ag (splice (Gf.zeros 16) (16 - n) l))).rangeAt w.heap.size 0 cp.toList := range_below g0 (below_setRow (Below.refl (w.heap.size + 1) W0) (by omega) _) (by omega)
  clear hw0 hr' T0 g0 r0 r1 hsl hcp
  rw [hn]
  generalize splice (Gf.zeros 16) (16 - n) l = SP at *
  generalize W0.setRow (w.heap.size + 1 + 1) (ag SP) = W1 at *
  have c2 := cell_form (r2.byte (k := 15 - n) (by omega)) HZ0.out
  have f2 := r2.frozen (15 - n)
  have o1 : bits .or .u8 0 1 = 1 := by decide +kernel
  go_upto_region 4 with (fail)
  have r3 : Row (W1.setCell ⟨w.heap.size + 1 + 1, 15 - n, none⟩ (.int .u8 1)) (w.heap.size + 1 + 1) 23 (ag NB) := by
    have := r2.setByte (15 - n) 1
    rw [HB0.out] at this
    exact this
  have q3 := q2.setOther ⟨w.heap.size + 1 + 1, 15 - n, none⟩ (.int .u8 1) (by show w.heap.size + 1 ≠ w.heap.size + 1 + 1; omega)
  have T2 := T1.setOther ⟨w.heap.size + 1 + 1, 15 - n, none⟩ (.int .u8 1) (by show sb ≠ w.heap.size + 1 + 1; omega)
  have w2B := w1B.setCell (p := ⟨w.heap.size + 1 + 1, 15 - n, none⟩) (by show w.heap.size ≤ w.heap.size + 1 + 1; omega) (.int .u8 1)
  have g2 := range_below g1 ((Below.refl (w.heap.size + 1) W1).setCell (p := ⟨w.heap.size + 1 + 1, 15 - n, none⟩) (by show w.heap.size + 1 ≤ w.heap.size + 1 + 1; omega) (.int .u8 1)) (by omega)
  clear r2 q2 T1 w1B g1 c2 f2 o1
  generalize W1.setCell ⟨w.heap.size + 1 + 1, 15 - n, none⟩ (.int .u8 1) = W2 at *
  have c3 := cell_form (r3.byte (k := 15) (by omega)) hx
  have f3 := r3.frozen 15
  go_upto_region 6 with (fail)
  have r4 : Row (W2.setCell ⟨w.heap.size + 1 + 1, 15, none⟩ (.int .u8 ((x.toNat / 64 * 64 : Nat) : Int))) (w.heap.size + 1 + 1) 23 (ag NC) := by
    have := r3.setByte 15 (UInt8.ofNat (x.toNat / 64 * 64))
    rw [HC.out, UInt8.toNat_ofNat_of_lt' (by show x.toNat / 64 * 64 < 256; omega)] at this
    exact this
  have q4 := q3.setOther ⟨w.heap.size + 1 + 1, 15, none⟩ (.int .u8 ((x.toNat / 64 * 64 : Nat) : Int)) (by show w.heap.size + 1 ≠ w.heap.size + 1 + 1; omega)
  have T3 := T2.setOther ⟨w.heap.size + 1 + 1, 15, none⟩ (.int .u8 ((x.toNat / 64 * 64 : Nat) : Int)) (by show sb ≠ w.heap.size + 1 + 1; omega)
  have w3B := w2B.setCell (p := ⟨w.heap.size + 1 + 1, 15, none⟩) (by show w.heap.size ≤ w.heap.size + 1 + 1; omega) (.int .u8 ((x.toNat / 64 * 64 : Nat) : Int))
  have g3 := range_below g2 ((Below.refl (w.heap.size + 1) W2).setCell (p := ⟨w.heap.size + 1 + 1, 15, none⟩) (by show w.heap.size + 1 ≤ w.heap.size + 1 + 1; omega) (.int .u8 ((x.toNat / 64 * 64 : Nat) : Int))) (by omega)
  clear r3 q3 T2 w2B g2 c3 f3 a2
  have ei : ((x.toNat / 64 * 64 : Nat) : Int) = (x.toNat : Int) / 64 * 64 := by omega
  rw [ei] at r4 q4 T3 w3B g3
  generalize W2.setCell ⟨w.heap.size + 1 + 1, 15, none⟩ (.int .u8 ((x.toNat : Int) / 64 * 64)) = W3 at *
  clear ei
  have hz3 := r4.lt
  go_wp2_with (first
    | (refine wpList_load_mid rfl 108 (.tmp 35) rfl w.heap.size 0 rfl cp.toList _ g3 Tryd.underlying108 rfl (by rw [Tryd.info108, Array.length_toList, lcip]) ?_; rw [Array.toArray_toList])
    | (refine wpList_load_row rfl 23 (.tmp 5) rfl _ rfl _ _ r4 _ Tryd.underlying23 rfl 16 Tryd.info23 (by rw [ag_size]; exact lC) ?_)
    | fail)
  refine (HE.out _ T3).mono ?_
  rintro e w4 ⟨rfl, hb4⟩
  have q5 : Room w4 (w.heap.size + 1) 23 16 := q4.below hb4 (q4.elim fun _ h => h.1.lt)
  have w4B : Below w.heap.size w w4 := w3B.trans (hb4.mono w3B.size)
  have hz4 := hb4.size
  clear hb4 q4 w3B T3 g3 r4 HE
  have qz : Room (w4.alloc (.cells (ag (Gf.zeros 16)) 23)) w4.heap.size 23 16 := Room.new _ _ _ _ rfl
  have rE : Row ((w4.alloc (.cells (ag (Gf.zeros 16)) 23)).setRow w4.heap.size (ag E)) w4.heap.size 23 (ag E) := qz.setRow _
  have q6 : Room ((w4.alloc (.cells (ag (Gf.zeros 16)) 23)).setRow w4.heap.size (ag E)) (w.heap.size + 1) 23 16 := (q5.alloc _).setRowOther _ _ (by omega)
  have w5B : Below w.heap.size w ((w4.alloc (.cells (ag (Gf.zeros 16)) 23)).setRow w4.heap.size (ag E)) := below_setRow (w4B.alloc w4B.size _) w4B.size _
  have hz5 : ((w4.alloc (.cells (ag (Gf.zeros 16)) 23)).setRow w4.heap.size (ag E)).heap.size = w4.heap.size + 1 := by simp [World.setRow]
  clear q5 w4B
  go_upto_region 7 with (first
    | (refine wpList_alloc_row rfl 23 rfl _ _ Tryd.zero23 ?_)
    | (refine wpList_store_row rfl 23 (.tmp 7) (.tmp 38) rfl _ rfl _ rfl _ _ qz Tryd.info23 (by rw [ag_size]; exact lE) (ag_one _) ?_)
    | fail)
  clear qz
  generalize (w4.alloc (.cells (ag (Gf.zeros 16)) 23)).setRow w4.heap.size (ag E) = W5 at *
  generalize w4.heap.size = p at *
  have rE2 := rE.alloc (.cells #[] 5)
  have q7 := q6.alloc (.cells #[] 5)
  have w6B := w5B.alloc (o := .cells #[] 5) w5B.size
  have own0 := Own.new w.heap.size W5 w5B.size
  rw [hz5] at own0
  have hNs : w.heap.size ≤ (W5.alloc (.cells #[] 5)).heap.size := w6B.size
  have hEc : ∀ j u, (E.map B)[j]? = some u → (W5.alloc (.cells #[] 5)).cell? ((⟨p, 0, none⟩ : Addr).add j) = some u := fun j u hu => by
    rw [Addr.add_mid, Nat.zero_add, rE2.cell]; simpa [ag] using hu
  go_wp2_with (first
    | (refine wpList_append_bytes rfl (.tmp 39) (.tmp 40) rfl w.heap.size hNs _ [] rfl own0 ⟨p, 0, none⟩ 16 16 E rfl lE hEc (by rw [lE]; simp) (fun v7 w7 ho7 ha7 => ?_))
    | fail)
  have rE3 := ha7.rows _ _ _ (by decide) rE2
  have q8 := ha7.room (by decide) q7
  have w7B := ha7.bel _ w6B
  rw [List.nil_append] at ho7
  clear rE2 q7 w6B ha7 own0 hNs hEc rE q6 w5B hz5
  go_loopw [8, 9] (fun t i wr => ∃ kc : Nat, kc ≤ 8 ∧ i = .int .i64 (kc : Int) ∧ Own w.heap.size wr t (Gf.more E kc) ∧ Row wr p 23 (ag E) ∧ Room wr (w.heap.size + 1) 23 16 ∧ Below w.heap.size w wr) (fun _ i _ => 8 - (intOf i).toNat)
  case atStart => exact ⟨0, by omega, rfl, ho7, rE3, q8, w7B⟩
  case round =>
    obtain ⟨kc, hk, rfl, ow, rr, qq, bb⟩ := hrel
    by_cases hk8 : kc < 8
    · obtain ⟨x1, hx1⟩ : ∃ x1, E.getD kc 0 = x1 := ⟨_, rfl⟩
      obtain ⟨y1, hy1⟩ : ∃ y1, E.getD (kc + 1) 0 = y1 := ⟨_, rfl⟩
      have MK : Box' (Gf.more E kc ++ [Gf.bx x1 y1] = Gf.more E (kc + 1)) := ⟨by rw [← hx1, ← hy1]; rfl⟩
      have xx := xor_bx x1 y1
      have hx1l := x1.toNat_lt
      have hy1l := y1.toNat_lt
      go_upto_region 11 with (fail)
      refine wp_region_grow 10 (by kernel_rfl) (by kernel_rfl) (fun a b => Below a.heap.size a b) (fun w3 => Row w3 p 23 (ag E) ∧ Own w.heap.size w3 u8 (Gf.more E kc) ∧ Room w3 (w.heap.size + 1) 23 16 ∧ Below w.heap.size w w3) (fun k w1 v => match k with
        | 0 => v = u8
        | 1 => v = .int .i64 (kc : Int)
        | 2 => v = .pointer (some ⟨p, kc, none⟩)
        | 3 => v = .int .u8 (x1.toNat : Int)
        | 4 => v = .int .i64 (kc : Int)
        | 5 => v = .int .i64 ((kc : Int) + 1)
        | 6 => v = .pointer (some ⟨p, kc + 1, none⟩)
        | 7 => v = .int .u8 (y1.toNat : Int)
        | 8 => v = .int .u8 ((Gf.bx x1 y1).toNat : Int)
        | 9 => ∃ q, v = .slice (some ⟨q, 0, none⟩) 1 1 ∧ Row w1 q 5 (ag [Gf.bx x1 y1])
        | _ => True) ?_ ?_ ?_ ?_ ?_
      · rintro a b hb ⟨c1, c2, c3, c4⟩
        exact ⟨c1.below hb c1.lt, c2.below hb, c3.below hb (c3.elim fun _ h => h.1.lt), c4.trans (hb.mono c4.size)⟩
      · intro k v w1 w2 hC1 hb h
        match k, h with
        | 0, h => exact h
        | 1, h => exact h
        | 2, h => exact h
        | 3, h => exact h
        | 4, h => exact h
        | 5, h => exact h
        | 6, h => exact h
        | 7, h => exact h
        | 8, h => exact h
        | 9, ⟨q, e, r⟩ => exact ⟨q, e, r.below hb r.lt⟩
        | k + 10, h => trivial
      · exact ⟨rr.drew, ow.drew, qq.drew, bb.drew⟩
      · refine ⟨?_, ?_, ?_, ?_, ?_, ?_, ?_, ?_, ?_, ?_, trivial⟩
        · intro f w1 hC hd KK hK
          simp only [List.take_succ_cons, List.take_zero, setAll, List.setIfInBounds_toArray, List.set_cons_succ, List.set_cons_zero, Nat.zero_add, Nat.reduceAdd] at hK ⊢
          refine wp_of_quiet rfl ?_
          go_big_quiet_step (fail)
          exact wpQuiet_nil (hK _ _ rfl (Below.refl _ _))
        · intro f w1 hC hd KK hK
          simp only [List.take_succ_cons, List.take_zero, setAll, List.setIfInBounds_toArray, List.set_cons_succ, List.set_cons_zero, Nat.zero_add, Nat.reduceAdd] at hK ⊢
          refine wp_of_quiet rfl ?_
          go_big_quiet_step (fail)
          exact wpQuiet_nil (hK _ _ rfl (Below.refl _ _))
        · intro f w1 hC hd KK hK
          have g1 : f 1 = _ := hd 1 rfl
          simp only [List.take_succ_cons, List.take_zero, setAll, List.setIfInBounds_toArray, List.set_cons_succ, List.set_cons_zero, Nat.zero_add, Nat.reduceAdd, g1] at hK ⊢
          refine wp_of_quiet rfl ?_
          go_big_quiet_step (fail)
          exact wpQuiet_nil (hK _ _ rfl (Below.refl _ _))
        · intro f w1 hC hd KK hK
          have hcx : w1.cell? ⟨p, kc, none⟩ = some (.int .u8 (x1.toNat : Int)) := cell_form (hC.1.byte (k := kc) (by omega)) hx1
          have g2 : f 2 = _ := hd 2 rfl
          simp only [List.take_succ_cons, List.take_zero, setAll, List.setIfInBounds_toArray, List.set_cons_succ, List.set_cons_zero, Nat.zero_add, Nat.reduceAdd, g2] at hK ⊢
          refine wp_of_quiet rfl ?_
          go_big_quiet_step (fail)
          exact wpQuiet_nil (hK _ _ rfl (Below.refl _ _))
        · intro f w1 hC hd KK hK
          simp only [List.take_succ_cons, List.take_zero, setAll, List.setIfInBounds_toArray, List.set_cons_succ, List.set_cons_zero, Nat.zero_add, Nat.reduceAdd] at hK ⊢
          refine wp_of_quiet rfl ?_
          go_big_quiet_step (fail)
          exact wpQuiet_nil (hK _ _ rfl (Below.refl _ _))
        · intro f w1 hC hd KK hK
          have g4 : f 4 = _ := hd 4 rfl
          simp only [List.take_succ_cons, List.take_zero, setAll, List.setIfInBounds_toArray, List.set_cons_succ, List.set_cons_zero, Nat.zero_add, Nat.reduceAdd, g4] at hK ⊢
          refine wp_of_quiet rfl ?_
          go_big_quiet_step (fail)
          exact wpQuiet_nil (hK _ _ rfl (Below.refl _ _))
        · intro f w1 hC hd KK hK
          have g5 : f 5 = _ := hd 5 rfl
          simp only [List.take_succ_cons, List.take_zero, setAll, List.setIfInBounds_toArray, List.set_cons_succ, List.set_cons_zero, Nat.zero_add, Nat.reduceAdd, g5] at hK ⊢
          refine wp_of_quiet rfl ?_
          go_big_quiet_step (fail)
          exact wpQuiet_nil (hK _ _ rfl (Below.refl _ _))
        · intro f w1 hC hd KK hK
          have hcy : w1.cell? ⟨p, kc + 1, none⟩ = some (.int .u8 (y1.toNat : Int)) := cell_form (hC.1.byte (k := kc + 1) (by omega)) hy1
          have g6 : f 6 = _ := hd 6 rfl
          simp only [List.take_succ_cons, List.take_zero, setAll, List.setIfInBounds_toArray, List.set_cons_succ, List.set_cons_zero, Nat.zero_add, Nat.reduceAdd, g6] at hK ⊢
          refine wp_of_quiet rfl ?_
          go_big_quiet_step (fail)
          exact wpQuiet_nil (hK _ _ rfl (Below.refl _ _))
        · intro f w1 hC hd KK hK
          have g3 : f 3 = _ := hd 3 rfl
          have g7 : f 7 = _ := hd 7 rfl
          simp only [List.take_succ_cons, List.take_zero, setAll, List.setIfInBounds_toArray, List.set_cons_succ, List.set_cons_zero, Nat.zero_add, Nat.reduceAdd, g3, g7] at hK ⊢
          refine wp_of_quiet rfl ?_
          go_big_quiet_step (fail)
          exact wpQuiet_nil (hK _ _ rfl (Below.refl _ _))
        · intro f w1 hC hd KK hK
          have g8 : f 8 = _ := hd 8 rfl
          simp only [List.take_succ_cons, List.take_zero, setAll, List.setIfInBounds_toArray, List.set_cons_succ, List.set_cons_zero, Nat.zero_add, Nat.reduceAdd, g8] at hK ⊢
          exact wp_build1 _ rfl _ rfl (hK _ _ ⟨_, rfl, Row.new _ _ _⟩ ((Below.refl _ _).alloc (Nat.le_refl _) _))
      · intro f w1 hC hv
        have g0 : f 0 = _ := hv 0 (by decide)
        have g1 : f 1 = _ := hv 1 (by decide)
        have g2 : f 2 = _ := hv 2 (by decide)
        have g3 : f 3 = _ := hv 3 (by decide)
        have g4 : f 4 = _ := hv 4 (by decide)
        have g5 : f 5 = _ := hv 5 (by decide)
        have g6 : f 6 = _ := hv 6 (by decide)
        have g7 : f 7 = _ := hv 7 (by decide)
        have g8 : f 8 = _ := hv 8 (by decide)
        obtain ⟨q9, g9, r9⟩ := hv 9 (by decide)
        simp only [List.take_succ_cons, List.take_zero, List.drop_succ_cons, List.drop_zero, setAll, List.setIfInBounds_toArray, List.set_cons_succ, List.set_cons_zero, Nat.zero_add, Nat.reduceAdd, g0, g1, g2, g3, g4, g5, g6, g7, g8, g9]
        clear g0 g1 g2 g3 g4 g5 g6 g7 g8 g9 hv
        obtain ⟨c1, c2, c3, c4⟩ := hC
        have hnc : ∀ j u, ([Gf.bx x1 y1].map B)[j]? = some u → w1.cell? ((⟨q9, 0, none⟩ : Addr).add j) = some u := fun j u hu => by
          rw [Addr.add_mid, Nat.zero_add, r9.cell]; simpa [ag] using hu
        go_wp2_with (first
          | (refine wpList_append_bytes rfl (.tmp 46) (.tmp 55) rfl w.heap.size c4.size u8 (Gf.more E kc) rfl c2 ⟨q9, 0, none⟩ 1 1 [Gf.bx x1 y1] rfl rfl hnc (by rw [Gf.more_len, lE]; simp; omega) (fun v8 w8 ho8 ha8 => ?_))
          | fail)
        rw [MK.out] at ho8
        exact ⟨⟨kc + 1, by omega, by go_num, ho8, ha8.rows _ _ _ (by decide) c1, ha8.room (by decide) c3, ha8.bel _ c4⟩, by simp [intOf]; omega⟩
    · obtain rfl : kc = 8 := by omega
      have hne : Gf.more E 8 ≠ [] := fun h => by have := Gf.more_len E 8; rw [h] at this; simp at this
      obtain ⟨g, cap, rfl, hgN, hgc, hcl⟩ := ow.at hne
      have lM : (Gf.more E 8).length = 24 := by rw [Gf.more_len, lE]
      rw [lM] at hgc hcl
      have HCL := Box'.mk hcl
      clear hcl
      go_upto_region 14 with (first
        | (refine wpList_alloc_row rfl 23 rfl _ _ Tryd.zero23 ?_)
        | fail)
      have rO : Row (wr.alloc (.cells (ag (Gf.zeros 16)) 23)) wr.heap.size 23 (ag (Gf.oTo (Gf.more E 8) pl 0)) := Row.new _ _ _
      have qq2 := qq.alloc (.cells (ag (Gf.zeros 16)) 23)
      have bb2 := bb.alloc (o := .cells (ag (Gf.zeros 16)) 23) bb.size
      have ow2 := ow.alloc (.cells (ag (Gf.zeros 16)) 23)
      have hpN := bb.size
      have hp1 : wr.heap.size ≠ w.heap.size + 1 := by have := qq.elim fun _ h => h.1.lt; omega
      rw [lM] at ow2
      clear ow rr qq bb HCL
      generalize wr.alloc (.cells (ag (Gf.zeros 16)) 23) = W9 at *
      generalize wr.heap.size = pO at *
      generalize hM : Gf.more E 8 = M at *
      clear hM e1 e2 a1 hx HC HP HB0 HZ0 hn hc h15 h0 lS lB lC lcip hT hst hlt hS hk hk8 hz3 hz4
      go_loopw [11] (fun i wr => ∃ t : Nat, t ≤ 128 ∧ i = .int .i64 (t : Int) ∧ Row wr pO 23 (ag (Gf.oTo M pl t)) ∧ Own w.heap.size wr (.slice (some ⟨g, 0, none⟩) 24 cap) M ∧ Room wr (w.heap.size + 1) 23 16 ∧ Below w.heap.size w wr) (fun i _ => 128 - (intOf i).toNat)
      case atStart => exact ⟨0, by omega, rfl, rO, ow2, qq2, bb2⟩
      case round =>
        obtain ⟨t, ht, rfl, ro, os, qr, br⟩ := hrel
        have lO := Gf.oTo_len M pl t
        by_cases ht8 : t < 128
        · obtain ⟨g', cap', ev, _, _, hcl⟩ := os.at hne
          injection ev with ev ev2 ev3
          clear ev2 ev3
          injection ev with ev
          injection ev with ev
          subst ev
          have cs := hcl ((pl + t) / 8) (by omega)
          have co := ro.byte (k := t / 8) (by omega)
          have fo := ro.frozen (t / 8)
          have HS := Box'.mk (fun y => ro.setByte (t / 8) y)
          have E1 : Box' (Gf.oTo M pl (t + 1) = (Gf.oTo M pl t).set (t / 8) ((Gf.oTo M pl t).getD (t / 8) 0 ||| UInt8.ofNat (Gf.bitAt M (pl + t) * 2 ^ (7 - t % 8)))) := ⟨rfl⟩
          have E2 : Box' (Gf.bitAt M (pl + t) = (M.getD ((pl + t) / 8) 0).toNat / 2 ^ (7 - (pl + t) % 8) % 2) := ⟨rfl⟩
          have B8 := bit8 (M.getD ((pl + t) / 8) 0) (7 - (pl + t) % 8)
          rw [← E2.out] at B8
          have hd : Gf.bitAt M (pl + t) < 2 := Nat.mod_lt _ (by decide)
          have OB := Box'.mk (o_byte ((Gf.oTo M pl t).getD (t / 8) 0) (Gf.bitAt M (pl + t)) (7 - t % 8))
          generalize Gf.bitAt M (pl + t) = d at *
          generalize M.getD ((pl + t) / 8) 0 = y at *
          generalize (Gf.oTo M pl t).getD (t / 8) 0 = z at *
          have hyl := y.toNat_lt
          have hzl := z.toNat_lt
          clear hcl E2 lO
          go_wp2_with fail
          rw [OB.out]
          refine ⟨⟨t + 1, by omega, by go_num, ?_, os.setCell (ro.room rfl) (by decide) _ _, qr.setOther _ _ (Ne.symm hp1), br.setCell hpN _⟩, by simp [intOf]; omega⟩
          rw [E1.out]; exact HS.out _
        · obtain rfl : t = 128 := by omega
          rw [HG.out] at ro lO
          go_wp2_with (first
            | (refine wpList_load_row rfl 23 (.tmp 10) rfl _ rfl _ _ ro _ Tryd.underlying23 rfl 16 Tryd.info23 (by rw [ag_size]; exact lO) ?_)
            | (refine wpList_store_row rfl 23 (.tmp 4) (.tmp 87) rfl _ rfl _ rfl _ _ qr Tryd.info23 (by rw [ag_size]; exact lO) (ag_one _) ?_)
            | fail)
          exact bodyPost_ret (results_row rfl _ _ rfl _ _ (qr.setRow _) _ Tryd.underlying23 rfl 16 Tryd.info23 (by rw [ag_size]; exact lO)) rfl ⟨rfl, below_setRow br (by omega) _⟩
end Go.Proofs.YthcokaffbgbanaaDoor

/- Bytes of one's own that grow; bytes that came in; what stays. -/
namespace Go.Proofs.YthcokaffbgbanaaDoor
open Go.RowKit Go.BigFrame

theorem Own.lt {N : Nat} {w : World} {v : Value} {d : List UInt8} (h : Own N w v d) : ∀ g, v.ownBlock = some g → N ≤ g ∧ ∃ cur, Row w g 5 cur := by
  intro k hk
  rcases h.2 with ⟨e, _⟩ | ⟨g, cap, cur, e1, e2, e3, _⟩
  · rw [e] at hk; simp [Value.ownBlock] at hk
  · rw [e1] at hk; simp [Value.ownBlock] at hk; subst hk; exact ⟨e2, cur, e3⟩
theorem Own.slice {N : Nat} {w : World} {v : Value} {d : List UInt8} (h : Own N w v d) : ∃ a c, v = .slice a d.length c := by
  rcases h.2 with ⟨e, e0⟩ | ⟨g, cap, cur, e1, _⟩
  · exact ⟨none, 0, by rw [e, e0]⟩
  · exact ⟨_, _, e1⟩

theorem Own.drewN {N : Nat} {w : World} {v : Value} {d : List UInt8} (h : Own N w v d) (n : Nat) : Own N (w.drewN n) v d := h
theorem Own.less {N M : Nat} {w : World} {v : Value} {d : List UInt8} (h : Own N w v d) (hM : M ≤ N) : Own M w v d := by
  refine ⟨h.1, ?_⟩
  rcases h.2 with h2 | ⟨g, cap, cur, e1, e2, e3⟩
  · exact .inl h2
  · exact .inr ⟨g, cap, cur, e1, Nat.le_trans hM e2, e3⟩
theorem own_ne {N : Nat} {w : World} {v : Value} {d : List UInt8} (ho : Own N w v d) {b : Nat} {t : TypeId} {c : Array Value} (hr : Row w b t c) (ht : t ≠ 5) : ∀ g, v.ownBlock = some g → g ≠ b := by
  rintro g hg rfl
  obtain ⟨-, cur, r⟩ := ho.lt g hg
  unfold Row at r hr
  rw [r] at hr
  simp at hr
  exact ht hr.2.symm
/-- What lies below N stays, and every row that is none of bytes. -/
structure Fr (N : Nat) (w w' : World) : Prop where
  os : w'.os = w.os
  tape : w'.tape = w.tape
  output : w'.output = w.output
  size : w.heap.size ≤ w'.heap.size
  block : ∀ k, k < w.heap.size → (k < N ∨ ∃ t c, Row w k t c ∧ t ≠ 5) → w'.heap[k]? = w.heap[k]?
theorem Fr.refl (N : Nat) (w : World) : Fr N w w := ⟨rfl, rfl, rfl, Nat.le_refl _, fun _ _ _ => rfl⟩
theorem Fr.trans {N : Nat} {a b c : World} (h : Fr N a b) (k : Fr N b c) : Fr N a c :=
  ⟨k.os.trans h.os, k.tape.trans h.tape, k.output.trans h.output, Nat.le_trans h.size k.size, fun i hi hc => by
    have e := h.block i hi hc
    refine (k.block i (Nat.lt_of_lt_of_le hi h.size) ?_).trans e
    rcases hc with hc | ⟨t, q, r, ht⟩
    · exact .inl hc
    · exact .inr ⟨t, q, r.same e, ht⟩⟩
theorem Fr.of {N : Nat} {w w' : World} (h : Below w.heap.size w w') : Fr N w w' := ⟨h.os, h.tape, h.output, h.size, fun k hk _ => h.block k hk⟩
theorem Fr.alloc {N : Nat} {w0 w : World} (h : Fr N w0 w) (o : Obj) : Fr N w0 (w.alloc o) := h.trans (.of ((Below.refl _ _).alloc (Nat.le_refl _) _))
theorem Fr.drewN {N : Nat} {w0 w : World} (h : Fr N w0 w) (n : Nat) : Fr N w0 (w.drewN n) := ⟨h.os, h.tape, h.output, h.size, h.block⟩
theorem Fr.below {N : Nat} {w w' : World} (h : Fr N w w') (hN : N ≤ w.heap.size) : Below N w w' := ⟨h.os, h.tape, h.output, h.size, fun k hk => h.block k (by omega) (.inl hk)⟩
theorem Fr.less {N M : Nat} {w w' : World} (h : Fr N w w') (hM : M ≤ N) : Fr M w w' := ⟨h.os, h.tape, h.output, h.size, fun k hk hc => h.block k hk (hc.imp (fun h => by omega) id)⟩
theorem Fr.row {N : Nat} {w w' : World} (h : Fr N w w') {b : Nat} {t : TypeId} {c : Array Value} (hr : Row w b t c) (ht : t ≠ 5) : Row w' b t c := hr.same (h.block b hr.lt (.inr ⟨t, c, hr, ht⟩))
theorem Fr.grown {N : Nat} {w w' : World} {v : Value} {d : List UInt8} (ho : Own N w v d) (g : w.grownBy w' v.ownBlock) : Fr N w w' :=
  ⟨g.os, g.tape, g.output, g.size, fun k hk hc => g.block k hk (fun e => by
    rcases hc with hc | ⟨t, q, r, ht⟩
    · have := (ho.lt k e.symm).1; omega
    · exact own_ne ho r ht k e.symm rfl)⟩

/-- The slice v has the bytes l, in a block below N, or is nil. -/
def InB (N : Nat) (w : World) (v : Value) (l : List UInt8) : Prop :=
  (v = .slice none 0 0 ∧ l = []) ∨ ∃ b o c, v = .slice (some ⟨b, o, none⟩) l.length c ∧ l.length ≤ c ∧ (l = [] ∨ b < N) ∧ w.rangeAt b o (l.map B)
theorem InB.slice {N : Nat} {w : World} {v : Value} {l : List UInt8} (h : InB N w v l) : ∃ a c, v = .slice a l.length c ∧ l.length ≤ c := by
  rcases h with ⟨rfl, rfl⟩ | ⟨b, o, c, rfl, hc, _⟩
  · exact ⟨_, _, rfl, Nat.le_refl _⟩
  · exact ⟨_, _, rfl, hc⟩
theorem InB.below {N M : Nat} {w w' : World} {v : Value} {l : List UInt8} (h : InB N w v l) (hb : Below M w w') (hN : N ≤ M) : InB N w' v l := by
  rcases h with h | ⟨b, o, c, h1, h2, h3, h4⟩
  · exact .inl h
  · refine .inr ⟨b, o, c, h1, h2, h3, ?_⟩
    rcases h3 with rfl | h3
    · intro j u hu; simp at hu
    · exact range_below h4 hb (by omega)
theorem InB.up {N M : Nat} {w : World} {v : Value} {l : List UInt8} (h : InB N w v l) (hN : N ≤ M) : InB M w v l := by
  rcases h with h | ⟨b, o, c, h1, h2, h3, h4⟩
  · exact .inl h
  · exact .inr ⟨b, o, c, h1, h2, h3.imp id (fun h => by omega), h4⟩
theorem InB.bts {N : Nat} {w : World} {v : Value} {l : List UInt8} (h : InB N w v l) : Bts (· < N) w v l := by
  rcases h with ⟨rfl, rfl⟩ | ⟨b, o, c, rfl, hc, h3, h4⟩
  · exact ⟨_, _, rfl, Nat.le_refl _, .inl rfl⟩
  · refine ⟨_, _, rfl, hc, ?_⟩
    rcases h3 with h3 | h3
    · exact .inl h3
    · exact .inr ⟨b, o, rfl, h3, h4⟩
/-- A byte of them. -/
theorem InB.cell {N : Nat} {w : World} {v : Value} {l : List UInt8} (h : InB N w v l) {k : Nat} (hk : k < l.length) : ∃ b o c, v = .slice (some ⟨b, o, none⟩) l.length c ∧ b < N ∧ ∀ j, j < l.length → w.cell? ⟨b, o + j, none⟩ = some (.int .u8 ((l.getD j 0).toNat : Int)) := by
  rcases h with ⟨rfl, rfl⟩ | ⟨b, o, c, rfl, hc, h3, h4⟩
  · simp at hk
  · refine ⟨b, o, c, rfl, ?_, fun j hj => ?_⟩
    · rcases h3 with rfl | h3
      · simp at hk
      · exact h3
    · exact h4 j _ (by simp [hj]; rfl)
theorem range_take {w : World} {b o : Nat} {l : List UInt8} (h : w.rangeAt b o (l.map B)) (k : Nat) : w.rangeAt b o ((l.take k).map B) := fun j u hu => h j u (by
  rw [List.map_take] at hu
  have := List.getElem?_eq_some_iff.1 hu
  obtain ⟨h1, h2⟩ := this
  rw [List.length_take] at h1
  rw [List.getElem?_eq_some_iff]
  exact ⟨by omega, by rw [← h2]; simp⟩)
theorem range_drop {w : World} {b o : Nat} {l : List UInt8} (h : w.rangeAt b o (l.map B)) (k : Nat) : w.rangeAt b (o + k) ((l.drop k).map B) := fun j u hu => by
  rw [List.map_drop, List.getElem?_drop] at hu
  have := h _ u hu
  rwa [show o + k + j = o + (k + j) by omega]
theorem Own.inB {N : Nat} {w : World} {v : Value} {d : List UInt8} (h : Own N w v d) : InB w.heap.size w v d := by
  rcases h.2 with ⟨e, e0⟩ | ⟨g, cap, cur, e1, e2, e3, e4, e5, e6, e7⟩
  · exact .inl ⟨e, List.eq_nil_of_length_eq_zero e0⟩
  · have r : Row w g 5 cur := e3
    refine .inr ⟨g, 0, cap, e1, e4, .inr r.lt, fun j u hu => ?_⟩
    have hj := (List.getElem?_eq_some_iff.1 hu).1
    rw [List.length_map] at hj
    rw [Nat.zero_add, r.cell]
    rw [← e7, List.getElem?_take_of_lt (by omega)] at hu
    simpa using hu
theorem Row.inB {w : World} {g : Nat} {l : List UInt8} {n : Nat} (h : Row w g 5 (ag l)) (hn : l.length = n) : InB w.heap.size w (.slice (some ⟨g, 0, none⟩) n n) l :=
  .inr ⟨g, 0, n, by rw [hn], by omega, .inr h.lt, fun j u hu => by rw [Nat.zero_add, h.cell]; simpa [ag] using hu⟩
theorem wpList_app {ops : Array Oper} {rest : List Oper} {o : Oper} {a : Act} {w : World} {Q : Exit → Act → World → Prop} (hgd : o.guard = none) (s x : Operand)
    (ho : o.op = .call { callee := .builtin .append, args := #[s, x], argTypes := #[26, 26] }) (N M : Nat) (hN : N ≤ w.heap.size)
    (v : Value) (d : List UInt8) (hs : a.eval s = v) (hown : Own N w v d) (vx : Value) (l : List UInt8) (hx : a.eval x = vx) (hin : InB M w vx l) (hmax : d.length + l.length ≤ 140737488355328)
    (h : ∀ v' w', Own N w' v' (d ++ l) → Fr N w w' → wpList Tryd.prog ops Q rest (a.put o.dst v') w') : wpList Tryd.prog ops Q (o :: rest) a w := by
  obtain ⟨i, h1, h2, h3, h4⟩ := Tryd.info5a
  rcases hin with ⟨rfl, rfl⟩ | ⟨b, off, c, rfl, hc, hb, hr⟩
  · refine wpList_append_own_none hgd s x 26 ho N 5 i 1 Tryd.underlying26 h1 v d.length (d.map B) hs hown hx ?_
    exact h v w (by rw [List.append_nil]; exact hown) (Fr.refl _ _)
  · obtain ⟨v', w', hr, g2, g3, _⟩ := run_append_own (P := Tryd.prog) w N 26 o.type 5 i _ 1 1 Tryd.underlying26 h1 h2 h3 h4 rfl (by decide) v d.length (d.map B) hown ⟨b, off, none⟩ l.length c (l.map B) (by rw [List.length_map, Nat.mul_one]) (fun j u hu => by rw [Addr.add_mid]; exact hr j u hu) (one_By l) (by unfold maxLen; omega) (by omega) hN
    have g2' : Own N w' v' (d ++ l) := by unfold Own; rw [List.length_append, List.map_append]; exact g2
    refine wpList_plain hgd fun K hK => ?_
    unfold Oper.wp execOp
    simp only [ho, resolve, invoke, builtin, Sem.run_bind, Sem.run_pure, Result.andThen_ok, List.map_toArray, List.map_cons, List.map_nil, hs, hx, hr]
    exact hK _ _ (h v' w' g2' (Fr.grown hown g3))
/-- The slice v has the bytes l, in a block below N, wherever an empty one may point to; or is nil. -/
def InE (N : Nat) (w : World) (v : Value) (l : List UInt8) : Prop :=
  (v = .slice none 0 0 ∧ l = []) ∨ ∃ a c, v = .slice (some a) l.length c ∧ l.length ≤ c ∧ (l = [] ∨ a.block < N) ∧ ∀ j u, (l.map B)[j]? = some u → w.cell? (a.add j) = some u
theorem InB.inE {N : Nat} {w : World} {v : Value} {l : List UInt8} (h : InB N w v l) : InE N w v l := by
  rcases h with h | ⟨b, o, c, h1, h2, h3, h4⟩
  · exact .inl h
  · exact .inr ⟨⟨b, o, none⟩, c, h1, h2, h3, fun j u hu => by rw [Addr.add_mid]; exact h4 j u hu⟩
theorem InE.slice {N : Nat} {w : World} {v : Value} {l : List UInt8} (h : InE N w v l) : ∃ a c, v = .slice a l.length c ∧ l.length ≤ c := by
  rcases h with ⟨rfl, rfl⟩ | ⟨a, c, rfl, hc, _⟩
  · exact ⟨_, _, rfl, Nat.le_refl _⟩
  · exact ⟨_, _, rfl, hc⟩
theorem add_blk (a : Addr) (n : Nat) : (a.add n).block = a.block := by unfold Addr.add; split <;> rfl
theorem InE.below {N M : Nat} {w w' : World} {v : Value} {l : List UInt8} (h : InE N w v l) (hb : Below M w w') (hN : N ≤ M) : InE N w' v l := by
  rcases h with h | ⟨a, c, h1, h2, h3, h4⟩
  · exact .inl h
  · refine .inr ⟨a, c, h1, h2, h3, fun j u hu => ?_⟩
    rcases h3 with rfl | h3
    · simp at hu
    · rw [hb.cell (p := a.add j) (by rw [add_blk]; omega)]; exact h4 j u hu
theorem InE.up {N M : Nat} {w : World} {v : Value} {l : List UInt8} (h : InE N w v l) (hN : N ≤ M) : InE M w v l := by
  rcases h with h | ⟨a, c, h1, h2, h3, h4⟩
  · exact .inl h
  · exact .inr ⟨a, c, h1, h2, h3.imp id (fun h => by omega), h4⟩
theorem InE.bts {N : Nat} {w : World} {v : Value} {l : List UInt8} (h : InE N w v l) : Bts (· < N) w v l := by
  rcases h with ⟨rfl, rfl⟩ | ⟨a, c, rfl, hc, h3, h4⟩
  · exact ⟨_, _, rfl, Nat.le_refl _, .inl rfl⟩
  · refine ⟨_, _, rfl, hc, ?_⟩
    rcases h3 with h3 | h3
    · exact .inl h3
    · by_cases hl : l = []
      · exact .inl hl
      · right
        obtain ⟨b, o, sp⟩ := a
        have hsp : sp = none := by
          have h0 := h4 0 (B (l[0]'(List.length_pos_iff.2 hl))) (by simp [List.length_pos_iff.2 hl])
          cases sp with
          | none => rfl
          | some q =>
            exfalso
            unfold World.cell? at h0
            split at h0
            · simp [Addr.add] at h0
            · cases h0
        subst hsp
        exact ⟨b, o, rfl, h3, fun j u hu => by rw [← Addr.add_mid]; exact h4 j u hu⟩
theorem wpList_appE {ops : Array Oper} {rest : List Oper} {o : Oper} {a : Act} {w : World} {Q : Exit → Act → World → Prop} (hgd : o.guard = none) (s x : Operand)
    (ho : o.op = .call { callee := .builtin .append, args := #[s, x], argTypes := #[26, 26] }) (N M : Nat) (hN : N ≤ w.heap.size)
    (v : Value) (d : List UInt8) (hs : a.eval s = v) (hown : Own N w v d) (vx : Value) (l : List UInt8) (hx : a.eval x = vx) (hin : InE M w vx l) (hmax : d.length + l.length ≤ 140737488355328)
    (h : ∀ v' w', Own N w' v' (d ++ l) → Fr N w w' → wpList Tryd.prog ops Q rest (a.put o.dst v') w') : wpList Tryd.prog ops Q (o :: rest) a w := by
  obtain ⟨i, h1, h2, h3, h4⟩ := Tryd.info5a
  rcases hin with ⟨rfl, rfl⟩ | ⟨ad, c, rfl, hc, hb, hr⟩
  · refine wpList_append_own_none hgd s x 26 ho N 5 i 1 Tryd.underlying26 h1 v d.length (d.map B) hs hown hx ?_
    exact h v w (by rw [List.append_nil]; exact hown) (Fr.refl _ _)
  · obtain ⟨v', w', hr, g2, g3, _⟩ := run_append_own (P := Tryd.prog) w N 26 o.type 5 i _ 1 1 Tryd.underlying26 h1 h2 h3 h4 rfl (by decide) v d.length (d.map B) hown ad l.length c (l.map B) (by rw [List.length_map, Nat.mul_one]) hr (one_By l) (by unfold maxLen; omega) (by omega) hN
    have g2' : Own N w' v' (d ++ l) := by unfold Own; rw [List.length_append, List.map_append]; exact g2
    refine wpList_plain hgd fun K hK => ?_
    unfold Oper.wp execOp
    simp only [ho, resolve, invoke, builtin, Sem.run_bind, Sem.run_pure, Result.andThen_ok, List.map_toArray, List.map_cons, List.map_nil, hs, hx, hr]
    exact hK _ _ (h v' w' g2' (Fr.grown hown g3))
/-- One byte, laid in a block of its own first. -/
theorem one_in (w : World) (x : UInt8) : InB (w.alloc (.cells #[.int .u8 (x.toNat : Int)] 5)).heap.size (w.alloc (.cells #[.int .u8 (x.toNat : Int)] 5)) (.slice (some ⟨w.heap.size, 0, none⟩) 1 1) [x] := (Row.new w 5 (ag [x])).inB (n := 1) rfl
/-- A call whose answer is known up to what it stands for. -/
theorem wp_callE {P : Program} {Q : Exit → Act → World → Prop} {op : Oper} {a : Act} {w : World} {K : Act → World → Prop} (f : FuncId) (args : Array Value) (hrun : (execOp a.eval op).run P w = .ok (.enter f args) w) (R : Value → World → Prop)
    (hc : Calls P f args w (fun e w'' => ∃ v, e = .returned v ∧ R v w'')) (h : ∀ v w'', R v w'' → K (a.put op.dst v) w'') : op.wp P a w K Q := by
  unfold Oper.wp
  rw [hrun]
  exact hc.mono fun e w'' hh => by obtain ⟨v, rfl, hR⟩ := hh; exact h v w'' hR
end Go.Proofs.YthcokaffbgbanaaDoor

/- The walks of New, NewOpen, isThere, Used, Counts. -/
namespace Go.Proofs.YthcokaffbgbanaaDoor
open Go.RowKit Go.BigFrame

theorem Tryd.zero92 : (Tryd.prog.info? 92).map (fun i => (i.zero, i.size)) = some (some (.agg (ag (Gf.zeros 16) ++ #[.int .u8 0, .int .u64 0])), 18) := by kernel_rfl
theorem Tryd.zero94 : (Tryd.prog.info? 94).map (fun i => (i.zero, i.size)) = some (some (.agg (ag (Gf.zeros 16) ++ #[.int .u8 0, .int .u64 0, .int .i64 0, .int .i64 0, .int .i64 0])), 21) := by kernel_rfl
/-- A sealer's cells, an opener's cells. -/
def slO (key : List UInt8) (f n : Nat) : Array Value := ag key ++ #[.int .u8 (f : Int), .int .u64 (n : Int)]
def opO (key : List UInt8) (f n t o b : Nat) : Array Value := ag key ++ #[.int .u8 (f : Int), .int .u64 (n : Int), .int .i64 (t : Int), .int .i64 (o : Int), .int .i64 (b : Int)]
theorem slO_16 {key : List UInt8} (hk : key.length = 16) (f n : Nat) : (slO key f n)[16]? = some (.int .u8 (f : Int)) := by
  unfold slO; rw [Array.getElem?_append_right (by rw [ag_size]; omega), ag_size, hk]; rfl
theorem slO_17 {key : List UInt8} (hk : key.length = 16) (f n : Nat) : (slO key f n)[17]? = some (.int .u64 (n : Int)) := by
  unfold slO; rw [Array.getElem?_append_right (by rw [ag_size]; omega), ag_size, hk]; rfl
theorem opO_at {key : List UInt8} (hk : key.length = 16) (f n t o b k : Nat) (h : 16 ≤ k) : (opO key f n t o b)[k]? = (#[.int .u8 (f : Int), .int .u64 (n : Int), .int .i64 (t : Int), .int .i64 (o : Int), .int .i64 (b : Int)] : Array Value)[k - 16]? := by
  unfold opO; rw [Array.getElem?_append_right (by rw [ag_size]; omega), ag_size, hk]
theorem key_range {w : World} {p : Nat} {t : TypeId} {key : List UInt8} {r : Array Value} (h : Row w p t (ag key ++ r)) : w.rangeAt p 0 (key.map B) := fun j u hu => by
  rw [Nat.zero_add, h.cell]
  have hj := (List.getElem?_eq_some_iff.1 hu).1
  rw [List.length_map] at hj
  rw [Array.getElem?_append_left (by rw [ag_size]; exact hj)]
  unfold ag
  simpa using hu

set_option maxRecDepth 100000 in
set_option maxHeartbeats 2000000 in
theorem sThere_any (p : Nat) (key : List UInt8) (hk : key.length = 16) (f n : Nat) (w : World) (h : Row w p 92 (slO key f n)) : Calls Tryd.prog 43 #[.pointer (some ⟨p, 0, none⟩)] w fun e w' => e = .returned (.bool (decide (f = 1 ∨ f = 2))) ∧ w' = w := by
  have hS := fun w => isSide_any f w
  have c16 : w.cell? ⟨p, 16, none⟩ = some (.int .u8 (f : Int)) := by rw [h.cell]; exact slO_16 hk f n
  generalize decide (f = 1 ∨ f = 2) = r at *
  clear h
  go_enter Tryd.func43, Tryd.ntmps43
  go_wp2_with (first | (go_at_call 28; refine (hS _).mono ?_; rintro e1 w1 ⟨rfl, rfl⟩) | fail)
  go_ret
  exact ⟨rfl, rfl⟩
set_option maxRecDepth 100000 in
set_option maxHeartbeats 2000000 in
theorem oThere_any (p : Nat) (key : List UInt8) (hk : key.length = 16) (f n t o b : Nat) (w : World) (h : Row w p 94 (opO key f n t o b)) : Calls Tryd.prog 44 #[.pointer (some ⟨p, 0, none⟩)] w fun e w' => e = .returned (.bool (decide (f = 1 ∨ f = 2))) ∧ w' = w := by
  have hS := fun w => isSide_any f w
  have c16 : w.cell? ⟨p, 16, none⟩ = some (.int .u8 (f : Int)) := by rw [h.cell]; exact opO_at hk f n t o b 16 (by omega)
  generalize decide (f = 1 ∨ f = 2) = r at *
  clear h
  go_enter Tryd.func44, Tryd.ntmps44
  go_wp2_with (first | (go_at_call 28; refine (hS _).mono ?_; rintro e1 w1 ⟨rfl, rfl⟩) | fail)
  go_ret
  exact ⟨rfl, rfl⟩
theorem sThere_nil (w : World) : Calls Tryd.prog 43 #[.pointer none] w fun e w' => e = .returned (.bool false) ∧ w' = w := by
  go_enter Tryd.func43, Tryd.ntmps43
  go_wp2_with fail
  go_ret
  exact ⟨rfl, rfl⟩
theorem oThere_nil (w : World) : Calls Tryd.prog 44 #[.pointer none] w fun e w' => e = .returned (.bool false) ∧ w' = w := by
  go_enter Tryd.func44, Tryd.ntmps44
  go_wp2_with fail
  go_ret
  exact ⟨rfl, rfl⟩
theorem used_any (p : Nat) (key : List UInt8) (hk : key.length = 16) (f n : Nat) (hf : f = 1 ∨ f = 2) (w : World) (h : Row w p 92 (slO key f n)) : Calls Tryd.prog 26 #[.pointer (some ⟨p, 0, none⟩)] w fun e w' => e = .returned (.int .u64 (n : Int)) ∧ w' = w := by
  have hT := sThere_any p key hk f n w h
  rw [decide_eq_true hf] at hT
  have c17 : w.cell? ⟨p, 17, none⟩ = some (.int .u64 (n : Int)) := by rw [h.cell]; exact slO_17 hk f n
  clear h
  go_enter Tryd.func26, Tryd.ntmps26
  go_wp2_with (first | (go_at_call 43; refine hT.mono ?_; rintro e1 w1 ⟨rfl, rfl⟩) | fail)
  go_ret
  exact ⟨rfl, rfl⟩
theorem used_nil (w : World) : Calls Tryd.prog 26 #[.pointer none] w fun e w' => e = .returned (.int .u64 0) ∧ w' = w := by
  have hT := sThere_nil w
  go_enter Tryd.func26, Tryd.ntmps26
  go_wp2_with (first | (go_at_call 43; refine hT.mono ?_; rintro e1 w1 ⟨rfl, rfl⟩) | fail)
  go_ret
  exact ⟨rfl, rfl⟩
theorem counts_any (p : Nat) (key : List UInt8) (hk : key.length = 16) (f n t o b : Nat) (hf : f = 1 ∨ f = 2) (w : World) (h : Row w p 94 (opO key f n t o b)) : Calls Tryd.prog 25 #[.pointer (some ⟨p, 0, none⟩)] w fun e w' => e = .returned (.tuple #[.int .i64 (t : Int), .int .i64 (o : Int), .int .i64 (b : Int)]) ∧ Below w.heap.size w w' := by
  have hT := oThere_any p key hk f n t o b w h
  rw [decide_eq_true hf] at hT
  have c18 : w.cell? ⟨p, 18, none⟩ = some (.int .i64 (t : Int)) := by rw [h.cell]; exact opO_at hk f n t o b 18 (by omega)
  have c19 : w.cell? ⟨p, 19, none⟩ = some (.int .i64 (o : Int)) := by rw [h.cell]; exact opO_at hk f n t o b 19 (by omega)
  have c20 : w.cell? ⟨p, 20, none⟩ = some (.int .i64 (b : Int)) := by rw [h.cell]; exact opO_at hk f n t o b 20 (by omega)
  clear h
  go_enter Tryd.func25, Tryd.ntmps25
  go_wp2_with (first | (go_at_call 44; refine hT.mono ?_; rintro e1 w1 ⟨rfl, rfl⟩) | fail)
  go_region
  go_wp2_with fail
  refine bodyPost_ret (results_tmp3 rfl _ _ _) rfl ?_
  exact ⟨rfl, (Below.refl _ _).drew⟩
theorem counts_nil (w : World) : Calls Tryd.prog 25 #[.pointer none] w fun e w' => e = .returned (.tuple #[.int .i64 0, .int .i64 0, .int .i64 0]) ∧ w' = w := by
  have hT := oThere_nil w
  go_enter Tryd.func25, Tryd.ntmps25
  go_wp2_with (first | (go_at_call 44; refine hT.mono ?_; rintro e1 w1 ⟨rfl, rfl⟩) | fail)
  refine bodyPost_ret (results_tmp3 rfl _ _ _) rfl ?_
  exact ⟨rfl, rfl⟩
theorem list16 (l : List UInt8) (h : l.length = 16) : ∃ k0 k1 k2 k3 k4 k5 k6 k7 k8 k9 k10 k11 k12 k13 k14 k15, l = [k0, k1, k2, k3, k4, k5, k6, k7, k8, k9, k10, k11, k12, k13, k14, k15] := by
  match l, h with
  | [k0, k1, k2, k3, k4, k5, k6, k7, k8, k9, k10, k11, k12, k13, k14, k15], _ => exact ⟨_, _, _, _, _, _, _, _, _, _, _, _, _, _, _, _, rfl⟩
set_option maxRecDepth 100000 in
set_option maxHeartbeats 4000000 in
theorem sNew_any (key : List UInt8) (hk : key.length = 16) (f n : Nat) (hf : f = 1 ∨ f = 2) (hn : n ≤ 4611686018427387904) (w : World) : Calls Tryd.prog 17 #[.agg (ag key), .int .u8 (f : Int), .int .u64 (n : Int)] w fun e w' => ∃ p, e = .returned (.tuple #[.pointer (some ⟨p, 0, none⟩), .int .i64 0]) ∧ Row w' p 92 (slO key f n) ∧ w.heap.size ≤ p ∧ Below w.heap.size w w' := by
  have hS := fun w => isSide_any f w
  rw [decide_eq_true hf] at hS
  have d1 : decide ((4611686018427387904 : Int) < (n : Int)) = false := decide_eq_false (by omega)
  obtain ⟨k0, k1, k2, k3, k4, k5, k6, k7, k8, k9, k10, k11, k12, k13, k14, k15, rfl⟩ := list16 key hk
  have ea : ag [k0, k1, k2, k3, k4, k5, k6, k7, k8, k9, k10, k11, k12, k13, k14, k15] = #[B k0, B k1, B k2, B k3, B k4, B k5, B k6, B k7, B k8, B k9, B k10, B k11, B k12, B k13, B k14, B k15] := rfl
  have eb : slO [k0, k1, k2, k3, k4, k5, k6, k7, k8, k9, k10, k11, k12, k13, k14, k15] f n = #[B k0, B k1, B k2, B k3, B k4, B k5, B k6, B k7, B k8, B k9, B k10, B k11, B k12, B k13, B k14, B k15, .int .u8 (f : Int), .int .u64 (n : Int)] := rfl
  rw [ea, eb]
  clear ea eb hf hk
  have h1 : Box' (Below w.heap.size w ((w.alloc (.cells #[B k0, B k1, B k2, B k3, B k4, B k5, B k6, B k7, B k8, B k9, B k10, B k11, B k12, B k13, B k14, B k15] 23)).alloc (.cells #[B k0, B k1, B k2, B k3, B k4, B k5, B k6, B k7, B k8, B k9, B k10, B k11, B k12, B k13, B k14, B k15, .int .u8 (f : Int), .int .u64 (n : Int)] 92))) := ⟨((Below.refl _ _).alloc (Nat.le_refl _) _).alloc (by simp) _⟩
  have h2 : Box' (Row ((w.alloc (.cells #[B k0, B k1, B k2, B k3, B k4, B k5, B k6, B k7, B k8, B k9, B k10, B k11, B k12, B k13, B k14, B k15] 23)).alloc (.cells #[B k0, B k1, B k2, B k3, B k4, B k5, B k6, B k7, B k8, B k9, B k10, B k11, B k12, B k13, B k14, B k15, .int .u8 (f : Int), .int .u64 (n : Int)] 92)) (w.heap.size + 1) 92 #[B k0, B k1, B k2, B k3, B k4, B k5, B k6, B k7, B k8, B k9, B k10, B k11, B k12, B k13, B k14, B k15, .int .u8 (f : Int), .int .u64 (n : Int)]) := ⟨Row.made _ _ _ _ _ rfl (by simp)⟩
  unfold B at *
  go_enter Tryd.func17, Tryd.ntmps17
  go_wp2_with (first | (go_at_call 28; refine (hS _).mono ?_; rintro e1 w1 ⟨rfl, rfl⟩) | fail)
  go_ret2
  exact ⟨_, rfl, h2.out, by omega, h1.out⟩
set_option maxRecDepth 100000 in
set_option maxHeartbeats 4000000 in
theorem oNew_any (key : List UInt8) (hk : key.length = 16) (f : Nat) (hf : f = 1 ∨ f = 2)  (w : World) : Calls Tryd.prog 19 #[.agg (ag key), .int .u8 (f : Int)] w fun e w' => ∃ p, e = .returned (.tuple #[.pointer (some ⟨p, 0, none⟩), .int .i64 0]) ∧ Row w' p 94 (opO key f 0 0 0 0) ∧ w.heap.size ≤ p ∧ Below w.heap.size w w' := by
  have hS := fun w => isSide_any f w
  rw [decide_eq_true hf] at hS
  obtain ⟨k0, k1, k2, k3, k4, k5, k6, k7, k8, k9, k10, k11, k12, k13, k14, k15, rfl⟩ := list16 key hk
  have ea : ag [k0, k1, k2, k3, k4, k5, k6, k7, k8, k9, k10, k11, k12, k13, k14, k15] = #[B k0, B k1, B k2, B k3, B k4, B k5, B k6, B k7, B k8, B k9, B k10, B k11, B k12, B k13, B k14, B k15] := rfl
  have eb : opO [k0, k1, k2, k3, k4, k5, k6, k7, k8, k9, k10, k11, k12, k13, k14, k15] f 0 0 0 0 = #[B k0, B k1, B k2, B k3, B k4, B k5, B k6, B k7, B k8, B k9, B k10, B k11, B k12, B k13, B k14, B k15, .int .u8 (f : Int), .int .u64 0, .int .i64 0, .int .i64 0, .int .i64 0] := rfl
  rw [ea, eb]
  clear ea eb hf hk
  have h1 : Box' (Below w.heap.size w ((w.alloc (.cells #[B k0, B k1, B k2, B k3, B k4, B k5, B k6, B k7, B k8, B k9, B k10, B k11, B k12, B k13, B k14, B k15] 23)).alloc (.cells #[B k0, B k1, B k2, B k3, B k4, B k5, B k6, B k7, B k8, B k9, B k10, B k11, B k12, B k13, B k14, B k15, .int .u8 (f : Int), .int .u64 0, .int .i64 0, .int .i64 0, .int .i64 0] 94))) := ⟨((Below.refl _ _).alloc (Nat.le_refl _) _).alloc (by simp) _⟩
  have h2 : Box' (Row ((w.alloc (.cells #[B k0, B k1, B k2, B k3, B k4, B k5, B k6, B k7, B k8, B k9, B k10, B k11, B k12, B k13, B k14, B k15] 23)).alloc (.cells #[B k0, B k1, B k2, B k3, B k4, B k5, B k6, B k7, B k8, B k9, B k10, B k11, B k12, B k13, B k14, B k15, .int .u8 (f : Int), .int .u64 0, .int .i64 0, .int .i64 0, .int .i64 0] 94)) (w.heap.size + 1) 94 #[B k0, B k1, B k2, B k3, B k4, B k5, B k6, B k7, B k8, B k9, B k10, B k11, B k12, B k13, B k14, B k15, .int .u8 (f : Int), .int .u64 0, .int .i64 0, .int .i64 0, .int .i64 0]) := ⟨Row.made _ _ _ _ _ rfl (by simp)⟩
  unfold B at *
  go_enter Tryd.func19, Tryd.ntmps19
  go_wp2_with (first | (go_at_call 28; refine (hS _).mono ?_; rintro e1 w1 ⟨rfl, rfl⟩) | fail)
  go_ret2
  exact ⟨_, rfl, h2.out, by omega, h1.out⟩
end Go.Proofs.YthcokaffbgbanaaDoor

/- The walks of seal's functions that put heads and times behind bytes, and read them. -/
namespace Go.Proofs.YthcokaffbgbanaaDoor
open Go.RowKit Go.BigFrame

set_option maxRecDepth 100000 in
set_option maxHeartbeats 2000000 in
theorem appHead_any (N : Nat) (w : World) (v : Value) (d : List UInt8) (h : Nat) (hN : N ≤ w.heap.size) (ho : Own N w v d) (hd : d.length ≤ 1000000) :
    Calls Tryd.prog 33 #[v, .int .u64 (h : Int)] w fun e w' => ∃ v', e = .returned v' ∧ Own N w' v' (d ++ Gf.be8 h) ∧ Fr N w w' := by
  have HB : Box' (Gf.beTo h 8 = Gf.be8 h) := ⟨rfl⟩
  have HO := Box'.mk ho
  clear ho
  obtain ⟨a0, c0, rfl⟩ := HO.out.slice
  generalize Gf.be8 h = E at *
  go_enter Tryd.func33, Tryd.ntmps33
  go_wp2_with fail
  go_loopw [0, 6] (fun u i wr => ∃ k : Nat, k ≤ 8 ∧ i = .int .i64 (k : Int) ∧ Box' (Own N wr u (d ++ Gf.beTo h k)) ∧ Fr N w wr) (fun _ i _ => 8 - (intOf i).toNat)
  case atStart => exact ⟨0, by omega, rfl, by rw [Gf.beTo, List.append_nil]; exact HO, Fr.refl _ _⟩
  case round =>
    clear HO
    obtain ⟨k, hk, rfl, HO, hf⟩ := hrel
    have HDL : Box' ((d ++ Gf.beTo h k).length + 1 ≤ 140737488355328) := ⟨by rw [List.length_append, Gf.beTo_len]; omega⟩
    obtain ⟨a1, c1, rfl⟩ := HO.out.slice
    have hwN : N ≤ wr.heap.size := by have := hf.size; omega
    by_cases hlt : k < 8
    · have EB : Box' ((h : Int) / 2 ^ (8 * (7 - k)) % 256 = (((UInt8.ofNat (h / 2 ^ (56 - 8 * k))).toNat : Nat) : Int)) := ⟨by rw [shr_byte, show 8 * (7 - k) = 56 - 8 * k by omega]⟩
      have ES : Box' (d ++ Gf.beTo h k ++ [UInt8.ofNat (h / 2 ^ (56 - 8 * k))] = d ++ Gf.beTo h (k + 1)) := ⟨by rw [List.append_assoc]; rfl⟩
      generalize UInt8.ofNat (h / 2 ^ (56 - 8 * k)) = x at *
      generalize d ++ Gf.beTo h k = D1 at *
      go_wp2_with (first | (refine wpList_app rfl (.tmp 9) (.tmp 16) rfl N _ (Nat.le_trans hwN (by simp)) _ D1 rfl (HO.out.alloc _) _ [x] rfl (by rw [EB.out]; exact one_in wr x) HDL.out ?_; intro v2 w2 o2 f2) | fail)
      rw [ES.out] at o2
      refine ⟨⟨k + 1, by omega, by go_num, ⟨o2⟩, (hf.alloc _).trans f2⟩, by simp [intOf]; omega⟩
    · obtain rfl : k = 8 := by omega
      go_wp2_with fail
      go_ret
      rw [← HB.out]
      exact ⟨_, rfl, HO.out, hf⟩

set_option maxRecDepth 100000 in
set_option maxHeartbeats 2000000 in
theorem appTime_any (N : Nat) (w : World) (v : Value) (d : List UInt8) (t : Nat) (ht : t < 65536) (hN : N ≤ w.heap.size) (ho : Own N w v d) (hd : d.length ≤ 1000000) :
    Calls Tryd.prog 29 #[v, .int .u16 (t : Int)] w fun e w' => ∃ v', e = .returned v' ∧ Own N w' v' (d ++ [UInt8.ofNat (t / 256), UInt8.ofNat t]) ∧ Fr N w w' := by
  have HO := Box'.mk ho
  clear ho
  obtain ⟨a0, c0, rfl⟩ := HO.out.slice
  have HDL : Box' (d.length + [UInt8.ofNat (t / 256), UInt8.ofNat t].length ≤ 140737488355328) := ⟨by simp; omega⟩
  have E1 : Box' ((t : Int) / 256 = (((UInt8.ofNat (t / 256)).toNat : Nat) : Int)) := ⟨by rw [UInt8.toNat_ofNat']; omega⟩
  have E2 : Box' ((t : Int) % 256 = (((UInt8.ofNat t).toNat : Nat) : Int)) := ⟨by rw [UInt8.toNat_ofNat']; omega⟩
  generalize UInt8.ofNat (t / 256) = x at *
  generalize UInt8.ofNat t = y at *
  go_enter Tryd.func29, Tryd.ntmps29
  go_wp2_with (first | (refine wpList_app rfl (.tmp 5) (.tmp 11) rfl N _ (Nat.le_trans hN (by simp)) _ d rfl (HO.out.alloc _) _ [x, y] rfl (by rw [E1.out, E2.out]; exact (Row.new w 5 (ag [x, y])).inB (n := 2) rfl) HDL.out ?_; intro v2 w2 o2 f2) | fail)
  go_ret
  exact ⟨_, rfl, o2, ((Fr.refl N w).alloc _).trans f2⟩

/-- make([]byte, n, c). -/
theorem wpList_make_nc {ops : Array Oper} {rest : List Oper} {op : Oper} {a : Act} {w : World} {Q : Exit → Act → World → Prop}
    (hgd : op.guard = none) (x y : Operand) (ho : op.op = .makeSlice 26 x y) (L C : Int) (n c : Nat) (hx : a.eval x = .int .i64 L) (hy : a.eval y = .int .i64 C) (hL : L = (n : Int)) (hC : C = (c : Int)) (hnc : n ≤ c) (hn : c ≤ 16777216) (N : Nat) (hN : N ≤ w.heap.size)
    (h : ∀ v' w', v' = .slice (some ⟨w.heap.size, 0, none⟩) n c → w' = w.alloc (.cells (ag (Gf.zeros c)) 5) → Own N w' v' (Gf.zeros n) → wpList Tryd.prog ops Q rest (a.put op.dst v') w') : wpList Tryd.prog ops Q (op :: rest) a w := by
  obtain ⟨i, h1, h2, h3, h4⟩ := Tryd.info5a
  have hrun := run_make (P := Tryd.prog) w 26 5 i _ Tryd.underlying26 h1 h2 .i64 .i64 (n : Int) (c : Int) (by omega) (by omega) (by rw [h4]; omega) (by omega)
  rw [h3, Int.toNat_natCast, Int.toNat_natCast, Nat.mul_one, show (Value.int .u8 0).cells = #[.int .u8 0] from rfl] at hrun
  have hz : madeCells #[.int .u8 0] c = ag (Gf.zeros c) := by
    unfold ag madeCells
    apply Array.ext'
    have e : ∀ k, (#[Value.int .u8 0] : Array Value)[k % (#[Value.int .u8 0] : Array Value).size]! = B 0 := fun k => by
      rw [show k % (#[Value.int .u8 0] : Array Value).size = 0 from Nat.mod_one k]; rfl
    simp only [e]
    rw [Array.toList_map, Array.toList_range, List.map_const', List.length_range, Gf.zeros, List.map_replicate]
  rw [hz] at hrun
  refine wpList_plain hgd fun K hK' => ?_
  subst hL hC
  unfold Oper.wp
  simp only [execOp, ho, hx, hy, Sem.run_bind, hrun, Result.andThen_ok]
  refine hK' _ _ (h _ _ rfl rfl ?_)
  have hl : (Gf.zeros n).length = n := List.length_replicate
  refine ⟨by rw [List.length_map, Nat.mul_one], .inr ⟨w.heap.size, c, ag (Gf.zeros c), by rw [hl], hN, Row.new w 5 _, by rw [hl]; exact hnc, by unfold maxLen; omega, ?_, ?_⟩⟩
  · rw [ag_size, Nat.mul_one]; exact List.length_replicate
  · rw [hl, Nat.mul_one, ag, List.toList_toArray, ← List.map_take, Gf.zeros, List.take_replicate, Nat.min_eq_left hnc]
    rfl
set_option maxRecDepth 100000 in
set_option maxHeartbeats 2000000 in
theorem nonceOf_any (h : Nat) (w : World) : Calls Tryd.prog 32 #[.int .u64 (h : Int)] w fun e w' => ∃ v', e = .returned v' ∧ Own w.heap.size w' v' (Gf.nnc h) ∧ Below w.heap.size w w' := by
  have HA := Box'.mk (fun (v : Value) (w1 : World) (h1 : w.heap.size ≤ w1.heap.size) (ho : Own w.heap.size w1 v [0, 0, 0, 0]) => appHead_any w.heap.size w1 v [0, 0, 0, 0] h h1 ho (by simp))
  go_enter Tryd.func32, Tryd.ntmps32
  go_wp2_with (first | (refine wpList_make_nc rfl _ _ rfl _ _ 4 12 rfl rfl rfl rfl (by omega) (by omega) w.heap.size (Nat.le_refl _) ?_; intro v1 w1 e1 e2 o1; subst e1; have hb0 : Below w.heap.size w w1 := (by rw [e2]; exact (Below.refl _ _).alloc (Nat.le_refl _) _); clear e2) | fail)
  refine (HA.out _ w1 hb0.size o1).mono ?_
  rintro e w2 ⟨v2, rfl, o2, f2⟩
  clear HA
  go_wp2_with fail
  go_ret
  exact ⟨_, rfl, o2, hb0.trans (f2.below hb0.size)⟩

theorem u16_or (x y : UInt8) : bits .or .u16 ((x.toNat : Int) * 256) (y.toNat : Int) = ((x.toNat * 256 + y.toNat : Nat) : Int) := by
  have hx := x.toNat_lt
  have hy := y.toNat_lt
  have e : ((x.toNat : Int) * 256) = ((x.toNat * 256 : Nat) : Int) := by simp
  rw [e, u16_or_nat _ _ (by omega) (by omega)]
  congr 1
  have := Nat.shiftLeft_add_eq_or_of_lt (i := 8) (show y.toNat < 2 ^ 8 from hy) x.toNat
  rw [Nat.shiftLeft_eq] at this
  exact this.symm
set_option maxRecDepth 100000 in
set_option maxHeartbeats 2000000 in
theorem readTime_any (b o c n : Nat) (x y : UInt8) (w : World) (hn : 2 ≤ n) (c0 : w.cell? ⟨b, o, none⟩ = some (.int .u8 (x.toNat : Int))) (c1 : w.cell? ⟨b, o + 1, none⟩ = some (.int .u8 (y.toNat : Int))) :
    Calls Tryd.prog 41 #[.slice (some ⟨b, o, none⟩) n c] w fun e w' => e = .returned (.int .u16 ((x.toNat * 256 + y.toNat : Nat) : Int)) ∧ Below w.heap.size w w' := by
  have hx := x.toNat_lt
  have hy := y.toNat_lt
  have E := u16_or x y
  go_enter Tryd.func41, Tryd.ntmps41
  go_wp2_with fail
  go_region
  go_wp2_with fail
  go_ret
  exact ⟨rfl, (Below.refl _ _).drew⟩
set_option maxRecDepth 100000 in
set_option maxHeartbeats 2000000 in
theorem readHead_any (b o c n : Nat) (l : List UInt8) (w : World) (hn : l.length = n) (hn8 : 8 ≤ n) (hc : n ≤ c) (hr : w.rangeAt b o (l.map B)) :
    Calls Tryd.prog 37 #[.slice (some ⟨b, o, none⟩) n c] w fun e w' => e = .returned (.int .u64 (Gf.numTo l 0 8 : Nat)) ∧ w' = w := by
  have HC : Box' (∀ k, k < 8 → w.cell? ⟨b, o + k, none⟩ = some (.int .u8 ((l.getD k 0).toNat : Int))) := ⟨fun k hk => hr k _ (by
    have : k < l.length := by omega
    simp [this]; rfl)⟩
  have HN : Box' (∀ k, k < 8 → bits .or .u64 ((Gf.numTo l 0 k : Int) * 256) ((l.getD k 0).toNat : Int) = ((Gf.numTo l 0 (k + 1) : Nat) : Int)) := ⟨fun k hk => by
    rw [or_byte _ _ (Gf.numTo_lt7 l 0 k hk), Gf.numTo, Nat.zero_add]⟩
  have HL : Box' (∀ k, k < 8 → Gf.numTo l 0 k < 72057594037927936) := ⟨fun k hk => Gf.numTo_lt7 l 0 k hk⟩
  clear hr hn
  go_enter Tryd.func37, Tryd.ntmps37
  go_wp2_with fail
  go_loopw [3, 9] (fun u i wr => ∃ k : Nat, k ≤ 8 ∧ i = .int .i64 (k : Int) ∧ u = .int .u64 (Gf.numTo l 0 k : Nat) ∧ wr = w) (fun _ i _ => 8 - (intOf i).toNat)
  case atStart => exact ⟨0, by omega, rfl, rfl, rfl⟩
  case round =>
    obtain ⟨k, hk, rfl, rfl, rfl⟩ := hrel
    by_cases hlt : k < 8
    · have c0 := HC.out k hlt
      have eo := HN.out k hlt
      have hl := HL.out k hlt
      have E1 : Box' (Gf.numTo l 0 (k + 1) = Gf.numTo l 0 (k + 1)) := ⟨rfl⟩
      generalize hx : l.getD k 0 = x at *
      have hx8 := x.toNat_lt
      generalize hm : Gf.numTo l 0 (k + 1) = m1 at *
      generalize Gf.numTo l 0 k = m0 at *
      go_wp2_with fail
      refine ⟨⟨k + 1, by omega, by go_num, ?_, trivial⟩, by simp [intOf]; omega⟩
      rw [hm]
    · obtain rfl : k = 8 := by omega
      go_wp2_with fail
      go_ret
      exact ⟨rfl, rfl⟩
end Go.Proofs.YthcokaffbgbanaaDoor
