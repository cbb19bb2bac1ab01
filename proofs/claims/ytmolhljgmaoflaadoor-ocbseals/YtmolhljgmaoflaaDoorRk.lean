/- The plain mathematics of the reference's beginning: bits of stretched bytes, one by one. -/
import Derived.Test.YtmolhljgmaoflaaDoorRa
import Derived.Test.YtmolhljgmaoflaaDoorOj
import Derived.Test.YtmolhljgmaoflaaDoorRd
import Derived.Test.YtmolhljgmaoflaaDoorRh
namespace Go.Proofs.YtmolhljgmaoflaaDoor.Gf

def more (k : List UInt8) : Nat → List UInt8
  | 0 => k
  | i + 1 => more k i ++ [bx (k.getD i 0) (k.getD (i + 1) 0)]
theorem more_len (k : List UInt8) (i : Nat) : (more k i).length = k.length + i := by
  induction i with
  | zero => rfl
  | succ i ih => rw [more, List.length_append, ih]; rfl
theorem more_lo (k : List UInt8) (i j : Nat) (h : j < k.length) : (more k i)[j]? = k[j]? := by
  induction i with
  | zero => rfl
  | succ i ih => rw [more, List.getElem?_append_left (by rw [more_len]; omega), ih]
theorem more_hi (k : List UInt8) (i j : Nat) (h : j < i) : (more k i)[k.length + j]? = some (bx (k.getD j 0) (k.getD (j + 1) 0)) := by
  induction i with
  | zero => omega
  | succ i ih =>
    rw [more]
    by_cases e : j = i
    · subst e
      rw [List.getElem?_append_right (by rw [more_len]; omega), more_len, Nat.sub_self]; rfl
    · rw [List.getElem?_append_left (by rw [more_len]; omega)]; exact ih (by omega)
def bitAt (s : List UInt8) (q : Nat) : Nat := (s.getD (q / 8) 0).toNat / 2 ^ (7 - q % 8) % 2
theorem bitAt_bit (s : List UInt8) (q : Nat) : (bitAt s q = 1) = ((s.getD (q / 8) 0).toNat.testBit (7 - q % 8) = true) := by
  unfold bitAt
  rw [Nat.testBit_eq_decide_div_mod_eq, decide_eq_true_eq]
def oTo (s : List UInt8) (p : Nat) : Nat → List UInt8
  | 0 => zeros 16
  | t + 1 => (oTo s p t).set (t / 8) ((oTo s p t).getD (t / 8) 0 ||| UInt8.ofNat (bitAt s (p + t) * 2 ^ (7 - t % 8)))
theorem oTo_len (s : List UInt8) (p t : Nat) : (oTo s p t).length = 16 := by
  induction t with
  | zero => rfl
  | succ t ih => rw [oTo, List.length_set, ih]
theorem one_bit (d m r : Nat) (hd : d < 2) (hm : m < 8) : (UInt8.ofNat (d * 2 ^ m)).toNat.testBit r = (decide (r = m) && decide (d = 1)) := by
  have h2 : d * 2 ^ m < 256 := by
    have h3 : d * 2 ^ m ≤ 1 * 2 ^ m := Nat.mul_le_mul_right _ (by omega)
    have h4 : 2 ^ m ≤ 2 ^ 7 := Nat.pow_le_pow_right (by decide) (by omega)
    omega
  rw [UInt8.toNat_ofNat_of_lt' (show _ < 256 from h2), Nat.mul_comm, Nat.testBit_two_pow_mul]
  have hc : d = 0 ∨ d = 1 := by omega
  rcases hc with rfl | rfl
  · simp
  · by_cases e : r = m
    · subst e; simp
    · by_cases h : m ≤ r
      · have : r - m ≠ 0 := by omega
        simp only [ge_iff_le, h, decide_true, Bool.true_and, e, decide_false, Bool.false_and]
        exact Nat.testBit_lt_two_pow (Nat.lt_of_lt_of_le (show 1 < 2 ^ 1 by decide) (Nat.pow_le_pow_right (by decide) (by omega)))
      · simp [h, e]
theorem oTo_bit (s : List UInt8) (p t j r : Nat) (hj : j < 16) (hr : r < 8) (ht : t ≤ 128) : ((oTo s p t).getD j 0).toNat.testBit r = (decide (8 * j + 7 - r < t) && (s.getD ((p + (8 * j + 7 - r)) / 8) 0).toNat.testBit (7 - (p + (8 * j + 7 - r)) % 8)) := by
  induction t with
  | zero =>
    have : (oTo s p 0).getD j 0 = 0 := by rw [oTo, zeros, List.getD_eq_getElem?_getD, List.getElem?_replicate, if_pos hj]; rfl
    rw [this]; simp
  | succ t ih =>
    have ih := ih (by omega)
    rw [oTo]
    by_cases e : j = t / 8
    · subst e
      rw [List.getD_eq_getElem?_getD, List.getElem?_set_self (by rw [oTo_len]; exact hj)]
      simp only [Option.getD_some, UInt8.toNat_or, Nat.testBit_or]
      rw [ih, one_bit _ _ _ (show bitAt s (p + t) < 2 from Nat.mod_lt _ (by decide)) (by omega)]
      by_cases hq : r = 7 - t % 8
      · have e2 : 8 * (t / 8) + 7 - r = t := by omega
        rw [e2]
        have h1 : ¬ t < t := by omega
        have h2 : t < t + 1 := by omega
        simp only [h1, h2, decide_true, decide_false, Bool.false_and, Bool.true_and, Bool.false_or, hq]
        rw [Bool.eq_iff_iff, decide_eq_true_eq, bitAt_bit]
      · have h3 : (8 * (t / 8) + 7 - r < t) ↔ (8 * (t / 8) + 7 - r < t + 1) := by omega
        simp [hq, h3]
    · rw [List.getD_eq_getElem?_getD, List.getElem?_set_ne (by omega), ← List.getD_eq_getElem?_getD, ih]
      have h3 : (8 * j + 7 - r < t) ↔ (8 * j + 7 - r < t + 1) := by omega
      simp [h3]
theorem behind_bit (k : List UInt8) (x : Nat) (hx : x < 64) : (behind (half k 0) (half k 8)).testBit x = (bx (k.getD (7 - x / 8) 0) (k.getD (7 - x / 8 + 1) 0)).toNat.testBit (x % 8) := by
  unfold behind bx
  rw [UInt8.toNat_xor, Nat.testBit_xor, Nat.testBit_xor, Nat.testBit_or, show (18446744073709551616 : Nat) = 2 ^ 64 from rfl, show (72057594037927936 : Nat) = 2 ^ 56 from rfl, Nat.testBit_mod_two_pow, Nat.mul_comm, show 256 * half k 0 = 2 ^ 8 * half k 0 from rfl, Nat.testBit_two_pow_mul, Nat.testBit_div_two_pow, half_bit k 0 x hx]
  rw [Nat.zero_add]
  congr 1
  by_cases h8 : 8 ≤ x
  · rw [half_out k 8 _ (by omega), half_bit k 0 (x - 8) (by omega)]
    have e1 : 0 + (7 - (x - 8) / 8) = 7 - x / 8 + 1 := by omega
    have e2 : (x - 8) % 8 = x % 8 := by omega
    rw [e1, e2]
    simp only [hx, decide_true, Bool.true_and, ge_iff_le, h8, Bool.or_false]
  · rw [half_bit k 8 (x + 56) (by omega)]
    have e1 : 8 + (7 - (x + 56) / 8) = 7 - x / 8 + 1 := by omega
    have e2 : (x + 56) % 8 = x % 8 := by omega
    rw [e1, e2]
    simp only [ge_iff_le, h8, decide_false, Bool.false_and, Bool.and_false, Bool.false_or]
theorem behind_out (k : List UInt8) (x : Nat) (hx : 64 ≤ x) : (behind (half k 0) (half k 8)).testBit x = false := by
  unfold behind
  rw [Nat.testBit_xor, Nat.testBit_or, show (18446744073709551616 : Nat) = 2 ^ 64 from rfl, show (72057594037927936 : Nat) = 2 ^ 56 from rfl, Nat.testBit_mod_two_pow, Nat.testBit_div_two_pow, half_out k 0 x hx, half_out k 8 _ (by omega)]
  have : ¬ x < 64 := by omega
  simp [this]
theorem shift_bit (h l p q : Nat) (hp : p < 64) (hq : q < 64) (hl : ∀ x, 64 ≤ x → l.testBit x = false) : ((h * 2 ^ p % 18446744073709551616) ||| (l / 2 ^ (64 - p))).testBit q = if p ≤ q then h.testBit (q - p) else l.testBit (q + 64 - p) := by
  rw [Nat.testBit_or, show (18446744073709551616 : Nat) = 2 ^ 64 from rfl, Nat.testBit_mod_two_pow, Nat.mul_comm, Nat.testBit_two_pow_mul, Nat.testBit_div_two_pow]
  by_cases h1 : p ≤ q
  · rw [if_pos h1, hl _ (by omega)]
    simp only [hq, decide_true, Bool.true_and, ge_iff_le, h1, Bool.or_false]
  · rw [if_neg h1, show q + (64 - p) = q + 64 - p by omega]
    simp only [ge_iff_le, h1, decide_false, Bool.false_and, Bool.and_false, Bool.false_or]
theorem begin_eq (k : List UInt8) (hk : k.length = 16) (p : Nat) (hp : p < 64) : oTo (more k 8) p 128 = shifted (half k 0) (half k 8) p := by
  apply ext_bits
  · rw [oTo_len]; unfold shifted; rw [joinL_len]
  intro j hj r hr
  rw [oTo_len] at hj
  rw [oTo_bit _ _ _ _ _ hj hr (Nat.le_refl _)]
  have h128 : 8 * j + 7 - r < 128 := by omega
  rw [decide_eq_true h128, Bool.true_and]
  have lo : ∀ i, i < 16 → (more k 8).getD i 0 = k.getD i 0 := fun i hi => by rw [List.getD_eq_getElem?_getD, more_lo k 8 i (by omega), ← List.getD_eq_getElem?_getD]
  have hi' : ∀ i, i < 8 → (more k 8).getD (16 + i) 0 = bx (k.getD i 0) (k.getD (i + 1) 0) := fun i hi => by rw [List.getD_eq_getElem?_getD, ← hk, more_hi k 8 i hi]; rfl
  unfold shifted
  by_cases h8 : j < 8
  · rw [joinL_lo _ _ j h8, ofNat_bit _ _ _ hr, shift_bit _ _ _ _ hp (by omega) (fun x hx => half_out k 8 x hx)]
    by_cases h1 : p ≤ 56 - 8 * j + r
    · rw [if_pos h1, half_bit k 0 _ (by omega), lo _ (by omega)]
      congr 1
      · congr 2; omega
      · omega
    · rw [if_neg h1, half_bit k 8 _ (by omega), lo _ (by omega)]
      congr 1
      · congr 2; omega
      · omega
  · obtain ⟨i, rfl⟩ : ∃ i, j = i + 8 := ⟨j - 8, by omega⟩
    rw [joinL_hi _ _ i (by omega), ofNat_bit _ _ _ hr, shift_bit _ _ _ _ hp (by omega) (fun x hx => behind_out k x hx)]
    by_cases h1 : p ≤ 56 - 8 * i + r
    · rw [if_pos h1, half_bit k 8 _ (by omega), lo _ (by omega)]
      congr 1
      · congr 2; omega
      · omega
    · rw [if_neg h1, behind_bit k _ (by omega)]
      have e : (p + (8 * (i + 8) + 7 - r)) / 8 = 16 + (7 - (56 - 8 * i + r + 64 - p) / 8) := by omega
      rw [e, hi' _ (by omega)]
      congr 1
      omega

/-! The block of a nonce. -/
theorem nblock_eq (l : List UInt8) (h : l.length ≤ 15) : (splice (zeros 16) (16 - l.length) l).set (15 - l.length) 1 = nblock l := by
  unfold nblock
  have hz : (zeros 16).length = 16 := rfl
  have hs : ∀ z : List UInt8, z.length = 16 → (splice z (16 - l.length) l).length = 16 := fun z hz => by rw [splice_len _ _ _ (by omega)]; exact hz
  apply List.ext_getElem?
  intro i
  by_cases e : i = 15 - l.length
  · subst e
    rw [List.getElem?_set_self (by rw [hs _ hz]; omega)]
    unfold splice
    rw [List.getElem?_append_left (by simp [hz]; omega), List.getElem?_take_of_lt (by omega), List.getElem?_set_self (by rw [hz]; omega)]
  · rw [List.getElem?_set_ne (by omega)]
    unfold splice
    by_cases h1 : i < 16 - l.length
    · rw [List.getElem?_append_left (by simp [hz]; omega), List.getElem?_append_left (by simp [hz]; omega), List.getElem?_take_of_lt h1, List.getElem?_take_of_lt h1, List.getElem?_set_ne (by omega)]
    · have e1 : (List.take (16 - l.length) (zeros 16)).length = 16 - l.length := by simp [hz]
      have e2 : (List.take (16 - l.length) ((zeros 16).set (15 - l.length) 1)).length = 16 - l.length := by simp [hz]
      rw [List.getElem?_append_right (by rw [e1]; omega), List.getElem?_append_right (l₁ := List.take (16 - l.length) ((zeros 16).set (15 - l.length) 1)) (by rw [e2]; omega), e1, e2]
      by_cases h2 : i - (16 - l.length) < l.length
      · rw [List.getElem?_append_left h2, List.getElem?_append_left h2]
      · rw [List.getElem?_append_right (by omega), List.getElem?_append_right (by omega), List.getElem?_drop, List.getElem?_drop, List.getElem?_set_ne (by omega)]
end Go.Proofs.YtmolhljgmaoflaaDoor.Gf

/- Bytes that a call puts behind each other in a row of its own. -/
namespace Go.Proofs.YtmolhljgmaoflaaDoor
open Go.RowKit Go.BigFrame

def Own (N : Nat) (w : World) (v : Value) (d : List UInt8) : Prop := w.ownsRow N 5 1 v d.length (d.map B)
theorem Own.nil (N : Nat) (w : World) : Own N w (.slice none 0 0) [] := ⟨rfl, .inl ⟨rfl, rfl⟩⟩
theorem Own.new (N : Nat) (w : World) (h : N ≤ w.heap.size) : Own N (w.alloc (.cells #[] 5)) (.slice (some ⟨w.heap.size, 0, none⟩) 0 0) [] :=
  ⟨rfl, .inr ⟨_, _, #[], rfl, h, Row.new w 5 #[], Nat.le_refl _, Nat.zero_le _, rfl, rfl⟩⟩
theorem Own.same {N : Nat} {w w' : World} {v : Value} {d : List UInt8} (h : Own N w v d) (hk : ∀ b c, Row w b 5 c → Row w' b 5 c) : Own N w' v d := by
  refine ⟨h.1, ?_⟩
  rcases h.2 with h2 | ⟨g, cap, cur, e1, e2, e3, e4⟩
  · exact .inl h2
  · exact .inr ⟨g, cap, cur, e1, e2, hk g cur e3, e4⟩
theorem Own.below {N : Nat} {w w' : World} {v : Value} {d : List UInt8} (h : Own N w v d) (hb : Below w.heap.size w w') : Own N w' v d := h.same fun _ _ hr => hr.below hb hr.lt
theorem Own.alloc {N : Nat} {w : World} {v : Value} {d : List UInt8} (h : Own N w v d) (o : Obj) : Own N (w.alloc o) v d := h.same fun _ _ hr => hr.alloc o
theorem Own.drew {N : Nat} {w : World} {v : Value} {d : List UInt8} (h : Own N w v d) : Own N w.drew v d := h
theorem row_ne {w : World} {b p : Nat} {t t' : TypeId} {c c' : Array Value} (h : Row w b t c) (h' : Row w p t' c') (ht : t ≠ t') : b ≠ p := by
  rintro rfl
  have e : some (Obj.cells c t (0, 0)) = some (.cells c' t' (0, 0)) := Eq.trans (Eq.symm h) h'
  injection e with e
  injection e with _ e
  exact ht e
theorem Own.setRow {N : Nat} {w : World} {v : Value} {d : List UInt8} (h : Own N w v d) {p : Nat} {t : TypeId} {n : Nat} (hp : Room w p t n) (ht : t ≠ 5) (c' : Array Value) : Own N (w.setRow p c') v d := by
  obtain ⟨c, hp, _⟩ := hp
  exact h.same fun b _ hr => hr.setRowOther _ _ (row_ne hr hp (Ne.symm ht))
theorem Own.setCell {N : Nat} {w : World} {v : Value} {d : List UInt8} (h : Own N w v d) {p : Nat} {t : TypeId} {n : Nat} (hp : Room w p t n) (ht : t ≠ 5) (k : Nat) (u : Value) : Own N (w.setCell ⟨p, k, none⟩ u) v d := by
  obtain ⟨c, hp, _⟩ := hp
  exact h.same fun b _ hr => hr.setOther _ _ (row_ne hr hp (Ne.symm ht))
theorem Own.at {N : Nat} {w : World} {v : Value} {d : List UInt8} (h : Own N w v d) (hd : d ≠ []) : ∃ g cap, v = .slice (some ⟨g, 0, none⟩) d.length cap ∧ N ≤ g ∧ d.length ≤ cap ∧ ∀ k, k < d.length → w.cell? ⟨g, k, none⟩ = some (.int .u8 ((d.getD k 0).toNat : Int)) := by
  rcases h.2 with ⟨_, h2⟩ | ⟨g, cap, cur, e1, e2, e3, e4, e5, e6, e7⟩
  · exact absurd (List.eq_nil_of_length_eq_zero h2) hd
  · refine ⟨g, cap, e1, e2, e4, fun k hk => ?_⟩
    have r : Row w g 5 cur := e3
    rw [r.cell, ← Array.getElem?_toList]
    have h3 : (cur.toList.take (d.length * 1))[k]? = cur.toList[k]? := List.getElem?_take_of_lt (by omega)
    rw [← h3, e7]
    simp [hk, B]
theorem Own.bts {N : Nat} {w : World} {v : Value} {d : List UInt8} (h : Own N w v d) : Bts (· < w.heap.size) w v d := by
  rcases h.2 with ⟨h1, h2⟩ | ⟨g, cap, cur, e1, e2, e3, e4, e5, e6, e7⟩
  · obtain rfl := List.eq_nil_of_length_eq_zero h2
    exact ⟨none, 0, h1, Nat.le_refl _, .inl rfl⟩
  · refine ⟨_, cap, e1, e4, .inr ⟨g, 0, rfl, Row.lt (show Row w g 5 cur from e3), fun j u hu => ?_⟩⟩
    have r : Row w g 5 cur := e3
    have hj : j < d.length := by
      have := (List.getElem?_eq_some_iff.1 hu).1
      rw [List.length_map] at this; exact this
    rw [Nat.zero_add, r.cell, ← Array.getElem?_toList]
    have h3 : (cur.toList.take (d.length * 1))[j]? = cur.toList[j]? := List.getElem?_take_of_lt (by omega)
    rw [← h3, e7]; exact hu

theorem run_build1 (w : World) (n : Int) : (Instr.buildSlice 24 1 #[(0, .int .u8 n)]).run Tryd.prog w = .ok (.slice (some ⟨w.heap.size, 0, none⟩) 1 1) (w.alloc (.cells #[.int .u8 n] 5)) := by
  simp [go_sem, Instr.buildSlice]
theorem wp_build1 {op : Oper} {a : Act} {w : World} {K : Act → World → Prop} {Q : Exit → Act → World → Prop} (x : Operand) (ho : op.op = .buildSlice 24 1 #[(0, x)]) (n : Int) (hx : a.eval x = .int .u8 n)
    (h : K (a.put op.dst (.slice (some ⟨w.heap.size, 0, none⟩) 1 1)) (w.alloc (.cells #[.int .u8 n] 5))) : op.wp Tryd.prog a w K Q := by
  have hr := run_build1 w n
  unfold Oper.wp execOp
  simp only [ho, List.map_toArray, List.map_cons, List.map_nil, hx, Sem.run_bind, hr, Result.andThen_ok]
  exact h
/-- What an append leaves as it was. -/
structure Apd (N : Nat) (w w' : World) : Prop where
  rows : ∀ b t c, t ≠ 5 → Row w b t c → Row w' b t c
  bel : ∀ w0, Below N w0 w → Below N w0 w'
theorem Apd.room {N : Nat} {w w' : World} (h : Apd N w w') {p : Nat} {t : TypeId} {n : Nat} (ht : t ≠ 5) (hp : Room w p t n) : Room w' p t n := let ⟨c, h1, h2⟩ := hp; ⟨c, h.rows _ _ _ ht h1, h2⟩

theorem one_By (l : List UInt8) : ∀ u ∈ l.map B, u.oneCell' = true := by
  intro u hu
  obtain ⟨x, _, rfl⟩ := List.mem_map.1 hu
  rfl
theorem Tryd.info5a : ∃ i, Tryd.prog.info? 5 = some i ∧ i.zero = some (.int .u8 0) ∧ i.size = 1 ∧ i.bytes = 1 := ⟨_, rfl, rfl, rfl, rfl⟩
/-- append(v, x...) of bytes that lie somewhere. -/
theorem wpList_append_bytes {ops : Array Oper} {rest : List Oper} {o : Oper} {a : Act} {w : World} {Q : Exit → Act → World → Prop} (hgd : o.guard = none) (s x : Operand)
    (ho : o.op = .call { callee := .builtin .append, args := #[s, x], argTypes := #[24, 24] }) (N : Nat) (hN : N ≤ w.heap.size)
    (v : Value) (d : List UInt8) (hs : a.eval s = v) (hown : Own N w v d) (ad : Addr) (m c : Nat) (l : List UInt8) (hx : a.eval x = .slice (some ad) m c) (hm : l.length = m)
    (hc : ∀ j u, (l.map B)[j]? = some u → w.cell? (ad.add j) = some u) (hmax : d.length + l.length ≤ 1000000)
    (h : ∀ v' w', Own N w' v' (d ++ l) → Apd N w w' → wpList Tryd.prog ops Q rest (a.put o.dst v') w') : wpList Tryd.prog ops Q (o :: rest) a w := by
  obtain ⟨i, h1, h2, h3, h4⟩ := Tryd.info5a
  obtain ⟨v', w', hr, g2, g3, _⟩ := run_append_own (P := Tryd.prog) w N 24 o.type 5 i _ 1 1 Tryd.underlying24 h1 h2 h3 h4 rfl (by decide) v d.length (d.map B) hown ad m c (l.map B) (by rw [List.length_map, hm, Nat.mul_one]) hc (one_By l) (by unfold maxLen; omega) (by omega) hN
  have g2' : Own N w' v' (d ++ l) := by unfold Own; rw [List.length_append, List.map_append, hm]; exact g2
  have hblk : ∀ k, v.ownBlock = some k → N ≤ k ∧ ∃ cur, Row w k 5 cur := by
    intro k hk
    rcases hown.2 with ⟨e, _⟩ | ⟨g, cap, cur, e1, e2, e3, _⟩
    · rw [e] at hk; simp [Value.ownBlock] at hk
    · rw [e1] at hk; simp [Value.ownBlock] at hk; subst hk; exact ⟨e2, cur, e3⟩
  have hap : Apd N w w' := by
    refine ⟨fun b t c ht hr => ?_, fun w0 hb => ⟨g3.os.trans hb.os, g3.tape.trans hb.tape, g3.output.trans hb.output, Nat.le_trans hb.size g3.size, fun k hk => ?_⟩⟩
    · have := g3.block b hr.lt (fun e => by obtain ⟨_, cur, r5⟩ := hblk b e.symm; exact row_ne hr r5 ht rfl)
      unfold Row at *
      rw [this]; exact hr
    · exact (g3.block k (by omega) (fun e => by have := (hblk k e.symm).1; omega)).trans (hb.block k hk)
  refine wpList_plain hgd fun K hK => ?_
  unfold Oper.wp execOp
  simp only [ho, resolve, invoke, builtin, Sem.run_bind, Sem.run_pure, Result.andThen_ok, List.map_toArray, List.map_cons, List.map_nil, hs, hx, hr]
  exact hK _ _ (h v' w' g2' hap)
theorem wpList_slice {P : Program} {ops : Array Oper} {rest : List Oper} {op : Oper} {a : Act} {w : World} {Q : Exit → Act → World → Prop} (hgd : op.guard = none) (t : TypeId) (x : Operand) (lo hi mx : Option Operand) (ho : op.op = .slice t x lo hi mx) (v : Value)
    (hrun : (Instr.sliceAt t (a.eval x) (lo.map a.eval) (hi.map a.eval) (mx.map a.eval)).run P w = .ok v w) (h : wpList P ops Q rest (a.put op.dst v) w) : wpList P ops Q (op :: rest) a w :=
  wpList_val hgd v (slice_op t x lo hi mx ho v w hrun) h
end Go.Proofs.YtmolhljgmaoflaaDoor

/- The walk of the reference's beginning. -/
namespace Go.Proofs.YtmolhljgmaoflaaDoor
open Go.RowKit Go.BigFrame

theorem and192 : ∀ n : Nat, n < 256 → bits .and .u8 (n : Int) 192 = ((n / 64 * 64 : Nat) : Int) := by decide +kernel
theorem nonce_zero (l : List UInt8) (h1 : l.length ≤ 15) : (splice (Gf.zeros 16) (16 - l.length) l).getD (15 - l.length) 0 = 0 := by
  have hz : (Gf.zeros 16).length = 16 := rfl
  unfold splice
  rw [List.getD_eq_getElem?_getD, List.getElem?_append_left (by simp [hz]; omega), List.getElem?_take_of_lt (by omega), Gf.zeros, List.getElem?_replicate]
  split <;> rfl

theorem bit8 (y : UInt8) (m : Nat) : bits .and .u8 ((y.toNat : Int) / 2 ^ m) 1 = ((y.toNat / 2 ^ m % 2 : Nat) : Int) := by
  have hy : y.toNat < 256 := y.toNat_lt
  have e : ((y.toNat : Int) / 2 ^ m) = ((y.toNat / 2 ^ m : Nat) : Int) := by simp
  have h2 : y.toNat / 2 ^ m < 256 := Nat.lt_of_le_of_lt (Nat.div_le_self _ _) hy
  have := u8_and_nat (y.toNat / 2 ^ m) 1 h2 (by decide)
  rw [Nat.and_one_is_mod] at this
  rw [e]; exact this
theorem or8 (x y : UInt8) : bits .or .u8 (x.toNat : Int) (y.toNat : Int) = (((x ||| y).toNat : Nat) : Int) := by
  rw [u8_or_nat _ _ x.toNat_lt y.toNat_lt]; simp
theorem o_byte (z : UInt8) (d r : Nat) : bits .or .u8 (z.toNat : Int) ((d : Int) * 2 ^ r % 256) = (((z ||| UInt8.ofNat (d * 2 ^ r)).toNat : Nat) : Int) := by
  have e5 : (((UInt8.ofNat (d * 2 ^ r)).toNat : Nat) : Int) = (d : Int) * 2 ^ r % 256 := by rw [UInt8.toNat_ofNat']; simp
  rw [← or8, e5]

set_option maxRecDepth 100000 in
set_option maxHeartbeats 4000000 in
theorem refBegin_any (S : Nat → Prop) (key : List UInt8) (v : Value) (l : List UInt8) (h0 : 0 < l.length) (h15 : l.length ≤ 15) (w : World) (hl : Bts S w v l) (sb : Nat) (hT : Row w sb 66 (ag Gf.sbox)) :
    Calls Tryd.prog 27 #[.agg (elk key sb), v] w fun e w' => e = .returned (.agg (ag (Gf.begin key l))) ∧ Below w.heap.size w w' := by
  obtain ⟨a, c, rfl, hc, h3⟩ := hl
  rcases h3 with rfl | ⟨b, o, rfl, hS, hr⟩
  · simp at h0
  have hlt := range_lt hr h0
  have hst := hT.lt
  have lB := Gf.nblock_len l (by omega)
  have lC := Gf.nclean_len l (by omega)
  have HB0 := Box'.mk (Gf.nblock_eq l h15)
  have HZ0 := Box'.mk (nonce_zero l h15)
  have lS : (splice (Gf.zeros 16) (16 - l.length) l).length = 16 := splice_len _ _ _ (by show _ ≤ (List.replicate 16 (0 : UInt8)).length; rw [List.length_replicate]; omega)
  have HC : Box' ((Gf.nblock l).set 15 (UInt8.ofNat (((Gf.nblock l).getD 15 0).toNat / 64 * 64)) = Gf.nclean l) := ⟨rfl⟩
  have HP : Box' (Gf.place l = ((Gf.nblock l).getD 15 0).toNat % 64) := ⟨rfl⟩
  have lE := Gf.encrypt_len key (Gf.nclean l)
  have HG : Box' (Gf.oTo (Gf.more (Gf.encrypt key (Gf.nclean l)) 8) (Gf.place l) 128 = Gf.begin key l) := ⟨Gf.begin_eq _ lE _ (Nat.mod_lt _ (by decide))⟩
  have hE : ∀ w, Row w sb 66 (ag Gf.sbox) → Calls Tryd.prog 31 #[.agg (cip (.pointer (some ⟨sb, 0, none⟩)) (Gf.keys Gf.sbox key)), .agg (ag (Gf.nclean l))] w fun e w' => e = .returned (.agg (ag (Gf.encrypt key (Gf.nclean l)))) ∧ Below w.heap.size w w' :=
    fun w h => cipher_any Gf.sbox (Gf.keys Gf.sbox key) (Gf.nclean l) Gf.sbox_len (Gf.keys_len _ _) lC w sb h
  have HE := Box'.mk hE
  have hrng := (elk_range (Row.new w 54 (elk key sb))).1
  have lcip : (cip (.pointer (some ⟨sb, 0, none⟩)) (Gf.keys Gf.sbox key)).size = 177 := by rw [cip_size, Gf.keys_len]
  clear hE
  generalize cip (.pointer (some ⟨sb, 0, none⟩)) (Gf.keys Gf.sbox key) = cp at *
  generalize elk key sb = EL at *
  generalize Gf.begin key l = BG at *
  generalize Gf.encrypt key (Gf.nclean l) = E at *
  generalize Gf.nclean l = NC at *
  generalize Gf.place l = pl at *
  generalize Gf.nblock l = NB at *
  generalize Gf.sbox = T at *
  obtain ⟨x, hx⟩ : ∃ x, NB.getD 15 0 = x := ⟨_, rfl⟩
  rw [hx] at HC HP
  obtain ⟨n, hn⟩ : ∃ n, l.length = n := ⟨_, rfl⟩
  rw [hn] at h0 h15 hc HB0 HZ0 lS
  rw [hn]
  have hxl := x.toNat_lt
  have a1 : bits .and .u8 (x.toNat : Int) 63 = (pl : Int) := by rw [and63 x.toNat hxl, HP.out]
  have hpl : pl < 64 := by rw [HP.out]; exact Nat.mod_lt _ (by decide)
  have a2 := and192 x.toNat hxl
  have e1 : (16 : Int) - (n : Int) = ((16 - n : Nat) : Int) := by omega
  have e2 : (15 : Int) - (n : Int) = ((15 - n : Nat) : Int) := by omega
  have hw0 : Below w.heap.size w (((w.alloc (.cells EL 54)).alloc (.cells (ag (Gf.zeros 16)) 23)).alloc (.cells (ag (Gf.zeros 16)) 23)) := (((Below.refl _ _).alloc (Nat.le_refl _) _).alloc (by simp) _).alloc (by simp; omega) _
  have hr' := range_below hr hw0 hlt
  have T0 := hT.below hw0 hst
  have g0 : (((w.alloc (.cells EL 54)).alloc (.cells (ag (Gf.zeros 16)) 23)).alloc (.cells (ag (Gf.zeros 16)) 23)).rangeAt w.heap.size 0 cp.toList := range_below hrng (((Below.refl _ _).alloc (Nat.le_refl _) _).alloc (by simp) _) (by simp)
  have r0 : Room (((w.alloc (.cells EL 54)).alloc (.cells (ag (Gf.zeros 16)) 23)).alloc (.cells (ag (Gf.zeros 16)) 23)) (w.heap.size + 1) 23 16 := (Room.made _ _ _ _ _ rfl (by simp)).alloc _
  have r1 : Row (((w.alloc (.cells EL 54)).alloc (.cells (ag (Gf.zeros 16)) 23)).alloc (.cells (ag (Gf.zeros 16)) 23)) (w.heap.size + 1 + 1) 23 (ag (Gf.zeros 16)) := Row.made _ _ _ _ _ rfl (by simp)
  go_enter Tryd.func27, Tryd.ntmps27
  go_upto_region 2 with (first
    | (refine wpList_alloc_row rfl 23 rfl _ _ Tryd.zero23 ?_)
    | fail)
  generalize hW0 : World.alloc (World.alloc (World.alloc w _) _) _ = W0
  rw [hW0] at hw0 hr' T0 g0 r0 r1
  clear hW0 hr hrng
  have hcp : l.length = Nat.min n (16 - (16 - n)) := by rw [hn, Nat.sub_sub_self (by omega)]; exact (Nat.min_self n).symm
  have hlt16 : 16 - n < 16 := by omega
  have hsl := run_slice_from (P := Tryd.prog) W0 23 5 16 Tryd.underlying23 (by kernel_rfl) (w.heap.size + 1 + 1) 0 (16 - n) hlt16
  rw [Nat.zero_add] at hsl
  go_upto_region 3 with (first
    | (refine wpList_slice rfl 23 (.tmp 5) (some (.tmp 16)) none none rfl (.slice (some ⟨w.heap.size + 1 + 1, 16 - n, none⟩) (16 - (16 - n)) (16 - (16 - n))) ?_ ?_; exact hsl)
    | (refine wpList_copy_range rfl (.tmp 17) (.tmp 18) 24 24 rfl 5 Tryd.underlying24 (by kernel_rfl) (w.heap.size + 1 + 1) (16 - n) (16 - (16 - n)) (16 - (16 - n)) b o n c rfl rfl (Gf.zeros 16) l 23 r1 hr' hcp (by show 16 - n + l.length ≤ (List.replicate 16 (0 : UInt8)).length; rw [List.length_replicate]; omega) ?_)
    | fail)
  have w1B : Below w.heap.size w (W0.setRow (w.heap.size + 1 + 1) (ag (splice (Gf.zeros 16) (16 - n) l))) := below_setRow hw0 (by omega) _
  have r2 := r1.setRow (ag (splice (Gf.zeros 16) (16 - n) l))
  have q2 := r0.setRowOther (w.heap.size + 1 + 1) (ag (splice (Gf.zeros 16) (16 - n) l)) (by omega)
  have T1 := T0.setRowOther (w.heap.size + 1 + 1) (ag (splice (Gf.zeros 16) (16 - n) l)) (by omega)
  have g1 : (W0.setRow (w.heap.size + 1 + 1) (ag (splice (Gf.zeros 16) (16 - n) l))).rangeAt w.heap.size 0 cp.toList := range_below g0 (below_setRow (Below.refl (w.heap.size + 1) W0) (by omega) _) (by omega)
  clear hw0 hr' T0 g0 r0 r1 hsl hcp
  rw [hn]
  generalize splice (Gf.zeros 16) (16 - n) l = SP at *
  generalize W0.setRow (w.heap.size + 1 + 1) (ag SP) = W1 at *
  have c2 := cell_form (r2.byte (k := 15 - n) (by omega)) HZ0.out
  have f2 := r2.frozen (15 - n)
  have o1 : bits .or .u8 0 1 = 1 := by decide +kernel
  go_upto_region 4 with (fail)
  have r3 : Row (W1.setCell ⟨w.heap.size + 1 + 1, 15 - n, none⟩ (.int .u8 1)) (w.heap.size + 1 + 1) 23 (ag NB) := by
    have := r2.setByte (15 - n) 1
    rw [HB0.out] at this
    exact this
  have q3 := q2.setOther ⟨w.heap.size + 1 + 1, 15 - n, none⟩ (.int .u8 1) (by show w.heap.size + 1 ≠ w.heap.size + 1 + 1; omega)
  have T2 := T1.setOther ⟨w.heap.size + 1 + 1, 15 - n, none⟩ (.int .u8 1) (by show sb ≠ w.heap.size + 1 + 1; omega)
  have w2B := w1B.setCell (p := ⟨w.heap.size + 1 + 1, 15 - n, none⟩) (by show w.heap.size ≤ w.heap.size + 1 + 1; omega) (.int .u8 1)
  have g2 := range_below g1 ((Below.refl (w.heap.size + 1) W1).setCell (p := ⟨w.heap.size + 1 + 1, 15 - n, none⟩) (by show w.heap.size + 1 ≤ w.heap.size + 1 + 1; omega) (.int .u8 1)) (by omega)
  clear r2 q2 T1 w1B g1 c2 f2 o1
  generalize W1.setCell ⟨w.heap.size + 1 + 1, 15 - n, none⟩ (.int .u8 1) = W2 at *
  have c3 := cell_form (r3.byte (k := 15) (by omega)) hx
  have f3 := r3.frozen 15
  go_upto_region 6 with (fail)
  have r4 : Row (W2.setCell ⟨w.heap.size + 1 + 1, 15, none⟩ (.int .u8 ((x.toNat / 64 * 64 : Nat) : Int))) (w.heap.size + 1 + 1) 23 (ag NC) := by
    have := r3.setByte 15 (UInt8.ofNat (x.toNat / 64 * 64))
    rw [HC.out, UInt8.toNat_ofNat_of_lt' (by show x.toNat / 64 * 64 < 256; omega)] at this
    exact this
  have q4 := q3.setOther ⟨w.heap.size + 1 + 1, 15, none⟩ (.int .u8 ((x.toNat / 64 * 64 : Nat) : Int)) (by show w.heap.size + 1 ≠ w.heap.size + 1 + 1; omega)
  have T3 := T2.setOther ⟨w.heap.size + 1 + 1, 15, none⟩ (.int .u8 ((x.toNat / 64 * 64 : Nat) : Int)) (by show sb ≠ w.heap.size + 1 + 1; omega)
  have w3B := w2B.setCell (p := ⟨w.heap.size + 1 + 1, 15, none⟩) (by show w.heap.size ≤ w.heap.size + 1 + 1; omega) (.int .u8 ((x.toNat / 64 * 64 : Nat) : Int))
  have g3 := range_below g2 ((Below.refl (w.heap.size + 1) W2).setCell (p := ⟨w.heap.size + 1 + 1, 15, none⟩) (by show w.heap.size + 1 ≤ w.heap.size + 1 + 1; omega) (.int .u8 ((x.toNat / 64 * 64 : Nat) : Int))) (by omega)
  clear r3 q3 T2 w2B g2 c3 f3 a2
  have ei : ((x.toNat / 64 * 64 : Nat) : Int) = (x.toNat : Int) / 64 * 64 := by omega
  rw [ei] at r4 q4 T3 w3B g3
  generalize W2.setCell ⟨w.heap.size + 1 + 1, 15, none⟩ (.int .u8 ((x.toNat : Int) / 64 * 64)) = W3 at *
  clear ei
  have hz3 := r4.lt
  go_wp2_with (first
    | (refine wpList_load_mid rfl 52 (.tmp 35) rfl w.heap.size 0 rfl cp.toList _ g3 Tryd.underlying52 rfl (by rw [Tryd.info52, Array.length_toList, lcip]) ?_; rw [Array.toArray_toList])
    | (refine wpList_load_row rfl 23 (.tmp 5) rfl _ rfl _ _ r4 _ Tryd.underlying23 rfl 16 Tryd.info23 (by rw [ag_size]; exact lC) ?_)
    | fail)
  refine (HE.out _ T3).mono ?_
  rintro e w4 ⟨rfl, hb4⟩
  have q5 : Room w4 (w.heap.size + 1) 23 16 := q4.below hb4 (q4.elim fun _ h => h.1.lt)
  have w4B : Below w.heap.size w w4 := w3B.trans (hb4.mono w3B.size)
  have hz4 := hb4.size
  clear hb4 q4 w3B T3 g3 r4 HE
  have qz : Room (w4.alloc (.cells (ag (Gf.zeros 16)) 23)) w4.heap.size 23 16 := Room.new _ _ _ _ rfl
  have rE : Row ((w4.alloc (.cells (ag (Gf.zeros 16)) 23)).setRow w4.heap.size (ag E)) w4.heap.size 23 (ag E) := qz.setRow _
  have q6 : Room ((w4.alloc (.cells (ag (Gf.zeros 16)) 23)).setRow w4.heap.size (ag E)) (w.heap.size + 1) 23 16 := (q5.alloc _).setRowOther _ _ (by omega)
  have w5B : Below w.heap.size w ((w4.alloc (.cells (ag (Gf.zeros 16)) 23)).setRow w4.heap.size (ag E)) := below_setRow (w4B.alloc w4B.size _) w4B.size _
  have hz5 : ((w4.alloc (.cells (ag (Gf.zeros 16)) 23)).setRow w4.heap.size (ag E)).heap.size = w4.heap.size + 1 := by simp [World.setRow]
  clear q5 w4B
  go_upto_region 7 with (first
    | (refine wpList_alloc_row rfl 23 rfl _ _ Tryd.zero23 ?_)
    | (refine wpList_store_row rfl 23 (.tmp 7) (.tmp 38) rfl _ rfl _ rfl _ _ qz Tryd.info23 (by rw [ag_size]; exact lE) (ag_one _) ?_)
    | fail)
  clear qz
  generalize (w4.alloc (.cells (ag (Gf.zeros 16)) 23)).setRow w4.heap.size (ag E) = W5 at *
  generalize w4.heap.size = p at *
  have rE2 := rE.alloc (.cells #[] 5)
  have q7 := q6.alloc (.cells #[] 5)
  have w6B := w5B.alloc (o := .cells #[] 5) w5B.size
  have own0 := Own.new w.heap.size W5 w5B.size
  rw [hz5] at own0
  have hNs : w.heap.size ≤ (W5.alloc (.cells #[] 5)).heap.size := w6B.size
  have hEc : ∀ j u, (E.map B)[j]? = some u → (W5.alloc (.cells #[] 5)).cell? ((⟨p, 0, none⟩ : Addr).add j) = some u := fun j u hu => by
    rw [Addr.add_mid, Nat.zero_add, rE2.cell]; simpa [ag] using hu
  go_wp2_with (first
    | (refine wpList_append_bytes rfl (.tmp 39) (.tmp 40) rfl w.heap.size hNs _ [] rfl own0 ⟨p, 0, none⟩ 16 16 E rfl lE hEc (by rw [lE]; simp) (fun v7 w7 ho7 ha7 => ?_))
    | fail)
  have rE3 := ha7.rows _ _ _ (by decide) rE2
  have q8 := ha7.room (by decide) q7
  have w7B := ha7.bel _ w6B
  rw [List.nil_append] at ho7
  clear rE2 q7 w6B ha7 own0 hNs hEc rE q6 w5B hz5
  go_loopw [8, 9] (fun t i wr => ∃ kc : Nat, kc ≤ 8 ∧ i = .int .i64 (kc : Int) ∧ Own w.heap.size wr t (Gf.more E kc) ∧ Row wr p 23 (ag E) ∧ Room wr (w.heap.size + 1) 23 16 ∧ Below w.heap.size w wr) (fun _ i _ => 8 - (intOf i).toNat)
  case atStart => exact ⟨0, by omega, rfl, ho7, rE3, q8, w7B⟩
  case round =>
    obtain ⟨kc, hk, rfl, ow, rr, qq, bb⟩ := hrel
    by_cases hk8 : kc < 8
    · obtain ⟨x1, hx1⟩ : ∃ x1, E.getD kc 0 = x1 := ⟨_, rfl⟩
      obtain ⟨y1, hy1⟩ : ∃ y1, E.getD (kc + 1) 0 = y1 := ⟨_, rfl⟩
      have MK : Box' (Gf.more E kc ++ [Gf.bx x1 y1] = Gf.more E (kc + 1)) := ⟨by rw [← hx1, ← hy1]; rfl⟩
      have xx := xor_bx x1 y1
      have hx1l := x1.toNat_lt
      have hy1l := y1.toNat_lt
      go_upto_region 11 with (fail)
      refine wp_region_grow 10 (by kernel_rfl) (by kernel_rfl) (fun a b => Below a.heap.size a b) (fun w3 => Row w3 p 23 (ag E) ∧ Own w.heap.size w3 u8 (Gf.more E kc) ∧ Room w3 (w.heap.size + 1) 23 16 ∧ Below w.heap.size w w3) (fun k w1 v => match k with
        | 0 => v = u8
        | 1 => v = .int .i64 (kc : Int)
        | 2 => v = .pointer (some ⟨p, kc, none⟩)
        | 3 => v = .int .u8 (x1.toNat : Int)
        | 4 => v = .int .i64 (kc : Int)
        | 5 => v = .int .i64 ((kc : Int) + 1)
        | 6 => v = .pointer (some ⟨p, kc + 1, none⟩)
        | 7 => v = .int .u8 (y1.toNat : Int)
        | 8 => v = .int .u8 ((Gf.bx x1 y1).toNat : Int)
        | 9 => ∃ q, v = .slice (some ⟨q, 0, none⟩) 1 1 ∧ Row w1 q 5 (ag [Gf.bx x1 y1])
        | _ => True) ?_ ?_ ?_ ?_ ?_
      · rintro a b hb ⟨c1, c2, c3, c4⟩
        exact ⟨c1.below hb c1.lt, c2.below hb, c3.below hb (c3.elim fun _ h => h.1.lt), c4.trans (hb.mono c4.size)⟩
      · intro k v w1 w2 hC1 hb h
        match k, h with
        | 0, h => exact h
        | 1, h => exact h
        | 2, h => exact h
        | 3, h => exact h
        | 4, h => exact h
        | 5, h => exact h
        | 6, h => exact h
        | 7, h => exact h
        | 8, h => exact h
        | 9, ⟨q, e, r⟩ => exact ⟨q, e, r.below hb r.lt⟩
        | k + 10, h => trivial
      · exact ⟨rr.drew, ow.drew, qq.drew, bb.drew⟩
      · refine ⟨?_, ?_, ?_, ?_, ?_, ?_, ?_, ?_, ?_, ?_, trivial⟩
        · intro f w1 hC hd KK hK
          simp only [List.take_succ_cons, List.take_zero, setAll, List.setIfInBounds_toArray, List.set_cons_succ, List.set_cons_zero, Nat.zero_add, Nat.reduceAdd] at hK ⊢
          refine wp_of_quiet rfl ?_
          go_big_quiet_step (fail)
          exact wpQuiet_nil (hK _ _ rfl (Below.refl _ _))
        · intro f w1 hC hd KK hK
          simp only [List.take_succ_cons, List.take_zero, setAll, List.setIfInBounds_toArray, List.set_cons_succ, List.set_cons_zero, Nat.zero_add, Nat.reduceAdd] at hK ⊢
          refine wp_of_quiet rfl ?_
          go_big_quiet_step (fail)
          exact wpQuiet_nil (hK _ _ rfl (Below.refl _ _))
        · intro f w1 hC hd KK hK
          have g1 : f 1 = _ := hd 1 rfl
          simp only [List.take_succ_cons, List.take_zero, setAll, List.setIfInBounds_toArray, List.set_cons_succ, List.set_cons_zero, Nat.zero_add, Nat.reduceAdd, g1] at hK ⊢
          refine wp_of_quiet rfl ?_
          go_big_quiet_step (fail)
          exact wpQuiet_nil (hK _ _ rfl (Below.refl _ _))
        · intro f w1 hC hd KK hK
          have hcx : w1.cell? ⟨p, kc, none⟩ = some (.int .u8 (x1.toNat : Int)) := cell_form (hC.1.byte (k := kc) (by omega)) hx1
          have g2 : f 2 = _ := hd 2 rfl
          simp only [List.take_succ_cons, List.take_zero, setAll, List.setIfInBounds_toArray, List.set_cons_succ, List.set_cons_zero, Nat.zero_add, Nat.reduceAdd, g2] at hK ⊢
          refine wp_of_quiet rfl ?_
          go_big_quiet_step (fail)
          exact wpQuiet_nil (hK _ _ rfl (Below.refl _ _))
        · intro f w1 hC hd KK hK
          simp only [List.take_succ_cons, List.take_zero, setAll, List.setIfInBounds_toArray, List.set_cons_succ, List.set_cons_zero, Nat.zero_add, Nat.reduceAdd] at hK ⊢
          refine wp_of_quiet rfl ?_
          go_big_quiet_step (fail)
          exact wpQuiet_nil (hK _ _ rfl (Below.refl _ _))
        · intro f w1 hC hd KK hK
          have g4 : f 4 = _ := hd 4 rfl
          simp only [List.take_succ_cons, List.take_zero, setAll, List.setIfInBounds_toArray, List.set_cons_succ, List.set_cons_zero, Nat.zero_add, Nat.reduceAdd, g4] at hK ⊢
          refine wp_of_quiet rfl ?_
          go_big_quiet_step (fail)
          exact wpQuiet_nil (hK _ _ rfl (Below.refl _ _))
        · intro f w1 hC hd KK hK
          have g5 : f 5 = _ := hd 5 rfl
          simp only [List.take_succ_cons, List.take_zero, setAll, List.setIfInBounds_toArray, List.set_cons_succ, List.set_cons_zero, Nat.zero_add, Nat.reduceAdd, g5] at hK ⊢
          refine wp_of_quiet rfl ?_
          go_big_quiet_step (fail)
          exact wpQuiet_nil (hK _ _ rfl (Below.refl _ _))
        · intro f w1 hC hd KK hK
          have hcy : w1.cell? ⟨p, kc + 1, none⟩ = some (.int .u8 (y1.toNat : Int)) := cell_form (hC.1.byte (k := kc + 1) (by omega)) hy1
          have g6 : f 6 = _ := hd 6 rfl
          simp only [List.take_succ_cons, List.take_zero, setAll, List.setIfInBounds_toArray, List.set_cons_succ, List.set_cons_zero, Nat.zero_add, Nat.reduceAdd, g6] at hK ⊢
          refine wp_of_quiet rfl ?_
          go_big_quiet_step (fail)
          exact wpQuiet_nil (hK _ _ rfl (Below.refl _ _))
        · intro f w1 hC hd KK hK
          have g3 : f 3 = _ := hd 3 rfl
          have g7 : f 7 = _ := hd 7 rfl
          simp only [List.take_succ_cons, List.take_zero, setAll, List.setIfInBounds_toArray, List.set_cons_succ, List.set_cons_zero, Nat.zero_add, Nat.reduceAdd, g3, g7] at hK ⊢
          refine wp_of_quiet rfl ?_
          go_big_quiet_step (fail)
          exact wpQuiet_nil (hK _ _ rfl (Below.refl _ _))
        · intro f w1 hC hd KK hK
          have g8 : f 8 = _ := hd 8 rfl
          simp only [List.take_succ_cons, List.take_zero, setAll, List.setIfInBounds_toArray, List.set_cons_succ, List.set_cons_zero, Nat.zero_add, Nat.reduceAdd, g8] at hK ⊢
          exact wp_build1 _ rfl _ rfl (hK _ _ ⟨_, rfl, Row.new _ _ _⟩ ((Below.refl _ _).alloc (Nat.le_refl _) _))
      · intro f w1 hC hv
        have g0 : f 0 = _ := hv 0 (by decide)
        have g1 : f 1 = _ := hv 1 (by decide)
        have g2 : f 2 = _ := hv 2 (by decide)
        have g3 : f 3 = _ := hv 3 (by decide)
        have g4 : f 4 = _ := hv 4 (by decide)
        have g5 : f 5 = _ := hv 5 (by decide)
        have g6 : f 6 = _ := hv 6 (by decide)
        have g7 : f 7 = _ := hv 7 (by decide)
        have g8 : f 8 = _ := hv 8 (by decide)
        obtain ⟨q9, g9, r9⟩ := hv 9 (by decide)
        simp only [List.take_succ_cons, List.take_zero, List.drop_succ_cons, List.drop_zero, setAll, List.setIfInBounds_toArray, List.set_cons_succ, List.set_cons_zero, Nat.zero_add, Nat.reduceAdd, g0, g1, g2, g3, g4, g5, g6, g7, g8, g9]
        clear g0 g1 g2 g3 g4 g5 g6 g7 g8 g9 hv
        obtain ⟨c1, c2, c3, c4⟩ := hC
        have hnc : ∀ j u, ([Gf.bx x1 y1].map B)[j]? = some u → w1.cell? ((⟨q9, 0, none⟩ : Addr).add j) = some u := fun j u hu => by
          rw [Addr.add_mid, Nat.zero_add, r9.cell]; simpa [ag] using hu
        go_wp2_with (first
          | (refine wpList_append_bytes rfl (.tmp 46) (.tmp 55) rfl w.heap.size c4.size u8 (Gf.more E kc) rfl c2 ⟨q9, 0, none⟩ 1 1 [Gf.bx x1 y1] rfl rfl hnc (by rw [Gf.more_len, lE]; simp; omega) (fun v8 w8 ho8 ha8 => ?_))
          | fail)
        rw [MK.out] at ho8
        exact ⟨⟨kc + 1, by omega, by go_num, ho8, ha8.rows _ _ _ (by decide) c1, ha8.room (by decide) c3, ha8.bel _ c4⟩, by simp [intOf]; omega⟩
    · obtain rfl : kc = 8 := by omega
      have hne : Gf.more E 8 ≠ [] := fun h => by have := Gf.more_len E 8; rw [h] at this; simp at this
      obtain ⟨g, cap, rfl, hgN, hgc, hcl⟩ := ow.at hne
      have lM : (Gf.more E 8).length = 24 := by rw [Gf.more_len, lE]
      rw [lM] at hgc hcl
      have HCL := Box'.mk hcl
      clear hcl
      go_upto_region 14 with (first
        | (refine wpList_alloc_row rfl 23 rfl _ _ Tryd.zero23 ?_)
        | fail)
      have rO : Row (wr.alloc (.cells (ag (Gf.zeros 16)) 23)) wr.heap.size 23 (ag (Gf.oTo (Gf.more E 8) pl 0)) := Row.new _ _ _
      have qq2 := qq.alloc (.cells (ag (Gf.zeros 16)) 23)
      have bb2 := bb.alloc (o := .cells (ag (Gf.zeros 16)) 23) bb.size
      have ow2 := ow.alloc (.cells (ag (Gf.zeros 16)) 23)
      have hpN := bb.size
      have hp1 : wr.heap.size ≠ w.heap.size + 1 := by have := qq.elim fun _ h => h.1.lt; omega
      rw [lM] at ow2
      clear ow rr qq bb HCL
      generalize wr.alloc (.cells (ag (Gf.zeros 16)) 23) = W9 at *
      generalize wr.heap.size = pO at *
      generalize hM : Gf.more E 8 = M at *
      clear hM e1 e2 a1 hx HC HP HB0 HZ0 hn hc h15 h0 lS lB lC lcip hT hst hlt hS hk hk8 hz3 hz4
      go_loopw [11] (fun i wr => ∃ t : Nat, t ≤ 128 ∧ i = .int .i64 (t : Int) ∧ Row wr pO 23 (ag (Gf.oTo M pl t)) ∧ Own w.heap.size wr (.slice (some ⟨g, 0, none⟩) 24 cap) M ∧ Room wr (w.heap.size + 1) 23 16 ∧ Below w.heap.size w wr) (fun i _ => 128 - (intOf i).toNat)
      case atStart => exact ⟨0, by omega, rfl, rO, ow2, qq2, bb2⟩
      case round =>
        obtain ⟨t, ht, rfl, ro, os, qr, br⟩ := hrel
        have lO := Gf.oTo_len M pl t
        by_cases ht8 : t < 128
        · obtain ⟨g', cap', ev, _, _, hcl⟩ := os.at hne
          injection ev with ev ev2 ev3
          clear ev2 ev3
          injection ev with ev
          injection ev with ev
          subst ev
          have cs := hcl ((pl + t) / 8) (by omega)
          have co := ro.byte (k := t / 8) (by omega)
          have fo := ro.frozen (t / 8)
          have HS := Box'.mk (fun y => ro.setByte (t / 8) y)
          have E1 : Box' (Gf.oTo M pl (t + 1) = (Gf.oTo M pl t).set (t / 8) ((Gf.oTo M pl t).getD (t / 8) 0 ||| UInt8.ofNat (Gf.bitAt M (pl + t) * 2 ^ (7 - t % 8)))) := ⟨rfl⟩
          have E2 : Box' (Gf.bitAt M (pl + t) = (M.getD ((pl + t) / 8) 0).toNat / 2 ^ (7 - (pl + t) % 8) % 2) := ⟨rfl⟩
          have B8 := bit8 (M.getD ((pl + t) / 8) 0) (7 - (pl + t) % 8)
          rw [← E2.out] at B8
          have hd : Gf.bitAt M (pl + t) < 2 := Nat.mod_lt _ (by decide)
          have OB := Box'.mk (o_byte ((Gf.oTo M pl t).getD (t / 8) 0) (Gf.bitAt M (pl + t)) (7 - t % 8))
          generalize Gf.bitAt M (pl + t) = d at *
          generalize M.getD ((pl + t) / 8) 0 = y at *
          generalize (Gf.oTo M pl t).getD (t / 8) 0 = z at *
          have hyl := y.toNat_lt
          have hzl := z.toNat_lt
          clear hcl E2 lO
          go_wp2_with fail
          rw [OB.out]
          refine ⟨⟨t + 1, by omega, by go_num, ?_, os.setCell (ro.room rfl) (by decide) _ _, qr.setOther _ _ (Ne.symm hp1), br.setCell hpN _⟩, by simp [intOf]; omega⟩
          rw [E1.out]; exact HS.out _
        · obtain rfl : t = 128 := by omega
          rw [HG.out] at ro lO
          go_wp2_with (first
            | (refine wpList_load_row rfl 23 (.tmp 10) rfl _ rfl _ _ ro _ Tryd.underlying23 rfl 16 Tryd.info23 (by rw [ag_size]; exact lO) ?_)
            | (refine wpList_store_row rfl 23 (.tmp 4) (.tmp 87) rfl _ rfl _ rfl _ _ qr Tryd.info23 (by rw [ag_size]; exact lO) (ag_one _) ?_)
            | fail)
          exact bodyPost_ret (results_row rfl _ _ rfl _ _ (qr.setRow _) _ Tryd.underlying23 rfl 16 Tryd.info23 (by rw [ag_size]; exact lO)) rfl ⟨rfl, below_setRow br (by omega) _⟩
end Go.Proofs.YtmolhljgmaoflaaDoor
