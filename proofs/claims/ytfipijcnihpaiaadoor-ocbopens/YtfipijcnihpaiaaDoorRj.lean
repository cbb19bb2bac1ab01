/- Bytes that a call puts behind each other in a row of its own. -/
import Derived.Test.YtfipijcnihpaiaaDoorRg
import Derived.Test.YtfipijcnihpaiaaDoorOj
namespace Go.Proofs.YtfipijcnihpaiaaDoor
open Go.RowKit Go.BigFrame

def Own (N : Nat) (w : World) (v : Value) (d : List UInt8) : Prop := w.ownsRow N 5 1 v d.length (d.map B)
theorem Own.nil (N : Nat) (w : World) : Own N w (.slice none 0 0) [] := ⟨rfl, .inl ⟨rfl, rfl⟩⟩
theorem Own.new (N : Nat) (w : World) (h : N ≤ w.heap.size) : Own N (w.alloc (.cells #[] 5)) (.slice (some ⟨w.heap.size, 0, none⟩) 0 0) [] :=
  ⟨rfl, .inr ⟨_, _, #[], rfl, h, Row.new w 5 #[], Nat.le_refl _, Nat.zero_le _, rfl, rfl⟩⟩
theorem Own.same {N : Nat} {w w' : World} {v : Value} {d : List UInt8} (h : Own N w v d) (hk : ∀ b c, Row w b 5 c → Row w' b 5 c) : Own N w' v d := by
  refine ⟨h.1, ?_⟩
  rcases h.2 with h2 | ⟨g, cap, cur, e1, e2, e3, e4⟩
  · exact .inl h2
  · exact .inr ⟨g, cap, cur, e1, e2, hk g cur e3, e4⟩
theorem Own.below {N : Nat} {w w' : World} {v : Value} {d : List UInt8} (h : Own N w v d) (hb : Below w.heap.size w w') : Own N w' v d := h.same fun _ _ hr => hr.below hb hr.lt
theorem Own.alloc {N : Nat} {w : World} {v : Value} {d : List UInt8} (h : Own N w v d) (o : Obj) : Own N (w.alloc o) v d := h.same fun _ _ hr => hr.alloc o
theorem Own.drew {N : Nat} {w : World} {v : Value} {d : List UInt8} (h : Own N w v d) : Own N w.drew v d := h
theorem row_ne {w : World} {b p : Nat} {t t' : TypeId} {c c' : Array Value} (h : Row w b t c) (h' : Row w p t' c') (ht : t ≠ t') : b ≠ p := by
  rintro rfl
  have e : some (Obj.cells c t (0, 0)) = some (.cells c' t' (0, 0)) := Eq.trans (Eq.symm h) h'
  injection e with e
  injection e with _ e
  exact ht e
theorem Own.setRow {N : Nat} {w : World} {v : Value} {d : List UInt8} (h : Own N w v d) {p : Nat} {t : TypeId} {n : Nat} (hp : Room w p t n) (ht : t ≠ 5) (c' : Array Value) : Own N (w.setRow p c') v d := by
  obtain ⟨c, hp, _⟩ := hp
  exact h.same fun b _ hr => hr.setRowOther _ _ (row_ne hr hp (Ne.symm ht))
theorem Own.setCell {N : Nat} {w : World} {v : Value} {d : List UInt8} (h : Own N w v d) {p : Nat} {t : TypeId} {n : Nat} (hp : Room w p t n) (ht : t ≠ 5) (k : Nat) (u : Value) : Own N (w.setCell ⟨p, k, none⟩ u) v d := by
  obtain ⟨c, hp, _⟩ := hp
  exact h.same fun b _ hr => hr.setOther _ _ (row_ne hr hp (Ne.symm ht))
theorem Own.at {N : Nat} {w : World} {v : Value} {d : List UInt8} (h : Own N w v d) (hd : d ≠ []) : ∃ g cap, v = .slice (some ⟨g, 0, none⟩) d.length cap ∧ N ≤ g ∧ d.length ≤ cap ∧ ∀ k, k < d.length → w.cell? ⟨g, k, none⟩ = some (.int .u8 ((d.getD k 0).toNat : Int)) := by
  rcases h.2 with ⟨_, h2⟩ | ⟨g, cap, cur, e1, e2, e3, e4, e5, e6, e7⟩
  · exact absurd (List.eq_nil_of_length_eq_zero h2) hd
  · refine ⟨g, cap, e1, e2, e4, fun k hk => ?_⟩
    have r : Row w g 5 cur := e3
    rw [r.cell, ← Array.getElem?_toList]
    have h3 : (cur.toList.take (d.length * 1))[k]? = cur.toList[k]? := List.getElem?_take_of_lt (by omega)
    rw [← h3, e7]
    simp [hk, B]
theorem Own.bts {N : Nat} {w : World} {v : Value} {d : List UInt8} (h : Own N w v d) : Bts (· < w.heap.size) w v d := by
  rcases h.2 with ⟨h1, h2⟩ | ⟨g, cap, cur, e1, e2, e3, e4, e5, e6, e7⟩
  · obtain rfl := List.eq_nil_of_length_eq_zero h2
    exact ⟨none, 0, h1, Nat.le_refl _, .inl rfl⟩
  · refine ⟨_, cap, e1, e4, .inr ⟨g, 0, rfl, Row.lt (show Row w g 5 cur from e3), fun j u hu => ?_⟩⟩
    have r : Row w g 5 cur := e3
    have hj : j < d.length := by
      have := (List.getElem?_eq_some_iff.1 hu).1
      rw [List.length_map] at this; exact this
    rw [Nat.zero_add, r.cell, ← Array.getElem?_toList]
    have h3 : (cur.toList.take (d.length * 1))[j]? = cur.toList[j]? := List.getElem?_take_of_lt (by omega)
    rw [← h3, e7]; exact hu

theorem run_build1 (w : World) (n : Int) : (Instr.buildSlice 24 1 #[(0, .int .u8 n)]).run Tryd.prog w = .ok (.slice (some ⟨w.heap.size, 0, none⟩) 1 1) (w.alloc (.cells #[.int .u8 n] 5)) := by
  simp [go_sem, Instr.buildSlice]
theorem wp_build1 {op : Oper} {a : Act} {w : World} {K : Act → World → Prop} {Q : Exit → Act → World → Prop} (x : Operand) (ho : op.op = .buildSlice 24 1 #[(0, x)]) (n : Int) (hx : a.eval x = .int .u8 n)
    (h : K (a.put op.dst (.slice (some ⟨w.heap.size, 0, none⟩) 1 1)) (w.alloc (.cells #[.int .u8 n] 5))) : op.wp Tryd.prog a w K Q := by
  have hr := run_build1 w n
  unfold Oper.wp execOp
  simp only [ho, List.map_toArray, List.map_cons, List.map_nil, hx, Sem.run_bind, hr, Result.andThen_ok]
  exact h
/-- What an append leaves as it was. -/
structure Apd (N : Nat) (w w' : World) : Prop where
  rows : ∀ b t c, t ≠ 5 → Row w b t c → Row w' b t c
  bel : ∀ w0, Below N w0 w → Below N w0 w'
theorem Apd.room {N : Nat} {w w' : World} (h : Apd N w w') {p : Nat} {t : TypeId} {n : Nat} (ht : t ≠ 5) (hp : Room w p t n) : Room w' p t n := let ⟨c, h1, h2⟩ := hp; ⟨c, h.rows _ _ _ ht h1, h2⟩

theorem one_By (l : List UInt8) : ∀ u ∈ l.map B, u.oneCell' = true := by
  intro u hu
  obtain ⟨x, _, rfl⟩ := List.mem_map.1 hu
  rfl
theorem Tryd.info5a : ∃ i, Tryd.prog.info? 5 = some i ∧ i.zero = some (.int .u8 0) ∧ i.size = 1 ∧ i.bytes = 1 := ⟨_, rfl, rfl, rfl, rfl⟩
/-- append(v, x...) of bytes that lie somewhere. -/
theorem wpList_append_bytes {ops : Array Oper} {rest : List Oper} {o : Oper} {a : Act} {w : World} {Q : Exit → Act → World → Prop} (hgd : o.guard = none) (s x : Operand)
    (ho : o.op = .call { callee := .builtin .append, args := #[s, x], argTypes := #[24, 24] }) (N : Nat) (hN : N ≤ w.heap.size)
    (v : Value) (d : List UInt8) (hs : a.eval s = v) (hown : Own N w v d) (ad : Addr) (m c : Nat) (l : List UInt8) (hx : a.eval x = .slice (some ad) m c) (hm : l.length = m)
    (hc : ∀ j u, (l.map B)[j]? = some u → w.cell? (ad.add j) = some u) (hmax : d.length + l.length ≤ 1000000)
    (h : ∀ v' w', Own N w' v' (d ++ l) → Apd N w w' → wpList Tryd.prog ops Q rest (a.put o.dst v') w') : wpList Tryd.prog ops Q (o :: rest) a w := by
  obtain ⟨i, h1, h2, h3, h4⟩ := Tryd.info5a
  obtain ⟨v', w', hr, g2, g3, _⟩ := run_append_own (P := Tryd.prog) w N 24 o.type 5 i _ 1 1 Tryd.underlying24 h1 h2 h3 h4 rfl (by decide) v d.length (d.map B) hown ad m c (l.map B) (by rw [List.length_map, hm, Nat.mul_one]) hc (one_By l) (by unfold maxLen; omega) (by omega) hN
  have g2' : Own N w' v' (d ++ l) := by unfold Own; rw [List.length_append, List.map_append, hm]; exact g2
  have hblk : ∀ k, v.ownBlock = some k → N ≤ k ∧ ∃ cur, Row w k 5 cur := by
    intro k hk
    rcases hown.2 with ⟨e, _⟩ | ⟨g, cap, cur, e1, e2, e3, _⟩
    · rw [e] at hk; simp [Value.ownBlock] at hk
    · rw [e1] at hk; simp [Value.ownBlock] at hk; subst hk; exact ⟨e2, cur, e3⟩
  have hap : Apd N w w' := by
    refine ⟨fun b t c ht hr => ?_, fun w0 hb => ⟨g3.os.trans hb.os, g3.tape.trans hb.tape, g3.output.trans hb.output, Nat.le_trans hb.size g3.size, fun k hk => ?_⟩⟩
    · have := g3.block b hr.lt (fun e => by obtain ⟨_, cur, r5⟩ := hblk b e.symm; exact row_ne hr r5 ht rfl)
      unfold Row at *
      rw [this]; exact hr
    · exact (g3.block k (by omega) (fun e => by have := (hblk k e.symm).1; omega)).trans (hb.block k hk)
  refine wpList_plain hgd fun K hK => ?_
  unfold Oper.wp execOp
  simp only [ho, resolve, invoke, builtin, Sem.run_bind, Sem.run_pure, Result.andThen_ok, List.map_toArray, List.map_cons, List.map_nil, hs, hx, hr]
  exact hK _ _ (h v' w' g2' hap)
theorem wpList_slice {P : Program} {ops : Array Oper} {rest : List Oper} {op : Oper} {a : Act} {w : World} {Q : Exit → Act → World → Prop} (hgd : op.guard = none) (t : TypeId) (x : Operand) (lo hi mx : Option Operand) (ho : op.op = .slice t x lo hi mx) (v : Value)
    (hrun : (Instr.sliceAt t (a.eval x) (lo.map a.eval) (hi.map a.eval) (mx.map a.eval)).run P w = .ok v w) (h : wpList P ops Q rest (a.put op.dst v) w) : wpList P ops Q (op :: rest) a w :=
  wpList_val hgd v (slice_op t x lo hi mx ho v w hrun) h
end Go.Proofs.YtfipijcnihpaiaaDoor
