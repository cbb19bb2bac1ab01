/- What stands while the program inflates; the walks of fail and of number. -/
import Derived.Test.YtbnghmeeddjaoaaTc
namespace Go.Proofs.Ytbnghmeeddjaoaa
open Go.RowKit Go.BigFrame

/-- The way out with a fault. -/
def flt (e : Int) : Ending := .panicked [{ v := .iface 60 (.agg #[.int .i64 e]), recovered := false }]
theorem fail_any (e0 : Int) (w : World) : Calls Try.prog 35 #[.int .i64 e0] w fun e w' => e = flt e0 ∧ w' = w := by
  go_enter Try.func35, Try.ntmps35
  go_wp2_with fail
  exact ⟨rfl, rfl, rfl⟩

/-- The blocks of K are as they were. -/
structure Kp (K : Nat → Prop) (w w' : World) : Prop where
  os : w'.os = w.os
  tape : w'.tape = w.tape
  output : w'.output = w.output
  size : w.heap.size ≤ w'.heap.size
  block : ∀ k, K k → w'.heap[k]? = w.heap[k]?
theorem Kp.refl (K : Nat → Prop) (w : World) : Kp K w w := ⟨rfl, rfl, rfl, Nat.le_refl _, fun _ _ => rfl⟩
theorem Kp.trans {K : Nat → Prop} {a b c : World} (h : Kp K a b) (k : Kp K b c) : Kp K a c :=
  ⟨k.os.trans h.os, k.tape.trans h.tape, k.output.trans h.output, Nat.le_trans h.size k.size, fun i hi => (k.block i hi).trans (h.block i hi)⟩
theorem Kp.drew {K : Nat → Prop} {a w : World} (h : Kp K a w) : Kp K a w.drew := ⟨h.os, h.tape, h.output, h.size, h.block⟩
theorem Kp.drewN {K : Nat → Prop} {a w : World} (h : Kp K a w) (n : Nat) : Kp K a (w.drewN n) := ⟨h.os, h.tape, h.output, h.size, h.block⟩
theorem Kp.setCell {K : Nat → Prop} {a w : World} (h : Kp K a w) (g o : Nat) (hg : ¬ K g) (v : Value) : Kp K a (w.setCell ⟨g, o, none⟩ v) :=
  ⟨h.os, h.tape, h.output, by simpa [World.setCell] using h.size, fun k hk => (Below.heap_setCell _ _ _ _ (fun e => hg (by have e : k = g := e; rw [← e]; exact hk))).trans (h.block k hk)⟩
theorem Kp.below {K : Nat → Prop} {w w' : World} (h : Below w.heap.size w w') (hK : ∀ k, K k → k < w.heap.size) : Kp K w w' := ⟨h.os, h.tape, h.output, h.size, fun k hk => h.block k (hK k hk)⟩
theorem Kp.less {K K' : Nat → Prop} {w w' : World} (h : Kp K w w') (hK : ∀ k, K' k → K k) : Kp K' w w' := ⟨h.os, h.tape, h.output, h.size, fun k hk => h.block k (hK k hk)⟩

/-- A row of bytes of one's own, that grows. -/
def OwnB (N : Nat) (w : World) (v : Value) (d : List UInt8) : Prop := w.ownsRow N 5 1 v d.length (d.map B)
theorem OwnB.nil (N : Nat) (w : World) : OwnB N w (.slice none 0 0) [] := ⟨rfl, .inl ⟨rfl, rfl⟩⟩
theorem OwnB.same {N : Nat} {w w' : World} {v : Value} {d : List UInt8} (h : OwnB N w v d) (hb : ∀ g, v.ownBlock = some g → w'.heap[g]? = w.heap[g]?) : OwnB N w' v d := by
  refine ⟨h.1, ?_⟩
  rcases h.2 with h2 | ⟨g, cap, cur, e1, e2, e3, e4⟩
  · exact .inl h2
  · exact .inr ⟨g, cap, cur, e1, e2, by rw [hb g (by rw [e1]; rfl)]; exact e3, e4⟩
theorem OwnB.lt {N : Nat} {w : World} {v : Value} {d : List UInt8} (h : OwnB N w v d) : ∀ g, v.ownBlock = some g → N ≤ g ∧ ∃ cur, Row w g 5 cur := by
  intro k hk
  rcases h.2 with ⟨e, _⟩ | ⟨g, cap, cur, e1, e2, e3, _⟩
  · rw [e] at hk; simp [Value.ownBlock] at hk
  · rw [e1] at hk; simp [Value.ownBlock] at hk; subst hk; exact ⟨e2, cur, e3⟩
theorem OwnB.slice {N : Nat} {w : World} {v : Value} {d : List UInt8} (h : OwnB N w v d) : ∃ a c, v = .slice a d.length c := by
  rcases h.2 with ⟨e, e0⟩ | ⟨g, cap, cur, e1, _⟩
  · exact ⟨none, 0, by rw [e, e0]⟩
  · exact ⟨_, _, e1⟩

/-- The stream stands in the block sb: its bytes, how far it is, what came out; the blocks of K are no part of it. -/
structure St (K : Nat → Prop) (N : Nat) (w : World) (sb : Nat) (vb : Value) (b : List UInt8) (p : Nat) (out : List UInt8) (most : Nat) (fx : Value) : Prop where
  row : ∃ vo, Row w sb 45 #[vb, .int .i64 (p : Int), vo, .int .i64 (most : Int), fx] ∧ OwnB N w vo out
  kt : ∀ k, K k → k < N ∨ ∀ cur, ¬ Row w k 5 cur
  bts : Bts K w vb b
  sbK : ¬ K sb
  kl : ∀ k, K k → k < w.heap.size
  bl : b.length ≤ 140737488355328
  pl : p ≤ 8 * b.length
  ol : out.length ≤ most
  ml : most ≤ 65536
  nl : N ≤ w.heap.size
theorem St.own {K : Nat → Prop} {N : Nat} {w : World} {vo : Value} {out : List UInt8} (kt : ∀ k, K k → k < N ∨ ∀ cur, ¬ Row w k 5 cur) (ho : OwnB N w vo out) : ∀ g, vo.ownBlock = some g → ¬ K g := by
  intro g hg hK
  obtain ⟨h1, cur, r⟩ := ho.lt g hg
  rcases kt g hK with h2 | h2
  · omega
  · exact h2 cur r
theorem kt_keep {K : Nat → Prop} {N : Nat} {w w' : World} (kt : ∀ k, K k → k < N ∨ ∀ cur, ¬ Row w k 5 cur) (h : ∀ k, K k → w'.heap[k]? = w.heap[k]?) : ∀ k, K k → k < N ∨ ∀ cur, ¬ Row w' k 5 cur := by
  intro k hk
  rcases kt k hk with h1 | h1
  · exact .inl h1
  · refine .inr fun cur r => h1 cur ?_
    unfold Row at *
    rw [← h k hk]; exact r
theorem St.drewN {K : Nat → Prop} {N : Nat} {w : World} {sb : Nat} {vb : Value} {b : List UInt8} {p : Nat} {out : List UInt8} {most : Nat} {fx : Value} (h : St K N w sb vb b p out most fx) (n : Nat) : St K N (w.drewN n) sb vb b p out most fx :=
  ⟨h.row, h.kt, h.bts, h.sbK, h.kl, h.bl, h.pl, h.ol, h.ml, h.nl⟩
theorem St.ne {N : Nat} {w : World} {vo : Value} {out : List UInt8} {sb : Nat} {cur : Array Value} (ho : OwnB N w vo out) (hr : Row w sb 45 cur) : ∀ g, vo.ownBlock = some g → g ≠ sb := by
  rintro g hg rfl
  obtain ⟨-, cur, r⟩ := ho.lt g hg
  unfold Row at r hr
  rw [r] at hr
  simp at hr
theorem St.at_ {K : Nat → Prop} {N : Nat} {w : World} {sb : Nat} {vb : Value} {b : List UInt8} {p : Nat} {out : List UInt8} {most : Nat} {fx : Value} (h : St K N w sb vb b p out most fx) (q : Nat) (hq : q ≤ 8 * b.length) : St K N (w.setCell ⟨sb, 1, none⟩ (.int .i64 (q : Int))) sb vb b q out most fx := by
  obtain ⟨vo, hr, ho⟩ := h.row
  have hk : ∀ k, K k → (w.setCell ⟨sb, 1, none⟩ (.int .i64 (q : Int))).heap[k]? = w.heap[k]? := fun k hk => Below.heap_setCell _ _ _ _ (fun e => h.sbK (by have e : k = sb := e; rw [← e]; exact hk))
  exact ⟨⟨vo, by simpa using hr.setCell 1 (.int .i64 (q : Int)), ho.same fun g hg => Below.heap_setCell _ _ _ _ (St.ne ho hr g hg)⟩, kt_keep h.kt hk, h.bts.keep fun g hg => ⟨hg, hk g hg⟩, h.sbK, fun k hk => by simpa [World.setCell] using h.kl k hk, h.bl, hq, h.ol, h.ml, by simpa [World.setCell] using h.nl⟩
/-- The next so many bits, as a number. -/
def nbr (b : List UInt8) (p size : Nat) : Nat := Gf.num b / 2 ^ p % 2 ^ size
theorem rd_ok {b : List UInt8} {p size : Nat} (h64 : size ≤ 64) (h : p + size ≤ 8 * b.length) : Gf.rdE b.length (p : Int) (size : Int) = 0 ∧ Gf.rdV b (p : Int) (size : Int) = nbr b p size := by
  have e : Gf.rdE b.length (p : Int) (size : Int) = 0 := by unfold Gf.rdE; rw [if_neg (by omega), if_neg (by omega)]
  exact ⟨e, by unfold Gf.rdV; rw [if_pos e, Int.toNat_natCast, Int.toNat_natCast]; rfl⟩
theorem rd_short {b : List UInt8} {p size : Nat} (h64 : size ≤ 64) (h : ¬ p + size ≤ 8 * b.length) : Gf.rdE b.length (p : Int) (size : Int) = 7 ∧ Gf.rdV b (p : Int) (size : Int) = 0 := by
  have e : Gf.rdE b.length (p : Int) (size : Int) = 7 := by unfold Gf.rdE; rw [if_neg (by omega), if_pos (by omega)]
  exact ⟨e, by unfold Gf.rdV; rw [if_neg (by rw [e]; decide)]⟩

set_option maxRecDepth 100000 in
set_option maxHeartbeats 2000000 in
theorem number_any (K : Nat → Prop) (N : Nat) (w : World) (sb : Nat) (vb : Value) (b : List UInt8) (p : Nat) (out : List UInt8) (most : Nat) (fx : Value) (size : Nat) (h16 : size ≤ 16) (h : St K N w sb vb b p out most fx) :
    Calls Try.prog 28 #[.pointer (some ⟨sb, 0, none⟩), .int .i64 (size : Int)] w fun e w' => Kp K w w' ∧ ((p + size ≤ 8 * b.length ∧ e = .returned (.int .i64 ((nbr b p size : Nat) : Int)) ∧ St K N w' sb vb b (p + size) out most fx) ∨ (¬ p + size ≤ 8 * b.length ∧ e = flt 7)) := by
  obtain ⟨vo, hr, ho⟩ := h.row
  have c0 : w.cell? ⟨sb, 0, none⟩ = some vb := by rw [hr.cell]; rfl
  have c1 : w.cell? ⟨sb, 1, none⟩ = some (.int .i64 (p : Int)) := by rw [hr.cell]; rfl
  have f1 := hr.frozen 1
  have hbl := h.bl
  have hpl := h.pl
  have hrd : ∀ n, Calls Try.prog 34 #[vb, .int .i64 (p : Int), .int .i64 (size : Int)] (w.drewN n) fun e w' => e = .returned (.tuple #[.int .u64 ((Gf.rdV b (p : Int) (size : Int) : Nat) : Int), .int .i64 (Gf.rdE b.length (p : Int) (size : Int))]) ∧ ∃ m, w' = (w.drewN n).drewN m := fun n =>
    (read_any K vb b (p : Int) (size : Int) hbl (w.drewN n) h.bts (by omega)).mono fun e w' ⟨h1, h2⟩ => ⟨h1, 0, h2⟩
  have hfl := fun e w => fail_any e w
  have H := Box'.mk h
  by_cases hs : p + size ≤ 8 * b.length
  · obtain ⟨e1, e2⟩ := rd_ok (by omega) hs
    rw [e1, e2] at hrd
    have hlt : nbr b p size < 65536 := Nat.lt_of_lt_of_le (Nat.mod_lt _ (Nat.pow_pos (by decide))) (Nat.le_trans (Nat.pow_le_pow_right (by decide) h16) (by decide))
    have HS := Box'.mk hs
    have hsz : p + size ≤ 1125899906842624 := by omega
    generalize nbr b p size = v at *
    clear hr ho h e1 e2 hs hfl
    go_enter Try.func28, Try.ntmps28
    go_wp2_with fail
    go_quiet ((go_at_call 34; exact Calls.quiet_of (hrd _)))
    have c1' : (w.drewN nq).cell? ⟨sb, 1, none⟩ = some (.int .i64 (p : Int)) := c1
    have f1' : (w.drewN nq).frozen? ⟨sb, 1, none⟩ = false := f1
    have K1 := Box'.mk (((Kp.refl K w).drewN nq).setCell sb 1 H.out.sbK (.int .i64 ((p + size : Nat) : Int)))
    have S1 := Box'.mk ((H.out.drewN nq).at_ (p + size) HS.out)
    rw [Int.natCast_add] at K1 S1
    clear c0 c1 f1 hrd H
    generalize w.drewN nq = wq at *
    go_wp2_with fail
    go_ret
    exact ⟨K1.out, .inl ⟨HS.out, rfl, S1.out⟩⟩
  · obtain ⟨e1, e2⟩ := rd_short (by omega) hs
    rw [e1, e2] at hrd
    have HS := Box'.mk hs
    clear hr ho h e1 e2 hs
    go_enter Try.func28, Try.ntmps28
    go_wp2_with fail
    go_quiet ((go_at_call 34; exact Calls.quiet_of (hrd _)))
    have K1 := Box'.mk ((Kp.refl K w).drewN nq)
    clear c0 c1 f1 hrd H
    generalize w.drewN nq = wq at *
    have hf := hfl 7 wq
    clear hfl
    go_wp2_with fail
    refine hf.mono ?_
    rintro e w' ⟨rfl, rfl⟩
    exact ⟨rfl, K1.out, .inr ⟨HS.out, rfl⟩⟩
theorem one_By (l : List UInt8) : ∀ u ∈ l.map B, u.oneCell' = true := by
  intro u hu
  obtain ⟨x, _, rfl⟩ := List.mem_map.1 hu
  rfl
theorem Try.info5a : ∃ i, Try.prog.info? 5 = some i ∧ i.zero = some (.int .u8 0) ∧ i.size = 1 ∧ i.bytes = 1 := ⟨_, rfl, rfl, rfl, rfl⟩
theorem wpList_append_byte {ops : Array Oper} {rest : List Oper} {o : Oper} {a : Act} {w : World} {Q : Exit → Act → World → Prop} (hgd : o.guard = none) (s x : Operand)
    (ho : o.op = .call { callee := .builtin .append, args := #[s, x], argTypes := #[22, 22] }) (N : Nat) (hN : N ≤ w.heap.size)
    (v : Value) (d : List UInt8) (hs : a.eval s = v) (hown : OwnB N w v d) (ad : Addr) (c : Nat) (x0 : UInt8) (hx : a.eval x = .slice (some ad) 1 c)
    (hc : w.cell? ad = some (B x0)) (hmax : d.length + 1 ≤ 1000000)
    (h : ∀ v' w', OwnB N w' v' (d ++ [x0]) → w.grownBy w' v.ownBlock → wpList Try.prog ops Q rest (a.put o.dst v') w') : wpList Try.prog ops Q (o :: rest) a w := by
  obtain ⟨i, h1, h2, h3, h4⟩ := Try.info5a
  obtain ⟨v', w', hr, g2, g3, _⟩ := run_append_own (P := Try.prog) w N 22 o.type 5 i _ 1 1 Try.underlying22 h1 h2 h3 h4 rfl (by decide) v d.length (d.map B) hown ad 1 c ([x0].map B) rfl (fun j y hy => by
    cases j with
    | zero => simp at hy; subst hy; exact hc
    | succ j => simp at hy) (one_By [x0]) (by unfold maxLen; omega) (by omega) hN
  have g2' : OwnB N w' v' (d ++ [x0]) := by unfold OwnB; rw [List.length_append, List.map_append]; exact g2
  refine wpList_plain hgd fun K hK => ?_
  unfold Oper.wp execOp
  simp only [ho, resolve, invoke, builtin, Sem.run_bind, Sem.run_pure, Result.andThen_ok, List.map_toArray, List.map_cons, List.map_nil, hs, hx, hr]
  exact hK _ _ (h v' w' g2' g3)

theorem results46 (T : Array Value) (w : World) : (results Try.f46 T).run Try.prog w = .ok (.tuple #[]) w := by
  unfold results
  simp [go_sem]
/-- A byte more came out. -/
theorem St.grow {K : Nat → Prop} {N : Nat} {w : World} {sb : Nat} {vb : Value} {b : List UInt8} {p : Nat} {out : List UInt8} {most : Nat} {fx vo : Value} (h : St K N w sb vb b p out most fx) (hr : Row w sb 45 #[vb, .int .i64 (p : Int), vo, .int .i64 (most : Int), fx]) (ho : OwnB N w vo out) (nq : Nat) (o : Obj) (x : UInt8) (hx : out.length < most) {v' : Value} {w3 : World} (o3 : OwnB N w3 v' (out ++ [x])) (g3 : ((w.drewN nq).alloc o).grownBy w3 vo.ownBlock) :
    w3.cell? ⟨sb, 2, none⟩ = some vo ∧ w3.frozen? ⟨sb, 2, none⟩ = false ∧ Kp K w (w3.setCell ⟨sb, 2, none⟩ v') ∧ St K N (w3.setCell ⟨sb, 2, none⟩ v') sb vb b p (out ++ [x]) most fx := by
  have hz : ((w.drewN nq).alloc o).heap.size = w.heap.size + 1 := by simp
  have hne := St.ne ho hr
  have blk : ∀ k, k < w.heap.size → some k ≠ vo.ownBlock → w3.heap[k]? = w.heap[k]? := fun k hk hn => (g3.block k (by omega) hn).trans (Below.heap_alloc _ _ _ hk)
  have r3 : Row w3 sb 45 #[vb, .int .i64 (p : Int), vo, .int .i64 (most : Int), fx] := hr.same (blk sb hr.lt fun e => hne sb e.symm rfl)
  have hk3 : ∀ k, K k → w3.heap[k]? = w.heap[k]? := fun k hk => blk k (h.kl k hk) fun e => St.own h.kt ho k e.symm hk
  have hsz : w.heap.size ≤ w3.heap.size := by have := g3.size; omega
  have hk4 : ∀ k, K k → (w3.setCell ⟨sb, 2, none⟩ v').heap[k]? = w.heap[k]? := fun k hk => (Below.heap_setCell _ _ _ _ (fun e => h.sbK (by have e : k = sb := e; rw [← e]; exact hk))).trans (hk3 k hk)
  have kp : Kp K w w3 := ⟨g3.os, g3.tape, g3.output, hsz, hk3⟩
  refine ⟨by rw [r3.cell]; rfl, r3.frozen 2, kp.setCell sb 2 h.sbK v', ?_⟩
  refine ⟨⟨v', by simpa using r3.setCell 2 v', o3.same fun g hg => Below.heap_setCell _ _ _ _ (St.ne o3 r3 g hg)⟩, kt_keep h.kt hk4, h.bts.keep fun g hg => ⟨hg, hk4 g hg⟩, h.sbK, fun k hk => ?_, h.bl, h.pl, by rw [List.length_append]; exact hx, h.ml, ?_⟩
  · have := h.kl k hk; simp [World.setCell]; omega
  · have := h.nl; simp [World.setCell]; omega

set_option maxRecDepth 100000 in
set_option maxHeartbeats 2000000 in
theorem put_any (K : Nat → Prop) (N : Nat) (w : World) (sb : Nat) (vb : Value) (b : List UInt8) (p : Nat) (out : List UInt8) (most : Nat) (fx : Value) (x : UInt8) (h : St K N w sb vb b p out most fx) :
    Calls Try.prog 46 #[.pointer (some ⟨sb, 0, none⟩), B x] w fun e w' => Kp K w w' ∧ ((out.length < most ∧ e = .returned (.tuple #[]) ∧ St K N w' sb vb b p (out ++ [x]) most fx) ∨ (out.length = most ∧ e = flt 4)) := by
  show Calls Try.prog 46 #[.pointer (some ⟨sb, 0, none⟩), .int .u8 ((x.toNat : Nat) : Int)] w _
  obtain ⟨vo, hr, ho⟩ := h.row
  have c2 : w.cell? ⟨sb, 2, none⟩ = some vo := by rw [hr.cell]; rfl
  have c3 : w.cell? ⟨sb, 3, none⟩ = some (.int .i64 (most : Int)) := by rw [hr.cell]; rfl
  have hol := h.ol
  have hml := h.ml
  have hfl := fun e w => fail_any e w
  have H := Box'.mk h
  have HR := Box'.mk hr
  have HO := Box'.mk ho
  obtain ⟨a, c, rfl⟩ := ho.slice
  clear hr ho h
  generalize hL : out.length = L at *
  have HL := Box'.mk hL
  clear hL
  by_cases hs : L = most
  · subst hs
    go_enter Try.func46, Try.ntmps46
    go_wp2_with fail
    go_quiet (fail)
    have K1 := Box'.mk ((Kp.refl K w).drewN nq)
    clear c2 c3 H HR HO
    generalize w.drewN nq = wq at *
    have hf := hfl 4 wq
    clear hfl
    go_wp2_with fail
    refine hf.mono ?_
    rintro e w' ⟨rfl, rfl⟩
    exact ⟨rfl, K1.out, .inr ⟨trivial, rfl⟩⟩
  · have hlt : L < most := by omega
    have hne : (L == most) = false := by rw [beq_eq_false_iff_ne]; exact hs
    clear hs hfl
    go_enter Try.func46, Try.ntmps46
    go_wp2_with fail
    go_quiet (fail)
    have w2o : OwnB N ((w.drewN nq).alloc (.cells #[.int .u8 ((x.toNat : Nat) : Int)] 5)) (.slice a L c) out := HO.out.same fun g hg => by
      obtain ⟨-, cur, r⟩ := HO.out.lt g hg
      exact Below.heap_alloc _ _ _ r.lt
    have c2' : (w.drewN nq).cell? ⟨sb, 2, none⟩ = some (.slice a L c) := c2
    have rx : Row ((w.drewN nq).alloc (.cells #[.int .u8 ((x.toNat : Nat) : Int)] 5)) (w.drewN nq).heap.size 5 #[.int .u8 ((x.toNat : Nat) : Int)] := Row.new _ _ _
    have cx : ((w.drewN nq).alloc (.cells #[.int .u8 ((x.toNat : Nat) : Int)] 5)).cell? ⟨(w.drewN nq).heap.size, 0, none⟩ = some (.int .u8 ((x.toNat : Nat) : Int)) := by rw [rx.cell]; rfl
    have hN2 : N ≤ ((w.drewN nq).alloc (.cells #[.int .u8 ((x.toNat : Nat) : Int)] 5)).heap.size := by have := H.out.nl; simp; omega
    have hmx : out.length + 1 ≤ 1000000 := by rw [HL.out]; omega
    have GR : Box' (∀ v' w3, OwnB N w3 v' (out ++ [x]) → ((w.drewN nq).alloc (.cells #[.int .u8 ((x.toNat : Nat) : Int)] 5)).grownBy w3 (Value.slice a L c).ownBlock → w3.cell? ⟨sb, 2, none⟩ = some (.slice a L c) ∧ w3.frozen? ⟨sb, 2, none⟩ = false ∧ Kp K w (w3.setCell ⟨sb, 2, none⟩ v') ∧ St K N (w3.setCell ⟨sb, 2, none⟩ v') sb vb b p (out ++ [x]) most fx) := ⟨fun v' w3 o3 g3 => H.out.grow HR.out HO.out nq _ x (by rw [HL.out]; exact hlt) o3 g3⟩
    clear c2 c3 HR HO rx H
    generalize w.drewN nq = wq at *
    go_wp2_with (refine wpList_append_byte rfl (.tmp 19) (.tmp 21) rfl N hN2 _ out rfl w2o _ _ x rfl cx hmx ?_; intro v' w3 o3 g3; obtain ⟨k2, f2, kp, st⟩ := GR.out v' w3 o3 g3; obtain ⟨a', c', rfl⟩ := o3.slice; rw [List.length_append, List.length_singleton] at kp st; have KP := Box'.mk kp; have ST := Box'.mk st; clear GR w2o c2' cx hN2 o3 g3 kp st)
    exact ⟨rfl, _, results46 _ _, KP.out, .inl ⟨hlt, rfl, ST.out⟩⟩
end Go.Proofs.Ytbnghmeeddjaoaa
