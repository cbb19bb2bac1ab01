/- The reference's CopyEvents. -/
import Derived.Test.YtpgljhgfoihnjaaPc
import Derived.Test.YtpgljhgfoihnjaaEb
import Derived.Test.YtpgljhgfoihnjaaKj
namespace Go.Proofs.Ytpgljhgfoihnjaa
open Go.RowKit Go.BigFrame
set_option maxRecDepth 100000
set_option linter.unusedSimpArgs false
set_option linter.unusedVariables false

theorem wpList_appEv2 {ops : Array Oper} {rest : List Oper} {o : Oper} {a : Act} {w : World} {Q : Exit → Act → World → Prop} (hgd : o.guard = none) (s x : Operand)
    (ho : o.op = .call { callee := .builtin .append, args := #[s, x], argTypes := #[22, 22] }) (N : Nat) (hN : N ≤ w.heap.size)
    (v : Value) (l : List (Ev × Value)) (hs : a.eval s = v) (hown : OwnE N w v l) (e : Ev) (vb : Value) (hob : OwnB N w vb e.byt) (hdis : ∀ p ∈ l, ∀ g, p.2.ownBlock = some g → vb.ownBlock ≠ some g) (g0 c : Nat) (hx : a.eval x = .slice (some ⟨g0, 0, none⟩) 1 c)
    (hr : Row w g0 48 (evC e vb).toArray) (hmax : (l.length + 1) * 56 ≤ 140737488355328)
    (h : ∀ v' w', OwnE N w' v' (l ++ [(e, vb)]) → w.grownBy w' v.ownBlock → wpList Try.prog ops Q rest (a.put o.dst v') w') : wpList Try.prog ops Q (o :: rest) a w := by
  obtain ⟨i, h1, h2, h3, h4⟩ := Try.info55a
  obtain ⟨v', w', hrun, g2, g3, _⟩ := run_append_own (P := Try.prog) w N 22 o.type 48 i _ 5 56 Try.underlying22 h1 h2 h3 h4 rfl (by decide) v l.length _ hown.row ⟨g0, 0, none⟩ 1 c (evC e vb) rfl (fun j u hu => by
    rw [Addr.add_mid, Nat.zero_add, hr.cell]; simpa using hu) (evC_one hob) (by unfold maxLen; omega) (by omega) hN
  have hkeep : ∀ {p : Ev × Value}, OwnB N w p.2 p.1.byt → OwnB N w' p.2 p.1.byt := fun {p} hp => hp.same fun k hk => by
    obtain ⟨_, cur, r2⟩ := hp.lt k hk
    refine g3.block k r2.lt fun e => ?_
    obtain ⟨_, cur3, r3⟩ := hown.lt k e.symm
    unfold Row at r2 r3
    rw [r2] at r3
    simp at r3
  have g2' : OwnE N w' v' (l ++ [(e, vb)]) := by
    refine ⟨?_, fun p hp => ?_, ?_⟩
    · rw [List.length_append, List.flatMap_append]
      simpa using g2
    · rcases List.mem_append.1 hp with hp | hp
      · exact hkeep (hown.own p hp)
      · rw [List.mem_singleton] at hp
        subst hp
        exact hkeep (p := (e, vb)) hob
    · rw [List.pairwise_append]
      exact ⟨hown.dis, List.pairwise_singleton _ _, fun p hp q hq => by rw [List.mem_singleton] at hq; subst hq; exact hdis p hp⟩
  refine wpList_plain hgd fun K hK => ?_
  unfold Oper.wp execOp
  simp only [ho, resolve, invoke, builtin, Sem.run_bind, Sem.run_pure, Result.andThen_ok, List.map_toArray, List.map_cons, List.map_nil, hs, hx, hrun]
  exact hK _ _ (h v' w' g2' g3)

theorem Try.zero48 : (Try.prog.info? 48).map (fun i => (i.zero, i.size)) = some (some (.agg #[.int .u8 0, .slice none 0 0, .int .i64 0, .int .i64 0, .int .u8 0]), 5) := by kernel_rfl
theorem OwnB.setCell {N : Nat} {w : World} {v : Value} {d : List UInt8} (h : OwnB N w v d) (z o : Nat) (u : Value) (hz : z < N) : OwnB N (w.setCell ⟨z, o, none⟩ u) v d :=
  h.same fun g hg => Below.heap_setCell _ _ _ _ (by have := (h.lt g hg).1; show g ≠ z; omega)
/-- What is asked of a function that copies events. -/
def CpyC (f : Nat) : Prop := ∀ (w : World) (v : Value) (l : List Ev), l.length * 56 ≤ 140737488351232 → (∀ k, k < l.length → (l.getD k Ev.none).byt.length ≤ 140737488351232) → Evs w.heap.size w v l →
  Calls Try.prog f #[v] w fun e w' => ∃ (u : Value) (ps : List (Ev × Value)), e = .returned u ∧ ps.map (·.1) = l ∧ OwnE w.heap.size w' u ps ∧ Below w.heap.size w w'
set_option maxHeartbeats 4000000 in
theorem refCpy_C : CpyC 19 := by
  intro w v l hl hb h
  obtain ⟨a, c, rfl, hc, h3⟩ := h
  have H3 := Box'.mk h3
  have HBB := Box'.mk hb
  have TK : Box' (∀ k, k < l.length → ∀ x, x = l.getD k Ev.none → (l.take k) ++ [x] = l.take (k + 1)) := ⟨fun k hk x hx => by
    rw [List.take_add_one, List.getElem?_eq_getElem hk, hx, show l.getD k Ev.none = l[k] by simp [hk]]
    rfl⟩
  have TE : Box' (∀ k, k = l.length → l.take k = l) := ⟨fun k hk => by rw [hk, List.take_length]⟩
  have TL : Box' (∀ k, k ≤ l.length → (l.take k).length = k) := ⟨fun k hk => by rw [List.length_take]; omega⟩
  clear h3 hb
  generalize hn : l.length = n at *
  clear hn
  go_enter Try.func19, Try.ntmps19
  go_wp2_with fail
  go_loopw [3, 4] (fun u i wr => ∃ (k : Nat) (ps : List (Ev × Value)), i = .int .i64 (k : Int) ∧ k ≤ n ∧ Box' (ps.map (·.1) = l.take k) ∧ Box' (OwnE w.heap.size wr u ps) ∧ Box' (Below w.heap.size w wr)) (fun _ i _ => n - (intOf i).toNat)
  case atStart => exact ⟨0, [], rfl, Nat.zero_le _, ⟨by simp⟩, ⟨OwnE.nil _ _⟩, ⟨Below.refl _ _⟩⟩
  case round =>
    obtain ⟨k, ps, rfl, hk, PM, OE, BB⟩ := hrel
    by_cases hlt : k < n
    · obtain ⟨b, o, rfl, hbN, vb, q1, q2, q3, q4, q5, q6⟩ := H3.out k hlt
      have CE : ∀ q, wr.cell? ⟨b, q, Option.none⟩ = w.cell? ⟨b, q, Option.none⟩ := fun q => BB.out.cell (p := ⟨b, q, Option.none⟩) hbN
      rw [← CE] at q1 q2 q3 q4 q5
      have tk := Box'.mk (TK.out k hlt _ rfl)
      have PL : Box' (ps.length = k) := ⟨by rw [← List.length_map (f := fun p : Ev × Value => p.1), PM.out, TL.out k hk]⟩
      have hbl := HBB.out k hlt
      have I0 := Box'.mk (q6.below BB.out (Nat.le_refl _))
      clear H3 HBB TK TE TL CE
      generalize l.getD k Ev.none = x at *
      obtain ⟨w1, hw1⟩ : ∃ w1, w1 = wr.alloc (.cells #[.int .u8 (x.kind.toNat : Int), vb, .int .i64 x.cols, .int .i64 x.rows, .int .u8 (x.arr.toNat : Int)] 48) := ⟨_, rfl⟩
      have r1 : Row w1 wr.heap.size 48 (evC x vb).toArray := by rw [hw1]; exact Row.new _ _ _
      have b1 : Below wr.heap.size wr w1 := by rw [hw1]; exact (Below.refl _ _).alloc (Nat.le_refl _) _
      have R1 := Box'.mk r1
      have B1 := Box'.mk b1
      have Z1 : Box' (wr.heap.size < w1.heap.size) := ⟨r1.lt⟩
      obtain ⟨ax, cx, rfl, hcx⟩ := q6.slice
      obtain ⟨ao, co, rfl⟩ := OE.out.slice
      have cp := copy_any (· < w.heap.size) _ x.byt w1 (I0.out.below b1 BB.out.size).bts (fun b hb => Nat.lt_of_lt_of_le hb (Nat.le_trans BB.out.size b1.size)) hbl
      have kk1 : w1.cell? ⟨wr.heap.size, 1, none⟩ = some (.slice ax x.byt.length cx) := by rw [r1.cell]; rfl
      clear I0 r1 b1 q6 hbl hcx
      rw [hw1] at kk1 cp
      go_wp2_with fail
      refine cp.mono ?_
      rw [← hw1]
      rintro e w2 ⟨u', rfl, o2, b2⟩
      obtain ⟨au, cu, rfl, _⟩ := o2.inB.slice
      have r2 := R1.out.below b2 Z1.out
      have B2 := Box'.mk (B1.out.trans (b2.mono B1.out.size))
      have O2 := Box'.mk o2
      have k2 : w2.cell? ⟨wr.heap.size, 1, none⟩ = some (.slice ax x.byt.length cx) := by rw [r2.cell]; rfl
      have f2 : w2.frozen? ⟨wr.heap.size, 1, none⟩ = false := r2.frozen 1
      have one2 : Value.oneCell' (.slice au x.byt.length cu) = true := rfl
      have r3 : Row (w2.setCell ⟨wr.heap.size, 1, none⟩ (.slice au x.byt.length cu)) wr.heap.size 48 (evC x (.slice au x.byt.length cu)).toArray := r2.setCell 1 (.slice au x.byt.length cu)
      have b3 : Below wr.heap.size wr (w2.setCell ⟨wr.heap.size, 1, none⟩ (.slice au x.byt.length cu)) := B2.out.setCell (p := ⟨wr.heap.size, 1, none⟩) (Nat.le_refl _) (.slice au x.byt.length cu)
      have o3 := o2.setCell wr.heap.size 1 (.slice au x.byt.length cu) Z1.out
      have hz3 : (w2.setCell ⟨wr.heap.size, 1, none⟩ (.slice au x.byt.length cu)).heap.size = w2.heap.size := by simp [World.setCell]
      have b4 : Below wr.heap.size wr ((w2.setCell ⟨wr.heap.size, 1, none⟩ (.slice au x.byt.length cu)).alloc (.cells #[.int .u8 (x.kind.toNat : Int), .slice au x.byt.length cu, .int .i64 x.cols, .int .i64 x.rows, .int .u8 (x.arr.toNat : Int)] 48)) := b3.alloc (by rw [hz3]; exact B2.out.size) _
      have r4 : Row ((w2.setCell ⟨wr.heap.size, 1, none⟩ (.slice au x.byt.length cu)).alloc (.cells #[.int .u8 (x.kind.toNat : Int), .slice au x.byt.length cu, .int .i64 x.cols, .int .i64 x.rows, .int .u8 (x.arr.toNat : Int)] 48)) w2.heap.size 48 (evC x (.slice au x.byt.length cu)).toArray := Row.made _ 48 _ _ _ rfl hz3.symm
      have o4 := (o3.alloc (.cells #[.int .u8 (x.kind.toNat : Int), .slice au x.byt.length cu, .int .i64 x.cols, .int .i64 x.rows, .int .u8 (x.arr.toNat : Int)] 48)).less (Nat.le_trans BB.out.size (Nat.le_of_lt Z1.out))
      have oe4 := OE.out.below b4
      have hz4 : w.heap.size ≤ ((w2.setCell ⟨wr.heap.size, 1, none⟩ (.slice au x.byt.length cu)).alloc (.cells #[.int .u8 (x.kind.toNat : Int), .slice au x.byt.length cu, .int .i64 x.cols, .int .i64 x.rows, .int .u8 (x.arr.toNat : Int)] 48)).heap.size := Nat.le_trans BB.out.size b4.size
      have hdis : ∀ p ∈ ps, ∀ g, p.2.ownBlock = some g → Value.ownBlock (.slice au x.byt.length cu) ≠ some g := fun p hp g hg hv => by
        obtain ⟨_, cur, rp⟩ := (OE.out.own p hp).lt g hg
        have := rp.lt
        have := (O2.out.lt g hv).1
        have := Z1.out
        omega
      have hmx : (ps.length + 1) * 56 ≤ 140737488355328 := by have := PL.out; omega
      have FIN : Box' (∀ v' w', OwnE w.heap.size w' v' (ps ++ [(x, Value.slice au x.byt.length cu)]) → ((w2.setCell ⟨wr.heap.size, 1, none⟩ (.slice au x.byt.length cu)).alloc (.cells #[.int .u8 (x.kind.toNat : Int), .slice au x.byt.length cu, .int .i64 x.cols, .int .i64 x.rows, .int .u8 (x.arr.toNat : Int)] 48)).grownBy w' (Value.slice ao ps.length co).ownBlock → Below w.heap.size w w' ∧ (ps ++ [(x, Value.slice au x.byt.length cu)]).map (fun p => p.1) = l.take (k + 1)) := ⟨fun v' w' h1 g => ⟨BB.out.trans ((b4.mono BB.out.size).trans ⟨g.os, g.tape, g.output, g.size, fun q hq => g.block q (by omega) fun e => by
        have := (oe4.lt q e.symm).1
        omega⟩), by rw [List.map_append, PM.out]; exact tk.out⟩⟩
      have R3 : Box' (Row (w2.setCell ⟨wr.heap.size, 1, none⟩ (.slice au x.byt.length cu)) wr.heap.size 48 #[.int .u8 (x.kind.toNat : Int), .slice au x.byt.length cu, .int .i64 x.cols, .int .i64 x.rows, .int .u8 (x.arr.toNat : Int)]) := ⟨r3⟩
      have R4 := Box'.mk r4
      have OE4 := Box'.mk oe4
      have O4 := Box'.mk o4
      have HZ4 := Box'.mk hz4
      have HDI := Box'.mk hdis
      clear cp o2 kk1 hw1 R1 B1 q1 q2 q3 q4 q5 r2 o3 b3 b4 r4 o4 oe4 hz3 hz4 hdis OE O2 B2 r3
      go_wp2_with (first
        | (refine wpList_load_row rfl 48 (.tmp 5) rfl wr.heap.size rfl 48 _ R3.out _ Try.underlying48 rfl 5 (by kernel_rfl) rfl ?_)
        | (refine wpList_appEv2 rfl (.tmp 20) (.tmp 22) rfl w.heap.size HZ4.out _ ps rfl OE4.out x (.slice au x.byt.length cu) O4.out HDI.out _ 1 rfl R4.out hmx ?_; intro v5 w5 o5 g5; have F5 := Box'.mk (FIN.out v5 w5 o5 g5); have O5 := Box'.mk o5; clear o5 g5 FIN hmx R3 R4 OE4 O4 HZ4 HDI)
        | fail)
      exact ⟨⟨k + 1, _, by go_num, by omega, ⟨F5.out.2⟩, O5, ⟨F5.out.1⟩⟩, by simp [intOf]; omega⟩
    · obtain rfl : k = n := by omega
      have E := Box'.mk (PM.out.trans (TE.out k rfl))
      obtain ⟨ao, co, rfl⟩ := OE.out.slice
      clear H3 HBB TK TE TL PM
      go_wp2_with fail
      go_ret
      exact ⟨_, ps, rfl, E.out, OE.out, BB.out⟩
end Go.Proofs.Ytpgljhgfoihnjaa
