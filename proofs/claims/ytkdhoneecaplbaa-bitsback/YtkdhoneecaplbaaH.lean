/- The walk of Write. -/
import Derived.Test.YtkdhoneecaplbaaG
namespace Go.Proofs.Ytkdhoneecaplbaa
open Go.RowKit Go.BigFrame

/-- What Write answers. -/
def Wrote (w w' : World) (l : List (Nat × Int)) (u : Value) : Prop :=
  (Gf.cntE l = 0 ∧ ∃ g, u = .slice (some ⟨g, 0, none⟩) (Gf.wid l) (Gf.wid l) ∧ w.heap.size ≤ g ∧ Row w' g 5 (ag (Gf.byt (Gf.wid l) (Gf.val l)))) ∨ (Gf.cntE l ≠ 0 ∧ u = .slice none 0 0)

theorem byt_zero (n : Nat) : madeCells #[.int .u8 0] n = ag (Gf.byt n 0) := by
  unfold ag Gf.byt madeCells
  apply Array.ext'
  simp only [List.map_map, Array.toList_map, Array.toList_range]
  apply List.map_congr_left
  intro i _
  have : i % (#[Value.int .u8 0] : Array Value).size = 0 := Nat.mod_one i
  rw [this]
  simp [B]
theorem Try.info5' : ∃ i, Try.prog.info? 5 = some i ∧ i.zero = some (.int .u8 0) ∧ i.size = 1 ∧ i.bytes = 1 := ⟨_, rfl, rfl, rfl, rfl⟩
/-- so many bytes are made -/
theorem wpList_make_bytes {ops : Array Oper} {rest : List Oper} {op : Oper} {a : Act} {w : World} {Q : Exit → Act → World → Prop}
    (hgd : op.guard = none) (x y : Operand) (ho : op.op = .makeSlice 23 x y) (L C : Int) (n : Nat) (hx : a.eval x = .int .i64 L) (hy : a.eval y = .int .i64 C) (hL : L = (n : Int)) (hC : C = (n : Int)) (hn : n ≤ 16777216)
    (h : wpList Try.prog ops Q rest (a.put op.dst (.slice (some ⟨w.heap.size, 0, none⟩) n n)) (w.alloc (.cells (ag (Gf.byt n 0)) 5))) : wpList Try.prog ops Q (op :: rest) a w := by
  obtain ⟨i, h1, h2, h3, h4⟩ := Try.info5'
  have hrun := run_make (P := Try.prog) w 23 5 i _ Try.underlying23 h1 h2 .i64 .i64 (n : Int) (n : Int) (by omega) (Int.le_refl _) (by rw [h4]; omega) (by omega)
  rw [h3, Int.toNat_natCast, Nat.mul_one, show (Value.int .u8 0).cells = #[.int .u8 0] from rfl, byt_zero] at hrun
  refine wpList_plain hgd fun K hK' => ?_
  subst hL hC
  unfold Oper.wp
  simp only [execOp, ho, hx, hy, Sem.run_bind, hrun, Result.andThen_ok]
  exact hK' _ _ h

set_option maxHeartbeats 1000000 in
theorem write_any (v : Value) (l : List (Nat × Int)) (hl : l.length ≤ 140737488355328) (w : World) (h : Prs w.heap.size w v l) :
    Calls Try.prog 6 #[v] w fun e w' => ∃ u, e = .returned (.tuple #[u, .int .i64 (Gf.cntE l)]) ∧ Wrote w w' l u ∧ Below w.heap.size w w' := by
  have hcn := count_any v l hl w h
  obtain ⟨a, c, rfl, hc, h64, h3⟩ := h
  rcases Gf.cntE_cases l with ⟨e1, hm, ht⟩ | hbad
  · have eN : Gf.cntN l = (Gf.tot l : Int) := if_pos e1
    rw [e1, eN] at hcn
    rw [e1]
    have hcl : ∀ k, k < l.length → ∃ b o, a = some ⟨b, o, none⟩ ∧ b < w.heap.size ∧ w.cell? ⟨b, o + k * 2, none⟩ = some (.int .u64 ((l.getD k (0, 0)).1 : Int)) ∧ w.cell? ⟨b, o + k * 2 + 1, none⟩ = some (.int .i64 (l.getD k (0, 0)).2) ∧ (l.getD k (0, 0)).1 < 18446744073709551616 := by
      intro k hk
      rcases h3 with rfl | ⟨b, o, rfl, h5, h6⟩
      · simp at hk
      exact ⟨b, o, rfl, h5, (h6 k hk).1, (h6 k hk).2, by have := h64 l[k] (List.getElem_mem hk); simpa [hk] using this⟩
    have HCL := Box'.mk hcl
    have hbf := fun w => bytesFor_any (Gf.tot l) (by omega) w
    have hW : Gf.wid l = (Gf.tot l + 7) / 8 := rfl
    have hW2 : Gf.wid l ≤ 16777216 := by rw [hW]; omega
    have hW3 : Gf.wid l ≤ 65536 := by rw [hW]; omega
    have TT := Box'.mk (Gf.tot_take l)
    have VT := Box'.mk (Gf.val_take l)
    have TL := Box'.mk (Gf.tot_le l)
    have VL : Box' (∀ k, Gf.val (l.take k) < 2 ^ Gf.tot (l.take k)) := ⟨fun k => Gf.val_lt _ fun x hx => hm x (List.mem_of_mem_take hx)⟩
    have LE : Box' (l.take l.length = l) := ⟨List.take_length⟩
    have MB : Box' (∀ k, k < l.length → 0 ≤ (l.getD k (0, 0)).2 ∧ (l.getD k (0, 0)).2 ≤ 64) := ⟨fun k hk => by
      have := hm l[k] (List.getElem_mem hk)
      unfold Gf.may at this
      have := of_decide_eq_true this
      simp only [List.getD_eq_getElem?_getD, List.getElem?_eq_getElem hk, Option.getD_some]
      exact ⟨this.1, this.2.1⟩⟩
    generalize hT : Gf.tot l = T at *
    generalize hWW : Gf.wid l = W at *
    generalize hn : l.length = n at *
    have H8 : Box' (2 ^ T ≤ 2 ^ (8 * W)) := ⟨Nat.pow_le_pow_right (by decide) (by omega)⟩
    have HT := Box'.mk hT
    have HWW := Box'.mk hWW
    have HW := Box'.mk hW
    have E1 := Box'.mk e1
    clear hcl h3 h64 hT hWW hn e1 eN hm hW
    go_enter Try.func6, Try.ntmps6
    go_wp2_with fail
    refine hcn.mono ?_
    rintro e w1 ⟨rfl, hb1⟩
    clear hcn
    go_wp2_with (first | (go_at_call 16; refine (hbf _).mono ?_; rintro e w2 ⟨rfl, rfl⟩) | (refine wpList_make_bytes rfl (.tmp 19) (.tmp 19) rfl _ _ W rfl rfl (by have := HW.out; omega) (by have := HW.out; omega) hW2 ?_) | fail)
    have hg0 := hb1.size
    have rg : Row (w2.alloc (.cells (ag (Gf.byt W 0)) 5)) w2.heap.size 5 (ag (Gf.byt W 0)) := Row.new _ _ _
    have bg : Below w.heap.size w (w2.alloc (.cells (ag (Gf.byt W 0)) 5)) := hb1.alloc hg0 _
    generalize w2.alloc (.cells (ag (Gf.byt W 0)) 5) = w3 at *
    generalize w2.heap.size = g at *
    clear hb1 hbf
    go_loopw [7, 23] (fun t i wr => ∃ k p X : Nat, k ≤ n ∧ i = .int .i64 (k : Int) ∧ t = .int .i64 (p : Int) ∧ p ≤ 524288 ∧ Box' (p = Gf.tot (l.take k) ∧ X = Gf.val (l.take k)) ∧ Row wr g 5 (ag (Gf.byt W X)) ∧ Below w.heap.size w wr) (fun _ i _ => n - (intOf i).toNat)
    case atStart => exact ⟨0, 0, 0, by omega, rfl, rfl, by omega, ⟨by simp [Gf.tot, Gf.val]⟩, rg, bg⟩
    case round =>
      obtain ⟨k, p, X, hk, rfl, rfl, hp, HP, r1, hbl⟩ := hrel
      by_cases hlt : k < n
      · obtain ⟨b, o, rfl, hbw, c0, c1, h64⟩ := HCL.out k hlt
        have TK := Box'.mk (TT.out k hlt)
        have VK := Box'.mk (VT.out k hlt)
        have T1 := Box'.mk (TL.out (k + 1))
        have T0 := Box'.mk (TL.out k)
        have V1 := Box'.mk (VL.out (k + 1))
        have V0 := Box'.mk (VL.out k)
        obtain ⟨m0, m1⟩ := MB.out k hlt
        obtain ⟨hc0, -⟩ := bcell hbl
        rw [← hc0 _ _ hbw] at c0 c1
        have hbs := hbl.size
        have hgl := r1.lt
        clear hc0
        generalize l.getD k (0, 0) = x at *
        obtain ⟨xv, xs⟩ := x
        simp only at c0 c1 m0 m1 h64
        have hlay := lay_any g W X p xv hW3 (by have := HP.out.1; have := T0.out; have := HW.out; have := HT.out; omega) h64 (by rw [HP.out.1, HP.out.2]; exact V0.out)
          (by
            have h1 := VK.out
            have h2 := V1.out
            have h3 := H8.out
            have h4 := T1.out
            have h5 : 2 ^ Gf.tot (l.take (k + 1)) ≤ 2 ^ T := Nat.pow_le_pow_right (by decide) h4
            rw [HP.out.2, HP.out.1, ← h1]
            omega) (wr.alloc (.cells #[.int .u64 (xv : Int), .int .i64 xs] 39)) (r1.alloc _)
        go_wp2_with fail
        refine hlay.mono ?_
        rintro e w4 ⟨rfl, r4, ch⟩
        have rs : Row w4 wr.heap.size 39 #[.int .u64 (xv : Int), .int .i64 xs] := by
          have := Row.new wr 39 #[.int .u64 (xv : Int), .int .i64 xs]
          unfold Row at *
          rw [ch.block _ (by omega)]; exact this
        have c2 : w4.cell? ⟨wr.heap.size, 1, none⟩ = some (.int .i64 xs) := by rw [rs.cell]; rfl
        have bl4 : Below w.heap.size w w4 := ch.bel _ _ hg0 (hbl.alloc hbs _)
        clear rs ch hlay c0 c1
        go_wp2_with fail
        have h1 := TK.out
        have h2 := T1.out
        have h3 := HP.out.1
        have hx : (xs.toNat : Int) = xs := Int.toNat_of_nonneg m0
        refine ⟨⟨k + 1, Gf.tot (l.take (k + 1)), X + xv * 2 ^ p, by omega, by go_num, ?_, by omega, ⟨rfl, by rw [VK.out, HP.out.1, HP.out.2]⟩, r4, bl4⟩, by simp [intOf]; omega⟩
        congr 1; omega
      · obtain rfl : k = n := by omega
        go_wp2_with fail
        go_ret2
        refine ⟨_, rfl, .inl ⟨E1.out, g, by rw [HWW.out]; rfl, hg0, ?_⟩, hbl⟩
        have h1 := HP.out.2
        rw [LE.out] at h1
        rw [HWW.out, ← h1]; exact r1
  · have hne : Gf.cntE l ≠ 0 := by rcases hbad with h | h <;> rw [h.1] <;> decide
    have H : Box' (Wrote = Wrote ∧ Gf.cntE l ≠ 0) := ⟨rfl, hne⟩
    have i0 : (Gf.cntE l == 0) = false := by rw [beq_eq_false_iff_ne]; exact hne
    generalize hE : Gf.cntE l = E at *
    have HE := Box'.mk hE
    clear hbad h3 h64 hE hne
    go_enter Try.func6, Try.ntmps6
    go_wp2_with fail
    refine hcn.mono ?_
    rintro e w1 ⟨rfl, hb1⟩
    clear hcn
    go_wp2_with fail
    go_ret2
    exact ⟨_, rfl, .inr ⟨by rw [HE.out]; exact H.out.2, rfl⟩, hb1⟩
end Go.Proofs.Ytkdhoneecaplbaa
