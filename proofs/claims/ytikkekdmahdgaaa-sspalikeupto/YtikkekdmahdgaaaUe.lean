/- The numbers that a receiver has. -/
import Derived.Test.YtikkekdmahdgaaaUd
namespace Go.Proofs.Ytikkekdmahdgaaa
open Go.RowKit Go.BigFrame
set_option linter.unusedSimpArgs false
set_option linter.unusedVariables false
set_option maxRecDepth 100000
set_option maxHeartbeats 4000000

def OwnU (N : Nat) (w : World) (v : Value) (l : List UInt64) : Prop := w.ownsRow N 29 1 v l.length (l.map uV)
theorem OwnU.sameB {N : Nat} {w w' : World} {v : Value} {l : List UInt64} (h : OwnU N w v l) (hb : ∀ g, v.ownBlock = some g → w'.heap[g]? = w.heap[g]?) : OwnU N w' v l := by
  refine ⟨h.1, ?_⟩
  rcases h.2 with q | ⟨g, cap, cur, e1, e2, e3, e4⟩
  · exact .inl q
  · exact .inr ⟨g, cap, cur, e1, e2, (hb g (by rw [e1]; rfl)).trans e3, e4⟩
theorem OwnU.below {N : Nat} {w w' : World} {v : Value} {l : List UInt64} (h : OwnU N w v l) (hb : Below w.heap.size w w') : OwnU N w' v l := h.sameB fun g hg => hb.block g (World.ownsRow.lt h g hg).2
theorem OwnU.num {N : Nat} {w : World} {v : Value} {l : List UInt64} (h : OwnU N w v l) : NumU w v l := by
  rcases h.2 with ⟨rfl, e0⟩ | ⟨g, cap, cur, rfl, e2, e3, e4, e5, e6, e7⟩
  · exact ⟨none, 0, by rw [e0], by omega, fun k hk => by omega⟩
  · refine ⟨_, cap, rfl, e4, fun k hk => ⟨g, 0, rfl, (Array.getElem?_eq_some_iff.1 e3).1, ?_⟩⟩
    have r : Row w g 29 cur := e3
    have hu : (l.map uV)[k]? = some (uV (l.getD k 0)) := by rw [List.getElem?_map, List.getElem?_eq_getElem hk, show l.getD k 0 = l[k] by simp [hk]]; rfl
    rw [Nat.zero_add, r.cell]
    rw [← e7, List.getElem?_take_of_lt (by omega)] at hu
    simpa using hu
theorem info29u : ∃ i, Try.prog.info? 29 = some i ∧ i.zero = some (.int .u64 0) ∧ i.size = 1 ∧ i.bytes = 8 := ⟨_, rfl, rfl, rfl, rfl⟩
theorem Try.under64 : Try.prog.underlying 64 = some (.slice 29) := by kernel_rfl
theorem wpList_appU {ops : Array Oper} {rest : List Oper} {o : Oper} {a : Act} {w : World} {Q : Exit → Act → World → Prop} (hgd : o.guard = none) (s x : Operand)
    (ho : o.op = .call { callee := .builtin .append, args := #[s, x], argTypes := #[64, 64] }) (N : Nat) (hN : N ≤ w.heap.size) (v : Value) (l : List UInt64) (y : UInt64) (hs : a.eval s = v) (hv : OwnU N w v l) (ad : Addr) (c : Nat) (hx : a.eval x = .slice (some ad) 1 c)
    (hc : w.cell? (ad.add 0) = some (uV y)) (hl : l.length + 1 ≤ 1048576)
    (h : ∀ v' w', OwnU N w' v' (l ++ [y]) → w.grownBy w' v.ownBlock → wpList Try.prog ops Q rest (a.put o.dst v') w') : wpList Try.prog ops Q (o :: rest) a w := by
  obtain ⟨i, h1, h2, h3, h4⟩ := info29u
  obtain ⟨v', w', hr, g2, g3, _⟩ := run_append_own (P := Try.prog) w N 64 o.type 29 i _ 1 8 Try.under64 h1 h2 h3 h4 rfl (by decide) v l.length (l.map uV) hv ad 1 c [uV y] rfl (fun j u hu => by
    cases j with
    | zero => simp at hu; rw [← hu]; exact hc
    | succ j => simp at hu) (by intro u hu; simp at hu; subst hu; rfl) (by unfold maxLen; omega) (by omega) hN
  have g2' : OwnU N w' v' (l ++ [y]) := by unfold OwnU; rw [List.length_append, List.map_append]; exact g2
  refine wpList_plain hgd fun K hK => ?_
  unfold Oper.wp execOp
  simp only [ho, resolve, invoke, builtin, Sem.run_bind, Sem.run_pure, Result.andThen_ok, List.map_toArray, List.map_cons, List.map_nil, hs, hx, hr]
  exact hK _ _ (h v' w' g2' g3)
theorem take_next (l : List Rw) (k : Nat) (h : k < l.length) : ((l.take (k + 1)).map (·.n)) = (l.take k).map (·.n) ++ [(l.getD k Rw.zero).n] := by rw [take_step l k h, List.map_append]; rfl
theorem hold_C : HoldRC 23 RecR := by
  intro w F p l h h0 h32
  obtain ⟨g, c, rfl, hne, hc, hr, hN, hR, _, _⟩ := h
  have th := rthere_any p l.length c _ w (hr.cell 0) h0
  have cp := hr.cell 0
  have CA := Box'.mk fun (wa : World) (hb : Below w.heap.size w wa) (k : Nat) (hk : k < l.length) => (hN.below hb).at k hk
  have HT := Box'.mk fun (k : Nat) (hk : k < l.length) => take_next l k hk
  have HA : Box' (l.take l.length = l) := ⟨List.take_length⟩
  clear hr hN hR
  generalize hL : l.length = n at *
  have HL : Box' (∀ k, ((l.take k).map (·.n)).length ≤ n) := ⟨fun k => by simp [hL]; omega⟩
  clear hL
  go_enter Try.func23, Try.ntmps23
  go_wp2_with fail
  refine th.mono ?_
  rintro e w2 ⟨rfl, ew⟩
  obtain rfl : w = w2 := ew.symm
  clear th ew
  go_wp2_with fail
  go_loopw [3, 14] (fun u i wr => ∃ k : Nat, i = .int .i64 (k : Int) ∧ k ≤ n ∧ Box' (OwnU w.heap.size wr u ((l.take k).map (·.n))) ∧ Box' (Below w.heap.size w wr)) (fun _ i _ => n - (intOf i).toNat)
  case atStart => exact ⟨0, rfl, Nat.zero_le _, ⟨World.ownsRow_nil _ _ _ _⟩, ⟨Below.refl _ _⟩⟩
  case round =>
    obtain ⟨k, rfl, hk, HO, HB⟩ := hrel
    by_cases hlt : k < n
    · obtain ⟨k1, k2⟩ := CA.out _ HB.out k hlt
      have HK := Box'.mk (HT.out k hlt)
      have HK2 : Box' (((l.take k).map (·.n)).length + 1 ≤ 1048576) := ⟨by
        have := HL.out k
        omega⟩
      clear CA HT HA
      generalize hy : (l.getD k Rw.zero).n = y at *
      generalize (l.getD k Rw.zero).t = ty at *
      generalize (l.take k).map (·.n) = ns at *
      clear hy
      obtain ⟨w3, hw3⟩ : ∃ w3, w3 = (wr.alloc (.cells #[.int .u64 (y.toNat : Int), .string ⟨ty.toArray⟩] 90)).alloc (.cells #[.int .u64 (y.toNat : Int)] 29) := ⟨_, rfl⟩
      have b3 : Below wr.heap.size wr w3 := by rw [hw3]; exact ((Below.refl _ _).alloc (Nat.le_refl _) _).alloc (by simp) _
      have O3 := Box'.mk (HO.out.below b3)
      have B3 := Box'.mk (HB.out.trans (b3.mono HB.out.size))
      have C3 : Box' (w3.cell? ((⟨wr.heap.size + 1, 0, none⟩ : Addr).add 0) = some (uV y)) := ⟨by rw [hw3, Addr.add_mid, Nat.zero_add]; exact (Row.made _ _ _ _ _ rfl (by simp)).cell 0⟩
      clear b3 HO HB
      go_wp2_with (rw [← hw3]
                   refine wpList_appU rfl (.tmp 18) (.tmp 21) rfl w.heap.size B3.out.size _ ns y rfl O3.out ⟨wr.heap.size + 1, 0, none⟩ _ rfl C3.out HK2.out ?_
                   intro v4 w4 o4 g4
                   have O4 := Box'.mk o4
                   have B4 : Box' (Below w.heap.size w w4) := ⟨B3.out.grown g4 B3.out.size (fun k hk => (World.ownsRow.lt O3.out k hk).1)⟩
                   clear o4 g4 hw3)
      exact ⟨⟨k + 1, by go_num, by omega, ⟨by rw [HK.out]; exact O4.out⟩, B4⟩, by simp [intOf]; omega⟩
    · obtain rfl : k = n := by omega
      have HV := Box'.mk HO.out.num
      rw [HA.out] at HV
      clear CA HT HL HO HA
      go_wp2_with fail
      go_ret
      exact ⟨_, rfl, HV.out, HB.out⟩
end Go.Proofs.Ytikkekdmahdgaaa
