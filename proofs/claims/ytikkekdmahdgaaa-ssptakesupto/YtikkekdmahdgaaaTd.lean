/- The program's Ack: what stands of a sender whose first states go. -/
import Derived.Test.YtikkekdmahdgaaaTc
namespace Go.Proofs.Ytikkekdmahdgaaa
open Go.RowKit Go.BigFrame
set_option linter.unusedSimpArgs false
set_option linter.unusedVariables false
set_option maxRecDepth 100000

theorem getD_drop (l : List Rw) (k j : Nat) : (l.drop k).getD j Rw.zero = l.getD (k + j) Rw.zero := by simp [List.getD_eq_getElem?_getD, List.getElem?_drop]
theorem lastR_drop (l : List Rw) (k : Nat) (h : k < l.length) : lastR (l.drop k) = lastR l := by
  unfold lastR
  rw [getD_drop, List.length_drop]
  congr 1
  omega
theorem GoodS.drop {s : Sd} (h : GoodS s) (k : Nat) (hk : k < s.l.length) : GoodS { s with l := s.l.drop k } := by
  have hl : (s.l.drop k).length = s.l.length - k := List.length_drop
  refine ⟨by simp only; omega, by have := h.len; simp only; omega, fun j hj => ?_, fun h1 => ?_, h.ord⟩
  · simp only at hj ⊢
    rw [getD_drop, getD_drop, h.seq (k + j) (by omega), h.seq (k + 0) (by omega)]
    omega
  · simp only at h1 ⊢
    rw [lastR_drop _ _ hk]
    exact h.tim (by omega)
theorem GoodS.fst_in {s : Sd} (h : GoodS s) {n : UInt64} (h1 : (s.l.getD 0 Rw.zero).n.toNat ≤ n.toNat) (h2 : n.toNat - (s.l.getD 0 Rw.zero).n.toNat < s.l.length) : fstAt n s.l = n.toNat - (s.l.getD 0 Rw.zero).n.toNat := by
  refine fstAt_eq n s.l _ h2 (UInt64.toNat_inj.1 ?_) (fun j hj e => ?_)
  · rw [h.seq _ h2]
    omega
  · have := h.seq j (by omega)
    rw [e] at this
    omega
theorem GoodS.fst_out {s : Sd} (h : GoodS s) {n : UInt64} (h1 : n.toNat < (s.l.getD 0 Rw.zero).n.toNat ∨ s.l.length ≤ n.toNat - (s.l.getD 0 Rw.zero).n.toNat) : fstAt n s.l = s.l.length := by
  refine fstAt_none n s.l fun j hj e => ?_
  have := h.seq j hj
  rw [e] at this
  omega
theorem GoodS.ack_in {s : Sd} (h : GoodS s) {n : UInt64} (h1 : (s.l.getD 0 Rw.zero).n.toNat ≤ n.toNat) (h2 : n.toNat - (s.l.getD 0 Rw.zero).n.toNat < s.l.length) : ackF s n = ({ s with l := s.l.drop (n.toNat - (s.l.getD 0 Rw.zero).n.toNat) }, 0) := by
  unfold ackF
  rw [h.fst_in h1 h2, if_pos h2]
theorem GoodS.ack_out {s : Sd} (h : GoodS s) {n : UInt64} (h1 : n.toNat < (s.l.getD 0 Rw.zero).n.toNat ∨ s.l.length ≤ n.toNat - (s.l.getD 0 Rw.zero).n.toNat) : ackF s n = (s, 230) := by
  unfold ackF
  rw [h.fst_out h1, if_neg (Nat.lt_irrefl _)]
theorem cut_texts (g n c k : Nat) (hk : k < n) (hc : n ≤ c) (w : World) : (Instr.sliceAt 76 (.slice (some ⟨g, 0, none⟩) n c) (some (.int .u64 (k : Int))) none none).run Try.prog w = .ok (.slice (some ⟨g, k, none⟩) (n - k) (c - k)) w := by
  rw [run_sliceAt_slice w 76 _ _ _ _ (by kernel_rfl), run_slice_l w 76 _ n c (by kernel_rfl) _ _ (by omega) (by omega), elem26, size26]
  simp only [Result.andThen_ok, Int.toNat_natCast, sliced, if_neg (show ¬ c = k by omega), Option.map_some, Addr.add_mid, Nat.zero_add, Nat.mul_one]
section
variable {C : World → Prop} {op : Oper} {a : Act} {K : Act → Prop}
theorem qC_cut76 (x lo : Operand) (ho : op.op = .slice 76 x (some lo) none none) (g n c k : Nat) (hx : a.eval x = .slice (some ⟨g, 0, none⟩) n c) (hl : a.eval lo = .int .u64 (k : Int)) (hk : k < n) (hc : n ≤ c) (hK : K (a.put op.dst (.slice (some ⟨g, k, none⟩) (n - k) (c - k)))) : op.quiet Try.prog a C K :=
  qC_of _ (fun w _ => by unfold execOp; simp only [ho, Option.map_some, Option.map_none, hx, hl, Sem.run_bind, cut_texts g n c k hk hc, Result.andThen_ok, Sem.run_pure]) hK
end
theorem ack_C : AckSC 11 SndR := by
  intro w F p s n h _ _
  have KP := fun (wz : World) (hb : Below w.heap.size w wz) => sndR_keep.below h hb
  obtain ⟨g, c, rfl, hne, hc, hr, ht, hG⟩ := h
  have th := there_any p s.l.length c _ w (hr.cell 1) hG.pos
  have hp := hG.pos
  have h32 := hG.len
  have FO : Box' (n.toNat < (s.l.getD 0 Rw.zero).n.toNat ∨ s.l.length ≤ n.toNat - (s.l.getD 0 Rw.zero).n.toNat → ∀ wz, Below w.heap.size w wz → ∃ F', Ending.returned (.int .i64 230) = .returned (.int .i64 (ackF s n).2) ∧ SndR wz F' p (ackF s n).1 ∧ Tch (fun k => k = p ∨ k = g) w wz ∧ ∀ k, F' k → (k = p ∨ k = g) ∨ w.heap.size ≤ k) := ⟨fun hh wz hb => by
    rw [hG.ack_out hh]
    exact ⟨_, rfl, KP wz hb, Tch.of hb, fun k hk => .inl hk⟩⟩
  have FI : Box' ((s.l.getD 0 Rw.zero).n.toNat ≤ n.toNat → n.toNat - (s.l.getD 0 Rw.zero).n.toNat < s.l.length → ∀ wa g' c', Below w.heap.size w wa → s.l.length - (n.toNat - (s.l.getD 0 Rw.zero).n.toNat) ≤ c' → w.heap.size ≤ g' → g' < wa.heap.size → (∀ j u, ((s.l.map fun x => sT x.t).drop (n.toNat - (s.l.getD 0 Rw.zero).n.toNat))[j]? = some u → wa.cell? ⟨g', j, none⟩ = some u) →
      Row wa p 78 (ssA s g c) ∧ ∃ F', Ending.returned (.int .i64 0) = .returned (.int .i64 (ackF s n).2) ∧ SndR ((wa.setCell ⟨p, 1, none⟩ (.slice (some ⟨g', 0, none⟩) (s.l.length - (n.toNat - (s.l.getD 0 Rw.zero).n.toNat)) c')).setCell ⟨p, 2, none⟩ (.int .u64 (n.toNat : Int))) F' p (ackF s n).1 ∧ Tch (fun k => k = p ∨ k = g) w ((wa.setCell ⟨p, 1, none⟩ (.slice (some ⟨g', 0, none⟩) (s.l.length - (n.toNat - (s.l.getD 0 Rw.zero).n.toNat)) c')).setCell ⟨p, 2, none⟩ (.int .u64 (n.toNat : Int))) ∧ ∀ k, F' k → (k = p ∨ k = g) ∨ w.heap.size ≤ k) := ⟨fun i1 i2 wa g' c' hb hc' hg' hl' hcs => by
    have hra := hr.below hb hr.lt
    have hpl := hr.lt
    rw [hG.ack_in i1 i2]
    refine ⟨hra, _, rfl, ⟨g', c', rfl, by omega, by simp only [List.length_drop]; exact hc', ?_, ?_, hG.drop _ i2⟩, ((Tch.of hb).set ⟨p, 1, none⟩ _ (.inl (.inl rfl))).set ⟨p, 2, none⟩ _ (.inl (.inl rfl)), ?_⟩
    · have q := (hra.setCell 1 (.slice (some ⟨g', 0, none⟩) (s.l.length - (n.toNat - (s.l.getD 0 Rw.zero).n.toNat)) c')).setCell 2 (.int .u64 (n.toNat : Int))
      have e : ((s.l.drop (n.toNat - (s.l.getD 0 Rw.zero).n.toNat)).getD 0 Rw.zero).n = n := by
        rw [getD_drop, Nat.add_zero]
        refine UInt64.toNat_inj.1 ?_
        rw [hG.seq _ i2]
        omega
      unfold ssA uV at *
      simp only [e, List.length_drop]
      exact q
    · refine (TxR.set (g := g') ⟨hl', fun j u hu => hcs j u ?_⟩ ⟨p, 1, none⟩ _ (by show g' ≠ p; omega)).set ⟨p, 2, none⟩ _ (by show g' ≠ p; omega)
      simpa [List.map_drop, Function.comp_def] using hu
    · rintro k (rfl | rfl)
      · exact .inl (.inl rfl)
      · exact .inr hg'⟩
  have CL := Box'.mk fun (k : Nat) (hk : k < s.l.length) (wa : World) (hb : Below w.heap.size w wa) => clone26_any g k (s.l.length - k) (c - k) ((s.l.map fun x => sT x.t).drop k) wa (by simp) (fun j u hu => (ht.below hb).2 (k + j) u (by simpa [List.getElem?_drop] using hu)) (Nat.lt_of_lt_of_le ht.1 hb.size) (by omega) (by omega)
  have C1 : Box' (∀ wa : World, Below w.heap.size w wa → wa.cell? ⟨p, 1, none⟩ = some (.slice (some ⟨g, 0, none⟩) s.l.length c)) := ⟨fun wa e => (hr.below e hr.lt).cell 1⟩
  have C2 : Box' (∀ wa : World, Below w.heap.size w wa → wa.cell? ⟨p, 2, none⟩ = some (.int .u64 ((s.l.getD 0 Rw.zero).n.toNat : Int))) := ⟨fun wa e => (hr.below e hr.lt).cell 2⟩
  have hn := n.toNat_lt
  clear KP hr ht hG
  unfold uV
  generalize n.toNat = m at *
  generalize (s.l.getD 0 Rw.zero).n.toNat = f0 at *
  generalize s.l.length = len at *
  go_enter Try.func11, Try.ntmps11
  go_wp2_with fail
  refine th.mono ?_
  rintro e w1 ⟨rfl, rfl⟩
  clear th
  go_upto_region 3 with (fail)
  by_cases h1 : m < f0
  · refine wp_region_lex (fun wa => Below w1.heap.size w1 wa) (by kernel_rfl) (by kernel_rfl) (Below.refl _ _).drew ?_
    go_big_quiet_want
    go_big_quiet_op
    first | go_big_quiet_on | (refine ⟨_, fun _ _ => rfl, ?_⟩; go_big_quiet_on) | (refine ⟨_, fun _ _ _ => rfl, ?_⟩; go_big_quiet_on)
    go_big_quiet_want
    go_big_quiet_op
    first | go_big_quiet_on | (refine ⟨_, fun _ _ => rfl, ?_⟩; go_big_quiet_on) | (refine ⟨_, fun _ _ _ => rfl, ?_⟩; go_big_quiet_on)
    go_big_quiet_want
    go_big_quiet_op
    first | go_big_quiet_on | (refine ⟨_, fun _ _ => rfl, ?_⟩; go_big_quiet_on) | (refine ⟨_, fun _ _ _ => rfl, ?_⟩; go_big_quiet_on)
    go_big_quiet_want
    go_big_quiet_op
    first | go_big_quiet_on | (refine ⟨_, fun _ _ => rfl, ?_⟩; go_big_quiet_on) | (refine ⟨_, fun _ _ _ => rfl, ?_⟩; go_big_quiet_on)
    go_big_quiet_want
    refine qC_load29 (.tmp 11) rfl p 2 _ rfl C2.out ?_
    simp only [Act.put, List.setIfInBounds_toArray, List.set_cons_succ, List.set_cons_zero]
    go_big_quiet_on
    go_big_quiet_want
    refine qC_of (.bool true) (fun wq hC => by unfold execOp; simp [go_sem, IntKind.wrap_u64] <;> omega) ?_
    simp only [Act.put, List.setIfInBounds_toArray, List.set_cons_succ, List.set_cons_zero]
    go_big_quiet_on
    go_big_quiet_want
    go_big_quiet_op
    first | go_big_quiet_on | (refine ⟨_, fun _ _ => rfl, ?_⟩; go_big_quiet_on) | (refine ⟨_, fun _ _ _ => rfl, ?_⟩; go_big_quiet_on)
    go_big_quiet_skip
    go_big_quiet_skip
    go_big_quiet_skip
    go_big_quiet_skip
    go_big_quiet_skip
    go_big_quiet_skip
    go_big_quiet_skip
    go_big_quiet_skip
    go_big_quiet_skip
    go_big_quiet_skip
    go_big_quiet_skip
    go_big_quiet_skip
    go_big_quiet_skip
    go_big_quiet_want
    go_big_quiet_op
    first | go_big_quiet_on | (refine ⟨_, fun _ _ => rfl, ?_⟩; go_big_quiet_on) | (refine ⟨_, fun _ _ _ => rfl, ?_⟩; go_big_quiet_on)
    refine wpQuiet_nil ?_
    rintro wz bz
    clear C1 C2 CL FI
    go_wp2_with fail
    go_ret
    exact FO.out (by omega) wz bz
  by_cases h2 : len ≤ m - f0
  · refine wp_region_lex (fun wa => Below w1.heap.size w1 wa) (by kernel_rfl) (by kernel_rfl) (Below.refl _ _).drew ?_
    go_big_quiet_want
    go_big_quiet_op
    first | go_big_quiet_on | (refine ⟨_, fun _ _ => rfl, ?_⟩; go_big_quiet_on) | (refine ⟨_, fun _ _ _ => rfl, ?_⟩; go_big_quiet_on)
    go_big_quiet_want
    go_big_quiet_op
    first | go_big_quiet_on | (refine ⟨_, fun _ _ => rfl, ?_⟩; go_big_quiet_on) | (refine ⟨_, fun _ _ _ => rfl, ?_⟩; go_big_quiet_on)
    go_big_quiet_want
    go_big_quiet_op
    first | go_big_quiet_on | (refine ⟨_, fun _ _ => rfl, ?_⟩; go_big_quiet_on) | (refine ⟨_, fun _ _ _ => rfl, ?_⟩; go_big_quiet_on)
    go_big_quiet_want
    go_big_quiet_op
    first | go_big_quiet_on | (refine ⟨_, fun _ _ => rfl, ?_⟩; go_big_quiet_on) | (refine ⟨_, fun _ _ _ => rfl, ?_⟩; go_big_quiet_on)
    go_big_quiet_want
    refine qC_load29 (.tmp 11) rfl p 2 _ rfl C2.out ?_
    simp only [Act.put, List.setIfInBounds_toArray, List.set_cons_succ, List.set_cons_zero]
    go_big_quiet_on
    go_big_quiet_want
    refine qC_of (.bool false) (fun wq hC => by unfold execOp; simp [go_sem, IntKind.wrap_u64] <;> omega) ?_
    simp only [Act.put, List.setIfInBounds_toArray, List.set_cons_succ, List.set_cons_zero]
    go_big_quiet_on
    go_big_quiet_want
    go_big_quiet_op
    first | go_big_quiet_on | (refine ⟨_, fun _ _ => rfl, ?_⟩; go_big_quiet_on) | (refine ⟨_, fun _ _ _ => rfl, ?_⟩; go_big_quiet_on)
    go_big_quiet_want
    go_big_quiet_op
    first | go_big_quiet_on | (refine ⟨_, fun _ _ => rfl, ?_⟩; go_big_quiet_on) | (refine ⟨_, fun _ _ _ => rfl, ?_⟩; go_big_quiet_on)
    go_big_quiet_want
    go_big_quiet_op
    first | go_big_quiet_on | (refine ⟨_, fun _ _ => rfl, ?_⟩; go_big_quiet_on) | (refine ⟨_, fun _ _ _ => rfl, ?_⟩; go_big_quiet_on)
    go_big_quiet_want
    go_big_quiet_op
    first | go_big_quiet_on | (refine ⟨_, fun _ _ => rfl, ?_⟩; go_big_quiet_on) | (refine ⟨_, fun _ _ _ => rfl, ?_⟩; go_big_quiet_on)
    go_big_quiet_want
    go_big_quiet_op
    first | go_big_quiet_on | (refine ⟨_, fun _ _ => rfl, ?_⟩; go_big_quiet_on) | (refine ⟨_, fun _ _ _ => rfl, ?_⟩; go_big_quiet_on)
    go_big_quiet_want
    refine qC_load29 (.tmp 18) rfl p 2 _ rfl C2.out ?_
    simp only [Act.put, List.setIfInBounds_toArray, List.set_cons_succ, List.set_cons_zero]
    go_big_quiet_on
    go_big_quiet_want
    refine qC_of (.int .u64 ((m - f0 : Nat) : Int)) (fun wq hC => by unfold execOp; simp [go_sem, IntKind.wrap_u64]; omega) ?_
    simp only [Act.put, List.setIfInBounds_toArray, List.set_cons_succ, List.set_cons_zero]
    go_big_quiet_on
    go_big_quiet_want
    go_big_quiet_op
    first | go_big_quiet_on | (refine ⟨_, fun _ _ => rfl, ?_⟩; go_big_quiet_on) | (refine ⟨_, fun _ _ _ => rfl, ?_⟩; go_big_quiet_on)
    go_big_quiet_want
    go_big_quiet_op
    first | go_big_quiet_on | (refine ⟨_, fun _ _ => rfl, ?_⟩; go_big_quiet_on) | (refine ⟨_, fun _ _ _ => rfl, ?_⟩; go_big_quiet_on)
    go_big_quiet_want
    go_big_quiet_op
    first | go_big_quiet_on | (refine ⟨_, fun _ _ => rfl, ?_⟩; go_big_quiet_on) | (refine ⟨_, fun _ _ _ => rfl, ?_⟩; go_big_quiet_on)
    go_big_quiet_want
    refine qC_load76 (.tmp 23) rfl p 1 _ rfl C1.out ?_
    simp only [Act.put, List.setIfInBounds_toArray, List.set_cons_succ, List.set_cons_zero]
    go_big_quiet_on
    go_big_quiet_want
    go_big_quiet_op
    first | go_big_quiet_on | (refine ⟨_, fun _ _ => rfl, ?_⟩; go_big_quiet_on) | (refine ⟨_, fun _ _ _ => rfl, ?_⟩; go_big_quiet_on)
    go_big_quiet_want
    refine qC_of (.int .u64 ((len : Nat) : Int)) (fun wq hC => by unfold execOp; simp [go_sem, IntKind.wrap_u64]; omega) ?_
    simp only [Act.put, List.setIfInBounds_toArray, List.set_cons_succ, List.set_cons_zero]
    go_big_quiet_on
    go_big_quiet_want
    refine qC_of (.bool true) (fun wq hC => by unfold execOp; simp [go_sem, IntKind.wrap_u64] <;> omega) ?_
    simp only [Act.put, List.setIfInBounds_toArray, List.set_cons_succ, List.set_cons_zero]
    go_big_quiet_on
    go_big_quiet_want
    go_big_quiet_op
    first | go_big_quiet_on | (refine ⟨_, fun _ _ => rfl, ?_⟩; go_big_quiet_on) | (refine ⟨_, fun _ _ _ => rfl, ?_⟩; go_big_quiet_on)
    refine wpQuiet_nil ?_
    rintro wz bz
    clear C1 C2 CL FI
    go_wp2_with fail
    go_ret
    exact FO.out (by omega) wz bz
  refine wp_region_lex (fun wa => Below w1.heap.size w1 wa) (by kernel_rfl) (by kernel_rfl) (Below.refl _ _).drew ?_
  go_big_quiet_want
  go_big_quiet_op
  first | go_big_quiet_on | (refine ⟨_, fun _ _ => rfl, ?_⟩; go_big_quiet_on) | (refine ⟨_, fun _ _ _ => rfl, ?_⟩; go_big_quiet_on)
  go_big_quiet_want
  go_big_quiet_op
  first | go_big_quiet_on | (refine ⟨_, fun _ _ => rfl, ?_⟩; go_big_quiet_on) | (refine ⟨_, fun _ _ _ => rfl, ?_⟩; go_big_quiet_on)
  go_big_quiet_want
  go_big_quiet_op
  first | go_big_quiet_on | (refine ⟨_, fun _ _ => rfl, ?_⟩; go_big_quiet_on) | (refine ⟨_, fun _ _ _ => rfl, ?_⟩; go_big_quiet_on)
  go_big_quiet_want
  go_big_quiet_op
  first | go_big_quiet_on | (refine ⟨_, fun _ _ => rfl, ?_⟩; go_big_quiet_on) | (refine ⟨_, fun _ _ _ => rfl, ?_⟩; go_big_quiet_on)
  go_big_quiet_want
  refine qC_load29 (.tmp 11) rfl p 2 _ rfl C2.out ?_
  simp only [Act.put, List.setIfInBounds_toArray, List.set_cons_succ, List.set_cons_zero]
  go_big_quiet_on
  go_big_quiet_want
  refine qC_of (.bool false) (fun wq hC => by unfold execOp; simp [go_sem, IntKind.wrap_u64] <;> omega) ?_
  simp only [Act.put, List.setIfInBounds_toArray, List.set_cons_succ, List.set_cons_zero]
  go_big_quiet_on
  go_big_quiet_want
  go_big_quiet_op
  first | go_big_quiet_on | (refine ⟨_, fun _ _ => rfl, ?_⟩; go_big_quiet_on) | (refine ⟨_, fun _ _ _ => rfl, ?_⟩; go_big_quiet_on)
  go_big_quiet_want
  go_big_quiet_op
  first | go_big_quiet_on | (refine ⟨_, fun _ _ => rfl, ?_⟩; go_big_quiet_on) | (refine ⟨_, fun _ _ _ => rfl, ?_⟩; go_big_quiet_on)
  go_big_quiet_want
  go_big_quiet_op
  first | go_big_quiet_on | (refine ⟨_, fun _ _ => rfl, ?_⟩; go_big_quiet_on) | (refine ⟨_, fun _ _ _ => rfl, ?_⟩; go_big_quiet_on)
  go_big_quiet_want
  go_big_quiet_op
  first | go_big_quiet_on | (refine ⟨_, fun _ _ => rfl, ?_⟩; go_big_quiet_on) | (refine ⟨_, fun _ _ _ => rfl, ?_⟩; go_big_quiet_on)
  go_big_quiet_want
  go_big_quiet_op
  first | go_big_quiet_on | (refine ⟨_, fun _ _ => rfl, ?_⟩; go_big_quiet_on) | (refine ⟨_, fun _ _ _ => rfl, ?_⟩; go_big_quiet_on)
  go_big_quiet_want
  refine qC_load29 (.tmp 18) rfl p 2 _ rfl C2.out ?_
  simp only [Act.put, List.setIfInBounds_toArray, List.set_cons_succ, List.set_cons_zero]
  go_big_quiet_on
  go_big_quiet_want
  refine qC_of (.int .u64 ((m - f0 : Nat) : Int)) (fun wq hC => by unfold execOp; simp [go_sem, IntKind.wrap_u64]; omega) ?_
  simp only [Act.put, List.setIfInBounds_toArray, List.set_cons_succ, List.set_cons_zero]
  go_big_quiet_on
  go_big_quiet_want
  go_big_quiet_op
  first | go_big_quiet_on | (refine ⟨_, fun _ _ => rfl, ?_⟩; go_big_quiet_on) | (refine ⟨_, fun _ _ _ => rfl, ?_⟩; go_big_quiet_on)
  go_big_quiet_want
  go_big_quiet_op
  first | go_big_quiet_on | (refine ⟨_, fun _ _ => rfl, ?_⟩; go_big_quiet_on) | (refine ⟨_, fun _ _ _ => rfl, ?_⟩; go_big_quiet_on)
  go_big_quiet_want
  go_big_quiet_op
  first | go_big_quiet_on | (refine ⟨_, fun _ _ => rfl, ?_⟩; go_big_quiet_on) | (refine ⟨_, fun _ _ _ => rfl, ?_⟩; go_big_quiet_on)
  go_big_quiet_want
  refine qC_load76 (.tmp 23) rfl p 1 _ rfl C1.out ?_
  simp only [Act.put, List.setIfInBounds_toArray, List.set_cons_succ, List.set_cons_zero]
  go_big_quiet_on
  go_big_quiet_want
  go_big_quiet_op
  first | go_big_quiet_on | (refine ⟨_, fun _ _ => rfl, ?_⟩; go_big_quiet_on) | (refine ⟨_, fun _ _ _ => rfl, ?_⟩; go_big_quiet_on)
  go_big_quiet_want
  refine qC_of (.int .u64 ((len : Nat) : Int)) (fun wq hC => by unfold execOp; simp [go_sem, IntKind.wrap_u64]; omega) ?_
  simp only [Act.put, List.setIfInBounds_toArray, List.set_cons_succ, List.set_cons_zero]
  go_big_quiet_on
  go_big_quiet_want
  refine qC_of (.bool false) (fun wq hC => by unfold execOp; simp [go_sem, IntKind.wrap_u64] <;> omega) ?_
  simp only [Act.put, List.setIfInBounds_toArray, List.set_cons_succ, List.set_cons_zero]
  go_big_quiet_on
  go_big_quiet_want
  go_big_quiet_op
  first | go_big_quiet_on | (refine ⟨_, fun _ _ => rfl, ?_⟩; go_big_quiet_on) | (refine ⟨_, fun _ _ _ => rfl, ?_⟩; go_big_quiet_on)
  refine wpQuiet_nil ?_
  rintro wz bz
  obtain ⟨k, HK⟩ : ∃ k, Box' (m = f0 + k) := ⟨m - f0, ⟨by omega⟩⟩
  have FI' := FI.out (by omega) (by have := HK.out; omega)
  have ek : m - f0 = k := by have := HK.out; omega
  have hk : k < len := by omega
  rw [ek] at FI'
  clear ek FO FI h2
  go_upto_region 5 with (fail)
  refine wp_region_grow 15 (by kernel_rfl) (by kernel_rfl) (fun wa wb => Below wa.heap.size wa wb) (fun wa => Below wz.heap.size wz wa) (fun kc wa v => match kc with
    | 0 => v = .pointer (some ⟨p, 0, none⟩)
    | 1 => v = .pointer (some ⟨p, 0, none⟩)
    | 2 => v = .pointer (some ⟨p, 0, none⟩)
    | 3 => v = .pointer (some ⟨p, 1, none⟩)
    | 4 => v = .slice (some ⟨g, 0, none⟩) len c
    | 5 => v = .int .u64 (m : Int)
    | 6 => v = .pointer (some ⟨p, 0, none⟩)
    | 7 => v = .pointer (some ⟨p, 0, none⟩)
    | 8 => v = .pointer (some ⟨p, 2, none⟩)
    | 9 => v = .int .u64 (f0 : Int)
    | 10 => v = .int .u64 (k : Int)
    | 11 => v = .slice (some ⟨g, k, none⟩) (len - k) (c - k)
    | 12 => ∃ g' c', v = .slice (some ⟨g', 0, none⟩) (len - k) c' ∧ len - k ≤ c' ∧ w1.heap.size ≤ g' ∧ g' < wa.heap.size ∧ ∀ j u, ((s.l.map fun x => sT x.t).drop k)[j]? = some u → wa.cell? ⟨g', j, none⟩ = some u
    | 13 => v = .pointer (some ⟨p, 0, none⟩)
    | 14 => v = .pointer (some ⟨p, 1, none⟩)
    | _ => True) ?_ ?_ ?_ ?_ ?_
  · intro wa wb hb q; exact q.trans (hb.mono q.size)
  · intro kc v wa wb hC1 hb h
    match kc, h with
    | 0, h => exact h
    | 1, h => exact h
    | 2, h => exact h
    | 3, h => exact h
    | 4, h => exact h
    | 5, h => exact h
    | 6, h => exact h
    | 7, h => exact h
    | 8, h => exact h
    | 9, h => exact h
    | 10, h => exact h
    | 11, h => exact h
    | 12, h => exact let ⟨g', c', e1, e2, e3, e4, e5⟩ := h; ⟨g', c', e1, e2, e3, Nat.lt_of_lt_of_le e4 hb.size, fun j u hu => (hb.cell (p := ⟨g', j, none⟩) e4).trans (e5 j u hu)⟩
    | 13, h => exact h
    | 14, h => exact h
    | kc + 15, h => trivial
  · exact (Below.refl _ _).drew
  · refine ⟨?_, ?_, ?_, ?_, ?_, ?_, ?_, ?_, ?_, ?_, ?_, ?_, ?_, ?_, ?_, trivial⟩
    · intro f wq hC hd KK hK
      simp only [List.take_succ_cons, List.take_zero, setAll, List.setIfInBounds_toArray, List.set_cons_succ, List.set_cons_zero, Nat.zero_add, Nat.reduceAdd] at hK ⊢
      refine wp_of_quiet rfl ?_
      go_big_quiet_step (fail)
      exact wpQuiet_nil (hK _ _ rfl (Below.refl _ _))
    · intro f wq hC hd KK hK
      simp only [List.take_succ_cons, List.take_zero, setAll, List.setIfInBounds_toArray, List.set_cons_succ, List.set_cons_zero, Nat.zero_add, Nat.reduceAdd] at hK ⊢
      refine wp_of_quiet rfl ?_
      go_big_quiet_step (fail)
      exact wpQuiet_nil (hK _ _ rfl (Below.refl _ _))
    · intro f wq hC hd KK hK
      have g1 : f 1 = .pointer (some ⟨p, 0, none⟩) := hd 1 (by kernel_rfl)
      simp only [List.take_succ_cons, List.take_zero, setAll, List.setIfInBounds_toArray, List.set_cons_succ, List.set_cons_zero, Nat.zero_add, Nat.reduceAdd, g1] at hK ⊢
      refine wp_of_quiet rfl ?_
      go_big_quiet_step (fail)
      exact wpQuiet_nil (hK _ _ rfl (Below.refl _ _))
    · intro f wq hC hd KK hK
      have g2 : f 2 = .pointer (some ⟨p, 0, none⟩) := hd 2 (by kernel_rfl)
      simp only [List.take_succ_cons, List.take_zero, setAll, List.setIfInBounds_toArray, List.set_cons_succ, List.set_cons_zero, Nat.zero_add, Nat.reduceAdd, g2] at hK ⊢
      refine wp_of_quiet rfl ?_
      go_big_quiet_step (fail)
      exact wpQuiet_nil (hK _ _ rfl (Below.refl _ _))
    · intro f wq hC hd KK hK
      have g3 : f 3 = .pointer (some ⟨p, 1, none⟩) := hd 3 (by kernel_rfl)
      have cx := C1.out wq (bz.trans (hC.mono bz.size))
      simp only [List.take_succ_cons, List.take_zero, setAll, List.setIfInBounds_toArray, List.set_cons_succ, List.set_cons_zero, Nat.zero_add, Nat.reduceAdd, g3] at hK ⊢
      refine wp_of_quiet rfl ?_
      go_big_quiet_step (fail)
      exact wpQuiet_nil (hK _ _ rfl (Below.refl _ _))
    · intro f wq hC hd KK hK
      simp only [List.take_succ_cons, List.take_zero, setAll, List.setIfInBounds_toArray, List.set_cons_succ, List.set_cons_zero, Nat.zero_add, Nat.reduceAdd] at hK ⊢
      refine wp_of_quiet rfl ?_
      go_big_quiet_step (fail)
      exact wpQuiet_nil (hK _ _ rfl (Below.refl _ _))
    · intro f wq hC hd KK hK
      simp only [List.take_succ_cons, List.take_zero, setAll, List.setIfInBounds_toArray, List.set_cons_succ, List.set_cons_zero, Nat.zero_add, Nat.reduceAdd] at hK ⊢
      refine wp_of_quiet rfl ?_
      go_big_quiet_step (fail)
      exact wpQuiet_nil (hK _ _ rfl (Below.refl _ _))
    · intro f wq hC hd KK hK
      have g6 : f 6 = .pointer (some ⟨p, 0, none⟩) := hd 6 (by kernel_rfl)
      simp only [List.take_succ_cons, List.take_zero, setAll, List.setIfInBounds_toArray, List.set_cons_succ, List.set_cons_zero, Nat.zero_add, Nat.reduceAdd, g6] at hK ⊢
      refine wp_of_quiet rfl ?_
      go_big_quiet_step (fail)
      exact wpQuiet_nil (hK _ _ rfl (Below.refl _ _))
    · intro f wq hC hd KK hK
      have g7 : f 7 = .pointer (some ⟨p, 0, none⟩) := hd 7 (by kernel_rfl)
      simp only [List.take_succ_cons, List.take_zero, setAll, List.setIfInBounds_toArray, List.set_cons_succ, List.set_cons_zero, Nat.zero_add, Nat.reduceAdd, g7] at hK ⊢
      refine wp_of_quiet rfl ?_
      go_big_quiet_step (fail)
      exact wpQuiet_nil (hK _ _ rfl (Below.refl _ _))
    · intro f wq hC hd KK hK
      have g8 : f 8 = .pointer (some ⟨p, 2, none⟩) := hd 8 (by kernel_rfl)
      have cx := C2.out wq (bz.trans (hC.mono bz.size))
      simp only [List.take_succ_cons, List.take_zero, setAll, List.setIfInBounds_toArray, List.set_cons_succ, List.set_cons_zero, Nat.zero_add, Nat.reduceAdd, g8] at hK ⊢
      refine wp_of_quiet rfl ?_
      go_big_quiet_step (fail)
      exact wpQuiet_nil (hK _ _ rfl (Below.refl _ _))
    · intro f wq hC hd KK hK
      have g5 : f 5 = .int .u64 (m : Int) := hd 5 (by kernel_rfl)
      have g9 : f 9 = .int .u64 (f0 : Int) := hd 9 (by kernel_rfl)
      simp only [List.take_succ_cons, List.take_zero, setAll, List.setIfInBounds_toArray, List.set_cons_succ, List.set_cons_zero, Nat.zero_add, Nat.reduceAdd, g5, g9] at hK ⊢
      refine wp_of_quiet rfl ?_
      go_big_quiet_want
      refine qC_of (.int .u64 (k : Int)) (fun wq _ => by have hkk := HK.out; unfold execOp; simp [go_sem, IntKind.wrap_u64]; omega) ?_
      simp only [Act.put, List.setIfInBounds_toArray, List.set_cons_succ, List.set_cons_zero]
      go_big_quiet_on
      exact wpQuiet_nil (hK _ _ rfl (Below.refl _ _))
    · intro f wq hC hd KK hK
      have g4 : f 4 = .slice (some ⟨g, 0, none⟩) len c := hd 4 (by kernel_rfl)
      have g10 : f 10 = .int .u64 (k : Int) := hd 10 (by kernel_rfl)
      simp only [List.take_succ_cons, List.take_zero, setAll, List.setIfInBounds_toArray, List.set_cons_succ, List.set_cons_zero, Nat.zero_add, Nat.reduceAdd, g4, g10] at hK ⊢
      refine wp_of_quiet rfl ?_
      go_big_quiet_want
      refine qC_cut76 (.tmp 33) (.tmp 39) rfl g len c k rfl rfl hk hc ?_
      simp only [Act.put, List.setIfInBounds_toArray, List.set_cons_succ, List.set_cons_zero]
      go_big_quiet_on
      exact wpQuiet_nil (hK _ _ rfl (Below.refl _ _))
    · intro f wq hC hd KK hK
      have g11 : f 11 = .slice (some ⟨g, k, none⟩) (len - k) (c - k) := hd 11 (by kernel_rfl)
      simp only [List.take_succ_cons, List.take_zero, setAll, List.setIfInBounds_toArray, List.set_cons_succ, List.set_cons_zero, Nat.zero_add, Nat.reduceAdd, g11] at hK ⊢
      have cl := CL.out k hk wq (bz.trans (hC.mono bz.size))
      refine wp_callE 26 #[.slice (some ⟨g, k, none⟩) (len - k) (c - k)] (by simp [go_sem]) (fun v wb => ∃ g' c', v = .slice (some ⟨g', 0, none⟩) (len - k) c' ∧ len - k ≤ c' ∧ wq.heap.size ≤ g' ∧ g' < wb.heap.size ∧ Below wq.heap.size wq wb ∧ ∀ j u, ((s.l.map fun x => sT x.t).drop k)[j]? = some u → wb.cell? ⟨g', j, none⟩ = some u) (cl.mono ?_) ?_
      · rintro e wb ⟨g', c', rfl, q⟩
        exact ⟨_, rfl, g', c', rfl, q⟩
      · rintro v wb ⟨g', c', rfl, q1, q2, q3, q4, q5⟩
        exact hK _ _ ⟨g', c', rfl, q1, by have := hC.size; have := bz.size; omega, q3, q5⟩ q4
    · intro f wq hC hd KK hK
      have g0 : f 0 = .pointer (some ⟨p, 0, none⟩) := hd 0 (by kernel_rfl)
      simp only [List.take_succ_cons, List.take_zero, setAll, List.setIfInBounds_toArray, List.set_cons_succ, List.set_cons_zero, Nat.zero_add, Nat.reduceAdd, g0] at hK ⊢
      refine wp_of_quiet rfl ?_
      go_big_quiet_step (fail)
      exact wpQuiet_nil (hK _ _ rfl (Below.refl _ _))
    · intro f wq hC hd KK hK
      have g13 : f 13 = .pointer (some ⟨p, 0, none⟩) := hd 13 (by kernel_rfl)
      simp only [List.take_succ_cons, List.take_zero, setAll, List.setIfInBounds_toArray, List.set_cons_succ, List.set_cons_zero, Nat.zero_add, Nat.reduceAdd, g13] at hK ⊢
      refine wp_of_quiet rfl ?_
      go_big_quiet_step (fail)
      exact wpQuiet_nil (hK _ _ rfl (Below.refl _ _))
  intro f wq hC hv
  have g0 : f 0 = .pointer (some ⟨p, 0, none⟩) := hv 0 (by decide)
  have g1 : f 1 = .pointer (some ⟨p, 0, none⟩) := hv 1 (by decide)
  have g2 : f 2 = .pointer (some ⟨p, 0, none⟩) := hv 2 (by decide)
  have g3 : f 3 = .pointer (some ⟨p, 1, none⟩) := hv 3 (by decide)
  have g4 : f 4 = .slice (some ⟨g, 0, none⟩) len c := hv 4 (by decide)
  have g5 : f 5 = .int .u64 (m : Int) := hv 5 (by decide)
  have g6 : f 6 = .pointer (some ⟨p, 0, none⟩) := hv 6 (by decide)
  have g7 : f 7 = .pointer (some ⟨p, 0, none⟩) := hv 7 (by decide)
  have g8 : f 8 = .pointer (some ⟨p, 2, none⟩) := hv 8 (by decide)
  have g9 : f 9 = .int .u64 (f0 : Int) := hv 9 (by decide)
  have g10 : f 10 = .int .u64 (k : Int) := hv 10 (by decide)
  have g11 : f 11 = .slice (some ⟨g, k, none⟩) (len - k) (c - k) := hv 11 (by decide)
  have g13 : f 13 = .pointer (some ⟨p, 0, none⟩) := hv 13 (by decide)
  have g14 : f 14 = .pointer (some ⟨p, 1, none⟩) := hv 14 (by decide)
  obtain ⟨g', c', e12, k1, k2, k3, k4⟩ : ∃ g' c', f 12 = .slice (some ⟨g', 0, none⟩) (len - k) c' ∧ len - k ≤ c' ∧ w1.heap.size ≤ g' ∧ g' < wq.heap.size ∧ ∀ j u, ((s.l.map fun x => sT x.t).drop k)[j]? = some u → wq.cell? ⟨g', j, none⟩ = some u := hv 12 (by decide)
  simp only [List.take_succ_cons, List.take_zero, List.drop_succ_cons, List.drop_zero, setAll, List.setIfInBounds_toArray, List.set_cons_succ, List.set_cons_zero, Nat.zero_add, Nat.reduceAdd, g0, g1, g2, g3, g4, g5, g6, g7, g8, g9, g10, g11, g13, g14, e12]
  clear g0 g1 g2 g3 g4 g5 g6 g7 g8 g9 g10 g11 g13 g14 hv e12
  obtain ⟨ra, q⟩ := FI' wq g' c' (bz.trans (hC.mono bz.size)) k1 k2 k3 k4
  have Q := Box'.mk q
  have c1 := ra.cell 1
  have f1 := ra.frozen 1
  have rb := ra.setCell 1 (.slice (some ⟨g', 0, none⟩) (len - k) c')
  have c2 := rb.cell 2
  have f2 := rb.frozen 2
  clear FI' k1 k2 k3 k4 hC q ra rb
  go_wp2_with fail
  go_ret
  exact Q.out
end Go.Proofs.Ytikkekdmahdgaaa
