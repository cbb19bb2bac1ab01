/- The reference's senders and receivers made; Ack; a number's place. -/
import Derived.Test.YtikkekdmahdgaaaRb
namespace Go.Proofs.Ytikkekdmahdgaaa
open Go.RowKit Go.BigFrame
set_option linter.unusedSimpArgs false
set_option linter.unusedVariables false

def newS (t : List UInt8) : Sd := ⟨t, [⟨0, t, 0⟩], false, 0, 0⟩
/-- The place of the first one that has the number n. -/
def fstAt (n : UInt64) : List Rw → Nat
  | [] => 0
  | x :: r => if x.n = n then 0 else fstAt n r + 1
theorem fstAt_eq (n : UInt64) : ∀ (l : List Rw) (k : Nat), k < l.length → (l.getD k Rw.zero).n = n → (∀ j, j < k → (l.getD j Rw.zero).n ≠ n) → fstAt n l = k
  | [], k, hk, _, _ => by simp at hk
  | x :: r, 0, _, h1, _ => by simp only [List.getD_cons_zero] at h1; simp [fstAt, h1]
  | x :: r, k + 1, hk, h1, h2 => by
    have h0 := h2 0 (by omega)
    simp only [List.getD_cons_zero] at h0
    have := fstAt_eq n r k (by simpa using hk) (by simpa using h1) (fun j hj => by simpa using h2 (j + 1) (by omega))
    simp [fstAt, h0, this]
theorem fstAt_none (n : UInt64) : ∀ (l : List Rw), (∀ j, j < l.length → (l.getD j Rw.zero).n ≠ n) → fstAt n l = l.length
  | [], _ => rfl
  | x :: r, h => by
    have h0 := h 0 (by simp)
    simp only [List.getD_cons_zero] at h0
    have := fstAt_none n r (fun j hj => by simpa using h (j + 1) (by simpa using hj))
    simp [fstAt, h0, this]
def ackF (s : Sd) (n : UInt64) : Sd × Int := if fstAt n s.l < s.l.length then ({ s with l := s.l.drop (fstAt n s.l) }, 0) else (s, 230)
theorem OwnR.empty (w : World) (N : Nat) (hN : N ≤ w.heap.size) : OwnR N (w.alloc (.cells #[] 50)) (.slice (some ⟨w.heap.size, 0, none⟩) 0 0) [] :=
  ⟨rfl, .inr ⟨w.heap.size, 0, #[], rfl, hN, heap_alloc_last w _, Nat.le_refl _, by unfold maxLen; omega, rfl, rfl⟩⟩
theorem OwnR.one (w : World) (N : Nat) (hN : N ≤ w.heap.size) (x : Rw) : OwnR N (w.alloc (.cells (rowsC [x]).toArray 50)) (.slice (some ⟨w.heap.size, 0, none⟩) 1 1) [x] :=
  ⟨rfl, .inr ⟨w.heap.size, 1, (rowsC [x]).toArray, rfl, hN, heap_alloc_last w _, Nat.le_refl _, by unfold maxLen; omega, rfl, by simp [rowsC, rC]⟩⟩
theorem grown_below {w w1 w4 : World} {n c : Nat} (h : w1.grownBy w4 (Value.slice (some ⟨w.heap.size, 0, none⟩) n c).ownBlock) (hb : Below w.heap.size w w1) : Below w.heap.size w w4 :=
  hb.trans ⟨h.os, h.tape, h.output, h.size, fun q hq => h.block q (Nat.lt_of_lt_of_le hq hb.size) (fun e => by
    have : w.heap.size = q := by simpa [Value.ownBlock] using e.symm
    omega)⟩
theorem elemR : Try.prog.elem 32 = 50 := by kernel_rfl
theorem sizeR (w : World) : (sizeOf 50).run Try.prog w = .ok 3 w := by
  obtain ⟨i, h1, _, h2, _⟩ := infoR
  simp [sizeOf, typeInfo, h1, h2]
theorem wpList_cut {ops : Array Oper} {rest : List Oper} {op : Oper} {a : Act} {w : World} {Q : Exit → Act → World → Prop} (hgd : op.guard = none) (t : TypeId) (x : Operand) (lo hi mx : Option Operand) (ho : op.op = .slice t x lo hi mx) (v : Value)
    (h : (Instr.sliceAt t (a.eval x) (lo.map a.eval) (hi.map a.eval) (mx.map a.eval)).run Try.prog w = .ok v w) (hk : wpList Try.prog ops Q rest (a.put op.dst v) w) : wpList Try.prog ops Q (op :: rest) a w := by
  refine wpList_plain hgd fun K hK => ?_
  unfold Oper.wp execOp
  simp only [ho, Sem.run_bind, h, Result.andThen_ok, Sem.run_pure]
  exact hK _ _ hk
/-- The states from the place k on. -/
theorem cut_rows (g n c k : Nat) (hk : k < n) (hc : n ≤ c) (w : World) : (Instr.sliceAt 32 (.slice (some ⟨g, 0, none⟩) n c) (some (.int .i64 (k : Int))) none none).run Try.prog w = .ok (.slice (some ⟨g, k * 3, none⟩) (n - k) (c - k)) w := by
  rw [run_sliceAt_slice w 32 _ _ _ _ (by kernel_rfl), run_slice_l w 32 _ n c (by kernel_rfl) _ _ (by omega) (by omega), elemR, sizeR]
  simp only [Result.andThen_ok, Int.toNat_natCast, sliced, if_neg (show ¬ c = k by omega), Option.map_some, Addr.add_mid, Nat.zero_add]
theorem SnR.put {w w1 : World} {p : Nat} {s : Sd} {v v' : Value} {l' : List Rw} (hr : Row w p 34 (sdA s v)) (hb : Below w.heap.size w w1) (ho : OwnR w.heap.size w1 v' l') (h1 : 0 < l'.length) (h2 : l'.length ≤ 32) :
    SnR (w1.setCell ⟨p, 1, none⟩ v') (fun k => k = p ∨ v'.ownBlock = some k) p { s with l := l' } ∧ Tch (fun k => k = p ∨ v.ownBlock = some k) w (w1.setCell ⟨p, 1, none⟩ v') ∧ ∀ k, (k = p ∨ v'.ownBlock = some k) → (k = p ∨ v.ownBlock = some k) ∨ w.heap.size ≤ k := by
  refine ⟨⟨v', rfl, (hr.below hb hr.lt).setCell 1 v', (ho.same fun g hg => Below.heap_setCell _ _ _ _ fun e => ?_).less (Nat.zero_le _), h1, h2⟩, (Tch.of hb).set _ _ (.inl (.inl rfl)), ?_⟩
  · have := (ho.lt g hg).1
    have := hr.lt
    have e' : g = p := e
    omega
  · rintro k (rfl | hk)
    · exact .inl (.inl rfl)
    · exact .inr (ho.lt k hk).1

set_option maxRecDepth 100000 in
theorem newSender_any (t : List UInt8) (w : World) : Calls Try.prog 9 #[sT t] w fun e w' => ∃ p F, e = .returned (.pointer (some ⟨p, 0, none⟩)) ∧ SnR w' F p (newS t) ∧ Below w.heap.size w w' ∧ ∀ k, F k → w.heap.size ≤ k := by
  have h1 := OwnR.one w w.heap.size (Nat.le_refl _) ⟨0, t, 0⟩
  have b1 : Below w.heap.size w (w.alloc (.cells (rowsC [⟨0, t, 0⟩]).toArray 50)) := (Below.refl _ _).alloc (Nat.le_refl _) _
  have z1 : (w.alloc (.cells (rowsC [⟨0, t, 0⟩]).toArray 50)).heap.size = w.heap.size + 1 := by simp
  have r2 := Row.new (w.alloc (.cells (rowsC [⟨0, t, 0⟩]).toArray 50)) 34 (sdA (newS t) (.slice (some ⟨w.heap.size, 0, none⟩) 1 1))
  have b2 : Below (w.alloc (.cells (rowsC [⟨0, t, 0⟩]).toArray 50)).heap.size (w.alloc (.cells (rowsC [⟨0, t, 0⟩]).toArray 50)) ((w.alloc (.cells (rowsC [⟨0, t, 0⟩]).toArray 50)).alloc (.cells (sdA (newS t) (.slice (some ⟨w.heap.size, 0, none⟩) 1 1)) 34)) := (Below.refl _ _).alloc (Nat.le_refl _) _
  have S : Box' (SnR ((w.alloc (.cells (rowsC [⟨0, t, 0⟩]).toArray 50)).alloc (.cells (sdA (newS t) (.slice (some ⟨w.heap.size, 0, none⟩) 1 1)) 34)) (fun k => k = w.heap.size + 1 ∨ (Value.slice (some ⟨w.heap.size, 0, none⟩) 1 1).ownBlock = some k) (w.heap.size + 1) (newS t)) := ⟨⟨_, rfl, by rw [← z1]; exact r2, (h1.below b2).less (Nat.zero_le _), by simp [newS], by simp [newS]⟩⟩
  have T := Box'.mk (b1.trans (b2.mono b1.size))
  have G : Box' (∀ k, (k = w.heap.size + 1 ∨ (Value.slice (some ⟨w.heap.size, 0, none⟩) 1 1).ownBlock = some k) → w.heap.size ≤ k) := ⟨fun k hk => by
    rcases hk with rfl | hk
    · omega
    · have : w.heap.size = k := by simpa [Value.ownBlock] using hk
      omega⟩
  clear h1 b1 z1 r2 b2
  have e1 : (rowsC [⟨0, t, 0⟩]).toArray = #[.int .u64 0, sT t, .int .u64 0] := rfl
  have e2 : sdA (newS t) (.slice (some ⟨w.heap.size, 0, none⟩) 1 1) = #[sT t, .slice (some ⟨w.heap.size, 0, none⟩) 1 1, .bool false, .int .u64 0, .int .u64 0] := rfl
  rw [e1, e2] at S T
  clear e1 e2
  unfold sT at S T ⊢
  go_enter Try.func9, Try.ntmps9
  go_wp2_with fail
  go_ret
  exact ⟨_, _, rfl, S.out, T.out, G.out⟩

set_option maxRecDepth 100000 in
set_option maxHeartbeats 4000000 in
theorem ack_any (w : World) (F : Nat → Prop) (p : Nat) (s : Sd) (n : UInt64) (h : SnR w F p s) : Calls Try.prog 12 #[.pointer (some ⟨p, 0, none⟩), uV n] w fun e w' => ∃ F', e = .returned (.int .i64 (ackF s n).2) ∧ SnR w' F' p (ackF s n).1 ∧ Tch F w w' ∧ ∀ k, F' k → F k ∨ w.heap.size ≤ k := by
  have H0 := Box'.mk h
  obtain ⟨v, rfl, hr, ho, hp, hm⟩ := h
  obtain ⟨g, c, rfl, hc, _, hg, hcl⟩ := ho.cells hp
  have AC := Box'.mk (ackF.eq_1 s n)
  have FE := Box'.mk (fstAt_eq n s.l)
  have FN := Box'.mk (fstAt_none n s.l)
  have CK : Box' (∀ k, k < s.l.length → w.cell? ⟨g, k * 3, none⟩ = some (.int .u64 ((s.l.getD k Rw.zero).n.toNat : Int))) := ⟨fun k hk => hcl _ _ (rowsC_at s.l k hk).1⟩
  have CD : Box' (∀ k, ∀ j u, (rowsC (s.l.drop k))[j]? = some u → w.cell? ((⟨g, k * 3, none⟩ : Addr).add j) = some u) := ⟨fun k j u hu => by
    rw [Addr.add_mid]
    refine hcl _ _ ?_
    rw [← rowsC_drop, List.getElem?_drop] at hu
    exact hu⟩
  have DL : Box' (∀ k, (s.l.drop k).length = s.l.length - k) := ⟨fun k => by simp⟩
  have c1 : w.cell? ⟨p, 1, none⟩ = some (.slice (some ⟨g, 0, none⟩) s.l.length c) := hr.cell 1
  have RR := Box'.mk hr
  have HG := Box'.mk hg
  clear hr ho hcl hg
  generalize hL : s.l.length = L at *
  have HL := Box'.mk hL
  clear hL
  unfold uV
  have hn := n.toNat_lt
  go_enter Try.func12, Try.ntmps12
  go_wp2_with fail
  go_loopw [5] (fun i wr => ∃ k : Nat, i = .int .i64 (k : Int) ∧ k ≤ L ∧ Box' (∀ j, j < k → (s.l.getD j Rw.zero).n ≠ n) ∧ wr = w) (fun i _ => L - (intOf i).toNat)
  case atStart => exact ⟨0, rfl, Nat.zero_le _, ⟨fun j hj => by omega⟩, rfl⟩
  case round =>
    obtain ⟨k, rfl, hk, NJ, hw⟩ := hrel
    subst hw
    by_cases hlt : k < L
    · have ck := CK.out k hlt
      have fe := Box'.mk (FE.out k (by first | exact hlt | (rw [HL.out]; exact hlt)))
      have NK : Box' ((s.l.getD k Rw.zero).n ≠ n → ∀ j, j < k + 1 → (s.l.getD j Rw.zero).n ≠ n) := ⟨fun he j hj => by
        rcases Nat.lt_succ_iff_lt_or_eq.1 hj with h1 | rfl
        · exact NJ.out j h1
        · exact he⟩
      generalize (s.l.getD k Rw.zero).n = q at *
      have hqq := q.toNat_lt
      by_cases he : q = n
      · have cd := CD.out k
        have i1 := fe.out he NJ.out
        have AE : Box' (ackF s n = ({ s with l := s.l.drop k }, 0)) := ⟨by rw [AC.out, i1, if_pos (by first | exact hlt | (rw [HL.out]; exact hlt))]⟩
        subst he
        have hcut := cut_rows g L c k hlt hc
        have dl := DL.out k
        have oe := OwnR.empty wr wr.heap.size (Nat.le_refl _)
        have be : Below wr.heap.size wr (wr.alloc (.cells #[] 50)) := (Below.refl _ _).alloc (Nat.le_refl _) _
        have ce : ∀ q, (wr.alloc (.cells #[] 50)).cell? ⟨p, q, none⟩ = wr.cell? ⟨p, q, none⟩ := fun q => be.cell (p := ⟨p, q, none⟩) RR.out.lt
        have cx : (wr.alloc (.cells #[] 50)).cell? ⟨p, 1, none⟩ = some (.slice (some ⟨g, 0, none⟩) L c) := by rw [ce]; exact c1
        have cd2 : ∀ j u, (rowsC (s.l.drop k))[j]? = some u → (wr.alloc (.cells #[] 50)).cell? ((⟨g, k * 3, none⟩ : Addr).add j) = some u := fun j u hu => by
          rw [be.cell (p := (⟨g, k * 3, none⟩ : Addr).add j) (by rw [Addr.add_mid]; exact HG.out)]; exact cd j u hu
        have hl4 : ([] : List Rw).length + (s.l.drop k).length ≤ 1048576 := by rw [dl]; simp only [List.length_nil]; omega
        have hz4 : wr.heap.size ≤ (wr.alloc (.cells #[] 50)).heap.size := be.size
        have hd1 : 0 < (s.l.drop k).length := by rw [dl]; omega
        have hd2 : (s.l.drop k).length ≤ 32 := by rw [dl]; omega
        clear CK FE FN CD DL AC NJ NK fe cd ce
        go_wp2_with (first
          | (refine wpList_cut rfl 32 (.tmp 30) (some (.tmp 31)) none none rfl _ (hcut _) ?_)
          | (refine wpList_appR rfl (.tmp 26) (.tmp 32) rfl wr.heap.size hz4 _ [] (s.l.drop k) rfl oe ⟨g, k * 3, none⟩ _ _ rfl dl.symm cd2 hl4 ?_
             intro v4 w4 o4 g4
             have b4 := grown_below g4 be
             have o5 : OwnR wr.heap.size w4 v4 (s.l.drop k) := o4
             clear o4
             obtain ⟨a4, c4, rfl, _⟩ := o5.slice
             rw [dl] at o5 ⊢
             have PP := Box'.mk (SnR.put RR.out b4 o5 hd1 hd2)
             have r4 := RR.out.below b4 RR.out.lt
             have cp : w4.cell? ⟨p, 1, none⟩ = some (.slice (some ⟨g, 0, none⟩) L c) := r4.cell 1
             have fp := r4.frozen 1
             clear o5 g4 oe be cx cd2)
          | fail)
        go_ret
        exact ⟨_, by rw [AE.out]; rfl, by rw [AE.out]; exact PP.out.1, PP.out.2.1, PP.out.2.2⟩
      · have NJ2 := Box'.mk (NK.out he)
        have gf : ((q.toNat : Int) == (n.toNat : Int)) = false := by
          rw [beq_eq_false_iff_ne]; intro e; exact he (UInt64.toNat_inj.1 (by omega))
        clear CK FE FN CD DL AC NJ NK fe he
        go_wp2_with fail
        exact ⟨⟨k + 1, by go_num, by omega, NJ2, trivial⟩, by simp [intOf]; omega⟩
    · obtain rfl : L = k := by omega
      have i1 := FN.out (fun j hj => NJ.out j (by have := HL.out; omega))
      have AE : Box' (ackF s n = (s, 230)) := ⟨by rw [AC.out, i1, if_neg (by have := HL.out; omega)]⟩
      clear CK FE FN CD DL AC NJ
      go_wp2_with fail
      go_ret
      exact ⟨_, by rw [AE.out]; rfl, by rw [AE.out]; exact H0.out, Tch.refl _ _, fun k hk => .inl hk⟩
end Go.Proofs.Ytikkekdmahdgaaa
