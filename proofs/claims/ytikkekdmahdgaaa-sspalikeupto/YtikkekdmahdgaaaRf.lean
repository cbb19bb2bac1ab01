/- The reference's Take. -/
import Derived.Test.YtikkekdmahdgaaaRe
import Derived.Test.YtikkekdmahdgaaaRq
namespace Go.Proofs.Ytikkekdmahdgaaa
open Go.RowKit Go.BigFrame
set_option linter.unusedSimpArgs false
set_option linter.unusedVariables false

/-- An instruction, but for where its bytes lie. -/
structure Ins where
  o : UInt64
  n : UInt64
  ack : UInt64
  thr : UInt64
  dif : List UInt8
def Ins.none : Ins := ⟨0, 0, 0, 0, []⟩
def insA (x : Ins) (vb : Value) : Array Value := #[uV x.o, uV x.n, uV x.ack, uV x.thr, vb]
def selK (P : Rw → Bool) (l : List Rw) : Nat → List Rw
  | 0 => []
  | k + 1 => selK P l k ++ (if P (l.getD k Rw.zero) = true then [l.getD k Rw.zero] else [])
theorem selK_len (P : Rw → Bool) (l : List Rw) : ∀ k, (selK P l k).length ≤ k
  | 0 => Nat.le_refl _
  | k + 1 => by
    have := selK_len P l k
    unfold selK
    rw [List.length_append]
    split <;> simp <;> omega
def lowF (l : List Rw) (m : UInt64) : List Rw := selK (fun x => decide (x.n.toNat < m.toNat)) l l.length
def highF (l : List Rw) (m : UInt64) : List Rw := selK (fun x => decide (m.toNat < x.n.toNat)) l l.length
def rowF (l : List Rw) (x : Ins) : Rw := ⟨x.n, (l.getD (fstAt x.o l) Rw.zero).t ++ x.dif, 0⟩
def takeF (l : List Rw) (x : Ins) : List Rw × Bool × Int :=
  if fstAt x.n l < l.length then (thrF l x.thr, false, 0)
  else if ¬ fstAt x.o l < l.length ∨ x.n.toNat < x.o.toNat then (l, false, 230)
  else if 32 ≤ (thrF l x.thr).length then (l, false, 231)
  else (thrF (lowF l x.n ++ [rowF l x] ++ highF l x.n) x.thr, decide ((lowF l x.n).length = l.length), 0)

set_option maxRecDepth 100000 in
set_option maxHeartbeats 4000000 in
theorem take_any (w : World) (F : Nat → Prop) (p : Nat) (l : List Rw) (x : Ins) (vb : Value) (h : RcR w F p l) (h32 : l.length ≤ 32) (hi : InE w.heap.size w vb x.dif) (hd : x.dif.length ≤ 140737488355328) (ht : ∀ k, k < l.length → (l.getD k Rw.zero).t.length ≤ 140737488355328) :
    Calls Try.prog 21 #[.pointer (some ⟨p, 0, none⟩), .agg (insA x vb)] w fun e w' => ∃ F', e = .returned (.tuple #[.bool (takeF l x).2.1, .int .i64 (takeF l x).2.2]) ∧ RcR w' F' p (takeF l x).1 ∧ Tch F w w' ∧ ∀ k, F' k → F k ∨ w.heap.size ≤ k := by
  obtain ⟨w0, hw0⟩ : ∃ w0, w0 = w.alloc (.cells (insA x vb) 41) := ⟨_, rfl⟩
  have r0 : Row w0 w.heap.size 41 (insA x vb) := by rw [hw0]; exact Row.new _ _ _
  have b0 : Below w.heap.size w w0 := by rw [hw0]; exact (Below.refl _ _).alloc (Nat.le_refl _) _
  have z0 : w0.heap.size = w.heap.size + 1 := by rw [hw0]; simp
  have h0 : RcR w0 F p l := h.keep fun k hk => b0.block k (h.lt k hk)
  have H0 := Box'.mk h0
  have hlt := h.lt
  have TW := Box'.mk (takeF.eq_1 l x)
  have EX : Box' (∀ n, atF l n = if fstAt n l < l.length then (fstAt n l : Int) else -1) := ⟨fun n => rfl⟩
  have I0 := Box'.mk ((hi.below b0 (Nat.le_refl _)))
  obtain ⟨v, rfl, hr, ho, hp, hm⟩ := h0
  obtain ⟨g, c, rfl, hc, _, hg, hcl⟩ := ho.cells hp
  have hpw : p < w0.heap.size := hr.lt
  have CP : Box' (∀ wr, Below w0.heap.size w0 wr → wr.cell? ⟨p, 0, none⟩ = some (.slice (some ⟨g, 0, none⟩) l.length c)) := ⟨fun wr hb => (hr.below hb hr.lt).cell 0⟩
  have CL : Box' (∀ wr, Below w0.heap.size w0 wr → ∀ k, k < l.length → wr.cell? ⟨g, k * 3, none⟩ = some (.int .u64 ((l.getD k Rw.zero).n.toNat : Int)) ∧ wr.cell? ⟨g, k * 3 + 1, none⟩ = some (.string ⟨(l.getD k Rw.zero).t.toArray⟩) ∧ wr.cell? ⟨g, k * 3 + 2, none⟩ = some (.int .u64 ((l.getD k Rw.zero).a.toNat : Int))) := ⟨fun wr hb k hk => by
    have ce : ∀ q, wr.cell? ⟨g, q, none⟩ = w0.cell? ⟨g, q, none⟩ := fun q => hb.cell (p := ⟨g, q, none⟩) hg
    exact ⟨(ce _).trans (hcl _ _ (rowsC_at l k hk).1), (ce _).trans (hcl _ _ (rowsC_at l k hk).2.1), (ce _).trans (hcl _ _ (rowsC_at l k hk).2.2)⟩⟩
  have CX : Box' (∀ wr, Below w0.heap.size w0 wr → wr.cell? ⟨w.heap.size, 0, none⟩ = some (.int .u64 (x.o.toNat : Int)) ∧ wr.cell? ⟨w.heap.size, 1, none⟩ = some (.int .u64 (x.n.toNat : Int)) ∧ wr.cell? ⟨w.heap.size, 3, none⟩ = some (.int .u64 (x.thr.toNat : Int)) ∧ wr.cell? ⟨w.heap.size, 4, none⟩ = some vb) := ⟨fun wr hb => by
    have r := r0.below hb r0.lt
    exact ⟨r.cell 0, r.cell 1, r.cell 3, r.cell 4⟩⟩
  have RR := Box'.mk hr
  have B0 := Box'.mk b0
  have RX := Box'.mk r0
  have OO := Box'.mk ho
  have PW : Box' (p < w.heap.size) := ⟨hlt p (.inl rfl)⟩
  have a1 := at_any w0 _ p l x.n H0.out
  have A2 := Box'.mk (fun w1 hw => at_any w1 _ p l x.o (H0.out.keep hw))
  have x0 := CX.out w0 (Below.refl _ _)
  unfold insA
  unfold insA at hw0
  obtain ⟨x1, x2, x3, x4⟩ := x0
  rw [hw0] at a1 x1 x2 x3 x4
  unfold uV at *
  have hxn := x.n.toNat_lt
  have hxo := x.o.toNat_lt
  have hxt := x.thr.toNat_lt
  clear hr ho hcl r0 b0 hi
  go_enter Try.func21, Try.ntmps21
  go_wp2_with fail
  refine a1.mono ?_
  rw [← hw0] at x1 x2 x3 x4 ⊢
  rintro e w1 ⟨rfl, hw⟩
  obtain rfl : w0 = w1 := hw.symm
  rw [EX.out]
  clear a1 hw hw0
  have TH := Box'.mk (throw_any w0 _ p l x.thr H0.out)
  unfold uV at TH
  by_cases hf : fstAt x.n l < l.length
  · have TE : Box' (takeF l x = (thrF l x.thr, false, 0)) := ⟨by rw [TW.out, if_pos hf]⟩
    rw [if_pos hf]
    generalize fstAt x.n l = q at *
    clear TW EX
    go_wp2_with fail
    refine TH.out.mono ?_
    rintro e w2 ⟨F2, rfl, hR, hT, hN⟩
    have RE := Box'.mk hR
    have TT := Box'.mk ((Tch.of (F := fun k => k = p ∨ (Value.slice (some ⟨g, 0, none⟩) l.length c).ownBlock = some k) B0.out).trans hT (fun i hi => .inl hi))
    have NN : Box' (∀ k, F2 k → (k = p ∨ (Value.slice (some ⟨g, 0, none⟩) l.length c).ownBlock = some k) ∨ w.heap.size ≤ k) := ⟨fun k hk => by
      rcases hN k hk with q | q
      · exact .inl q
      · have := B0.out.size; exact .inr (by omega)⟩
    clear hR hT hN x1 x2 x3 x4
    go_wp2_with fail
    go_ret2
    exact ⟨_, by rw [TE.out]; rfl, by rw [TE.out]; exact RE.out, TT.out, NN.out⟩
  · rw [if_neg hf]
    have TW2 : Box' (takeF l x = if ¬ fstAt x.o l < l.length ∨ x.n.toNat < x.o.toNat then (l, false, 230) else if 32 ≤ (thrF l x.thr).length then (l, false, 231) else (thrF (lowF l x.n ++ [rowF l x] ++ highF l x.n) x.thr, decide ((lowF l x.n).length = l.length), 0)) := ⟨by rw [TW.out, if_neg hf]⟩
    clear TW TH
    have RT : Box' (∀ w2, Below w0.heap.size w0 w2 → RcR w2 (fun k => k = p ∨ (Value.slice (some ⟨g, 0, none⟩) l.length c).ownBlock = some k) p l ∧ Tch (fun k => k = p ∨ (Value.slice (some ⟨g, 0, none⟩) l.length c).ownBlock = some k) w w2) := ⟨fun w2 hb => ⟨H0.out.keep fun k hk => hb.block k (H0.out.lt k hk), Tch.of (B0.out.trans (hb.mono B0.out.size))⟩⟩
    have a2 := A2.out w0 (fun k _ => rfl)
    clear A2 hf
    go_wp2_with fail
    refine a2.mono ?_
    rintro e w1 ⟨rfl, hw⟩
    obtain rfl : w0 = w1 := hw.symm
    rw [EX.out]
    clear a2 hw EX
    by_cases hf : fstAt x.o l < l.length
    · rw [if_pos hf]
      by_cases hno : x.n.toNat < x.o.toNat
      · have TE : Box' (takeF l x = (l, false, 230)) := ⟨by rw [TW2.out, if_pos (.inr hno)]⟩
        clear TW2
        generalize fstAt x.o l = q at *
        go_wp2_with fail
        go_ret2
        exact ⟨_, by rw [TE.out]; rfl, by rw [TE.out]; exact (RT.out _ (Below.refl _ _)).1, (RT.out _ (Below.refl _ _)).2, fun k hk => .inl hk⟩
      · have TW3 : Box' (takeF l x = if 32 ≤ (thrF l x.thr).length then (l, false, 231) else (thrF (lowF l x.n ++ [rowF l x] ++ highF l x.n) x.thr, decide ((lowF l x.n).length = l.length), 0)) := ⟨by rw [TW2.out, if_neg (by rintro (h | h); exact h hf; exact hno h)]⟩
        clear TW2
        have RF : Box' (rowF l x = ⟨x.n, (l.getD (fstAt x.o l) Rw.zero).t ++ x.dif, 0⟩) := ⟨rfl⟩
        generalize fstAt x.o l = q at *
        have TS : Box' (∀ k, (thrK l x.thr (k + 1)).length = (thrK l x.thr k).length + (if x.thr.toNat ≤ (l.getD k Rw.zero).n.toNat ∨ k + 1 = l.length then 1 else 0)) := ⟨fun k => by
          have e : thrK l x.thr (k + 1) = thrK l x.thr k ++ (if x.thr.toNat ≤ (l.getD k Rw.zero).n.toNat ∨ k + 1 = l.length then [l.getD k Rw.zero] else []) := rfl
          rw [e, List.length_append]; split <;> simp⟩
        have TK := Box'.mk (thrK_len l x.thr)
        have TE : Box' (thrK l x.thr l.length = thrF l x.thr) := ⟨rfl⟩
        generalize hL : l.length = L at *
        have HL := Box'.mk hL
        clear hL
        go_wp2_with fail
        clear hno x1 x2 x3 x4
        go_loopw [7, 8] (fun s i wr => ∃ k : Nat, s = .int .i64 ((thrK l x.thr k).length : Int) ∧ i = .int .i64 (k : Int) ∧ k ≤ L ∧ Box' (Below w0.heap.size w0 wr)) (fun _ i _ => L - (intOf i).toNat)
        case atStart => exact ⟨0, rfl, rfl, Nat.zero_le _, ⟨Below.refl _ _⟩⟩
        case round =>
          obtain ⟨k, rfl, rfl, hk, BB⟩ := hrel
          have c1 := CP.out wr BB.out
          have tk := TK.out k
          by_cases hlt : k < L
          · have ML := Box'.mk (fun wa hb => (CL.out wa hb k (by first | exact hlt | (rw [HL.out]; exact hlt))).1)
            have ts := TS.out k
            have SN : Box' (¬ (x.thr.toNat ≤ (l.getD k Rw.zero).n.toNat ∨ k + 1 = L) → (thrK l x.thr (k + 1)).length = (thrK l x.thr k).length) := ⟨fun h => by rw [ts, if_neg h]; rfl⟩
            have SA : Box' ((x.thr.toNat ≤ (l.getD k Rw.zero).n.toNat ∨ k + 1 = L) → (thrK l x.thr (k + 1)).length = (thrK l x.thr k).length + 1) := ⟨fun h => by rw [ts, if_pos h]⟩
            generalize (thrK l x.thr k).length = S at *
            generalize (l.getD k Rw.zero).n = m at *
            have hmm := m.toNat_lt
            clear ts TS TK TE CL
            by_cases h1 : x.thr.toNat ≤ m.toNat
            · have sa := Box'.mk (SA.out (.inl h1))
              clear SA SN
              go_upto_region 11 with (fail)
              refine wp_region_lex (fun wa => Below w0.heap.size w0 wa) (by kernel_rfl) (by kernel_rfl) BB.out.drew ?_
              go_big_quiet_want
              go_big_quiet_op
              first | go_big_quiet_on | (refine ⟨_, fun _ _ => rfl, ?_⟩; go_big_quiet_on) | (refine ⟨_, fun _ _ _ => rfl, ?_⟩; go_big_quiet_on)
              go_big_quiet_want
              go_big_quiet_op
              first | go_big_quiet_on | (refine ⟨_, fun _ _ => rfl, ?_⟩; go_big_quiet_on) | (refine ⟨_, fun _ _ _ => rfl, ?_⟩; go_big_quiet_on)
              go_big_quiet_want
              go_big_quiet_op
              first | go_big_quiet_on | (refine ⟨_, fun _ _ => rfl, ?_⟩; go_big_quiet_on) | (refine ⟨_, fun _ _ _ => rfl, ?_⟩; go_big_quiet_on)
              go_big_quiet_want
              refine qC_load32 (.tmp 47) rfl p 0 _ rfl CP.out ?_
              simp only [Act.put, List.setIfInBounds_toArray, List.set_cons_succ, List.set_cons_zero]
              go_big_quiet_on
              go_big_quiet_want
              go_big_quiet_op
              first | go_big_quiet_on | (refine ⟨_, fun _ _ => rfl, ?_⟩; go_big_quiet_on) | (refine ⟨_, fun _ _ _ => rfl, ?_⟩; go_big_quiet_on)
              go_big_quiet_want
              go_big_quiet_op
              first | go_big_quiet_on | (refine ⟨_, fun _ _ => rfl, ?_⟩; go_big_quiet_on) | (refine ⟨_, fun _ _ _ => rfl, ?_⟩; go_big_quiet_on)
              go_big_quiet_want
              go_big_quiet_op
              first | go_big_quiet_on | (refine ⟨_, fun _ _ => rfl, ?_⟩; go_big_quiet_on) | (refine ⟨_, fun _ _ _ => rfl, ?_⟩; go_big_quiet_on)
              go_big_quiet_want
              refine qC_load29 (.tmp 51) rfl g (k * 3) _ rfl ML.out ?_
              simp only [Act.put, List.setIfInBounds_toArray, List.set_cons_succ, List.set_cons_zero]
              go_big_quiet_on
              go_big_quiet_want
              go_big_quiet_op
              first | go_big_quiet_on | (refine ⟨_, fun _ _ => rfl, ?_⟩; go_big_quiet_on) | (refine ⟨_, fun _ _ _ => rfl, ?_⟩; go_big_quiet_on)
              go_big_quiet_want
              refine qC_load29 (.tmp 53) rfl w.heap.size 3 _ rfl (fun wa hC => (CX.out wa hC).2.2.1) ?_
              simp only [Act.put, List.setIfInBounds_toArray, List.set_cons_succ, List.set_cons_zero]
              go_big_quiet_on
              go_big_quiet_want
              refine qC_of (.bool true) (fun wq hC => by unfold execOp; simp [go_sem] <;> first | assumption | omega) ?_
              simp only [Act.put, List.setIfInBounds_toArray, List.set_cons_succ, List.set_cons_zero]
              go_big_quiet_on
              go_big_quiet_want
              go_big_quiet_op
              first | go_big_quiet_on | (refine ⟨_, fun _ _ => rfl, ?_⟩; go_big_quiet_on) | (refine ⟨_, fun _ _ _ => rfl, ?_⟩; go_big_quiet_on)
              go_big_quiet_skip
              go_big_quiet_skip
              go_big_quiet_skip
              go_big_quiet_skip
              go_big_quiet_skip
              go_big_quiet_skip
              go_big_quiet_skip
              go_big_quiet_skip
              go_big_quiet_want
              go_big_quiet_op
              first | go_big_quiet_on | (refine ⟨_, fun _ _ => rfl, ?_⟩; go_big_quiet_on) | (refine ⟨_, fun _ _ _ => rfl, ?_⟩; go_big_quiet_on)
              refine wpQuiet_nil ?_
              intro wz hz
              have BZ := Box'.mk hz
              clear hz BB
              go_wp2_with fail
              exact ⟨⟨k + 1, by rw [sa.out]; go_num, by go_num, by omega, BZ⟩, by simp [intOf]; omega⟩
            · by_cases h2 : k + 1 = L
              · have sa := Box'.mk (SA.out (.inr h2))
                clear SA SN
                go_upto_region 11 with (fail)
                refine wp_region_lex (fun wa => Below w0.heap.size w0 wa) (by kernel_rfl) (by kernel_rfl) BB.out.drew ?_
                go_big_quiet_want
                go_big_quiet_op
                first | go_big_quiet_on | (refine ⟨_, fun _ _ => rfl, ?_⟩; go_big_quiet_on) | (refine ⟨_, fun _ _ _ => rfl, ?_⟩; go_big_quiet_on)
                go_big_quiet_want
                go_big_quiet_op
                first | go_big_quiet_on | (refine ⟨_, fun _ _ => rfl, ?_⟩; go_big_quiet_on) | (refine ⟨_, fun _ _ _ => rfl, ?_⟩; go_big_quiet_on)
                go_big_quiet_want
                go_big_quiet_op
                first | go_big_quiet_on | (refine ⟨_, fun _ _ => rfl, ?_⟩; go_big_quiet_on) | (refine ⟨_, fun _ _ _ => rfl, ?_⟩; go_big_quiet_on)
                go_big_quiet_want
                refine qC_load32 (.tmp 47) rfl p 0 _ rfl CP.out ?_
                simp only [Act.put, List.setIfInBounds_toArray, List.set_cons_succ, List.set_cons_zero]
                go_big_quiet_on
                go_big_quiet_want
                go_big_quiet_op
                first | go_big_quiet_on | (refine ⟨_, fun _ _ => rfl, ?_⟩; go_big_quiet_on) | (refine ⟨_, fun _ _ _ => rfl, ?_⟩; go_big_quiet_on)
                go_big_quiet_want
                go_big_quiet_op
                first | go_big_quiet_on | (refine ⟨_, fun _ _ => rfl, ?_⟩; go_big_quiet_on) | (refine ⟨_, fun _ _ _ => rfl, ?_⟩; go_big_quiet_on)
                go_big_quiet_want
                go_big_quiet_op
                first | go_big_quiet_on | (refine ⟨_, fun _ _ => rfl, ?_⟩; go_big_quiet_on) | (refine ⟨_, fun _ _ _ => rfl, ?_⟩; go_big_quiet_on)
                go_big_quiet_want
                refine qC_load29 (.tmp 51) rfl g (k * 3) _ rfl ML.out ?_
                simp only [Act.put, List.setIfInBounds_toArray, List.set_cons_succ, List.set_cons_zero]
                go_big_quiet_on
                go_big_quiet_want
                go_big_quiet_op
                first | go_big_quiet_on | (refine ⟨_, fun _ _ => rfl, ?_⟩; go_big_quiet_on) | (refine ⟨_, fun _ _ _ => rfl, ?_⟩; go_big_quiet_on)
                go_big_quiet_want
                refine qC_load29 (.tmp 53) rfl w.heap.size 3 _ rfl (fun wa hC => (CX.out wa hC).2.2.1) ?_
                simp only [Act.put, List.setIfInBounds_toArray, List.set_cons_succ, List.set_cons_zero]
                go_big_quiet_on
                go_big_quiet_want
                refine qC_of (.bool false) (fun wq hC => by unfold execOp; simp [go_sem] <;> first | assumption | omega) ?_
                simp only [Act.put, List.setIfInBounds_toArray, List.set_cons_succ, List.set_cons_zero]
                go_big_quiet_on
                go_big_quiet_want
                go_big_quiet_op
                first | go_big_quiet_on | (refine ⟨_, fun _ _ => rfl, ?_⟩; go_big_quiet_on) | (refine ⟨_, fun _ _ _ => rfl, ?_⟩; go_big_quiet_on)
                go_big_quiet_want
                go_big_quiet_op
                first | go_big_quiet_on | (refine ⟨_, fun _ _ => rfl, ?_⟩; go_big_quiet_on) | (refine ⟨_, fun _ _ _ => rfl, ?_⟩; go_big_quiet_on)
                go_big_quiet_want
                go_big_quiet_op
                first | go_big_quiet_on | (refine ⟨_, fun _ _ => rfl, ?_⟩; go_big_quiet_on) | (refine ⟨_, fun _ _ _ => rfl, ?_⟩; go_big_quiet_on)
                go_big_quiet_want
                go_big_quiet_op
                first | go_big_quiet_on | (refine ⟨_, fun _ _ => rfl, ?_⟩; go_big_quiet_on) | (refine ⟨_, fun _ _ _ => rfl, ?_⟩; go_big_quiet_on)
                go_big_quiet_want
                go_big_quiet_op
                first | go_big_quiet_on | (refine ⟨_, fun _ _ => rfl, ?_⟩; go_big_quiet_on) | (refine ⟨_, fun _ _ _ => rfl, ?_⟩; go_big_quiet_on)
                go_big_quiet_want
                refine qC_load32 (.tmp 60) rfl p 0 _ rfl CP.out ?_
                simp only [Act.put, List.setIfInBounds_toArray, List.set_cons_succ, List.set_cons_zero]
                go_big_quiet_on
                go_big_quiet_want
                go_big_quiet_op
                first | go_big_quiet_on | (refine ⟨_, fun _ _ => rfl, ?_⟩; go_big_quiet_on) | (refine ⟨_, fun _ _ _ => rfl, ?_⟩; go_big_quiet_on)
                go_big_quiet_want
                go_big_quiet_op
                first | go_big_quiet_on | (refine ⟨_, fun _ _ => rfl, ?_⟩; go_big_quiet_on) | (refine ⟨_, fun _ _ _ => rfl, ?_⟩; go_big_quiet_on)
                go_big_quiet_want
                refine qC_of (.bool true) (fun wq hC => by unfold execOp; simp [go_sem] <;> first | assumption | omega) ?_
                simp only [Act.put, List.setIfInBounds_toArray, List.set_cons_succ, List.set_cons_zero]
                go_big_quiet_on
                go_big_quiet_want
                go_big_quiet_op
                first | go_big_quiet_on | (refine ⟨_, fun _ _ => rfl, ?_⟩; go_big_quiet_on) | (refine ⟨_, fun _ _ _ => rfl, ?_⟩; go_big_quiet_on)
                refine wpQuiet_nil ?_
                intro wz hz
                have BZ := Box'.mk hz
                clear hz BB
                go_wp2_with fail
                exact ⟨⟨k + 1, by rw [sa.out]; go_num, by go_num, by omega, BZ⟩, by simp [intOf]; omega⟩
              · have sa := Box'.mk (SN.out (by rintro (h | h); exact h1 h; exact h2 h))
                clear SA SN
                go_upto_region 11 with (fail)
                refine wp_region_lex (fun wa => Below w0.heap.size w0 wa) (by kernel_rfl) (by kernel_rfl) BB.out.drew ?_
                go_big_quiet_want
                go_big_quiet_op
                first | go_big_quiet_on | (refine ⟨_, fun _ _ => rfl, ?_⟩; go_big_quiet_on) | (refine ⟨_, fun _ _ _ => rfl, ?_⟩; go_big_quiet_on)
                go_big_quiet_want
                go_big_quiet_op
                first | go_big_quiet_on | (refine ⟨_, fun _ _ => rfl, ?_⟩; go_big_quiet_on) | (refine ⟨_, fun _ _ _ => rfl, ?_⟩; go_big_quiet_on)
                go_big_quiet_want
                go_big_quiet_op
                first | go_big_quiet_on | (refine ⟨_, fun _ _ => rfl, ?_⟩; go_big_quiet_on) | (refine ⟨_, fun _ _ _ => rfl, ?_⟩; go_big_quiet_on)
                go_big_quiet_want
                refine qC_load32 (.tmp 47) rfl p 0 _ rfl CP.out ?_
                simp only [Act.put, List.setIfInBounds_toArray, List.set_cons_succ, List.set_cons_zero]
                go_big_quiet_on
                go_big_quiet_want
                go_big_quiet_op
                first | go_big_quiet_on | (refine ⟨_, fun _ _ => rfl, ?_⟩; go_big_quiet_on) | (refine ⟨_, fun _ _ _ => rfl, ?_⟩; go_big_quiet_on)
                go_big_quiet_want
                go_big_quiet_op
                first | go_big_quiet_on | (refine ⟨_, fun _ _ => rfl, ?_⟩; go_big_quiet_on) | (refine ⟨_, fun _ _ _ => rfl, ?_⟩; go_big_quiet_on)
                go_big_quiet_want
                go_big_quiet_op
                first | go_big_quiet_on | (refine ⟨_, fun _ _ => rfl, ?_⟩; go_big_quiet_on) | (refine ⟨_, fun _ _ _ => rfl, ?_⟩; go_big_quiet_on)
                go_big_quiet_want
                refine qC_load29 (.tmp 51) rfl g (k * 3) _ rfl ML.out ?_
                simp only [Act.put, List.setIfInBounds_toArray, List.set_cons_succ, List.set_cons_zero]
                go_big_quiet_on
                go_big_quiet_want
                go_big_quiet_op
                first | go_big_quiet_on | (refine ⟨_, fun _ _ => rfl, ?_⟩; go_big_quiet_on) | (refine ⟨_, fun _ _ _ => rfl, ?_⟩; go_big_quiet_on)
                go_big_quiet_want
                refine qC_load29 (.tmp 53) rfl w.heap.size 3 _ rfl (fun wa hC => (CX.out wa hC).2.2.1) ?_
                simp only [Act.put, List.setIfInBounds_toArray, List.set_cons_succ, List.set_cons_zero]
                go_big_quiet_on
                go_big_quiet_want
                refine qC_of (.bool false) (fun wq hC => by unfold execOp; simp [go_sem] <;> first | assumption | omega) ?_
                simp only [Act.put, List.setIfInBounds_toArray, List.set_cons_succ, List.set_cons_zero]
                go_big_quiet_on
                go_big_quiet_want
                go_big_quiet_op
                first | go_big_quiet_on | (refine ⟨_, fun _ _ => rfl, ?_⟩; go_big_quiet_on) | (refine ⟨_, fun _ _ _ => rfl, ?_⟩; go_big_quiet_on)
                go_big_quiet_want
                go_big_quiet_op
                first | go_big_quiet_on | (refine ⟨_, fun _ _ => rfl, ?_⟩; go_big_quiet_on) | (refine ⟨_, fun _ _ _ => rfl, ?_⟩; go_big_quiet_on)
                go_big_quiet_want
                go_big_quiet_op
                first | go_big_quiet_on | (refine ⟨_, fun _ _ => rfl, ?_⟩; go_big_quiet_on) | (refine ⟨_, fun _ _ _ => rfl, ?_⟩; go_big_quiet_on)
                go_big_quiet_want
                go_big_quiet_op
                first | go_big_quiet_on | (refine ⟨_, fun _ _ => rfl, ?_⟩; go_big_quiet_on) | (refine ⟨_, fun _ _ _ => rfl, ?_⟩; go_big_quiet_on)
                go_big_quiet_want
                go_big_quiet_op
                first | go_big_quiet_on | (refine ⟨_, fun _ _ => rfl, ?_⟩; go_big_quiet_on) | (refine ⟨_, fun _ _ _ => rfl, ?_⟩; go_big_quiet_on)
                go_big_quiet_want
                refine qC_load32 (.tmp 60) rfl p 0 _ rfl CP.out ?_
                simp only [Act.put, List.setIfInBounds_toArray, List.set_cons_succ, List.set_cons_zero]
                go_big_quiet_on
                go_big_quiet_want
                go_big_quiet_op
                first | go_big_quiet_on | (refine ⟨_, fun _ _ => rfl, ?_⟩; go_big_quiet_on) | (refine ⟨_, fun _ _ _ => rfl, ?_⟩; go_big_quiet_on)
                go_big_quiet_want
                go_big_quiet_op
                first | go_big_quiet_on | (refine ⟨_, fun _ _ => rfl, ?_⟩; go_big_quiet_on) | (refine ⟨_, fun _ _ _ => rfl, ?_⟩; go_big_quiet_on)
                go_big_quiet_want
                refine qC_of (.bool false) (fun wq hC => by unfold execOp; simp [go_sem] <;> first | assumption | omega) ?_
                simp only [Act.put, List.setIfInBounds_toArray, List.set_cons_succ, List.set_cons_zero]
                go_big_quiet_on
                go_big_quiet_want
                go_big_quiet_op
                first | go_big_quiet_on | (refine ⟨_, fun _ _ => rfl, ?_⟩; go_big_quiet_on) | (refine ⟨_, fun _ _ _ => rfl, ?_⟩; go_big_quiet_on)
                refine wpQuiet_nil ?_
                intro wz hz
                have BZ := Box'.mk hz
                clear hz BB
                go_wp2_with fail
                exact ⟨⟨k + 1, by rw [sa.out], by go_num, by omega, BZ⟩, by simp [intOf]; omega⟩
          · obtain rfl : L = k := by omega
            rw [TE.out]
            have tl : (thrF l x.thr).length ≤ L := by rw [← TE.out]; exact tk
            clear TS TK hlt hk tk
            by_cases hfull : 32 ≤ (thrF l x.thr).length
            · have TN : Box' (takeF l x = (l, false, 231)) := ⟨by rw [TW3.out, if_pos hfull]⟩
              clear TW3 TE
              generalize (thrF l x.thr).length = S at *
              go_wp2_with fail
              go_ret2
              exact ⟨_, by rw [TN.out]; rfl, by rw [TN.out]; exact (RT.out _ BB.out).1, (RT.out _ BB.out).2, fun k hk => .inl hk⟩
            · have TW4 : Box' (takeF l x = (thrF (lowF l x.n ++ [rowF l x] ++ highF l x.n) x.thr, decide ((lowF l x.n).length = L), 0)) := ⟨by rw [TW3.out, if_neg hfull]⟩
              clear TW3 TE
              generalize (thrF l x.thr).length = S at *
              have TQ : Box' (∀ wa, Below w0.heap.size w0 wa → wa.cell? ⟨g, q * 3 + 1, none⟩ = some (.string ⟨(l.getD q Rw.zero).t.toArray⟩)) := ⟨fun wa hb => (CL.out wa hb q (by first | exact hf | (rw [HL.out]; exact hf))).2.1⟩
              have IE : Box' (∀ wa, Below w0.heap.size w0 wa → InE w.heap.size wa vb x.dif) := ⟨fun wa hb => I0.out.below hb (by omega)⟩
              have hT := ht q (by first | exact hf | (rw [HL.out]; exact hf))
              generalize (l.getD q Rw.zero).t = T at *
              go_upto_region 15 with (fail)
              refine wp_region_grow 16 (by kernel_rfl) (by kernel_rfl) (fun wa wb => Below wa.heap.size wa wb) (fun wa => Below w0.heap.size w0 wa) (fun kc wa v => match kc with
                | 0 => v = .pointer (some ⟨w.heap.size, 1, none⟩)
                | 1 => v = .int .u64 (x.n.toNat : Int)
                | 2 => v = .pointer (some ⟨p, 0, none⟩)
                | 3 => v = .pointer (some ⟨p, 0, none⟩)
                | 4 => v = .pointer (some ⟨p, 0, none⟩)
                | 5 => v = .slice (some ⟨g, 0, none⟩) L c
                | 6 => v = .int .i64 (q : Int)
                | 7 => v = .pointer (some ⟨g, q * 3, none⟩)
                | 8 => v = .pointer (some ⟨g, q * 3 + 1, none⟩)
                | 9 => v = .string ⟨T.toArray⟩
                | 10 => v = .pointer (some ⟨w.heap.size, 4, none⟩)
                | 11 => v = vb
                | 12 => v = .string ⟨x.dif.toArray⟩
                | 13 => v = .string ⟨(T ++ x.dif).toArray⟩
                | 14 => v = .agg #[.int .u64 (x.n.toNat : Int), .string ⟨(T ++ x.dif).toArray⟩, .int .u64 0]
                | 15 => ∃ b, v = .pointer (some ⟨b, 0, none⟩) ∧ Row wa b 50 #[.int .u64 0, .string ⟨#[]⟩, .int .u64 0] ∧ w0.heap.size ≤ b
                | _ => True) ?_ ?_ ?_ ?_ ?_
              · intro wa wb hb q; exact q.trans (hb.mono q.size)
              · intro kc v wa wb hC1 hb h
                match kc, h with
                | 0, h => exact h
                | 1, h => exact h
                | 2, h => exact h
                | 3, h => exact h
                | 4, h => exact h
                | 5, h => exact h
                | 6, h => exact h
                | 7, h => exact h
                | 8, h => exact h
                | 9, h => exact h
                | 10, h => exact h
                | 11, h => exact h
                | 12, h => exact h
                | 13, h => exact h
                | 14, h => exact h
                | 15, h => exact let ⟨b, h1, h2, h3⟩ := h; ⟨b, h1, h2.below hb h2.lt, h3⟩
                | kc + 16, h => trivial
              · exact BB.out.drew
              · refine ⟨?_, ?_, ?_, ?_, ?_, ?_, ?_, ?_, ?_, ?_, ?_, ?_, ?_, ?_, ?_, ?_, trivial⟩
                · intro f wq hC hd KK hK
                  simp only [List.take_succ_cons, List.take_zero, setAll, List.setIfInBounds_toArray, List.set_cons_succ, List.set_cons_zero, Nat.zero_add, Nat.reduceAdd] at hK ⊢
                  refine wp_of_quiet rfl ?_
                  go_big_quiet_step (fail)
                  exact wpQuiet_nil (hK _ _ rfl (Below.refl _ _))
                · intro f wq hC hd KK hK
                  have g0 : f 0 = .pointer (some ⟨w.heap.size, 1, none⟩) := hd 0 (by kernel_rfl)
                  have cx := (CX.out wq hC).2.1
                  simp only [List.take_succ_cons, List.take_zero, setAll, List.setIfInBounds_toArray, List.set_cons_succ, List.set_cons_zero, Nat.zero_add, Nat.reduceAdd, g0] at hK ⊢
                  refine wp_of_quiet rfl ?_
                  go_big_quiet_step (fail)
                  exact wpQuiet_nil (hK _ _ rfl (Below.refl _ _))
                · intro f wq hC hd KK hK
                  simp only [List.take_succ_cons, List.take_zero, setAll, List.setIfInBounds_toArray, List.set_cons_succ, List.set_cons_zero, Nat.zero_add, Nat.reduceAdd] at hK ⊢
                  refine wp_of_quiet rfl ?_
                  go_big_quiet_step (fail)
                  exact wpQuiet_nil (hK _ _ rfl (Below.refl _ _))
                · intro f wq hC hd KK hK
                  have g2 : f 2 = .pointer (some ⟨p, 0, none⟩) := hd 2 (by kernel_rfl)
                  simp only [List.take_succ_cons, List.take_zero, setAll, List.setIfInBounds_toArray, List.set_cons_succ, List.set_cons_zero, Nat.zero_add, Nat.reduceAdd, g2] at hK ⊢
                  refine wp_of_quiet rfl ?_
                  go_big_quiet_step (fail)
                  exact wpQuiet_nil (hK _ _ rfl (Below.refl _ _))
                · intro f wq hC hd KK hK
                  have g3 : f 3 = .pointer (some ⟨p, 0, none⟩) := hd 3 (by kernel_rfl)
                  simp only [List.take_succ_cons, List.take_zero, setAll, List.setIfInBounds_toArray, List.set_cons_succ, List.set_cons_zero, Nat.zero_add, Nat.reduceAdd, g3] at hK ⊢
                  refine wp_of_quiet rfl ?_
                  go_big_quiet_step (fail)
                  exact wpQuiet_nil (hK _ _ rfl (Below.refl _ _))
                · intro f wq hC hd KK hK
                  have g4 : f 4 = .pointer (some ⟨p, 0, none⟩) := hd 4 (by kernel_rfl)
                  have cx := CP.out wq hC
                  simp only [List.take_succ_cons, List.take_zero, setAll, List.setIfInBounds_toArray, List.set_cons_succ, List.set_cons_zero, Nat.zero_add, Nat.reduceAdd, g4] at hK ⊢
                  refine wp_of_quiet rfl ?_
                  go_big_quiet_step (fail)
                  exact wpQuiet_nil (hK _ _ rfl (Below.refl _ _))
                · intro f wq hC hd KK hK
                  simp only [List.take_succ_cons, List.take_zero, setAll, List.setIfInBounds_toArray, List.set_cons_succ, List.set_cons_zero, Nat.zero_add, Nat.reduceAdd] at hK ⊢
                  refine wp_of_quiet rfl ?_
                  go_big_quiet_step (fail)
                  exact wpQuiet_nil (hK _ _ rfl (Below.refl _ _))
                · intro f wq hC hd KK hK
                  have g5 : f 5 = .slice (some ⟨g, 0, none⟩) L c := hd 5 (by kernel_rfl)
                  have g6 : f 6 = .int .i64 (q : Int) := hd 6 (by kernel_rfl)
                  simp only [List.take_succ_cons, List.take_zero, setAll, List.setIfInBounds_toArray, List.set_cons_succ, List.set_cons_zero, Nat.zero_add, Nat.reduceAdd, g5, g6] at hK ⊢
                  refine wp_of_quiet rfl ?_
                  go_big_quiet_step (fail)
                  exact wpQuiet_nil (hK _ _ rfl (Below.refl _ _))
                · intro f wq hC hd KK hK
                  have g7 : f 7 = .pointer (some ⟨g, q * 3, none⟩) := hd 7 (by kernel_rfl)
                  simp only [List.take_succ_cons, List.take_zero, setAll, List.setIfInBounds_toArray, List.set_cons_succ, List.set_cons_zero, Nat.zero_add, Nat.reduceAdd, g7] at hK ⊢
                  refine wp_of_quiet rfl ?_
                  go_big_quiet_step (fail)
                  exact wpQuiet_nil (hK _ _ rfl (Below.refl _ _))
                · intro f wq hC hd KK hK
                  have g8 : f 8 = .pointer (some ⟨g, q * 3 + 1, none⟩) := hd 8 (by kernel_rfl)
                  have cx := TQ.out wq hC
                  simp only [List.take_succ_cons, List.take_zero, setAll, List.setIfInBounds_toArray, List.set_cons_succ, List.set_cons_zero, Nat.zero_add, Nat.reduceAdd, g8] at hK ⊢
                  refine wp_of_quiet rfl ?_
                  go_big_quiet_step (fail)
                  exact wpQuiet_nil (hK _ _ rfl (Below.refl _ _))
                · intro f wq hC hd KK hK
                  simp only [List.take_succ_cons, List.take_zero, setAll, List.setIfInBounds_toArray, List.set_cons_succ, List.set_cons_zero, Nat.zero_add, Nat.reduceAdd] at hK ⊢
                  refine wp_of_quiet rfl ?_
                  go_big_quiet_step (fail)
                  exact wpQuiet_nil (hK _ _ rfl (Below.refl _ _))
                · intro f wq hC hd KK hK
                  have g10 : f 10 = .pointer (some ⟨w.heap.size, 4, none⟩) := hd 10 (by kernel_rfl)
                  have cx := (CX.out wq hC).2.2.2
                  simp only [List.take_succ_cons, List.take_zero, setAll, List.setIfInBounds_toArray, List.set_cons_succ, List.set_cons_zero, Nat.zero_add, Nat.reduceAdd, g10] at hK ⊢
                  refine wp_of_quiet rfl ?_
                  go_big_quiet_step (fail)
                  exact wpQuiet_nil (hK _ _ rfl (Below.refl _ _))
                · intro f wq hC hd KK hK
                  have g11 : f 11 = vb := hd 11 (by kernel_rfl)
                  simp only [List.take_succ_cons, List.take_zero, setAll, List.setIfInBounds_toArray, List.set_cons_succ, List.set_cons_zero, Nat.zero_add, Nat.reduceAdd, g11] at hK ⊢
                  have hq := conv_bts (IE.out wq hC).bts
                  exact wp_valE _ (convert_op 39 9 (.tmp 81) rfl _ _ hq) (hK _ _ rfl (Below.refl _ _))
                · intro f wq hC hd KK hK
                  have g9 : f 9 = .string ⟨T.toArray⟩ := hd 9 (by kernel_rfl)
                  have g12 : f 12 = .string ⟨x.dif.toArray⟩ := hd 12 (by kernel_rfl)
                  simp only [List.take_succ_cons, List.take_zero, setAll, List.setIfInBounds_toArray, List.set_cons_succ, List.set_cons_zero, Nat.zero_add, Nat.reduceAdd, g9, g12] at hK ⊢
                  refine wp_valE (.string ⟨(T ++ x.dif).toArray⟩) (by unfold execOp; simp [go_sem, str_app]; omega) (hK _ _ rfl (Below.refl _ _))
                · intro f wq hC hd KK hK
                  have g1 : f 1 = .int .u64 (x.n.toNat : Int) := hd 1 (by kernel_rfl)
                  have g13 : f 13 = .string ⟨(T ++ x.dif).toArray⟩ := hd 13 (by kernel_rfl)
                  simp only [List.take_succ_cons, List.take_zero, setAll, List.setIfInBounds_toArray, List.set_cons_succ, List.set_cons_zero, Nat.zero_add, Nat.reduceAdd, g1, g13] at hK ⊢
                  refine wp_of_quiet rfl ?_
                  go_big_quiet_step (fail)
                  exact wpQuiet_nil (hK _ _ rfl (Below.refl _ _))
                · intro f wq hC hd KK hK
                  simp only [List.take_succ_cons, List.take_zero, setAll, List.setIfInBounds_toArray, List.set_cons_succ, List.set_cons_zero, Nat.zero_add, Nat.reduceAdd] at hK ⊢
                  refine wp_alloc_row 50 rfl #[.int .u64 0, .string ⟨#[]⟩, .int .u64 0] 3 (by kernel_rfl) ?_
                  exact hK _ _ ⟨_, rfl, Row.new _ _ _, hC.size⟩ ((Below.refl _ _).alloc (Nat.le_refl _) _)
              · intro f wq hC hv
                have g0 : f 0 = .pointer (some ⟨w.heap.size, 1, none⟩) := hv 0 (by decide)
                have g1 : f 1 = .int .u64 (x.n.toNat : Int) := hv 1 (by decide)
                have g2 : f 2 = .pointer (some ⟨p, 0, none⟩) := hv 2 (by decide)
                have g3 : f 3 = .pointer (some ⟨p, 0, none⟩) := hv 3 (by decide)
                have g4 : f 4 = .pointer (some ⟨p, 0, none⟩) := hv 4 (by decide)
                have g5 : f 5 = .slice (some ⟨g, 0, none⟩) L c := hv 5 (by decide)
                have g6 : f 6 = .int .i64 (q : Int) := hv 6 (by decide)
                have g7 : f 7 = .pointer (some ⟨g, q * 3, none⟩) := hv 7 (by decide)
                have g8 : f 8 = .pointer (some ⟨g, q * 3 + 1, none⟩) := hv 8 (by decide)
                have g9 : f 9 = .string ⟨T.toArray⟩ := hv 9 (by decide)
                have g10 : f 10 = .pointer (some ⟨w.heap.size, 4, none⟩) := hv 10 (by decide)
                have g11 : f 11 = vb := hv 11 (by decide)
                have g12 : f 12 = .string ⟨x.dif.toArray⟩ := hv 12 (by decide)
                have g13 : f 13 = .string ⟨(T ++ x.dif).toArray⟩ := hv 13 (by decide)
                have g14 : f 14 = .agg #[.int .u64 (x.n.toNat : Int), .string ⟨(T ++ x.dif).toArray⟩, .int .u64 0] := hv 14 (by decide)
                obtain ⟨bq, hbq, rbq, zbq⟩ : ∃ b, f 15 = .pointer (some ⟨b, 0, none⟩) ∧ Row wq b 50 #[.int .u64 0, .string ⟨#[]⟩, .int .u64 0] ∧ w0.heap.size ≤ b := hv 15 (by decide)
                simp only [List.take_succ_cons, List.take_zero, List.drop_succ_cons, List.drop_zero, setAll, List.setIfInBounds_toArray, List.set_cons_succ, List.set_cons_zero, Nat.zero_add, Nat.reduceAdd, g0, g1, g2, g3, g4, g5, g6, g7, g8, g9, g10, g11, g12, g13, g14, hbq]
                clear g0 g1 g2 g3 g4 g5 g6 g7 g8 g9 g10 g11 g12 g13 g14 hbq hv
                have b5 := Box'.mk (below_setRow hC zbq #[.int .u64 (x.n.toNat : Int), .string ⟨(T ++ x.dif).toArray⟩, .int .u64 0])
                have r5 := Box'.mk (rbq.setRow #[.int .u64 (x.n.toNat : Int), .string ⟨(T ++ x.dif).toArray⟩, .int .u64 0])
                have rq := rbq.room (n := 3) rfl
                clear rbq hC zbq
                go_wp2_with (first | (refine wpList_store_row rfl 50 (.tmp 9) (.tmp 84) rfl bq rfl _ rfl 50 3 rq (by kernel_rfl) rfl (by simp [Value.oneCell']) ?_; generalize wq.setRow bq _ = w5 at *; clear rq) | fail)
                have UP : Box' (∀ wa, Below w5.heap.size w5 wa → Below w0.heap.size w0 wa) := ⟨fun wa hb => b5.out.trans (hb.mono b5.out.size)⟩
                have c5 := CP.out w5 b5.out
                have RE5 : Box' (rowF l x = (Rw.mk x.n (T ++ x.dif) 0)) := ⟨RF.out⟩
                go_loopw [10, 11] (fun u i wr => ∃ k : Nat, i = .int .i64 (k : Int) ∧ k ≤ L ∧ Box' (OwnR w5.heap.size wr u (selK (fun y : Rw => decide (y.n.toNat < x.n.toNat)) l k)) ∧ Box' (Below w5.heap.size w5 wr)) (fun _ i _ => L - (intOf i).toNat)
                case atStart => exact ⟨0, rfl, Nat.zero_le _, ⟨OwnR.nil _ _⟩, ⟨Below.refl _ _⟩⟩
                case round =>
                  rename World => wr
                  obtain ⟨k, rfl, hk, OO, BB⟩ := hrel
                  obtain ⟨au, cu, rfl, _⟩ := OO.out.slice
                  have c1 := CP.out wr (UP.out wr BB.out)
                  have sl := selK_len (fun y : Rw => decide (y.n.toNat < x.n.toNat)) l k
                  have AL : Box' ((selK (fun y : Rw => decide (y.n.toNat < x.n.toNat)) l k).length + 1 ≤ 1048576) := ⟨by omega⟩
                  by_cases hlt : k < L
                  · have C5 : Box' (∀ wa, Below w5.heap.size w5 wa → wa.cell? ⟨p, 0, none⟩ = some (.slice (some ⟨g, 0, none⟩) L c)) := ⟨fun wa hb => CP.out wa (UP.out wa hb)⟩
                    have X5 : Box' (∀ wa, Below w5.heap.size w5 wa → wa.cell? ⟨w.heap.size, 1, none⟩ = some (.int .u64 (x.n.toNat : Int))) := ⟨fun wa hb => (CX.out wa (UP.out wa hb)).2.1⟩
                    have Q5 := Box'.mk (fun wa hb => CL.out wa (UP.out wa hb) k (by first | exact hlt | (rw [HL.out]; exact hlt)))
                    have KN : Box' ((fun y : Rw => decide (y.n.toNat < x.n.toNat)) (l.getD k Rw.zero) = false → selK (fun y : Rw => decide (y.n.toNat < x.n.toNat)) l (k + 1) = selK (fun y : Rw => decide (y.n.toNat < x.n.toNat)) l k) := ⟨fun h => by
                      have e : selK (fun y : Rw => decide (y.n.toNat < x.n.toNat)) l (k + 1) = selK (fun y : Rw => decide (y.n.toNat < x.n.toNat)) l k ++ (if (fun y : Rw => decide (y.n.toNat < x.n.toNat)) (l.getD k Rw.zero) = true then [l.getD k Rw.zero] else []) := rfl
                      rw [e, if_neg (by rw [h]; decide), List.append_nil]⟩
                    have KA : Box' ((fun y : Rw => decide (y.n.toNat < x.n.toNat)) (l.getD k Rw.zero) = true → selK (fun y : Rw => decide (y.n.toNat < x.n.toNat)) l (k + 1) = (selK (fun y : Rw => decide (y.n.toNat < x.n.toNat)) l k) ++ [l.getD k Rw.zero]) := ⟨fun h => by
                      have e : selK (fun y : Rw => decide (y.n.toNat < x.n.toNat)) l (k + 1) = selK (fun y : Rw => decide (y.n.toNat < x.n.toNat)) l k ++ (if (fun y : Rw => decide (y.n.toNat < x.n.toNat)) (l.getD k Rw.zero) = true then [l.getD k Rw.zero] else []) := rfl
                      rw [e, if_pos h]; try simp⟩
                    clear sl
                    generalize hD : selK (fun y : Rw => decide (y.n.toNat < x.n.toNat)) l k = D at *
                    clear hD
                    generalize l.getD k Rw.zero = y at *
                    have hyn := y.n.toNat_lt
                    have hya := y.a.toNat_lt
                    by_cases h1 : y.n.toNat < x.n.toNat
                    · have ka := KA.out (decide_eq_true h1)
                      have SS : Box' (∀ v' w', OwnR w5.heap.size w' v' (D ++ [y]) → OwnR w5.heap.size w' v' (selK (fun y : Rw => decide (y.n.toNat < x.n.toNat)) l (k + 1))) := ⟨fun v' w' o => by rw [ka]; exact o⟩
                      clear KA KN ka
                      go_upto_region 20 with (fail)
                      refine wp_region_lex (fun wa => OwnR w5.heap.size wa (.slice au D.length cu) D ∧ Below w5.heap.size w5 wa) (by kernel_rfl) (by kernel_rfl) ⟨OO.out, BB.out.drew⟩ ?_
                      go_big_quiet_want
                      go_big_quiet_op
                      first | go_big_quiet_on | (refine ⟨_, fun _ _ => rfl, ?_⟩; go_big_quiet_on) | (refine ⟨_, fun _ _ _ => rfl, ?_⟩; go_big_quiet_on)
                      go_big_quiet_want
                      go_big_quiet_op
                      first | go_big_quiet_on | (refine ⟨_, fun _ _ => rfl, ?_⟩; go_big_quiet_on) | (refine ⟨_, fun _ _ _ => rfl, ?_⟩; go_big_quiet_on)
                      go_big_quiet_want
                      go_big_quiet_op
                      first | go_big_quiet_on | (refine ⟨_, fun _ _ => rfl, ?_⟩; go_big_quiet_on) | (refine ⟨_, fun _ _ _ => rfl, ?_⟩; go_big_quiet_on)
                      go_big_quiet_want
                      refine qC_load32 (.tmp 96) rfl p 0 _ rfl (fun wa hC => C5.out wa hC.2) ?_
                      simp only [Act.put, List.setIfInBounds_toArray, List.set_cons_succ, List.set_cons_zero]
                      go_big_quiet_on
                      go_big_quiet_want
                      go_big_quiet_op
                      first | go_big_quiet_on | (refine ⟨_, fun _ _ => rfl, ?_⟩; go_big_quiet_on) | (refine ⟨_, fun _ _ _ => rfl, ?_⟩; go_big_quiet_on)
                      go_big_quiet_want
                      go_big_quiet_op
                      first | go_big_quiet_on | (refine ⟨_, fun _ _ => rfl, ?_⟩; go_big_quiet_on) | (refine ⟨_, fun _ _ _ => rfl, ?_⟩; go_big_quiet_on)
                      go_big_quiet_want
                      go_big_quiet_op
                      first | go_big_quiet_on | (refine ⟨_, fun _ _ => rfl, ?_⟩; go_big_quiet_on) | (refine ⟨_, fun _ _ _ => rfl, ?_⟩; go_big_quiet_on)
                      go_big_quiet_want
                      refine qC_load29 (.tmp 100) rfl g (k * 3) _ rfl (fun wa hC => (Q5.out wa hC.2).1) ?_
                      simp only [Act.put, List.setIfInBounds_toArray, List.set_cons_succ, List.set_cons_zero]
                      go_big_quiet_on
                      go_big_quiet_want
                      go_big_quiet_op
                      first | go_big_quiet_on | (refine ⟨_, fun _ _ => rfl, ?_⟩; go_big_quiet_on) | (refine ⟨_, fun _ _ _ => rfl, ?_⟩; go_big_quiet_on)
                      go_big_quiet_want
                      refine qC_load29 (.tmp 102) rfl w.heap.size 1 _ rfl (fun wa hC => X5.out wa hC.2) ?_
                      simp only [Act.put, List.setIfInBounds_toArray, List.set_cons_succ, List.set_cons_zero]
                      go_big_quiet_on
                      go_big_quiet_want
                      refine qC_of (.bool true) (fun wq hC => by unfold execOp; simp [go_sem] <;> first | assumption | omega) ?_
                      simp only [Act.put, List.setIfInBounds_toArray, List.set_cons_succ, List.set_cons_zero]
                      go_big_quiet_on
                      refine wpQuiet_nil ?_
                      intro wz hz
                      have oz := hz.1
                      have bz := hz.2
                      have c2 := C5.out wz bz
                      obtain ⟨q1, q2, q3⟩ := Q5.out wz bz
                      have ba : Below wz.heap.size wz (wz.alloc (.cells #[.int .u64 (y.n.toNat : Int), .string ⟨y.t.toArray⟩, .int .u64 (y.a.toNat : Int)] 50)) := (Below.refl _ _).alloc (Nat.le_refl _) _
                      have oA := Box'.mk (oz.below ba)
                      have bA := Box'.mk (bz.trans (ba.mono bz.size))
                      have zA : Box' (w5.heap.size ≤ (wz.alloc (.cells #[.int .u64 (y.n.toNat : Int), .string ⟨y.t.toArray⟩, .int .u64 (y.a.toNat : Int)] 50)).heap.size) := ⟨bA.out.size⟩
                      have cA := Box'.mk (one_cells wz y)
                      have hl4 : D.length + [y].length ≤ 1048576 := by simp only [List.length_cons, List.length_nil]; exact AL.out
                      clear hz oz bz ba OO BB c1
                      go_wp2_with (refine wpList_appR rfl (.tmp 105) (.tmp 113) rfl w5.heap.size zA.out _ D [y] rfl oA.out ⟨wz.heap.size, 0, none⟩ _ _ rfl rfl cA.out hl4 ?_
                                   intro v4 w4 o4 g4
                                   have B4 := Box'.mk (grown_belowN g4 bA.out oA.out zA.out)
                                   have O4 := Box'.mk (SS.out v4 w4 o4)
                                   clear o4 g4 oA bA zA cA)
                      exact ⟨⟨k + 1, by go_num, by omega, O4, B4⟩, by simp [intOf]; omega⟩
                    · have ka := KN.out (decide_eq_false h1)
                      have SS : Box' (∀ v' w', OwnR w5.heap.size w' v' D → OwnR w5.heap.size w' v' (selK (fun y : Rw => decide (y.n.toNat < x.n.toNat)) l (k + 1))) := ⟨fun v' w' o => by rw [ka]; exact o⟩
                      clear KA KN ka
                      go_upto_region 20 with (fail)
                      refine wp_region_lex (fun wa => OwnR w5.heap.size wa (.slice au D.length cu) D ∧ Below w5.heap.size w5 wa) (by kernel_rfl) (by kernel_rfl) ⟨OO.out, BB.out.drew⟩ ?_
                      go_big_quiet_want
                      go_big_quiet_op
                      first | go_big_quiet_on | (refine ⟨_, fun _ _ => rfl, ?_⟩; go_big_quiet_on) | (refine ⟨_, fun _ _ _ => rfl, ?_⟩; go_big_quiet_on)
                      go_big_quiet_want
                      go_big_quiet_op
                      first | go_big_quiet_on | (refine ⟨_, fun _ _ => rfl, ?_⟩; go_big_quiet_on) | (refine ⟨_, fun _ _ _ => rfl, ?_⟩; go_big_quiet_on)
                      go_big_quiet_want
                      go_big_quiet_op
                      first | go_big_quiet_on | (refine ⟨_, fun _ _ => rfl, ?_⟩; go_big_quiet_on) | (refine ⟨_, fun _ _ _ => rfl, ?_⟩; go_big_quiet_on)
                      go_big_quiet_want
                      refine qC_load32 (.tmp 96) rfl p 0 _ rfl (fun wa hC => C5.out wa hC.2) ?_
                      simp only [Act.put, List.setIfInBounds_toArray, List.set_cons_succ, List.set_cons_zero]
                      go_big_quiet_on
                      go_big_quiet_want
                      go_big_quiet_op
                      first | go_big_quiet_on | (refine ⟨_, fun _ _ => rfl, ?_⟩; go_big_quiet_on) | (refine ⟨_, fun _ _ _ => rfl, ?_⟩; go_big_quiet_on)
                      go_big_quiet_want
                      go_big_quiet_op
                      first | go_big_quiet_on | (refine ⟨_, fun _ _ => rfl, ?_⟩; go_big_quiet_on) | (refine ⟨_, fun _ _ _ => rfl, ?_⟩; go_big_quiet_on)
                      go_big_quiet_want
                      go_big_quiet_op
                      first | go_big_quiet_on | (refine ⟨_, fun _ _ => rfl, ?_⟩; go_big_quiet_on) | (refine ⟨_, fun _ _ _ => rfl, ?_⟩; go_big_quiet_on)
                      go_big_quiet_want
                      refine qC_load29 (.tmp 100) rfl g (k * 3) _ rfl (fun wa hC => (Q5.out wa hC.2).1) ?_
                      simp only [Act.put, List.setIfInBounds_toArray, List.set_cons_succ, List.set_cons_zero]
                      go_big_quiet_on
                      go_big_quiet_want
                      go_big_quiet_op
                      first | go_big_quiet_on | (refine ⟨_, fun _ _ => rfl, ?_⟩; go_big_quiet_on) | (refine ⟨_, fun _ _ _ => rfl, ?_⟩; go_big_quiet_on)
                      go_big_quiet_want
                      refine qC_load29 (.tmp 102) rfl w.heap.size 1 _ rfl (fun wa hC => X5.out wa hC.2) ?_
                      simp only [Act.put, List.setIfInBounds_toArray, List.set_cons_succ, List.set_cons_zero]
                      go_big_quiet_on
                      go_big_quiet_want
                      refine qC_of (.bool false) (fun wq hC => by unfold execOp; simp [go_sem] <;> first | assumption | omega) ?_
                      simp only [Act.put, List.setIfInBounds_toArray, List.set_cons_succ, List.set_cons_zero]
                      go_big_quiet_on
                      refine wpQuiet_nil ?_
                      intro wz hz
                      have O4 := Box'.mk (SS.out _ _ hz.1)
                      have B4 := Box'.mk hz.2
                      clear hz OO BB c1
                      go_wp2_with fail
                      exact ⟨⟨k + 1, by go_num, by omega, O4, B4⟩, by simp [intOf]; omega⟩
                  · obtain rfl : L = k := by omega
                    have LE : selK (fun y : Rw => decide (y.n.toNat < x.n.toNat)) l L = lowF l x.n := by rw [← HL.out]; rfl
                    rw [LE] at OO AL sl ⊢
                    have rw5 := r5.out.below BB.out r5.out.lt
                    have q1 : wr.cell? ⟨bq, 0, none⟩ = some (.int .u64 (x.n.toNat : Int)) := rw5.cell 0
                    have q2 : wr.cell? ⟨bq, 1, none⟩ = some (.string ⟨(T ++ x.dif).toArray⟩) := rw5.cell 1
                    have q3 : wr.cell? ⟨bq, 2, none⟩ = some (.int .u64 0) := rw5.cell 2
                    have ba : Below wr.heap.size wr (wr.alloc (.cells #[.int .u64 (x.n.toNat : Int), .string ⟨(T ++ x.dif).toArray⟩, .int .u64 0] 50)) := (Below.refl _ _).alloc (Nat.le_refl _) _
                    have oA := Box'.mk (OO.out.below ba)
                    have bA := Box'.mk (BB.out.trans (ba.mono BB.out.size))
                    have zA : Box' (w5.heap.size ≤ (wr.alloc (.cells #[.int .u64 (x.n.toNat : Int), .string ⟨(T ++ x.dif).toArray⟩, .int .u64 0] 50)).heap.size) := ⟨bA.out.size⟩
                    have cA : Box' (∀ j u, (rowsC [(Rw.mk x.n (T ++ x.dif) 0)])[j]? = some u → (wr.alloc (.cells #[.int .u64 (x.n.toNat : Int), .string ⟨(T ++ x.dif).toArray⟩, .int .u64 0] 50)).cell? ((⟨wr.heap.size, 0, none⟩ : Addr).add j) = some u) := ⟨one_cells wr (Rw.mk x.n (T ++ x.dif) 0)⟩
                    generalize hlo : lowF l x.n = lo at *
                    clear hlo LE rw5 ba OO BB hlt
                    have hl4 : lo.length + [Rw.mk x.n (T ++ x.dif) 0].length ≤ 1048576 := by simp only [List.length_cons, List.length_nil]; exact AL.out
                    go_wp2_with (refine wpList_appR rfl (.tmp 123) (.tmp 125) rfl w5.heap.size zA.out _ lo [(Rw.mk x.n (T ++ x.dif) 0)] rfl oA.out ⟨wr.heap.size, 0, none⟩ _ _ rfl rfl cA.out hl4 ?_
                                 intro v6 w6 o6 g6
                                 have B6 := Box'.mk (grown_belowN g6 bA.out oA.out zA.out)
                                 have O6 := Box'.mk o6
                                 clear o6 g6 oA bA zA cA q1 q2 q3)
                    clear c1
                    go_loopw [10, 13] (fun u i wr => ∃ k : Nat, i = .int .i64 (k : Int) ∧ k ≤ L ∧ Box' (OwnR w5.heap.size wr u ((lo ++ [(Rw.mk x.n (T ++ x.dif) 0)]) ++ selK (fun y : Rw => decide (x.n.toNat < y.n.toNat)) l k)) ∧ Box' (Below w5.heap.size w5 wr)) (fun _ i _ => L - (intOf i).toNat)
                    case atStart => exact ⟨0, rfl, Nat.zero_le _, ⟨by rw [show selK (fun y : Rw => decide (x.n.toNat < y.n.toNat)) l 0 = [] from rfl, List.append_nil]; exact O6.out⟩, B6⟩
                    case round =>
                      rename World => wr
                      obtain ⟨k, rfl, hk, OO, BB⟩ := hrel
                      obtain ⟨au, cu, rfl, _⟩ := OO.out.slice
                      have c1 := CP.out wr (UP.out wr BB.out)
                      have sl := selK_len (fun y : Rw => decide (x.n.toNat < y.n.toNat)) l k
                      have AL : Box' (((lo ++ [(Rw.mk x.n (T ++ x.dif) 0)]) ++ selK (fun y : Rw => decide (x.n.toNat < y.n.toNat)) l k).length + 1 ≤ 1048576) := ⟨by simp only [List.length_append, List.length_cons, List.length_nil]; omega⟩
                      by_cases hlt : k < L
                      · have C5 : Box' (∀ wa, Below w5.heap.size w5 wa → wa.cell? ⟨p, 0, none⟩ = some (.slice (some ⟨g, 0, none⟩) L c)) := ⟨fun wa hb => CP.out wa (UP.out wa hb)⟩
                        have X5 : Box' (∀ wa, Below w5.heap.size w5 wa → wa.cell? ⟨w.heap.size, 1, none⟩ = some (.int .u64 (x.n.toNat : Int))) := ⟨fun wa hb => (CX.out wa (UP.out wa hb)).2.1⟩
                        have Q5 := Box'.mk (fun wa hb => CL.out wa (UP.out wa hb) k (by first | exact hlt | (rw [HL.out]; exact hlt)))
                        have KN : Box' ((fun y : Rw => decide (x.n.toNat < y.n.toNat)) (l.getD k Rw.zero) = false → (lo ++ [(Rw.mk x.n (T ++ x.dif) 0)]) ++ selK (fun y : Rw => decide (x.n.toNat < y.n.toNat)) l (k + 1) = (lo ++ [(Rw.mk x.n (T ++ x.dif) 0)]) ++ selK (fun y : Rw => decide (x.n.toNat < y.n.toNat)) l k) := ⟨fun h => by
                          have e : selK (fun y : Rw => decide (x.n.toNat < y.n.toNat)) l (k + 1) = selK (fun y : Rw => decide (x.n.toNat < y.n.toNat)) l k ++ (if (fun y : Rw => decide (x.n.toNat < y.n.toNat)) (l.getD k Rw.zero) = true then [l.getD k Rw.zero] else []) := rfl
                          rw [e, if_neg (by rw [h]; decide), List.append_nil]⟩
                        have KA : Box' ((fun y : Rw => decide (x.n.toNat < y.n.toNat)) (l.getD k Rw.zero) = true → (lo ++ [(Rw.mk x.n (T ++ x.dif) 0)]) ++ selK (fun y : Rw => decide (x.n.toNat < y.n.toNat)) l (k + 1) = ((lo ++ [(Rw.mk x.n (T ++ x.dif) 0)]) ++ selK (fun y : Rw => decide (x.n.toNat < y.n.toNat)) l k) ++ [l.getD k Rw.zero]) := ⟨fun h => by
                          have e : selK (fun y : Rw => decide (x.n.toNat < y.n.toNat)) l (k + 1) = selK (fun y : Rw => decide (x.n.toNat < y.n.toNat)) l k ++ (if (fun y : Rw => decide (x.n.toNat < y.n.toNat)) (l.getD k Rw.zero) = true then [l.getD k Rw.zero] else []) := rfl
                          rw [e, if_pos h]; try simp⟩
                        clear sl
                        generalize hD : (lo ++ [(Rw.mk x.n (T ++ x.dif) 0)]) ++ selK (fun y : Rw => decide (x.n.toNat < y.n.toNat)) l k = D at *
                        clear hD
                        generalize l.getD k Rw.zero = y at *
                        have hyn := y.n.toNat_lt
                        have hya := y.a.toNat_lt
                        by_cases h1 : x.n.toNat < y.n.toNat
                        · have ka := KA.out (decide_eq_true h1)
                          have SS : Box' (∀ v' w', OwnR w5.heap.size w' v' (D ++ [y]) → OwnR w5.heap.size w' v' ((lo ++ [(Rw.mk x.n (T ++ x.dif) 0)]) ++ selK (fun y : Rw => decide (x.n.toNat < y.n.toNat)) l (k + 1))) := ⟨fun v' w' o => by rw [ka]; exact o⟩
                          clear KA KN ka
                          go_upto_region 27 with (fail)
                          refine wp_region_lex (fun wa => OwnR w5.heap.size wa (.slice au D.length cu) D ∧ Below w5.heap.size w5 wa) (by kernel_rfl) (by kernel_rfl) ⟨OO.out, BB.out.drew⟩ ?_
                          go_big_quiet_want
                          go_big_quiet_op
                          first | go_big_quiet_on | (refine ⟨_, fun _ _ => rfl, ?_⟩; go_big_quiet_on) | (refine ⟨_, fun _ _ _ => rfl, ?_⟩; go_big_quiet_on)
                          go_big_quiet_want
                          go_big_quiet_op
                          first | go_big_quiet_on | (refine ⟨_, fun _ _ => rfl, ?_⟩; go_big_quiet_on) | (refine ⟨_, fun _ _ _ => rfl, ?_⟩; go_big_quiet_on)
                          go_big_quiet_want
                          go_big_quiet_op
                          first | go_big_quiet_on | (refine ⟨_, fun _ _ => rfl, ?_⟩; go_big_quiet_on) | (refine ⟨_, fun _ _ _ => rfl, ?_⟩; go_big_quiet_on)
                          go_big_quiet_want
                          refine qC_load32 (.tmp 138) rfl p 0 _ rfl (fun wa hC => C5.out wa hC.2) ?_
                          simp only [Act.put, List.setIfInBounds_toArray, List.set_cons_succ, List.set_cons_zero]
                          go_big_quiet_on
                          go_big_quiet_want
                          go_big_quiet_op
                          first | go_big_quiet_on | (refine ⟨_, fun _ _ => rfl, ?_⟩; go_big_quiet_on) | (refine ⟨_, fun _ _ _ => rfl, ?_⟩; go_big_quiet_on)
                          go_big_quiet_want
                          go_big_quiet_op
                          first | go_big_quiet_on | (refine ⟨_, fun _ _ => rfl, ?_⟩; go_big_quiet_on) | (refine ⟨_, fun _ _ _ => rfl, ?_⟩; go_big_quiet_on)
                          go_big_quiet_want
                          go_big_quiet_op
                          first | go_big_quiet_on | (refine ⟨_, fun _ _ => rfl, ?_⟩; go_big_quiet_on) | (refine ⟨_, fun _ _ _ => rfl, ?_⟩; go_big_quiet_on)
                          go_big_quiet_want
                          refine qC_load29 (.tmp 142) rfl g (k * 3) _ rfl (fun wa hC => (Q5.out wa hC.2).1) ?_
                          simp only [Act.put, List.setIfInBounds_toArray, List.set_cons_succ, List.set_cons_zero]
                          go_big_quiet_on
                          go_big_quiet_want
                          go_big_quiet_op
                          first | go_big_quiet_on | (refine ⟨_, fun _ _ => rfl, ?_⟩; go_big_quiet_on) | (refine ⟨_, fun _ _ _ => rfl, ?_⟩; go_big_quiet_on)
                          go_big_quiet_want
                          refine qC_load29 (.tmp 144) rfl w.heap.size 1 _ rfl (fun wa hC => X5.out wa hC.2) ?_
                          simp only [Act.put, List.setIfInBounds_toArray, List.set_cons_succ, List.set_cons_zero]
                          go_big_quiet_on
                          go_big_quiet_want
                          refine qC_of (.bool true) (fun wq hC => by unfold execOp; simp [go_sem] <;> first | assumption | omega) ?_
                          simp only [Act.put, List.setIfInBounds_toArray, List.set_cons_succ, List.set_cons_zero]
                          go_big_quiet_on
                          refine wpQuiet_nil ?_
                          intro wz hz
                          have oz := hz.1
                          have bz := hz.2
                          have c2 := C5.out wz bz
                          obtain ⟨q1, q2, q3⟩ := Q5.out wz bz
                          have ba : Below wz.heap.size wz (wz.alloc (.cells #[.int .u64 (y.n.toNat : Int), .string ⟨y.t.toArray⟩, .int .u64 (y.a.toNat : Int)] 50)) := (Below.refl _ _).alloc (Nat.le_refl _) _
                          have oA := Box'.mk (oz.below ba)
                          have bA := Box'.mk (bz.trans (ba.mono bz.size))
                          have zA : Box' (w5.heap.size ≤ (wz.alloc (.cells #[.int .u64 (y.n.toNat : Int), .string ⟨y.t.toArray⟩, .int .u64 (y.a.toNat : Int)] 50)).heap.size) := ⟨bA.out.size⟩
                          have cA := Box'.mk (one_cells wz y)
                          have hl4 : D.length + [y].length ≤ 1048576 := by simp only [List.length_cons, List.length_nil]; exact AL.out
                          clear hz oz bz ba OO BB c1
                          go_wp2_with (refine wpList_appR rfl (.tmp 147) (.tmp 155) rfl w5.heap.size zA.out _ D [y] rfl oA.out ⟨wz.heap.size, 0, none⟩ _ _ rfl rfl cA.out hl4 ?_
                                       intro v4 w4 o4 g4
                                       have B4 := Box'.mk (grown_belowN g4 bA.out oA.out zA.out)
                                       have O4 := Box'.mk (SS.out v4 w4 o4)
                                       clear o4 g4 oA bA zA cA)
                          exact ⟨⟨k + 1, by go_num, by omega, O4, B4⟩, by simp [intOf]; omega⟩
                        · have ka := KN.out (decide_eq_false h1)
                          have SS : Box' (∀ v' w', OwnR w5.heap.size w' v' D → OwnR w5.heap.size w' v' ((lo ++ [(Rw.mk x.n (T ++ x.dif) 0)]) ++ selK (fun y : Rw => decide (x.n.toNat < y.n.toNat)) l (k + 1))) := ⟨fun v' w' o => by rw [ka]; exact o⟩
                          clear KA KN ka
                          go_upto_region 27 with (fail)
                          refine wp_region_lex (fun wa => OwnR w5.heap.size wa (.slice au D.length cu) D ∧ Below w5.heap.size w5 wa) (by kernel_rfl) (by kernel_rfl) ⟨OO.out, BB.out.drew⟩ ?_
                          go_big_quiet_want
                          go_big_quiet_op
                          first | go_big_quiet_on | (refine ⟨_, fun _ _ => rfl, ?_⟩; go_big_quiet_on) | (refine ⟨_, fun _ _ _ => rfl, ?_⟩; go_big_quiet_on)
                          go_big_quiet_want
                          go_big_quiet_op
                          first | go_big_quiet_on | (refine ⟨_, fun _ _ => rfl, ?_⟩; go_big_quiet_on) | (refine ⟨_, fun _ _ _ => rfl, ?_⟩; go_big_quiet_on)
                          go_big_quiet_want
                          go_big_quiet_op
                          first | go_big_quiet_on | (refine ⟨_, fun _ _ => rfl, ?_⟩; go_big_quiet_on) | (refine ⟨_, fun _ _ _ => rfl, ?_⟩; go_big_quiet_on)
                          go_big_quiet_want
                          refine qC_load32 (.tmp 138) rfl p 0 _ rfl (fun wa hC => C5.out wa hC.2) ?_
                          simp only [Act.put, List.setIfInBounds_toArray, List.set_cons_succ, List.set_cons_zero]
                          go_big_quiet_on
                          go_big_quiet_want
                          go_big_quiet_op
                          first | go_big_quiet_on | (refine ⟨_, fun _ _ => rfl, ?_⟩; go_big_quiet_on) | (refine ⟨_, fun _ _ _ => rfl, ?_⟩; go_big_quiet_on)
                          go_big_quiet_want
                          go_big_quiet_op
                          first | go_big_quiet_on | (refine ⟨_, fun _ _ => rfl, ?_⟩; go_big_quiet_on) | (refine ⟨_, fun _ _ _ => rfl, ?_⟩; go_big_quiet_on)
                          go_big_quiet_want
                          go_big_quiet_op
                          first | go_big_quiet_on | (refine ⟨_, fun _ _ => rfl, ?_⟩; go_big_quiet_on) | (refine ⟨_, fun _ _ _ => rfl, ?_⟩; go_big_quiet_on)
                          go_big_quiet_want
                          refine qC_load29 (.tmp 142) rfl g (k * 3) _ rfl (fun wa hC => (Q5.out wa hC.2).1) ?_
                          simp only [Act.put, List.setIfInBounds_toArray, List.set_cons_succ, List.set_cons_zero]
                          go_big_quiet_on
                          go_big_quiet_want
                          go_big_quiet_op
                          first | go_big_quiet_on | (refine ⟨_, fun _ _ => rfl, ?_⟩; go_big_quiet_on) | (refine ⟨_, fun _ _ _ => rfl, ?_⟩; go_big_quiet_on)
                          go_big_quiet_want
                          refine qC_load29 (.tmp 144) rfl w.heap.size 1 _ rfl (fun wa hC => X5.out wa hC.2) ?_
                          simp only [Act.put, List.setIfInBounds_toArray, List.set_cons_succ, List.set_cons_zero]
                          go_big_quiet_on
                          go_big_quiet_want
                          refine qC_of (.bool false) (fun wq hC => by unfold execOp; simp [go_sem] <;> first | assumption | omega) ?_
                          simp only [Act.put, List.setIfInBounds_toArray, List.set_cons_succ, List.set_cons_zero]
                          go_big_quiet_on
                          refine wpQuiet_nil ?_
                          intro wz hz
                          have O4 := Box'.mk (SS.out _ _ hz.1)
                          have B4 := Box'.mk hz.2
                          clear hz OO BB c1
                          go_wp2_with fail
                          exact ⟨⟨k + 1, by go_num, by omega, O4, B4⟩, by simp [intOf]; omega⟩
                      · obtain rfl : L = k := by omega
                        have HE : selK (fun y : Rw => decide (x.n.toNat < y.n.toNat)) l L = highF l x.n := by rw [← HL.out]; rfl
                        rw [HE] at OO sl ⊢
                        have o5 := OO.out.less b5.out.size
                        have x3 : ∀ v, (wr.setCell ⟨p, 0, none⟩ v).cell? ⟨w.heap.size, 3, none⟩ = some (.int .u64 (x.thr.toNat : Int)) := fun v => ((RX.out.below (UP.out wr BB.out) RX.out.lt).setOther ⟨p, 0, none⟩ v (fun e => by have := PW.out; have e' : w.heap.size = p := e; omega)).cell 3
                        have PP := Box'.mk (RcR.put RR.out (UP.out wr BB.out) o5 (by simp only [List.length_append, List.length_cons]; omega) (by simp only [List.length_append, List.length_cons, List.length_nil]; omega))
                        have fp := (RR.out.below (UP.out wr BB.out) RR.out.lt).frozen 0
                        have TE : Box' (takeF l x = (thrF (lo ++ [(Rw.mk x.n (T ++ x.dif) 0)] ++ highF l x.n) x.thr, decide (lo.length = L), 0)) := ⟨by rw [TW4.out, RE5.out]⟩
                        have th := throw_any _ _ p _ x.thr PP.out.1
                        have EB : Box' (((lo.length : Int) == (L : Int)) = decide (lo.length = L)) := ⟨by rw [Bool.eq_iff_iff, beq_iff_eq, decide_eq_true_iff]; omega⟩
                        unfold uV at th
                        clear o5 HE TW4 RE5 RF CP CL CX UP TQ IE OO sl AL
                        generalize hl1 : lo ++ [(Rw.mk x.n (T ++ x.dif) 0)] ++ highF l x.n = l1 at *
                        clear hl1
                        have x4 := x3 (.slice au l1.length cu)
                        clear x3
                        go_wp2_with fail
                        refine th.mono ?_
                        rintro e w9 ⟨F2, rfl, hR, hT, hN⟩
                        have R9 := Box'.mk hR
                        have T9 := Box'.mk (((Tch.of (F := fun k => k = p ∨ (Value.slice (some ⟨g, 0, none⟩) L c).ownBlock = some k) B0.out).trans PP.out.2.1 (fun i hi => .inl hi)).trans hT (fun i hi => by
                          rcases PP.out.2.2 i hi with q | q
                          · exact .inl q
                          · have := B0.out.size; exact .inr (by omega)))
                        have N9 : Box' (∀ k, F2 k → (k = p ∨ (Value.slice (some ⟨g, 0, none⟩) L c).ownBlock = some k) ∨ w.heap.size ≤ k) := ⟨fun k hk => by
                          have hs := B0.out.size
                          have hs2 := PP.out.2.1.size
                          rcases hN k hk with q | q
                          · rcases PP.out.2.2 k q with q | q
                            · exact .inl q
                            · exact .inr (by omega)
                          · exact .inr (by omega)⟩
                        clear hR hT hN th PP fp x4 c1
                        go_wp2_with fail
                        go_ret2
                        exact ⟨_, by rw [TE.out, ← EB.out]; rfl, by rw [TE.out]; exact R9.out, T9.out, N9.out⟩
    · have TE : Box' (takeF l x = (l, false, 230)) := ⟨by rw [TW2.out, if_pos (.inl hf)]⟩
      rw [if_neg hf]
      clear TW2
      go_wp2_with fail
      go_ret2
      exact ⟨_, by rw [TE.out]; rfl, by rw [TE.out]; exact (RT.out _ (Below.refl _ _)).1, (RT.out _ (Below.refl _ _)).2, fun k hk => .inl hk⟩
end Go.Proofs.Ytikkekdmahdgaaa
