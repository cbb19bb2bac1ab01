/- The program's sender, how it lies; whether it is there; its making, its setting, what is told of it. -/
import Derived.Test.YtikkekdmahdgaaaTa
import Derived.Test.YtikkekdmahdgaaaRm
import Derived.Test.YtikkekdmahdgaaaRq
import Derived.Laws.Bits64
namespace Go.Proofs.Ytikkekdmahdgaaa
open Go.RowKit Go.BigFrame
set_option linter.unusedSimpArgs false
set_option linter.unusedVariables false
set_option maxRecDepth 100000

/-- The block g begins with the texts ts. -/
def TxR (w : World) (g : Nat) (ts : List (List UInt8)) : Prop := g < w.heap.size ∧ ∀ j u, (ts.map sT)[j]? = some u → w.cell? ⟨g, j, none⟩ = some u
theorem TxR.same {w w' : World} {g : Nat} {ts : List (List UInt8)} (h : TxR w g ts) (hk : w'.heap[g]? = w.heap[g]?) : TxR w' g ts := by
  refine ⟨?_, fun j u hu => ?_⟩
  · have h1 := Array.getElem?_eq_getElem h.1
    rw [h1] at hk
    exact (Array.getElem?_eq_some_iff.1 hk).1
  · have := h.2 j u hu
    simp only [World.cell?, hk] at *
    exact this
theorem TxR.below {w w' : World} {g : Nat} {ts : List (List UInt8)} (h : TxR w g ts) (hb : Below w.heap.size w w') : TxR w' g ts := h.same (hb.block g h.1)
theorem TxR.set {w : World} {g : Nat} {ts : List (List UInt8)} (h : TxR w g ts) (a : Addr) (v : Value) (hn : g ≠ a.block) : TxR (w.setCell a v) g ts := h.same (Below.heap_setCell _ _ _ _ hn)
theorem TxR.at {w : World} {g : Nat} {ts : List (List UInt8)} (h : TxR w g ts) (k : Nat) (hk : k < ts.length) : w.cell? ⟨g, k, none⟩ = some (sT (ts.getD k [])) :=
  h.2 k _ (by rw [List.getElem?_map, List.getElem?_eq_getElem hk, show ts.getD k [] = ts[k] by simp [hk]]; rfl)
/-- What stands of a sender's numbers and times. -/
structure GoodS (s : Sd) : Prop where
  pos : 0 < s.l.length
  len : s.l.length ≤ 32
  seq : ∀ k, k < s.l.length → (s.l.getD k Rw.zero).n.toNat = (s.l.getD 0 Rw.zero).n.toNat + k
  tim : 1 < s.l.length → s.any = true ∧ (lastR s.l).a = s.tm
  ord : s.any = true → s.tm.toNat ≤ s.seen.toNat
theorem GoodS.now {s : Sd} (h : GoodS s) (t : List UInt8) : GoodS { s with now := t } := ⟨h.pos, h.len, h.seq, h.tim, h.ord⟩
def ssA (s : Sd) (g c : Nat) : Array Value := #[sT s.now, .slice (some ⟨g, 0, none⟩) s.l.length c, uV (s.l.getD 0 Rw.zero).n, .bool s.any, uV s.tm, uV s.seen]
/-- How the program's sender lies: itself in the block p, the texts of its states in the block g. -/
def SndR (w : World) (F : Nat → Prop) (p : Nat) (s : Sd) : Prop := ∃ g c, F = (fun k => k = p ∨ k = g) ∧ p ≠ g ∧ s.l.length ≤ c ∧ Row w p 78 (ssA s g c) ∧ TxR w g (s.l.map (·.t)) ∧ GoodS s
theorem sndR_keep : KeepR SndR := ⟨fun w w' F p s ⟨g, c, e, h1, h2, h3, h4, h5⟩ hk => by
    subst e
    exact ⟨g, c, rfl, h1, h2, h3.same (hk p (.inl rfl)), h4.same (hk g (.inr rfl)), h5⟩,
  fun w F p s ⟨g, c, e, h1, h2, h3, h4, h5⟩ k hk => by
    subst e
    rcases hk with rfl | rfl
    · exact h3.lt
    · exact h4.1⟩
theorem there_any (p n c : Nat) (a : Option Addr) (w : World) (h : w.cell? ⟨p, 1, none⟩ = some (.slice a n c)) (hn : 0 < n) : Calls Try.prog 25 #[.pointer (some ⟨p, 0, none⟩)] w fun e w' => e = .returned (.bool true) ∧ w' = w := by
  go_enter Try.func25, Try.ntmps25
  go_wp2_with fail
  go_ret
  exact ⟨by first | (simp; done) | (simp; omega), rfl⟩
theorem there_nil (w : World) : Calls Try.prog 25 #[.pointer none] w fun e w' => e = .returned (.bool false) ∧ w' = w := by
  go_enter Try.func25, Try.ntmps25
  go_wp2_with fail
  go_ret
  exact ⟨rfl, rfl⟩
theorem newSend_C : NewSC 8 SndR := by
  intro t w
  have b0 : Below w.heap.size w (w.alloc (.cells #[sT t] 26)) := (Below.refl _ _).alloc (Nat.le_refl _) _
  have cp := copied_any t (w.alloc (.cells #[sT t] 26))
  have B0 := Box'.mk b0
  have S0 : Box' (∀ w2 : World, Below w.heap.size w w2 → ∃ F, SndR (((w2.alloc (.cells #[sT t] 26)).alloc (.cells #[sT t] 26)).alloc (.cells #[sT t, .slice (some ⟨w2.heap.size + 1, 0, none⟩) 1 1, .int .u64 0, .bool false, .int .u64 0, .int .u64 0] 78)) F (w2.heap.size + 1 + 1) (newS t) ∧ Below w.heap.size w (((w2.alloc (.cells #[sT t] 26)).alloc (.cells #[sT t] 26)).alloc (.cells #[sT t, .slice (some ⟨w2.heap.size + 1, 0, none⟩) 1 1, .int .u64 0, .bool false, .int .u64 0, .int .u64 0] 78)) ∧ ∀ k, F k → w.heap.size ≤ k) := ⟨fun w2 b2 => by
    have z2 := b2.size
    have b3 := b2.alloc b2.size (.cells #[sT t] 26)
    have b4 := b3.alloc b3.size (.cells #[sT t] 26)
    have b5 := b4.alloc b4.size (.cells #[sT t, .slice (some ⟨w2.heap.size + 1, 0, none⟩) 1 1, .int .u64 0, .bool false, .int .u64 0, .int .u64 0] 78)
    have z3 : (w2.alloc (.cells #[sT t] 26)).heap.size = w2.heap.size + 1 := by simp
    have z4 : ((w2.alloc (.cells #[sT t] 26)).alloc (.cells #[sT t] 26)).heap.size = w2.heap.size + 1 + 1 := by simp
    have r4 : Row ((w2.alloc (.cells #[sT t] 26)).alloc (.cells #[sT t] 26)) (w2.heap.size + 1) 26 #[sT t] := Row.made _ _ _ _ _ rfl (by simp)
    refine ⟨_, ⟨w2.heap.size + 1, 1, rfl, by omega, by simp [newS], Row.made _ _ _ _ _ rfl (by simp), ?_, ?_⟩, b5, ?_⟩
    · have r5 := r4.alloc (.cells #[sT t, .slice (some ⟨w2.heap.size + 1, 0, none⟩) 1 1, .int .u64 0, .bool false, .int .u64 0, .int .u64 0] 78)
      refine ⟨r5.lt, fun j u hu => ?_⟩
      rw [r5.cell]
      simpa [newS] using hu
    · refine ⟨by simp [newS], by simp [newS], fun k hk => ?_, fun h => by simp [newS] at h, fun h => by simp [newS] at h⟩
      have : k = 0 := by simp [newS] at hk; omega
      subst this
      rfl
    · rintro k (rfl | rfl) <;> omega⟩
  clear b0
  unfold sT at *
  go_enter Try.func8, Try.ntmps8
  go_wp2_with fail
  refine cp.mono ?_
  rintro e w2 ⟨rfl, hw⟩
  obtain ⟨F, q1, q2, q3⟩ := S0.out w2 (B0.out.trans (hw.mono B0.out.size))
  have Q1 := Box'.mk q1
  have Q2 := Box'.mk q2
  have Q3 := Box'.mk q3
  clear cp S0 B0 hw q1 q2 q3
  go_wp2_with fail
  go_ret
  exact ⟨_, F, rfl, Q1.out, Q2.out, Q3.out⟩
theorem set_C : SetSC 10 SndR := by
  intro w F p s t h
  obtain ⟨g, c, rfl, hne, hc, hr, ht, hG⟩ := h
  have th := there_any p s.l.length c _ (w.alloc (.cells #[sT t] 26)) ((hr.alloc _).cell 1) hG.pos
  have cp := copied_any t (w.alloc (.cells #[sT t] 26))
  have R0 := Box'.mk (Row.new w 26 #[sT t])
  have S0 : Box' (∀ w2 : World, Below (w.alloc (.cells #[sT t] 26)).heap.size (w.alloc (.cells #[sT t] 26)) w2 → Row w2 w.heap.size 26 #[sT t] ∧ Row w2 p 78 (ssA s g c) ∧ w.heap.size ≠ p ∧ SndR ((w2.setCell ⟨w.heap.size, 0, none⟩ (sT t)).setCell ⟨p, 0, none⟩ (sT t)) (fun k => k = p ∨ k = g) p { s with now := t } ∧ Tch (fun k => k = p ∨ k = g) w ((w2.setCell ⟨w.heap.size, 0, none⟩ (sT t)).setCell ⟨p, 0, none⟩ (sT t))) := ⟨fun w2 hb => by
    have bw : Below w.heap.size w (w.alloc (.cells #[sT t] 26)) := (Below.refl _ _).alloc (Nat.le_refl _) _
    have b2 := bw.trans (hb.mono bw.size)
    have hp := hr.lt
    have r2 := R0.out.below hb R0.out.lt
    have hr2 := hr.below b2 hr.lt
    have ht2 := ht.below b2
    have hg := ht.1
    refine ⟨r2, hr2, by omega, ⟨g, c, rfl, hne, hc, ?_, ?_, hG.now t⟩, ?_⟩
    · have := (hr2.setOther ⟨w.heap.size, 0, none⟩ (sT t) (by show p ≠ w.heap.size; omega)).setCell 0 (sT t)
      simpa [ssA] using this
    · exact (ht2.set ⟨w.heap.size, 0, none⟩ _ (by show g ≠ w.heap.size; omega)).set ⟨p, 0, none⟩ _ (Ne.symm hne)
    · exact ((Tch.of b2).set ⟨w.heap.size, 0, none⟩ _ (.inr (Nat.le_refl _))).set ⟨p, 0, none⟩ _ (.inl (.inl rfl))⟩
  clear hr ht
  unfold sT at *
  unfold ssA uV sT at S0
  go_enter Try.func10, Try.ntmps10
  go_wp2_with fail
  refine th.mono ?_
  rintro e w1 ⟨rfl, rfl⟩
  have c0 := R0.out.cell 0
  clear th R0
  go_wp2_with fail
  refine cp.mono ?_
  rintro e w2 ⟨rfl, hw⟩
  obtain ⟨r2, hr2, hne2, q1, q2⟩ := S0.out w2 hw
  have Q1 := Box'.mk q1
  have Q2 := Box'.mk q2
  have f2 := r2.frozen 0
  have c2 := r2.cell 0
  have hs := r2.setCell 0 (.string ⟨t.toArray⟩)
  have c3 := hs.cell 0
  have hp := hr2.setOther ⟨w.heap.size, 0, none⟩ (.string ⟨t.toArray⟩) (Ne.symm hne2)
  have c4 := hp.cell 0
  have f4 := hp.frozen 0
  clear cp S0 hw q1 q2 r2 hr2 hs hp c0
  go_wp2_with fail
  go_ret
  exact ⟨_, rfl, Q1.out, Q2.out, fun k hk => .inl hk⟩
section
variable {C : World → Prop} {op : Oper} {a : Act} {K : Act → Prop}
theorem qC_load76 (x : Operand) (ho : op.op = .load 76 x) (b o : Nat) (v : Value) (hx : a.eval x = .pointer (some ⟨b, o, none⟩)) (hc : ∀ w, C w → w.cell? ⟨b, o, none⟩ = some v) (hk : K (a.put op.dst v)) : op.quiet Try.prog a C K :=
  qC_of v (fun w hw => by unfold execOp; simp only [ho, hx]; simp [go_sem, hc w hw]) hk
theorem qC_load26 (x : Operand) (ho : op.op = .load 26 x) (b o : Nat) (v : Value) (hx : a.eval x = .pointer (some ⟨b, o, none⟩)) (hc : ∀ w, C w → w.cell? ⟨b, o, none⟩ = some v) (hk : K (a.put op.dst (.agg #[v]))) : op.quiet Try.prog a C K :=
  qC_of _ (fun w hw => by unfold execOp; simp only [ho, hx]; simp [go_sem, hc w hw]) hk
theorem qC_load91 (x : Operand) (ho : op.op = .load 91 x) (b o : Nat) (v : Value) (hx : a.eval x = .pointer (some ⟨b, o, none⟩)) (hc : ∀ w, C w → w.cell? ⟨b, o, none⟩ = some v) (hk : K (a.put op.dst v)) : op.quiet Try.prog a C K :=
  qC_of v (fun w hw => by unfold execOp; simp only [ho, hx]; simp [go_sem, hc w hw]) hk
theorem qC_load23 (x : Operand) (ho : op.op = .load 23 x) (b o : Nat) (v : Value) (hx : a.eval x = .pointer (some ⟨b, o, none⟩)) (hc : ∀ w, C w → w.cell? ⟨b, o, none⟩ = some v) (hk : K (a.put op.dst v)) : op.quiet Try.prog a C K :=
  qC_of v (fun w hw => by unfold execOp; simp only [ho, hx]; simp [go_sem, hc w hw]) hk
theorem qC_load3 (x : Operand) (ho : op.op = .load 3 x) (b o : Nat) (v : Value) (hx : a.eval x = .pointer (some ⟨b, o, none⟩)) (hc : ∀ w, C w → w.cell? ⟨b, o, none⟩ = some v) (hk : K (a.put op.dst v)) : op.quiet Try.prog a C K :=
  qC_of v (fun w hw => by unfold execOp; simp only [ho, hx]; simp [go_sem, hc w hw]) hk
end
theorem told_C : ToldSC 16 SndR := by
  intro w F p s h _ _
  obtain ⟨g, c, rfl, hne, hc, hr, ht, hG⟩ := h
  have th := there_any p s.l.length c _ w (hr.cell 1) hG.pos
  have h0 := hG.seq (s.l.length - 1) (by have := hG.pos; omega)
  have hp := hG.pos
  have h32 := hG.len
  have C1 : Box' (∀ wa : World, wa = w.drew → wa.cell? ⟨p, 1, none⟩ = some (.slice (some ⟨g, 0, none⟩) s.l.length c)) := ⟨fun wa e => by subst e; exact hr.cell 1⟩
  have C2 : Box' (∀ wa : World, wa = w.drew → wa.cell? ⟨p, 2, none⟩ = some (.int .u64 ((s.l.getD 0 Rw.zero).n.toNat : Int))) := ⟨fun wa e => by subst e; exact hr.cell 2⟩
  have BD := Box'.mk ((Below.refl w.heap.size w).drew)
  have hm := (s.l.getD (s.l.length - 1) Rw.zero).n.toNat_lt
  unfold lastR
  clear hr ht hG
  unfold uV
  generalize (s.l.getD (s.l.length - 1) Rw.zero).n.toNat = m at *
  generalize (s.l.getD 0 Rw.zero).n.toNat = f at *
  generalize s.l.length = n at *
  go_enter Try.func16, Try.ntmps16
  go_wp2_with fail
  refine th.mono ?_
  rintro e w1 ⟨rfl, rfl⟩
  clear th
  go_upto_region 3 with (fail)
  refine wp_region_lex (fun wa => wa = w1.drew) (by kernel_rfl) (by kernel_rfl) rfl ?_
  go_big_quiet_want
  go_big_quiet_op
  first | go_big_quiet_on | (refine ⟨_, fun _ _ => rfl, ?_⟩; go_big_quiet_on) | (refine ⟨_, fun _ _ _ => rfl, ?_⟩; go_big_quiet_on)
  go_big_quiet_want
  go_big_quiet_op
  first | go_big_quiet_on | (refine ⟨_, fun _ _ => rfl, ?_⟩; go_big_quiet_on) | (refine ⟨_, fun _ _ _ => rfl, ?_⟩; go_big_quiet_on)
  go_big_quiet_want
  go_big_quiet_op
  first | go_big_quiet_on | (refine ⟨_, fun _ _ => rfl, ?_⟩; go_big_quiet_on) | (refine ⟨_, fun _ _ _ => rfl, ?_⟩; go_big_quiet_on)
  go_big_quiet_want
  refine qC_load29 (.tmp 10) rfl p 2 _ rfl C2.out ?_
  simp only [Act.put, List.setIfInBounds_toArray, List.set_cons_succ, List.set_cons_zero]
  go_big_quiet_on
  go_big_quiet_want
  go_big_quiet_op
  first | go_big_quiet_on | (refine ⟨_, fun _ _ => rfl, ?_⟩; go_big_quiet_on) | (refine ⟨_, fun _ _ _ => rfl, ?_⟩; go_big_quiet_on)
  go_big_quiet_want
  go_big_quiet_op
  first | go_big_quiet_on | (refine ⟨_, fun _ _ => rfl, ?_⟩; go_big_quiet_on) | (refine ⟨_, fun _ _ _ => rfl, ?_⟩; go_big_quiet_on)
  go_big_quiet_want
  go_big_quiet_op
  first | go_big_quiet_on | (refine ⟨_, fun _ _ => rfl, ?_⟩; go_big_quiet_on) | (refine ⟨_, fun _ _ _ => rfl, ?_⟩; go_big_quiet_on)
  go_big_quiet_want
  refine qC_load29 (.tmp 14) rfl p 2 _ rfl C2.out ?_
  simp only [Act.put, List.setIfInBounds_toArray, List.set_cons_succ, List.set_cons_zero]
  go_big_quiet_on
  go_big_quiet_want
  go_big_quiet_op
  first | go_big_quiet_on | (refine ⟨_, fun _ _ => rfl, ?_⟩; go_big_quiet_on) | (refine ⟨_, fun _ _ _ => rfl, ?_⟩; go_big_quiet_on)
  go_big_quiet_want
  go_big_quiet_op
  first | go_big_quiet_on | (refine ⟨_, fun _ _ => rfl, ?_⟩; go_big_quiet_on) | (refine ⟨_, fun _ _ _ => rfl, ?_⟩; go_big_quiet_on)
  go_big_quiet_want
  go_big_quiet_op
  first | go_big_quiet_on | (refine ⟨_, fun _ _ => rfl, ?_⟩; go_big_quiet_on) | (refine ⟨_, fun _ _ _ => rfl, ?_⟩; go_big_quiet_on)
  go_big_quiet_want
  refine qC_load76 (.tmp 18) rfl p 1 _ rfl C1.out ?_
  simp only [Act.put, List.setIfInBounds_toArray, List.set_cons_succ, List.set_cons_zero]
  go_big_quiet_on
  go_big_quiet_want
  go_big_quiet_op
  first | go_big_quiet_on | (refine ⟨_, fun _ _ => rfl, ?_⟩; go_big_quiet_on) | (refine ⟨_, fun _ _ _ => rfl, ?_⟩; go_big_quiet_on)
  go_big_quiet_want
  go_big_quiet_op
  first | go_big_quiet_on | (refine ⟨_, fun _ _ => rfl, ?_⟩; go_big_quiet_on) | (refine ⟨_, fun _ _ _ => rfl, ?_⟩; go_big_quiet_on)
  go_big_quiet_want
  refine qC_of (.int .u64 ((n - 1 : Nat) : Int)) (fun wq hC => by unfold execOp; simp [go_sem, IntKind.wrap_u64]; omega) ?_
  simp only [Act.put, List.setIfInBounds_toArray, List.set_cons_succ, List.set_cons_zero]
  go_big_quiet_on
  go_big_quiet_want
  refine qC_of (.int .u64 ((m : Nat) : Int)) (fun wq hC => by unfold execOp; simp [go_sem, IntKind.wrap_u64]; omega) ?_
  simp only [Act.put, List.setIfInBounds_toArray, List.set_cons_succ, List.set_cons_zero]
  go_big_quiet_on
  go_big_quiet_want
  go_big_quiet_op
  first | go_big_quiet_on | (refine ⟨_, fun _ _ => rfl, ?_⟩; go_big_quiet_on) | (refine ⟨_, fun _ _ _ => rfl, ?_⟩; go_big_quiet_on)
  go_big_quiet_want
  go_big_quiet_op
  first | go_big_quiet_on | (refine ⟨_, fun _ _ => rfl, ?_⟩; go_big_quiet_on) | (refine ⟨_, fun _ _ _ => rfl, ?_⟩; go_big_quiet_on)
  go_big_quiet_want
  go_big_quiet_op
  first | go_big_quiet_on | (refine ⟨_, fun _ _ => rfl, ?_⟩; go_big_quiet_on) | (refine ⟨_, fun _ _ _ => rfl, ?_⟩; go_big_quiet_on)
  go_big_quiet_want
  refine qC_load76 (.tmp 26) rfl p 1 _ rfl C1.out ?_
  simp only [Act.put, List.setIfInBounds_toArray, List.set_cons_succ, List.set_cons_zero]
  go_big_quiet_on
  go_big_quiet_want
  go_big_quiet_op
  first | go_big_quiet_on | (refine ⟨_, fun _ _ => rfl, ?_⟩; go_big_quiet_on) | (refine ⟨_, fun _ _ _ => rfl, ?_⟩; go_big_quiet_on)
  go_big_quiet_want
  go_big_quiet_op
  first | go_big_quiet_on | (refine ⟨_, fun _ _ => rfl, ?_⟩; go_big_quiet_on) | (refine ⟨_, fun _ _ _ => rfl, ?_⟩; go_big_quiet_on)
  go_big_quiet_want
  go_big_quiet_op
  first | go_big_quiet_on | (refine ⟨_, fun _ _ => rfl, ?_⟩; go_big_quiet_on) | (refine ⟨_, fun _ _ _ => rfl, ?_⟩; go_big_quiet_on)
  go_big_quiet_want
  go_big_quiet_op
  first | go_big_quiet_on | (refine ⟨_, fun _ _ => rfl, ?_⟩; go_big_quiet_on) | (refine ⟨_, fun _ _ _ => rfl, ?_⟩; go_big_quiet_on)
  refine wpQuiet_nil ?_
  rintro wz rfl
  clear C1 C2
  go_wp2_with fail
  refine bodyPost_ret (results_tmp3 rfl _ _ _) rfl ?_
  exact ⟨rfl, BD.out⟩
end Go.Proofs.Ytikkekdmahdgaaa
