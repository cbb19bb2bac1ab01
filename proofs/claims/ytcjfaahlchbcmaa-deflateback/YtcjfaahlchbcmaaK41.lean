/- All blocks but one stay; the closure that counts bits. -/
import Derived.Test.YtcjfaahlchbcmaaK40
namespace Go.Proofs.Ytcjfaahlchbcmaa
open Go.RowKit Go.BigFrame
set_option linter.unusedVariables false
set_option linter.unusedSimpArgs false
structure But (g : Nat) (w w' : World) : Prop where
  os : w'.os = w.os
  tape : w'.tape = w.tape
  output : w'.output = w.output
  size : w.heap.size ≤ w'.heap.size
  block : ∀ k, k < w.heap.size → k ≠ g → w'.heap[k]? = w.heap[k]?
theorem But.refl (g : Nat) (w : World) : But g w w := ⟨rfl, rfl, rfl, Nat.le_refl _, fun _ _ _ => rfl⟩
theorem But.trans {g : Nat} {a b c : World} (h : But g a b) (k : But g b c) : But g a c :=
  ⟨k.os.trans h.os, k.tape.trans h.tape, k.output.trans h.output, Nat.le_trans h.size k.size, fun i hi hg => (k.block i (Nat.lt_of_lt_of_le hi h.size) hg).trans (h.block i hi hg)⟩
theorem But.of {g : Nat} {a b : World} (h : Below a.heap.size a b) : But g a b := ⟨h.os, h.tape, h.output, h.size, fun i hi _ => h.block i hi⟩
theorem But.set {g : Nat} {a b : World} (h : But g a b) (k : Nat) (v : Value) : But g a (b.setCell ⟨g, k, none⟩ v) := by
  have hb : Below g b (b.setCell ⟨g, k, none⟩ v) := (Below.refl g b).setCell (p := ⟨g, k, none⟩) (Nat.le_refl g) v
  exact ⟨hb.os.trans h.os, hb.tape.trans h.tape, hb.output.trans h.output, Nat.le_trans h.size hb.size, fun i hi hg => (Below.heap_setCell _ _ _ _ hg).trans (h.block i hi hg)⟩
set_option maxRecDepth 100000 in
set_option maxHeartbeats 4000000 in
theorem count1_is (w : World) (g x : Nat) (y c : Int) (hy : 0 ≤ y ∧ y ≤ 1000) (hc : 0 ≤ c ∧ c ≤ 100000000) (hr : Row w g 3 #[.int .i64 c]) :
    Calls Try.prog 53 #[.agg #[.int .u64 (x : Int), .int .i64 y], .pointer (some ⟨g, 0, none⟩)] w fun e w' => e = .returned (.tuple #[]) ∧ Row w' g 3 #[.int .i64 (c + y)] ∧ But g w w' := by
  have hg := hr.lt
  obtain ⟨w1, hw1⟩ : ∃ w1, w.alloc (.cells #[.int .u64 (x : Int), .int .i64 y] 73) = w1 := ⟨_, rfl⟩
  have b1 : Below w.heap.size w w1 := by rw [← hw1]; exact (Below.refl _ _).alloc (Nat.le_refl _) _
  have r1 := hr.below b1 hr.lt
  have p1 : Row w1 w.heap.size 73 #[.int .u64 (x : Int), .int .i64 y] := by rw [← hw1]; exact Row.new _ _ _
  have c0 : w1.cell? ⟨g, 0, none⟩ = some (.int .i64 c) := r1.cell 0
  have f0 := r1.frozen 0
  have c1 : w1.cell? ⟨w.heap.size, 1, none⟩ = some (.int .i64 y) := p1.cell 1
  have R1 := Box'.mk r1
  have R2 := Box'.mk (r1.setCell 0 (.int .i64 (c + y)))
  have B2 := Box'.mk ((But.of (g := g) b1).set 0 (.int .i64 (c + y)))
  have HW1 := Box'.mk hw1
  clear hw1 b1 r1 p1 hr
  go_enter Try.func53, Try.ntmps53
  go_upto_region 1 with (fail)
  rw [HW1.out]
  clear HW1
  go_wp2_with fail
  go_end0
  exact ⟨rfl, R2.out, B2.out⟩
set_option linter.unusedSimpArgs false
def cdA (l : List Int) (k : Nat) : Bt := (cds l l.length).getD k (0, 0)
def tokB (l1 l2 : List Int) (t : Tok) : List Bt :=
  if t.2.1 = 0 then [cdA l1 t.1.toNat]
  else [cdA l1 (lenS t.2.1.toNat).1, ((lenS t.2.1.toNat).2.1, ((lenS t.2.1.toNat).2.2 : Int)), cdA l2 (nthF 2 (t.2.2.toNat - 1)).1, ((nthF 2 (t.2.2.toNat - 1)).2.1, ((nthF 2 (t.2.2.toNat - 1)).2.2 : Int))]
def telP (hd : List Bt) (l1 l2 : List Int) (T : List Tok) (k : Nat) : List Bt := hd ++ ((T.take k).map (tokB l1 l2)).flatten
def telF (hd : List Bt) (l1 l2 : List Int) (T : List Tok) : List Bt := telP hd l1 l2 T T.length ++ [cdA l1 256]
theorem telP_zero (hd : List Bt) (l1 l2 : List Int) (T : List Tok) : telP hd l1 l2 T 0 = hd := by simp [telP]
theorem telP_step (hd : List Bt) (l1 l2 : List Int) (T : List Tok) (k : Nat) (hk : k < T.length) : telP hd l1 l2 T (k + 1) = telP hd l1 l2 T k ++ tokB l1 l2 (T.getD k (0, 0, 0)) := by
  unfold telP
  rw [List.take_succ_eq_append_getElem hk, List.map_append, List.flatten_append, List.getD_eq_getElem?_getD, List.getElem?_eq_getElem hk]
  simp
theorem tokB_len (l1 l2 : List Int) (t : Tok) : (tokB l1 l2 t).length ≤ 4 := by
  unfold tokB
  split <;> simp
theorem telP_len (hd : List Bt) (l1 l2 : List Int) (T : List Tok) (k : Nat) : (telP hd l1 l2 T k).length ≤ hd.length + 4 * k := by
  have h : ∀ l : List Tok, ((l.map (tokB l1 l2)).flatten).length ≤ 4 * l.length := by
    intro l
    induction l with
    | nil => exact Nat.le_refl _
    | cons x r ih =>
      have := tokB_len l1 l2 x
      rw [List.map_cons, List.flatten_cons, List.length_append, List.length_cons]
      omega
  have h1 := h (T.take k)
  unfold telP
  rw [List.length_append]
  rw [List.length_take] at h1
  omega
set_option maxRecDepth 100000 in
set_option maxHeartbeats 4000000 in
theorem gather2_is (w : World) (N g x : Nat) (y : Int) (v : Value) (d : List Bt) (hd : d.length ≤ 900000) (hN : N ≤ w.heap.size) (hr : Row w g 48 #[v]) (ho : OwnP N w v d) :
    Calls Try.prog 41 #[.agg #[.int .u64 (x : Int), .int .i64 y], .pointer (some ⟨g, 0, none⟩)] w fun e w' => e = .returned (.tuple #[]) ∧ ∃ v', Row w' g 48 #[v'] ∧ OwnP N w' v' (d ++ [(x, y)]) ∧ (∀ k, k < w.heap.size → k ≠ g → v.ownBlock ≠ some k → w'.heap[k]? = w.heap[k]?) ∧ (v'.ownBlock = v.ownBlock ∨ ∀ q, v'.ownBlock = some q → w.heap.size ≤ q) ∧ w'.os = w.os ∧ w'.tape = w.tape ∧ w'.output = w.output ∧ w.heap.size ≤ w'.heap.size := by
  obtain ⟨va, vc, rfl⟩ := ho.slice
  obtain ⟨w1, hw1⟩ : ∃ w1, w.alloc (.cells #[.int .u64 (x : Int), .int .i64 y] 73) = w1 := ⟨_, rfl⟩
  have b1 : Below w.heap.size w w1 := by rw [← hw1]; exact (Below.refl _ _).alloc (Nat.le_refl _) _
  have r1 := hr.below b1 hr.lt
  have p1 : Row w1 w.heap.size 73 #[.int .u64 (x : Int), .int .i64 y] := by rw [← hw1]; exact Row.new _ _ _
  have c0 : w1.cell? ⟨g, 0, none⟩ = some (.slice va d.length vc) := r1.cell 0
  have f0 := r1.frozen 0
  have c1 : w1.cell? ⟨w.heap.size, 0, none⟩ = some (.int .u64 (x : Int)) := p1.cell 0
  have c2 : w1.cell? ⟨w.heap.size, 1, none⟩ = some (.int .i64 y) := p1.cell 1
  have R1 := Box'.mk r1
  have O1 := Box'.mk (ho.below b1)
  have B1 := Box'.mk b1
  have HW1 := Box'.mk hw1
  clear hw1 b1 r1 p1 hr ho
  go_enter Try.func41, Try.ntmps41
  go_upto_region 1 with (fail)
  rw [HW1.out]
  clear HW1
  obtain ⟨w2, hw2⟩ : ∃ w2, w1.alloc (.cells #[.int .u64 (x : Int), .int .i64 y] 73) = w2 := ⟨_, rfl⟩
  have b2 : Below w1.heap.size w1 w2 := by rw [← hw2]; exact (Below.refl _ _).alloc (Nat.le_refl _) _
  have P2 : Box' (Row w2 w1.heap.size 73 #[.int .u64 (x : Int), .int .i64 y]) := ⟨by rw [← hw2]; exact Row.new _ _ _⟩
  have R2 := Box'.mk (R1.out.below b2 R1.out.lt)
  have O2 := Box'.mk (O1.out.below b2)
  have hN1 : N ≤ w1.heap.size := Nat.le_trans hN B1.out.size
  have N2 := Box'.mk (Nat.le_trans hN1 b2.size)
  have B2 := Box'.mk ((B1.out.mono hN).trans (b2.mono hN1))
  have C2 := Box'.mk (B1.out.trans (b2.mono B1.out.size))
  have HW2 := Box'.mk hw2
  have HN := Box'.mk hN
  have M2 : Box' (d.length + ([(x, y)] : List Bt).length ≤ 1000000) := ⟨by show _ + 1 ≤ _; omega⟩
  clear hw2 b2 R1 O1 B1 hN1
  go_wp2_with (first
    | (rw [HW2.out]; refine wpList_appP rfl (.tmp 3) (.tmp 5) rfl N N2.out _ _ rfl O2.out _ 1 1 [(x, y)] rfl rfl (row_pcs1 P2.out) M2.out ?_; intro v3 w3 o3 gr3 ow3; have r3 := R2.out.same (gr3.block _ R2.out.lt (fun e => ownP_ne O2.out e.symm R2.out (by decide))); have O3 := Box'.mk o3; have B3 := Box'.mk (below_grownP B2.out HN.out O2.out gr3); have c3 : w3.cell? ⟨g, 0, none⟩ = some (.slice va d.length vc) := r3.cell 0; have f3 := r3.frozen 0; have R3 := Box'.mk r3; have G3 := Box'.mk gr3; have W3 := Box'.mk ow3; clear r3 o3 gr3 ow3; clear c0 f0 c1 c2; obtain ⟨va3, vc3, hv3⟩ := O3.out.slice; rw [hv3] at O3 W3 ⊢; clear hv3)
    | fail)
  go_end0
  have hB := B3.out
  have e : (d ++ [(x, y)]).length = d.length + 1 := by simp
  have O3' := O3.out
  rw [e] at O3'
  have hg3 : ∀ q c, Row w3 q 73 c → q ≠ g := fun q c hr => row_ne2 hr R3.out (by decide)
  have W3' := W3.out
  rw [e] at W3'
  refine ⟨rfl, _, R3.out.setCell 0 _, O3'.keep fun q c _ hr => hr.setOther ⟨g, 0, none⟩ _ (hg3 q c hr), fun k hk hkg hko => (Below.heap_setCell _ _ _ _ hkg).trans ((G3.out.block k (Nat.lt_of_lt_of_le hk C2.out.size) (fun e => hko e.symm)).trans (C2.out.block k hk)), W3'.imp id (fun h q hq => by rw [h] at hq; injection hq with hq; have := C2.out.size; omega), ?_⟩
  have hs : Below g w3 (w3.setCell ⟨g, 0, none⟩ (.slice va3 (d.length + 1) vc3)) := (Below.refl g w3).setCell (p := ⟨g, 0, none⟩) (Nat.le_refl g) _
  exact ⟨hs.os.trans hB.os, hs.tape.trans hB.tape, hs.output.trans hB.output, Nat.le_trans hB.size hs.size⟩
structure Kps (M : World → Nat → Prop) (w w' : World) : Prop where
  os : w'.os = w.os
  tape : w'.tape = w.tape
  output : w'.output = w.output
  size : w.heap.size ≤ w'.heap.size
  block : ∀ k, k < w.heap.size → ¬ M w k → w'.heap[k]? = w.heap[k]?
  own : ∀ k, M w' k → M w k ∨ w.heap.size ≤ k
theorem Kps.refl (M : World → Nat → Prop) (w : World) : Kps M w w := ⟨rfl, rfl, rfl, Nat.le_refl _, fun _ _ _ => rfl, fun _ h => .inl h⟩
theorem Kps.free {M : World → Nat → Prop} {a b : World} (h : Kps M a b) {k : Nat} (hk : k < a.heap.size) (hm : ¬ M a k) : ¬ M b k := fun e => by
  rcases h.own k e with e | e
  · exact hm e
  · omega
theorem Kps.trans {M : World → Nat → Prop} {a b c : World} (h : Kps M a b) (k : Kps M b c) : Kps M a c :=
  ⟨k.os.trans h.os, k.tape.trans h.tape, k.output.trans h.output, Nat.le_trans h.size k.size, fun i hi hm => (k.block i (Nat.lt_of_lt_of_le hi h.size) (h.free hi hm)).trans (h.block i hi hm), fun i hi => by
    rcases k.own i hi with e | e
    · exact h.own i e
    · exact .inr (Nat.le_trans h.size e)⟩
structure PutK (f : Nat) (vp : Value) (Ok : Bt → Prop) (m : Nat) (P : List Bt → World → Prop) (M : World → Nat → Prop) : Prop where
  enters : ∀ args w, Sem.run Try.prog (callFunc f args) w = .ok (.enter f args) w
  lt : ∀ d w k, P d w → M w k → k < w.heap.size
  call : ∀ d w x y, P d w → Ok (x, y) → d.length < m → Calls Try.prog f #[.agg #[.int .u64 ((x : Nat) : Int), .int .i64 y], vp] w fun e w' => e = .returned (.tuple #[]) ∧ P (d ++ [(x, y)]) w' ∧ Kps M w w'
  more : ∀ d w w', P d w → w'.os = w.os → w'.tape = w.tape → w'.output = w.output → w.heap.size ≤ w'.heap.size → (∀ k, k < w.heap.size → M w k → w'.heap[k]? = w.heap[k]?) → P d w' ∧ ∀ k, M w' k → M w k
theorem PutK.below {f : Nat} {vp : Value} {Ok : Bt → Prop} {m : Nat} {P : List Bt → World → Prop} {M : World → Nat → Prop} (h : PutK f vp Ok m P M) {d : List Bt} {w w' : World} (hp : P d w) (hb : Below w.heap.size w w') : P d w' ∧ Kps M w w' :=
  have q := h.more d w w' hp hb.os hb.tape hb.output hb.size (fun k hk _ => hb.block k hk)
  ⟨q.1, hb.os, hb.tape, hb.output, hb.size, fun k hk _ => hb.block k hk, fun k hk => .inl (q.2 k hk)⟩
theorem PutK.new {f : Nat} {vp : Value} {Ok : Bt → Prop} {m : Nat} {P : List Bt → World → Prop} {M : World → Nat → Prop} (h : PutK f vp Ok m P M) {d : List Bt} {w w' : World} (hp : P d w) (hb : Below w.heap.size w w') (k : Nat) (hk : w.heap.size ≤ k) : ¬ M w' k := fun e => by
  have q := h.more d w w' hp hb.os hb.tape hb.output hb.size (fun k hk _ => hb.block k hk)
  have := h.lt d w k hp (q.2 k e)
  omega
theorem Kps.row {M : World → Nat → Prop} {a b : World} (h : Kps M a b) {g t : Nat} {c : Array Value} (hr : Row a g t c) (hm : ¬ M a g) : Row b g t c := hr.same (h.block g hr.lt hm)
theorem Kps.cell {M : World → Nat → Prop} {a b : World} (h : Kps M a b) {p : Addr} (hp : p.block < a.heap.size) (hm : ¬ M a p.block) : b.cell? p = a.cell? p := by
  have := h.block p.block hp hm
  unfold World.cell?
  rw [this]
theorem enters53 (args : Array Value) (w : World) : Sem.run Try.prog (callFunc 53 args) w = .ok (.enter 53 args) w := by
  simp [go_sem, callFunc, Try.func53]
  rw [if_neg (by unfold Try.f53; simp), if_neg (by unfold Try.f53; simp)]
theorem enters41 (args : Array Value) (w : World) : Sem.run Try.prog (callFunc 41 args) w = .ok (.enter 41 args) w := by
  simp [go_sem, callFunc, Try.func41]
  rw [if_neg (by unfold Try.f41; simp), if_neg (by unfold Try.f41; simp)]
theorem upon_enter {P : Program} {Q : Exit → Act → World → Prop} {op : Oper} {a : Act} {w : World} {K : Act → World → Prop} {f : FuncId} {args : Array Value} {R : World → Prop}
    (hc : Calls P f args w (fun e w'' => e = .returned (.tuple #[]) ∧ R w'')) (h : ∀ w'', R w'' → K (a.put op.dst (.tuple #[])) w'') : Oper.upon P op a K Q (.ok (.enter f args) w) :=
  hc.mono fun e w'' hh => by obtain ⟨rfl, hR⟩ := hh; exact h w'' hR
end Go.Proofs.Ytcjfaahlchbcmaa
