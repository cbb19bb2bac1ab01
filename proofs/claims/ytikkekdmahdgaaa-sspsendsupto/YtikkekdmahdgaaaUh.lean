/- Which state an instruction makes: the program's made. -/
import Derived.Test.YtikkekdmahdgaaaUg
import Derived.Test.YtikkekdmahdgaaaTk
namespace Go.Proofs.Ytikkekdmahdgaaa
open Go.RowKit Go.BigFrame
set_option linter.unusedSimpArgs false
set_option linter.unusedVariables false
set_option maxRecDepth 100000
set_option maxHeartbeats 4000000

theorem asked50_any (caps : Array Value) (t : List UInt8) (w : World) (hc : ∀ w1, Below w.heap.size w w1 → Calls Try.prog 50 caps w1 fun e w' => e = .returned (.tuple #[.agg #[sT t], .int .i64 0]) ∧ Below w1.heap.size w1 w') :
    Calls Try.prog 42 #[.func (.func 50) #[] caps] w fun e w' => e = .returned (.tuple #[.agg #[sT t], .int .i64 0]) ∧ Below w.heap.size w w' := by
  obtain ⟨w1, hw1⟩ : ∃ w1, w1 = (w.alloc (.cells #[.string ⟨#[]⟩] 26)).alloc (.cells #[.int .i64 0] 35) := ⟨_, rfl⟩
  have b1 : Below w.heap.size w w1 := by rw [hw1]; exact ((Below.refl _ _).alloc (Nat.le_refl _) _).alloc (by simp) _
  have rA : Row w1 w.heap.size 26 #[.string ⟨#[]⟩] := by rw [hw1]; exact (Row.new _ _ _).alloc _
  have rB : Row w1 (w.heap.size + 1) 35 #[.int .i64 0] := by rw [hw1]; exact Row.made _ _ _ _ _ rfl (by simp)
  have ak := hc w1 b1
  have B1 := Box'.mk b1
  have RA := Box'.mk rA
  have RB := Box'.mk rB
  have hmf : ∀ (fn : Fn) (first cap : Array Value) (w : World), (Instr.makeFunc fn first cap).run Try.prog w = .ok (.func fn first cap) w := fun _ _ _ _ => rfl
  clear hc b1 rA rB
  unfold sT at *
  go_enter_defers Try.func42, Try.ntmps42
  go_wp2_with fail
  rw [← hw1]
  refine ak.mono ?_
  rintro e w2 ⟨rfl, hw⟩
  have ra := RA.out.below hw RA.out.lt
  have rb := RB.out.below hw RB.out.lt
  have b2 := B1.out.trans (hw.mono B1.out.size)
  have ca := ra.cell 0
  have fa := ra.frozen 0
  have cb := rb.cell 0
  have fb := rb.frozen 0
  have rb2 := (rb.setOther ⟨w.heap.size, 0, none⟩ (.string ⟨t.toArray⟩) (by simp))
  have cb2 := rb2.cell 0
  have fb2 := rb2.frozen 0
  have HB : Box' (Below w.heap.size w ((w2.setCell ⟨w.heap.size, 0, none⟩ (.string ⟨t.toArray⟩)).setCell ⟨w.heap.size + 1, 0, none⟩ (.int .i64 0))) := ⟨(b2.setCell (p := ⟨w.heap.size, 0, none⟩) (Nat.le_refl _) _).setCell (p := ⟨w.heap.size + 1, 0, none⟩) (by simp) _⟩
  have CA := Box'.mk (((ra.setCell 0 (.string ⟨t.toArray⟩)).setOther ⟨w.heap.size + 1, 0, none⟩ (.int .i64 0) (by simp)).cell 0)
  have CB := Box'.mk ((rb2.setCell 0 (.int .i64 0)).cell 0)
  clear hw hw1 ak b2 ra rb rb2 RA RB B1
  go_wp2_with fail
  refine leaves_cons (f := 52) (args := #[.pointer (some ⟨w.heap.size + 1, 0, none⟩)]) (by simp) (by simp [go_sem]) ?_
  refine (catch52_idle _ _).mono ?_
  rintro e u' w'' ⟨rfl, rfl, rfl⟩
  refine ⟨.tuple #[.agg #[.string ⟨t.toArray⟩], .int .i64 0], ?_, rfl, HB.out⟩
  simp [results, Try.results42, asAddr, ld26 CA.out, ld35 CB.out]
theorem wp_store3 {op : Oper} {a : Act} {w : World} {K : Act → World → Prop} {Q : Exit → Act → World → Prop} (x y : Operand) (ho : op.op = .store 3 x y) (b o : Nat) (i : Int) (old : Value) (hx : a.eval x = .pointer (some ⟨b, o, none⟩)) (hy : a.eval y = .int .i64 i) (hc : w.cell? ⟨b, o, none⟩ = some old) (hf : w.frozen? ⟨b, o, none⟩ = false) (h : K (a.put op.dst undef) (w.setCell ⟨b, o, none⟩ (.int .i64 i))) : op.wp Try.prog a w K Q := by
  unfold Oper.wp execOp
  simp only [ho, hx, hy]
  simp [go_sem, hc, hf]
  exact h
theorem wp_alloc3 {op : Oper} {a : Act} {w : World} {K : Act → World → Prop} {Q : Exit → Act → World → Prop} (ho : op.op = .alloc 3) (h : K (a.put op.dst (.pointer (some ⟨w.heap.size, 0, none⟩))) (w.alloc (.cells #[.int .i64 0] 3))) : op.wp Try.prog a w K Q := by
  unfold Oper.wp execOp
  simp [ho, go_sem]
  exact h
theorem qC_load54 {C : World → Prop} {op : Oper} {a : Act} {K : Act → Prop} (x : Operand) (ho : op.op = .load 54 x) (b o : Nat) (v : Value) (hx : a.eval x = .pointer (some ⟨b, o, none⟩)) (hc : ∀ w, C w → w.cell? ⟨b, o, none⟩ = some v) (hk : K (a.put op.dst v)) : op.quiet Try.prog a C K :=
  qC_of v (fun w hw => by unfold execOp; simp only [ho, hx]; simp [go_sem, hc w hw]) hk
/-- What is made of an instruction: the state with its number, or an error. -/
def n90 : Array Value := #[.int .u64 0, .string ⟨#[]⟩]
def madeF (l : List Rw) (x : Ins) : Array Value × Int :=
  if hasN x.o.toNat l = false ∨ x.n.toNat < x.o.toNat then (n90, 230) else if 32 ≤ l.length - lwN x.thr.toNat l then (n90, 231) else (#[uV x.n, sT ((l.getD (lwN x.o.toNat l) Rw.zero).t ++ x.dif)], 0)
structure Mx (w w1 : World) (p : Nat) (x : Ins) (vb : Value) : Prop where
  b : Below w.heap.size w w1
  z : w1.heap.size = w.heap.size + 3
  r2 : Row w1 w.heap.size 54 #[.pointer (some ⟨p, 0, none⟩)]
  r3 : Row w1 (w.heap.size + 1) 41 (insA x vb)
  r4 : Row w1 (w.heap.size + 2) 90 n90
def alcM (w : World) (p : Nat) (x : Ins) (vb : Value) : World := ((w.alloc (.cells #[.pointer (some ⟨p, 0, none⟩)] 54)).alloc (.cells (insA x vb) 41)).alloc (.cells n90 90)
theorem alcM_mx (w : World) (p : Nat) (x : Ins) (vb : Value) : Mx w (alcM w p x vb) p x vb := by
  unfold alcM
  refine ⟨((((Below.refl _ _).alloc (Nat.le_refl _) _).alloc (by simp) _).alloc (by simp; omega) _), by simp, ?_, ?_, ?_⟩
  · exact ((Row.new _ _ _).alloc _).alloc _
  · exact (Row.made _ _ _ _ _ rfl (by simp)).alloc _
  · exact Row.made _ _ _ _ _ rfl (by simp)
theorem made_any (p g n c : Nat) (x : Ins) (vb : Value) (l : List Rw) (w : World) (hr : Row w p 93 #[.slice (some ⟨g, 0, none⟩) n c]) (hN : NbR w g l) (hn : l.length = n) (hc : n ≤ c) (hm : n ≤ 1048576) (hR : Rise l) (hv : InG w vb x.dif) (hl : ∀ y, y ∈ l → y.t.length + x.dif.length ≤ 140737488351232) :
    Calls Try.prog 36 #[.pointer (some ⟨p, 0, none⟩), .agg (insA x vb)] w fun e w' => e = .returned (.tuple #[.agg (madeF l x).1, .int .i64 (madeF l x).2]) ∧ Below w.heap.size w w' := by
  obtain ⟨av, cv, ev⟩ : ∃ av cv, vb = .slice av x.dif.length cv := by obtain ⟨a, c, h, _⟩ := hv; exact ⟨a, c, h⟩
  obtain ⟨w1, hw1⟩ : ∃ w1, w1 = alcM w p x vb := ⟨_, rfl⟩
  have X := alcM_mx w p x vb
  rw [← hw1] at X
  have hr1 := hr.below X.b hr.lt
  have hN1 := hN.below X.b
  have FD := Box'.mk fun (m : UInt64) (wa : World) (hb : Below w1.heap.size w1 wa) => find_any g n c m l wa (hN1.below hb) hn hc hm hR
  have MD := Box'.mk fun (k b6 : Nat) (hk : k < n) (wa : World) (hb : Below w1.heap.size w1 wa) (r6 : Row wa b6 3 #[.int .i64 (k : Int)]) => made1_any p g n c k w.heap.size b6 (w.heap.size + 1) x vb l wa (X.r2.below hb X.r2.lt) r6 (X.r3.below hb X.r3.lt) (hr1.below hb hr1.lt) (hN1.below hb) hn hk hc hm ((hv.below X.b).below hb) (hl _ (getD_mem (by omega)))
  have C2 := Box'.mk fun (wa : World) (hb : Below w1.heap.size w1 wa) => (X.r2.below hb X.r2.lt).cell 0
  have CP := Box'.mk fun (wa : World) (hb : Below w1.heap.size w1 wa) => (hr1.below hb hr1.lt).cell 0
  have CO := Box'.mk fun (wa : World) (hb : Below w1.heap.size w1 wa) => (X.r3.below hb X.r3.lt).cell 0
  have CN := Box'.mk fun (wa : World) (hb : Below w1.heap.size w1 wa) => (X.r3.below hb X.r3.lt).cell 1
  have CT := Box'.mk fun (wa : World) (hb : Below w1.heap.size w1 wa) => (X.r3.below hb X.r3.lt).cell 3
  have R4 := Box'.mk X.r4
  have B1 := Box'.mk X.b
  have Z1 := Box'.mk X.z
  have HM : Box' (madeF l x = if hasN x.o.toNat l = false ∨ x.n.toNat < x.o.toNat then (n90, 230) else if 32 ≤ n - lwN x.thr.toNat l then (n90, 231) else (#[uV x.n, sT ((l.getD (lwN x.o.toNat l) Rw.zero).t ++ x.dif)], 0)) := ⟨by unfold madeF; rw [hn]⟩
  have hot : lwN x.thr.toNat l ≤ n := hn ▸ lwN_le _ l
  have hoo : hasN x.o.toNat l = true → lwN x.o.toNat l < n := by
    intro h
    unfold hasN at h
    rw [hn] at h
    exact (of_decide_eq_true h).1
  have hoo2 : lwN x.o.toNat l ≤ n := hn ▸ lwN_le _ l
  clear hr hN hn hR hv hl hr1 hN1
  unfold insA at C2 CO CN CT ⊢
  unfold alcM insA at hw1
  have FO := Box'.mk fun wa hb => FD.out x.o wa hb
  have FT := Box'.mk fun wa hb => FD.out x.thr wa hb
  have MO := Box'.mk fun (b6 : Nat) (hk : lwN x.o.toNat l < n) (wa : World) (hb : Below w1.heap.size w1 wa) (r6 : Row wa b6 3 #[.int .i64 (lwN x.o.toNat l : Int)]) => MD.out (lwN x.o.toNat l) b6 hk wa hb r6
  clear FD MD X
  subst ev
  generalize madeF l x = MF at *
  generalize (l.getD (lwN x.o.toNat l) Rw.zero).t ++ x.dif = tt at *
  generalize hasN x.o.toNat l = ho at *
  generalize hasN x.thr.toNat l = hth at *
  generalize lwN x.o.toNat l = q at *
  generalize lwN x.thr.toNat l = qt at *
  obtain ⟨xo, xn, xa, xt, xd⟩ := x
  simp only [uV, sT] at *
  generalize xo.toNat = xo at *
  generalize xn.toNat = xn at *
  generalize xt.toNat = xt at *
  generalize xa.toNat = xa at *
  unfold n90 at hw1
  go_enter Try.func36, Try.ntmps36
  go_upto_region 1 with (fail)
  rw [← hw1]
  clear hw1
  refine wp_region_walk 13 (by kernel_rfl) (by kernel_rfl) (fun D f wa => (Below w1.heap.size w1 wa ∧ (D 11 = true → D 10 = true) ∧ (D 10 = true → ∃ b, f 10 = .pointer (some ⟨b, 0, none⟩) ∧ w1.heap.size ≤ b ∧ Row wa b 3 #[if D 11 = true then .int .i64 (q : Int) else .int .i64 0])) ∧ ∀ i, D i = true → (fun kc => kc == 10 || kc == 11) i = false → f i = (fun kc => match kc with
      | 0 => .pointer (some ⟨p, 0, none⟩)
      | 1 => .pointer (some ⟨p, 0, none⟩)
      | 2 => .pointer (some ⟨p, 0, none⟩)
      | 3 => .slice (some ⟨g, 0, none⟩) n c
      | 4 => .pointer (some ⟨w.heap.size + 1, 0, none⟩)
      | 5 => .int .u64 (xo : Int)
      | 6 => .tuple #[.int .i64 (q : Int), .bool ho]
      | 7 => .tuple #[.int .i64 (q : Int), .bool ho]
      | 8 => .int .i64 (q : Int)
      | 9 => .bool ho
      | 12 => .bool ho
      | _ => undef) i) ?_ ?_ ?_
  · exact fun f => ⟨⟨(Below.refl _ _).drew, fun h => (by cases h), fun h => (by cases h)⟩, fun i h => by cases h⟩
  · refine ⟨?_, ?_, ?_, ?_, ?_, ?_, ?_, ?_, ?_, ?_, ?_, ?_, ?_, trivial⟩
    · intro D f wq hJ hD hd KK hK
      have cx := C2.out wq hJ.1.1
      simp only [List.take_succ_cons, List.take_zero, setAll, List.setIfInBounds_toArray, List.set_cons_succ, List.set_cons_zero, Nat.zero_add, Nat.reduceAdd] at hK ⊢
      refine wp_of_quiet rfl ?_
      go_big_quiet_step (fail)
      exact wpQuiet_nil (hK _ _ ⟨hJ.1, vals_upd hJ.2 (.inr rfl)⟩)
    · intro D f wq hJ hD hd KK hK
      have g0 : f 0 = .pointer (some ⟨p, 0, none⟩) := hJ.2 0 (hd 0 (by kernel_rfl)) rfl
      simp only [List.take_succ_cons, List.take_zero, setAll, List.setIfInBounds_toArray, List.set_cons_succ, List.set_cons_zero, Nat.zero_add, Nat.reduceAdd, g0] at hK ⊢
      refine wp_of_quiet rfl ?_
      go_big_quiet_step (fail)
      exact wpQuiet_nil (hK _ _ ⟨hJ.1, vals_upd hJ.2 (.inr rfl)⟩)
    · intro D f wq hJ hD hd KK hK
      have g1 : f 1 = .pointer (some ⟨p, 0, none⟩) := hJ.2 1 (hd 1 (by kernel_rfl)) rfl
      simp only [List.take_succ_cons, List.take_zero, setAll, List.setIfInBounds_toArray, List.set_cons_succ, List.set_cons_zero, Nat.zero_add, Nat.reduceAdd, g1] at hK ⊢
      refine wp_of_quiet rfl ?_
      go_big_quiet_step (fail)
      exact wpQuiet_nil (hK _ _ ⟨hJ.1, vals_upd hJ.2 (.inr rfl)⟩)
    · intro D f wq hJ hD hd KK hK
      have g2 : f 2 = .pointer (some ⟨p, 0, none⟩) := hJ.2 2 (hd 2 (by kernel_rfl)) rfl
      have cx := CP.out wq hJ.1.1
      simp only [List.take_succ_cons, List.take_zero, setAll, List.setIfInBounds_toArray, List.set_cons_succ, List.set_cons_zero, Nat.zero_add, Nat.reduceAdd, g2] at hK ⊢
      refine wp_of_quiet rfl ?_
      go_big_quiet_step (fail)
      exact wpQuiet_nil (hK _ _ ⟨hJ.1, vals_upd hJ.2 (.inr rfl)⟩)
    · intro D f wq hJ hD hd KK hK
      simp only [List.take_succ_cons, List.take_zero, setAll, List.setIfInBounds_toArray, List.set_cons_succ, List.set_cons_zero, Nat.zero_add, Nat.reduceAdd] at hK ⊢
      refine wp_of_quiet rfl ?_
      go_big_quiet_step (fail)
      exact wpQuiet_nil (hK _ _ ⟨hJ.1, vals_upd hJ.2 (.inr rfl)⟩)
    · intro D f wq hJ hD hd KK hK
      have g4 : f 4 = .pointer (some ⟨w.heap.size + 1, 0, none⟩) := hJ.2 4 (hd 4 (by kernel_rfl)) rfl
      have cx := CO.out wq hJ.1.1
      simp only [List.take_succ_cons, List.take_zero, setAll, List.setIfInBounds_toArray, List.set_cons_succ, List.set_cons_zero, Nat.zero_add, Nat.reduceAdd, g4] at hK ⊢
      refine wp_of_quiet rfl ?_
      go_big_quiet_step (fail)
      exact wpQuiet_nil (hK _ _ ⟨hJ.1, vals_upd hJ.2 (.inr rfl)⟩)
    · intro D f wq hJ hD hd KK hK
      have g3 : f 3 = .slice (some ⟨g, 0, none⟩) n c := hJ.2 3 (hd 3 (by kernel_rfl)) rfl
      have g5 : f 5 = .int .u64 (xo : Int) := hJ.2 5 (hd 5 (by kernel_rfl)) rfl
      simp only [List.take_succ_cons, List.take_zero, setAll, List.setIfInBounds_toArray, List.set_cons_succ, List.set_cons_zero, Nat.zero_add, Nat.reduceAdd, g3, g5] at hK ⊢
      refine wp_callE 35 #[.slice (some ⟨g, 0, none⟩) n c, .int .u64 (xo : Int)] (by simp [go_sem]) (fun v wb => v = .tuple #[.int .i64 (q : Int), .bool ho] ∧ Below wq.heap.size wq wb) ((FO.out wq hJ.1.1).mono ?_) ?_
      · rintro e wb ⟨rfl, q2⟩
        exact ⟨_, rfl, rfl, q2⟩
      · rintro v wb ⟨rfl, q2⟩
        exact hK _ _ ⟨⟨hJ.1.1.trans (q2.mono hJ.1.1.size), hJ.1.2.1, fun h => let ⟨b, e1, e2, e3⟩ := hJ.1.2.2 h; ⟨b, e1, e2, e3.below q2 e3.lt⟩⟩, vals_upd hJ.2 (.inr rfl)⟩
    · intro D f wq hJ hD hd KK hK
      have g6 : f 6 = .tuple #[.int .i64 (q : Int), .bool ho] := hJ.2 6 (hd 6 (by kernel_rfl)) rfl
      simp only [List.take_succ_cons, List.take_zero, setAll, List.setIfInBounds_toArray, List.set_cons_succ, List.set_cons_zero, Nat.zero_add, Nat.reduceAdd, g6] at hK ⊢
      refine wp_of_quiet rfl ?_
      go_big_quiet_step (fail)
      exact wpQuiet_nil (hK _ _ ⟨hJ.1, vals_upd hJ.2 (.inr rfl)⟩)
    · intro D f wq hJ hD hd KK hK
      have g7 : f 7 = .tuple #[.int .i64 (q : Int), .bool ho] := hJ.2 7 (hd 7 (by kernel_rfl)) rfl
      simp only [List.take_succ_cons, List.take_zero, setAll, List.setIfInBounds_toArray, List.set_cons_succ, List.set_cons_zero, Nat.zero_add, Nat.reduceAdd, g7] at hK ⊢
      refine wp_of_quiet rfl ?_
      go_big_quiet_step (fail)
      exact wpQuiet_nil (hK _ _ ⟨hJ.1, vals_upd hJ.2 (.inr rfl)⟩)
    · intro D f wq hJ hD hd KK hK
      have g7 : f 7 = .tuple #[.int .i64 (q : Int), .bool ho] := hJ.2 7 (hd 7 (by kernel_rfl)) rfl
      simp only [List.take_succ_cons, List.take_zero, setAll, List.setIfInBounds_toArray, List.set_cons_succ, List.set_cons_zero, Nat.zero_add, Nat.reduceAdd, g7] at hK ⊢
      refine wp_of_quiet rfl ?_
      go_big_quiet_step (fail)
      exact wpQuiet_nil (hK _ _ ⟨hJ.1, vals_upd hJ.2 (.inr rfl)⟩)
    · intro D f wq hJ hD hd KK hK
      simp only [List.take_succ_cons, List.take_zero, setAll, List.setIfInBounds_toArray, List.set_cons_succ, List.set_cons_zero, Nat.zero_add, Nat.reduceAdd] at hK ⊢
      refine wp_alloc3 rfl ?_
      have h11 : D 11 = false := by
        cases h : D 11 with
        | false => rfl
        | true =>
          have := hJ.1.2.1 h
          rw [this] at hD
          cases hD
      refine hK _ _ ⟨⟨hJ.1.1.alloc hJ.1.1.size _, fun h => (by have h' : D 11 = true := h; rw [h11] at h'; cases h'), fun _ => ⟨wq.heap.size, rfl, hJ.1.1.size, ?_⟩⟩, vals_upd hJ.2 (.inl rfl)⟩
      show Row (wq.alloc (.cells #[.int .i64 0] 3)) wq.heap.size 3 #[if D 11 = true then .int .i64 (q : Int) else .int .i64 0]
      rw [h11]
      exact Row.new _ _ _
    · intro D f wq hJ hD hd KK hK
      have g8 : f 8 = .int .i64 (q : Int) := hJ.2 8 (hd 8 (by kernel_rfl)) rfl
      simp only [List.take_succ_cons, List.take_zero, setAll, List.setIfInBounds_toArray, List.set_cons_succ, List.set_cons_zero, Nat.zero_add, Nat.reduceAdd, g8] at hK ⊢
      have h10 := hd 10 (by kernel_rfl)
      obtain ⟨b, e1, e2, e3⟩ := hJ.1.2.2 h10
      simp only [e1] at hK ⊢
      exact wp_store3 (.tmp 6) (.tmp 20) rfl b 0 (q : Int) _ rfl rfl (e3.cell 0) (e3.frozen 0) (hK _ _ ⟨⟨hJ.1.1.setCell (p := ⟨b, 0, none⟩) e2 _, fun _ => h10, fun _ => ⟨b, e1, e2, e3.setCell 0 _⟩⟩, vals_upd hJ.2 (.inl rfl)⟩)
    · intro D f wq hJ hD hd KK hK
      have g9 : f 9 = .bool ho := hJ.2 9 (hd 9 (by kernel_rfl)) rfl
      simp only [List.take_succ_cons, List.take_zero, setAll, List.setIfInBounds_toArray, List.set_cons_succ, List.set_cons_zero, Nat.zero_add, Nat.reduceAdd, g9] at hK ⊢
      refine wp_of_quiet rfl ?_
      go_big_quiet_step (fail)
      exact wpQuiet_nil (hK _ _ ⟨hJ.1, vals_upd hJ.2 (.inr rfl)⟩)
  · intro D f wz hD hJ
    have hW := hJ.1
    rw [hD 11 (by decide)] at hW
    have p0 : f 0 = .pointer (some ⟨p, 0, none⟩) := hJ.2 0 (hD 0 (by decide)) rfl
    have p1 : f 1 = .pointer (some ⟨p, 0, none⟩) := hJ.2 1 (hD 1 (by decide)) rfl
    have p2 : f 2 = .pointer (some ⟨p, 0, none⟩) := hJ.2 2 (hD 2 (by decide)) rfl
    have p3 : f 3 = .slice (some ⟨g, 0, none⟩) n c := hJ.2 3 (hD 3 (by decide)) rfl
    have p4 : f 4 = .pointer (some ⟨w.heap.size + 1, 0, none⟩) := hJ.2 4 (hD 4 (by decide)) rfl
    have p5 : f 5 = .int .u64 (xo : Int) := hJ.2 5 (hD 5 (by decide)) rfl
    have p6 : f 6 = .tuple #[.int .i64 (q : Int), .bool ho] := hJ.2 6 (hD 6 (by decide)) rfl
    have p7 : f 7 = .tuple #[.int .i64 (q : Int), .bool ho] := hJ.2 7 (hD 7 (by decide)) rfl
    have p8 : f 8 = .int .i64 (q : Int) := hJ.2 8 (hD 8 (by decide)) rfl
    have p9 : f 9 = .bool ho := hJ.2 9 (hD 9 (by decide)) rfl
    have p12 : f 12 = .bool ho := hJ.2 12 (hD 12 (by decide)) rfl
    rw [hD 10 (by decide)] at hW
    clear hJ hD
    simp only [List.take_succ_cons, List.take_zero, List.drop_succ_cons, List.drop_zero, setAll, List.setIfInBounds_toArray, List.set_cons_succ, List.set_cons_zero, Nat.zero_add, Nat.reduceAdd, p0, p1, p2, p3, p4, p5, p6, p7, p8, p9, p12]
    clear p0 p1 p2 p3 p4 p5 p6 p7 p8 p9 p12
    obtain ⟨bz, _, h10⟩ := hW
    obtain ⟨b6, e10, hb6, r6⟩ := h10 rfl
    simp only [e10]
    generalize f 11 = y11 at *
    clear e10 h10
    have cn := CN.out wz bz
    have co := CO.out wz bz
    have R6 : Box' (Row wz b6 3 #[.int .i64 (q : Int)]) := ⟨r6⟩
    clear r6
    by_cases hfar : ho = false ∨ xn < xo
    · have HF : Box' (MF = (n90, 230)) := ⟨by rw [HM.out, if_pos hfar]⟩
      obtain ⟨w5, hw5⟩ : ∃ w5, w5 = wz.setRow (w.heap.size + 2) n90 := ⟨_, rfl⟩
      have rm : Room wz (w.heap.size + 2) 90 2 := (R4.out.below bz R4.out.lt).room rfl
      have R5 : Box' (Row w5 (w.heap.size + 2) 90 n90) := ⟨by rw [hw5]; exact rm.setRow _⟩
      have B5 : Box' (Below w.heap.size w w5) := ⟨by rw [hw5]; exact below_setRow (B1.out.trans (bz.mono B1.out.size)) _ _ (Nat.le_add_right _ _)⟩
      clear C2 CP CO CN CT FO FT MO HM R4 R6 B1 bz hoo
      unfold n90 at hw5
      cases ho with
      | false =>
        clear cn co
        go_wp2_with (refine wpList_store_row rfl 90 (.tmp 4) (.tmp 31) rfl (w.heap.size + 2) rfl _ rfl 90 2 rm (by kernel_rfl) rfl (by simp [Value.oneCell']) ?_; rw [← hw5]; clear hw5 rm)
        refine bodyPost_ret (results_row1 rfl _ (w.heap.size + 2) rfl (.int .i64 230) rfl 90 _ R5.out _ Try.underlying90 rfl 2 (by kernel_rfl) rfl) rfl ?_
        exact ⟨by rw [HF.out], B5.out⟩
      | true =>
        have hlt : xn < xo := by rcases hfar with h | h; cases h; exact h
        go_wp2_with (refine wpList_store_row rfl 90 (.tmp 4) (.tmp 31) rfl (w.heap.size + 2) rfl _ rfl 90 2 rm (by kernel_rfl) rfl (by simp [Value.oneCell']) ?_; rw [← hw5]; clear hw5 rm)
        refine bodyPost_ret (results_row1 rfl _ (w.heap.size + 2) rfl (.int .i64 230) rfl 90 _ R5.out _ Try.underlying90 rfl 2 (by kernel_rfl) rfl) rfl ?_
        exact ⟨by rw [HF.out], B5.out⟩
    obtain rfl : ho = true := by cases ho with | true => rfl | false => exact absurd (.inl rfl) hfar
    have hno : ¬ xn < xo := fun h => hfar (.inr h)
    have hqn := hoo rfl
    have HM2 : Box' (MF = if 32 ≤ n - qt then (n90, 231) else (#[.int .u64 (xn : Int), .string ⟨tt.toArray⟩], 0)) := ⟨by rw [HM.out, if_neg hfar]⟩
    clear HM hfar hoo FO
    go_upto_region 4 with (fail)
    clear cn co
    refine wp_region_lex (fun wa => Below wz.heap.size wz wa) (by kernel_rfl) (by kernel_rfl) (Below.refl _ _).drew ?_
    go_big_quiet_want
    refine qC_load54 (.tmp 2) rfl w.heap.size 0 _ rfl (fun wa h => C2.out wa (bz.trans (h.mono bz.size))) ?_
    simp only [Act.put, List.setIfInBounds_toArray, List.set_cons_succ, List.set_cons_zero]
    go_big_quiet_on
    go_big_quiet_want
    go_big_quiet_op
    first | go_big_quiet_on | (refine ⟨_, fun _ _ => rfl, ?_⟩; go_big_quiet_on) | (refine ⟨_, fun _ _ _ => rfl, ?_⟩; go_big_quiet_on)
    go_big_quiet_want
    go_big_quiet_op
    first | go_big_quiet_on | (refine ⟨_, fun _ _ => rfl, ?_⟩; go_big_quiet_on) | (refine ⟨_, fun _ _ _ => rfl, ?_⟩; go_big_quiet_on)
    go_big_quiet_want
    refine qC_load91 (.tmp 35) rfl p 0 _ rfl (fun wa h => CP.out wa (bz.trans (h.mono bz.size))) ?_
    simp only [Act.put, List.setIfInBounds_toArray, List.set_cons_succ, List.set_cons_zero]
    go_big_quiet_on
    go_big_quiet_want
    go_big_quiet_op
    first | go_big_quiet_on | (refine ⟨_, fun _ _ => rfl, ?_⟩; go_big_quiet_on) | (refine ⟨_, fun _ _ _ => rfl, ?_⟩; go_big_quiet_on)
    go_big_quiet_want
    refine qC_load29 (.tmp 37) rfl (w.heap.size + 1) 3 _ rfl (fun wa h => CT.out wa (bz.trans (h.mono bz.size))) ?_
    simp only [Act.put, List.setIfInBounds_toArray, List.set_cons_succ, List.set_cons_zero]
    go_big_quiet_on
    go_big_quiet_want
    refine qC_call 35 #[.slice (some ⟨g, 0, none⟩) n c, .int .u64 (xt : Int)] (.tuple #[.int .i64 (qt : Int), .bool hth]) (fun w => by simp [go_sem]) (fun wa hC => (FT.out wa (bz.trans (hC.mono bz.size))).mono fun e w' h => ⟨h.1, hC.trans (h.2.mono hC.size)⟩) ?_
    simp only [Act.put, List.setIfInBounds_toArray, List.set_cons_succ, List.set_cons_zero]
    go_big_quiet_on
    go_big_quiet_want
    go_big_quiet_op
    first | go_big_quiet_on | (refine ⟨_, fun _ _ => rfl, ?_⟩; go_big_quiet_on) | (refine ⟨_, fun _ _ _ => rfl, ?_⟩; go_big_quiet_on)
    go_big_quiet_want
    go_big_quiet_op
    first | go_big_quiet_on | (refine ⟨_, fun _ _ => rfl, ?_⟩; go_big_quiet_on) | (refine ⟨_, fun _ _ _ => rfl, ?_⟩; go_big_quiet_on)
    go_big_quiet_want
    go_big_quiet_op
    first | go_big_quiet_on | (refine ⟨_, fun _ _ => rfl, ?_⟩; go_big_quiet_on) | (refine ⟨_, fun _ _ _ => rfl, ?_⟩; go_big_quiet_on)
    go_big_quiet_want
    go_big_quiet_op
    first | go_big_quiet_on | (refine ⟨_, fun _ _ => rfl, ?_⟩; go_big_quiet_on) | (refine ⟨_, fun _ _ _ => rfl, ?_⟩; go_big_quiet_on)
    go_big_quiet_want
    go_big_quiet_op
    first | go_big_quiet_on | (refine ⟨_, fun _ _ => rfl, ?_⟩; go_big_quiet_on) | (refine ⟨_, fun _ _ _ => rfl, ?_⟩; go_big_quiet_on)
    refine wpQuiet_nil ?_
    rintro w4 b4'
    have b4 := bz.trans (b4'.mono bz.size)
    have c2 := C2.out w4 b4
    have cp := CP.out w4 b4
    have r6 := R6.out.below b4' R6.out.lt
    by_cases hfull : 32 ≤ n - qt
    · have HF : Box' (MF = (n90, 231)) := ⟨by rw [HM2.out, if_pos hfull]⟩
      obtain ⟨w5, hw5⟩ : ∃ w5, w5 = w4.setRow (w.heap.size + 2) n90 := ⟨_, rfl⟩
      have rm : Room w4 (w.heap.size + 2) 90 2 := (R4.out.below b4 R4.out.lt).room rfl
      have R5 : Box' (Row w5 (w.heap.size + 2) 90 n90) := ⟨by rw [hw5]; exact rm.setRow _⟩
      have B5 : Box' (Below w.heap.size w w5) := ⟨by rw [hw5]; exact below_setRow (B1.out.trans (b4.mono B1.out.size)) _ _ (Nat.le_add_right _ _)⟩
      clear C2 CP CO CN CT FT MO HM2 R4 R6 B1 bz b4 b4' r6
      unfold n90 at hw5
      go_wp2_with (refine wpList_store_row rfl 90 (.tmp 4) (.tmp 50) rfl (w.heap.size + 2) rfl _ rfl 90 2 rm (by kernel_rfl) rfl (by simp [Value.oneCell']) ?_; rw [← hw5]; clear hw5 rm)
      refine bodyPost_ret (results_row1 rfl _ (w.heap.size + 2) rfl (.int .i64 231) rfl 90 _ R5.out _ Try.underlying90 rfl 2 (by kernel_rfl) rfl) rfl ?_
      exact ⟨by rw [HF.out], B5.out⟩
    have HF : Box' (MF = (#[.int .u64 (xn : Int), .string ⟨tt.toArray⟩], 0)) := ⟨by rw [HM2.out, if_neg hfull]⟩
    have AK := asked50_any #[.pointer (some ⟨w.heap.size, 0, none⟩), .pointer (some ⟨b6, 0, none⟩), .pointer (some ⟨w.heap.size + 1, 0, none⟩)] tt w4 (fun w5 h5 => MO.out b6 hqn w5 (b4.trans (h5.mono b4.size)) (r6.below h5 r6.lt))
    unfold sT at AK
    have hmf : ∀ (fn : Fn) (first cap : Array Value) (w : World), (Instr.makeFunc fn first cap).run Try.prog w = .ok (.func fn first cap) w := fun _ _ _ _ => rfl
    clear MO HM2 FT C2 CP CO CT r6 R6 b4' bz
    go_wp2_with fail
    refine AK.mono ?_
    rintro e w5 ⟨rfl, h5⟩
    have b5 := b4.trans (h5.mono b4.size)
    clear AK cp c2 b4 h5
    obtain ⟨w6, hw6⟩ : ∃ w6, w6 = w5.alloc (.cells #[.string ⟨tt.toArray⟩] 26) := ⟨_, rfl⟩
    have b6' : Below w1.heap.size w1 w6 := by rw [hw6]; exact b5.alloc b5.size _
    have r6 : Row w6 w5.heap.size 26 #[.string ⟨tt.toArray⟩] := by rw [hw6]; exact Row.new _ _ _
    have cn := CN.out w6 b6'
    have ct := r6.cell 0
    obtain ⟨w7, hw7⟩ : ∃ w7, w7 = w6.setRow (w.heap.size + 2) #[.int .u64 (xn : Int), .string ⟨tt.toArray⟩] := ⟨_, rfl⟩
    have rm : Room w6 (w.heap.size + 2) 90 2 := (R4.out.below b6' R4.out.lt).room rfl
    have R7 : Box' (Row w7 (w.heap.size + 2) 90 #[.int .u64 (xn : Int), .string ⟨tt.toArray⟩]) := ⟨by rw [hw7]; exact rm.setRow _⟩
    have B7 : Box' (Below w.heap.size w w7) := ⟨by rw [hw7]; exact below_setRow (B1.out.trans (b6'.mono B1.out.size)) _ _ (Nat.le_add_right _ _)⟩
    clear b5 b6' r6 CN R4 B1 hmf
    go_upto_region 8 with (fail)
    rw [← hw6]
    clear hw6
    go_wp2_with (refine wpList_store_row rfl 90 (.tmp 4) (.tmp 59) rfl (w.heap.size + 2) rfl _ rfl 90 2 rm (by kernel_rfl) rfl (by simp [Value.oneCell']) ?_; rw [← hw7]; clear hw7 rm)
    refine bodyPost_ret (results_row1 rfl _ (w.heap.size + 2) rfl (.int .i64 0) rfl 90 _ R7.out _ Try.underlying90 rfl 2 (by kernel_rfl) rfl) rfl ?_
    exact ⟨by rw [HF.out], B7.out⟩
end Go.Proofs.Ytikkekdmahdgaaa
