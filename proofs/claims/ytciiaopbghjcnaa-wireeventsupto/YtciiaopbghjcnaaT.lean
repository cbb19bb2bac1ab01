/- The walks of newReader, of the deferred closures, of readWhole and of Read. -/
import Derived.Test.YtciiaopbghjcnaaS
import Derived.Defers
import Derived.Recover
import Derived.Laws.Pointers
import Derived.Laws.EntriesVeiled
namespace Go.Proofs.Ytciiaopbghjcnaa
open Go.RowKit Go.BigFrame
set_option linter.unusedSimpArgs false

set_option maxRecDepth 100000 in
set_option maxHeartbeats 2000000 in
theorem newReader_any (N : Nat) (w : World) (v : Value) (l : List UInt8) (hN : N ≤ w.heap.size) (hl : l.length ≤ 140737488355328) (h : InB N w v l) :
    Calls Try.prog 51 #[v] w fun e w' => ∃ rb rv, e = .returned (.pointer (some ⟨rb, 0, none⟩)) ∧ Rdr N w' rb rv l ∧ w.heap.size ≤ rb ∧ Below w.heap.size w w' := by
  have hmf : ∀ (fn : Fn) (first cap : Array Value) (w : World), (Instr.makeFunc fn first cap).run Try.prog w = .ok (.func fn first cap) w := fun _ _ _ _ => rfl
  obtain ⟨a, c, rfl, _⟩ := h.slice
  have HI := Box'.mk h
  clear h
  have RES : Box' (∀ n, n = l.length → Rdr N ((w.alloc (.cells #[.slice a n c, .func (.func 57) #[] #[.pointer (some ⟨w.heap.size + 1, 0, none⟩)]] 89)).alloc (.cells #[.pointer (some ⟨w.heap.size, 0, none⟩)] 86)) w.heap.size (w.heap.size + 1) l ∧ Below w.heap.size w ((w.alloc (.cells #[.slice a n c, .func (.func 57) #[] #[.pointer (some ⟨w.heap.size + 1, 0, none⟩)]] 89)).alloc (.cells #[.pointer (some ⟨w.heap.size, 0, none⟩)] 86))) := ⟨fun n hn => by
    subst hn
    have b1 : Below w.heap.size w (w.alloc (.cells #[.slice a l.length c, .func (.func 57) #[] #[.pointer (some ⟨w.heap.size + 1, 0, none⟩)]] 89)) := (Below.refl _ _).alloc (Nat.le_refl _) _
    have b2 := b1.alloc (o := .cells #[.pointer (some ⟨w.heap.size, 0, none⟩)] 86) b1.size
    have hz : (w.alloc (.cells #[.slice a l.length c, .func (.func 57) #[] #[.pointer (some ⟨w.heap.size + 1, 0, none⟩)]] 89)).heap.size = w.heap.size + 1 := by simp
    refine ⟨⟨⟨_, (Row.new _ _ _).alloc _, HI.out.below b2 hN⟩, ?_, hN, hl⟩, b2⟩
    exact Row.made _ 86 _ _ _ rfl hz.symm⟩
  clear HI
  have R0 := Box'.mk (RES.out _ rfl)
  clear RES
  generalize l.length = n at *
  go_enter Try.func51, Try.ntmps51
  go_wp2_with fail
  go_ret
  exact ⟨_, _, rfl, R0.out.1, Nat.le_refl _, R0.out.2⟩

set_option maxRecDepth 100000 in
set_option maxHeartbeats 2000000 in
theorem catch_flt (rb : Nat) (x y : Int) (w : World) (hlt : rb < w.heap.size) (hc : w.cell? ⟨rb, 0, none⟩ = some (.int .i64 y)) (hz : w.frozen? ⟨rb, 0, none⟩ = false) :
    CallsD Try.prog 50 #[.pointer (some ⟨rb, 0, none⟩)] (.panicking [{ v := .iface 84 (.agg #[.int .i64 x]), recovered := false }]) w fun e u' w' =>
      e = .returned (.tuple #[]) ∧ u' = .panicking [{ v := .iface 84 (.agg #[.int .i64 x]), recovered := true }] ∧ w' = (w.setCell ⟨rb, 0, none⟩ (.int .i64 x)).alloc (.cells #[.int .i64 x] 84) := by
  have hne : rb ≠ w.heap.size := by omega
  have hc1 : (w.alloc (.cells #[.int .i64 x] 84)).cell? ⟨rb, 0, none⟩ = some (.int .i64 y) := by
    simp only [World.cell?, Below.heap_alloc _ _ _ hlt] at hc ⊢; exact hc
  have hz1 : (w.alloc (.cells #[.int .i64 x] 84)).frozen? ⟨rb, 0, none⟩ = false := by
    simp only [World.frozen?, Below.heap_alloc _ _ _ hlt] at hz ⊢; exact hz
  refine callsD_of_wpS Try.func50 rfl fun c₀ cs hu => ?_
  apply wpS_seq
  apply wpS_region
  simp [wpOpsS, go_sem, recoverD, hu, Try.ntmps50, Exit.thenS]
  refine wpS_of_wp ?_
  have hta : ∀ w, (Instr.typeAssert (.iface 84 (.agg #[.int .i64 x])) 20 84 true).run Try.prog w = .ok (.tuple #[.agg #[.int .i64 x], .bool true]) w := fun w => by
    simp [Instr.typeAssert, go_sem]
  have e12 : #[Value.pointer (some ⟨rb, 0, none⟩)] ++ ((Array.replicate 16 undef).setIfInBounds 3 (Value.iface 84 (Value.agg #[Value.int IntKind.i64 x]))).setIfInBounds 0 (Value.iface 84 (Value.agg #[Value.int IntKind.i64 x])) = #[.pointer (some ⟨rb, 0, none⟩), .iface 84 (.agg #[.int .i64 x]), undef, undef, .iface 84 (.agg #[.int .i64 x]), undef, undef, undef, undef, undef, undef, undef, undef, undef, undef, undef, undef] := rfl
  rw [e12]
  go_wp2_with fail
  simp [bodyPostS, results, Try.results50]
set_option maxRecDepth 100000 in
set_option maxHeartbeats 2000000 in
theorem catch_idle (p : Addr) (w : World) :
    CallsD Try.prog 50 #[.pointer (some p)] .returning w fun e u' w' => e = .returned (.tuple #[]) ∧ u' = .returning ∧ w' = w := by
  refine callsD_of_wpS Try.func50 rfl fun c₀ cs hu => ?_
  apply wpS_seq
  apply wpS_region
  simp [wpOpsS, go_sem, recoverD, hu, Try.ntmps50, Exit.thenS]
  refine wpS_of_wp ?_
  have e12 : #[Value.pointer (some p)] ++ ((Array.replicate 16 undef).setIfInBounds 3 Value.nilIface).setIfInBounds 0 Value.nilIface = #[.pointer (some p), .nilIface, undef, undef, .nilIface, undef, undef, undef, undef, undef, undef, undef, undef, undef, undef, undef, undef] := rfl
  rw [e12]
  go_wp2_with fail
  cases c₀
  simp_all [bodyPostS, results, Try.results50]

/-- What Read answers: the instruction, the error. -/
def rdI (l : List UInt8) : Ins × Int := match insR l with
  | .error x => (⟨0, 0, 0, 0, []⟩, x)
  | .ok (x, []) => (x, 0)
  | .ok (_, _ :: _) => (⟨0, 0, 0, 0, []⟩, 8)
theorem results36 (T : Array Value) (ib eb : Nat) (c : Array Value) (x : Int) (w : World) (h4 : T.getD 4 undef = .pointer (some ⟨ib, 0, none⟩)) (h5 : T.getD 5 undef = .pointer (some ⟨eb, 0, none⟩)) (hr : Row w ib 34 c) (hc : c.size = 5) (he : w.cell? ⟨eb, 0, none⟩ = some (.int .i64 x)) :
    (results Try.f36 T).run Try.prog w = .ok (.tuple #[.agg c, .int .i64 x]) w := by
  have hrun := run_loadVar_row (P := Try.prog) w ib 34 34 c (0, 0) _ hr Try.underlying34 rfl (by rw [hc]; exact Try.size34)
  have h4' : T[4]?.getD undef = .pointer (some ⟨ib, 0, none⟩) := by simpa using h4
  have h5' : T[5]?.getD undef = .pointer (some ⟨eb, 0, none⟩) := by simpa using h5
  have h2 : (loadVar 24 (⟨eb, 0, none⟩ : Addr)).run Try.prog w = .ok (.int .i64 x) w := by simp [go_sem, he]
  simp only [results, Try.results36]
  simp [h4', h5', asAddr, hrun, h2]
/-- What Read hands back. -/
def IEnd (w : World) (R : Ins × Int) (e : Ending) (w' : World) : Prop :=
  ∃ vd, e = .returned (.tuple #[.agg #[.int .u64 (R.1.old : Int), .int .u64 (R.1.new : Int), .int .u64 (R.1.ack : Int), .int .u64 (R.1.thr : Int), vd], .int .i64 R.2]) ∧ OwnB w.heap.size w' vd R.1.dif ∧ Below w.heap.size w w'

set_option maxRecDepth 100000 in
set_option maxHeartbeats 4000000 in
theorem readWhole_any (w : World) (v : Value) (l : List UInt8) (hl : l.length ≤ 140737488355328) (h : InB w.heap.size w v l) :
    Calls Try.prog 36 #[v, .func (.func 37) #[] #[]] w (IEnd w (rdI l)) := by
  have hmf : ∀ (fn : Fn) (first cap : Array Value) (w : World), (Instr.makeFunc fn first cap).run Try.prog w = .ok (.func fn first cap) w := fun _ _ _ _ => rfl
  obtain ⟨wi, hwi⟩ : ∃ wi, wi = w.alloc (.cells #[.int .u64 0, .int .u64 0, .int .u64 0, .int .u64 0, .slice none 0 0] 34) := ⟨_, rfl⟩
  obtain ⟨w0, hw0⟩ : ∃ w0, w0 = wi.alloc (.cells #[.int .i64 0] 24) := ⟨_, rfl⟩
  have hzi : wi.heap.size = w.heap.size + 1 := by rw [hwi]; simp
  have hz0 : w0.heap.size = w.heap.size + 2 := by rw [hw0]; simp [hzi]
  have ri : Row w0 w.heap.size 34 #[.int .u64 0, .int .u64 0, .int .u64 0, .int .u64 0, .slice none 0 0] := by rw [hw0, hwi]; exact (Row.new _ _ _).alloc _
  have re : Row w0 (w.heap.size + 1) 24 #[.int .i64 0] := by rw [hw0, ← hzi]; exact Row.new _ _ _
  have b0 : Below w.heap.size w w0 := by rw [hw0, hwi]; exact ((Below.refl _ _).alloc (Nat.le_refl _) _).alloc (by simp) _
  have nr := newReader_any w.heap.size w0 v l b0.size hl (h.below b0 (Nat.le_refl _))
  have HB := Box'.mk (rdI.eq_1 l)
  generalize rdI l = R at *
  have RI := Box'.mk ri
  have RE := Box'.mk re
  have B0 := Box'.mk b0
  have Z0 := Box'.mk hz0
  obtain ⟨a, c, rfl, _⟩ := h.slice
  clear h ri re b0 hz0 hzi
  have OUT : Box' (∀ (T : Array Value) x w1, T.getD 4 undef = .pointer (some ⟨w.heap.size, 0, none⟩) → T.getD 5 undef = .pointer (some ⟨w.heap.size + 1, 0, none⟩) → R = (⟨0, 0, 0, 0, []⟩, x) → Below (w.heap.size + 2) w0 w1 → ∃ u, (results Try.f36 T).run Try.prog ((w1.setCell ⟨w.heap.size + 1, 0, none⟩ (.int .i64 x)).alloc (.cells #[.int .i64 x] 84)) = .ok u ((w1.setCell ⟨w.heap.size + 1, 0, none⟩ (.int .i64 x)).alloc (.cells #[.int .i64 x] 84)) ∧ IEnd w R (.returned u) ((w1.setCell ⟨w.heap.size + 1, 0, none⟩ (.int .i64 x)).alloc (.cells #[.int .i64 x] 84))) := ⟨fun T x w1 h4 h5 hR hb => by
    have r1 := RI.out.below hb (by omega)
    have r2 := RE.out.below hb (by omega)
    have r3 := (r1.setOther ⟨w.heap.size + 1, 0, none⟩ (.int .i64 x) (by simp)).alloc (.cells #[.int .i64 x] 84)
    have r4 := (r2.setCell 0 (.int .i64 x)).alloc (.cells #[.int .i64 x] 84)
    subst hR
    refine ⟨_, results36 T _ _ _ x _ h4 h5 r3 rfl (by rw [r4.cell]; rfl), _, rfl, OwnB.nil _ _, ?_⟩
    · have b1 : Below w.heap.size w w1 := B0.out.trans (hb.mono (by omega))
      exact (b1.setCell (p := ⟨w.heap.size + 1, 0, none⟩) (by simp) _).alloc (by simp; exact b1.size) _⟩
  rw [hw0, hwi] at nr
  generalize hn : l.length = n at *
  clear hn
  go_enter_defers Try.func36, Try.ntmps36
  go_wp2_with fail
  refine nr.mono ?_
  rw [← hwi, ← hw0]
  rintro e w1 ⟨rb, rv, rfl, rd1, hrb, b1⟩
  have ins := instruction_any w.heap.size w1 rb rv l rd1
  have hrb2 : w.heap.size + 2 ≤ rb := by rw [← Z0.out]; exact hrb
  have HRB := Box'.mk hrb2
  have B1 : Box' (Below (w.heap.size + 2) w0 w1) := ⟨by rw [← Z0.out]; exact b1⟩
  clear nr hwi hw0 hrb hrb2 rd1 b1
  go_wp2_with fail
  refine ins.mono ?_
  intro e w2 hh
  obtain ⟨g2, ⟨x, l2, v2, hr, rfl, ⟨vd, rfl, ov⟩, rd2⟩ | ⟨x, hr, rfl⟩⟩ := hh.cases
  case inr =>
    have b2 : Below (w.heap.size + 2) w0 w2 := B1.out.trans (g2.on HRB.out (by have := B1.out.size; have := Z0.out; omega))
    have r1 := RE.out.below b2 (by omega)
    refine leaves_cons (f := 50) (args := #[.pointer (some ⟨w.heap.size + 1, 0, none⟩)]) (by simp) (by simp [go_sem]) ?_
    refine (catch_flt (w.heap.size + 1) x 0 w2 r1.lt (by rw [r1.cell]; rfl) (r1.frozen 0)).mono ?_
    rintro e u' w'' ⟨rfl, rfl, rfl⟩
    exact OUT.out _ x w2 rfl rfl (by rw [HB.out, hr]) b2
  obtain ⟨x0, x1, x2, x3, dif⟩ := x
  simp only at ov ⊢
  have b2 : Below (w.heap.size + 2) w0 w2 := B1.out.trans (g2.on HRB.out (by have := B1.out.size; have := Z0.out; omega))
  have hz2 : w.heap.size + 2 ≤ w2.heap.size := by have := b2.size; have := Z0.out; omega
  obtain ⟨w3, hw3⟩ : ∃ w3, w3 = w2.alloc (.cells #[.int .u64 (x0 : Int), .int .u64 (x1 : Int), .int .u64 (x2 : Int), .int .u64 (x3 : Int), vd] 34) := ⟨_, rfl⟩
  have b3 : Below w2.heap.size w2 w3 := by rw [hw3]; exact (Below.refl _ _).alloc (Nat.le_refl _) _
  have rf : Row w3 w2.heap.size 34 #[.int .u64 (x0 : Int), .int .u64 (x1 : Int), .int .u64 (x2 : Int), .int .u64 (x3 : Int), vd] := by rw [hw3]; exact Row.new _ _ _
  have rd3 := rd2.below b3
  obtain ⟨v3, r3, i3⟩ := rd3.row
  have k0 : w3.cell? ⟨rb, 0, none⟩ = some v3 := by rw [r3.cell]; rfl
  have bb3 : Below (w.heap.size + 2) w0 w3 := b2.trans (b3.mono hz2)
  have ov3 : OwnB w.heap.size w3 vd dif := (ov.less (by have := B1.out.size; have := Z0.out; omega)).below b3
  have hr1 := HB.out
  rw [hr] at hr1
  have BB3 := Box'.mk bb3
  have OV3 := Box'.mk ov3
  clear hh hr ins HB rd2 rd3 r3 g2 b2 b3 bb3 ov3 B1
  obtain ⟨av, cv, rfl⟩ := ov.slice
  obtain ⟨a3, c3, rfl, _⟩ := i3.slice
  clear ov i3
  generalize dif.length = dn at *
  cases l2 with
  | cons y t =>
    have hr2 : R = (⟨0, 0, 0, 0, []⟩, 8) := hr1
    have HR := Box'.mk hr2
    have FA := Box'.mk (fail_any 8)
    clear hr1 hr2 rf OV3
    rw [hw3] at k0
    go_wp2_with fail
    rw [← hw3]
    refine (FA.out _).mono ?_
    rintro e w4 ⟨rfl, rfl⟩
    have r1 := RE.out.below BB3.out (by omega)
    refine leaves_cons (f := 50) (args := #[.pointer (some ⟨w.heap.size + 1, 0, none⟩)]) (by simp) (by simp [go_sem]) ?_
    refine (catch_flt (w.heap.size + 1) 8 0 w4 r1.lt (by rw [r1.cell]; rfl) (r1.frozen 0)).mono ?_
    rintro e u' w'' ⟨rfl, rfl, rfl⟩
    exact OUT.out _ 8 w4 rfl rfl HR.out BB3.out
  | nil =>
    have hr2 : R = (⟨x0, x1, x2, x3, dif⟩, 0) := hr1
    subst hr2
    clear hr1 OUT
    have ri := RI.out.below BB3.out (by omega)
    have re := RE.out.below BB3.out (by omega)
    have i0 : w3.cell? ⟨w.heap.size, 0, none⟩ = some (.int .u64 0) := by rw [ri.cell]; rfl
    have i1 : w3.cell? ⟨w.heap.size, 1, none⟩ = some (.int .u64 0) := by rw [ri.cell]; rfl
    have i2 : w3.cell? ⟨w.heap.size, 2, none⟩ = some (.int .u64 0) := by rw [ri.cell]; rfl
    have i3 : w3.cell? ⟨w.heap.size, 3, none⟩ = some (.int .u64 0) := by rw [ri.cell]; rfl
    have i4 : w3.cell? ⟨w.heap.size, 4, none⟩ = some (.slice none 0 0) := by rw [ri.cell]; rfl
    have e0 : w3.cell? ⟨w.heap.size + 1, 0, none⟩ = some (.int .i64 0) := by rw [re.cell]; rfl
    have f0 := ri.frozen 0
    have f1 := ri.frozen 1
    have f2 := ri.frozen 2
    have f3 := ri.frozen 3
    have f4 := ri.frozen 4
    have g0 := re.frozen 0
    have q0 : w3.cell? ⟨w2.heap.size, 0, none⟩ = some (.int .u64 (x0 : Int)) := by rw [rf.cell]; rfl
    have q1 : w3.cell? ⟨w2.heap.size, 1, none⟩ = some (.int .u64 (x1 : Int)) := by rw [rf.cell]; rfl
    have q2 : w3.cell? ⟨w2.heap.size, 2, none⟩ = some (.int .u64 (x2 : Int)) := by rw [rf.cell]; rfl
    have q3 : w3.cell? ⟨w2.heap.size, 3, none⟩ = some (.int .u64 (x3 : Int)) := by rw [rf.cell]; rfl
    have q4 : w3.cell? ⟨w2.heap.size, 4, none⟩ = some (.slice av dn cv) := by rw [rf.cell]; rfl
    have bw : Below w.heap.size w w3 := B0.out.trans (BB3.out.mono (by omega))
    have FIN : Box' (∀ w9, w9 = (((((w3.setCell ⟨w.heap.size, 0, none⟩ (.int .u64 (x0 : Int))).setCell ⟨w.heap.size, 1, none⟩ (.int .u64 (x1 : Int))).setCell ⟨w.heap.size, 2, none⟩ (.int .u64 (x2 : Int))).setCell ⟨w.heap.size, 3, none⟩ (.int .u64 (x3 : Int))).setCell ⟨w.heap.size, 4, none⟩ (.slice av dn cv)).setCell ⟨w.heap.size + 1, 0, none⟩ (.int .i64 0) → ∀ T : Array Value, T.getD 4 undef = .pointer (some ⟨w.heap.size, 0, none⟩) → T.getD 5 undef = .pointer (some ⟨w.heap.size + 1, 0, none⟩) → ∃ u, (results Try.f36 T).run Try.prog w9 = .ok u w9 ∧ IEnd w (⟨x0, x1, x2, x3, dif⟩, 0) (.returned u) w9) := ⟨fun w9 h9 T h4 h5 => by
      have s5 := ((((ri.setCell 0 (.int .u64 (x0 : Int))).setCell 1 (.int .u64 (x1 : Int))).setCell 2 (.int .u64 (x2 : Int))).setCell 3 (.int .u64 (x3 : Int))).setCell 4 (.slice av dn cv)
      have s6 := s5.setOther ⟨w.heap.size + 1, 0, none⟩ (.int .i64 0) (by simp)
      have t5 := ((((re.setOther ⟨w.heap.size, 0, none⟩ (.int .u64 (x0 : Int)) (by simp)).setOther ⟨w.heap.size, 1, none⟩ (.int .u64 (x1 : Int)) (by simp)).setOther ⟨w.heap.size, 2, none⟩ (.int .u64 (x2 : Int)) (by simp)).setOther ⟨w.heap.size, 3, none⟩ (.int .u64 (x3 : Int)) (by simp)).setOther ⟨w.heap.size, 4, none⟩ (.slice av dn cv) (by simp)
      have t6 := t5.setCell 0 (.int .i64 0)
      rw [h9]
      refine ⟨_, results36 T _ _ _ 0 _ h4 h5 s6 rfl (by rw [t6.cell]; rfl), _, rfl, ?_, ?_⟩
      · have o1 := OV3.out.other ri (by decide) 0 (.int .u64 (x0 : Int))
        have o2 := o1.other (ri.setCell 0 (.int .u64 (x0 : Int))) (by decide) 1 (.int .u64 (x1 : Int))
        have o3 := o2.other ((ri.setCell 0 (.int .u64 (x0 : Int))).setCell 1 (.int .u64 (x1 : Int))) (by decide) 2 (.int .u64 (x2 : Int))
        have o4 := o3.other (((ri.setCell 0 (.int .u64 (x0 : Int))).setCell 1 (.int .u64 (x1 : Int))).setCell 2 (.int .u64 (x2 : Int))) (by decide) 3 (.int .u64 (x3 : Int))
        have o5 := o4.other ((((ri.setCell 0 (.int .u64 (x0 : Int))).setCell 1 (.int .u64 (x1 : Int))).setCell 2 (.int .u64 (x2 : Int))).setCell 3 (.int .u64 (x3 : Int))) (by decide) 4 (.slice av dn cv)
        exact o5.other t5 (by decide) 0 (.int .i64 0)
      · exact (((((bw.setCell (p := ⟨w.heap.size, 0, none⟩) (Nat.le_refl _) _).setCell (p := ⟨w.heap.size, 1, none⟩) (Nat.le_refl _) _).setCell (p := ⟨w.heap.size, 2, none⟩) (Nat.le_refl _) _).setCell (p := ⟨w.heap.size, 3, none⟩) (Nat.le_refl _) _).setCell (p := ⟨w.heap.size, 4, none⟩) (Nat.le_refl _) _).setCell (p := ⟨w.heap.size + 1, 0, none⟩) (by simp) _⟩
    clear ri re rf bw OV3 BB3
    rw [hw3] at k0 i0 i1 i2 i3 i4 e0 f0 f1 f2 f3 f4 g0 q0 q1 q2 q3 q4
    go_wp2_with fail
    rw [← hw3]
    refine leaves_cons (f := 50) (args := #[.pointer (some ⟨w.heap.size + 1, 0, none⟩)]) (by simp) (by simp [go_sem]) ?_
    refine (catch_idle ⟨w.heap.size + 1, 0, none⟩ _).mono ?_
    rintro e u' w'' ⟨rfl, rfl, rfl⟩
    exact FIN.out _ rfl _ rfl rfl

set_option maxRecDepth 100000 in
set_option maxHeartbeats 4000000 in
theorem read_any (w : World) (v : Value) (l : List UInt8) (hl : l.length ≤ 140737488355328) (h : InB w.heap.size w v l) :
    Calls Try.prog 17 #[v] w (IEnd w (rdI l)) := by
  obtain ⟨wi, hwi⟩ : ∃ wi, wi = w.alloc (.cells #[.int .u64 0, .int .u64 0, .int .u64 0, .int .u64 0, .slice none 0 0] 34) := ⟨_, rfl⟩
  have bi : Below w.heap.size w wi := by rw [hwi]; exact (Below.refl _ _).alloc (Nat.le_refl _) _
  have ri : Row wi w.heap.size 34 #[.int .u64 0, .int .u64 0, .int .u64 0, .int .u64 0, .slice none 0 0] := by rw [hwi]; exact Row.new _ _ _
  have rw_ := readWhole_any wi v l hl ((h.below bi (Nat.le_refl _)).up bi.size)
  have RI := Box'.mk ri
  have BI := Box'.mk bi
  obtain ⟨a, c, rfl, _⟩ := h.slice
  rw [hwi] at rw_
  clear h ri bi
  generalize rdI l = R at *
  generalize l.length = n at *
  go_enter Try.func17, Try.ntmps17
  go_wp2_with fail
  refine rw_.mono ?_
  rw [← hwi]
  rintro e w1 ⟨vd, rfl, ov, b1⟩
  obtain ⟨⟨x0, x1, x2, x3, dif⟩, er⟩ := R
  simp only at ov ⊢
  have r1 := RI.out.below b1 (RI.out.lt)
  have i0 : w1.cell? ⟨w.heap.size, 0, none⟩ = some (.int .u64 0) := by rw [r1.cell]; rfl
  have i1 : w1.cell? ⟨w.heap.size, 1, none⟩ = some (.int .u64 0) := by rw [r1.cell]; rfl
  have i2 : w1.cell? ⟨w.heap.size, 2, none⟩ = some (.int .u64 0) := by rw [r1.cell]; rfl
  have i3 : w1.cell? ⟨w.heap.size, 3, none⟩ = some (.int .u64 0) := by rw [r1.cell]; rfl
  have i4 : w1.cell? ⟨w.heap.size, 4, none⟩ = some (.slice none 0 0) := by rw [r1.cell]; rfl
  have f0 := r1.frozen 0
  have f1 := r1.frozen 1
  have f2 := r1.frozen 2
  have f3 := r1.frozen 3
  have f4 := r1.frozen 4
  have s5 : Row (((((w1.setCell ⟨w.heap.size, 0, none⟩ (.int .u64 (x0 : Int))).setCell ⟨w.heap.size, 1, none⟩ (.int .u64 (x1 : Int))).setCell ⟨w.heap.size, 2, none⟩ (.int .u64 (x2 : Int))).setCell ⟨w.heap.size, 3, none⟩ (.int .u64 (x3 : Int))).setCell ⟨w.heap.size, 4, none⟩ vd) w.heap.size 34 #[.int .u64 (x0 : Int), .int .u64 (x1 : Int), .int .u64 (x2 : Int), .int .u64 (x3 : Int), vd] := ((((r1.setCell 0 (.int .u64 (x0 : Int))).setCell 1 (.int .u64 (x1 : Int))).setCell 2 (.int .u64 (x2 : Int))).setCell 3 (.int .u64 (x3 : Int))).setCell 4 vd
  have bw : Below w.heap.size w w1 := BI.out.trans (b1.mono BI.out.size)
  have o1 := (ov.less BI.out.size).other r1 (by decide) 0 (.int .u64 (x0 : Int))
  have o2 := o1.other (r1.setCell 0 (.int .u64 (x0 : Int))) (by decide) 1 (.int .u64 (x1 : Int))
  have o3 := o2.other ((r1.setCell 0 (.int .u64 (x0 : Int))).setCell 1 (.int .u64 (x1 : Int))) (by decide) 2 (.int .u64 (x2 : Int))
  have o4 := o3.other (((r1.setCell 0 (.int .u64 (x0 : Int))).setCell 1 (.int .u64 (x1 : Int))).setCell 2 (.int .u64 (x2 : Int))) (by decide) 3 (.int .u64 (x3 : Int))
  have o5 := o4.other ((((r1.setCell 0 (.int .u64 (x0 : Int))).setCell 1 (.int .u64 (x1 : Int))).setCell 2 (.int .u64 (x2 : Int))).setCell 3 (.int .u64 (x3 : Int))) (by decide) 4 vd
  have b5 := ((((bw.setCell (p := ⟨w.heap.size, 0, none⟩) (Nat.le_refl _) (.int .u64 (x0 : Int))).setCell (p := ⟨w.heap.size, 1, none⟩) (Nat.le_refl _) (.int .u64 (x1 : Int))).setCell (p := ⟨w.heap.size, 2, none⟩) (Nat.le_refl _) (.int .u64 (x2 : Int))).setCell (p := ⟨w.heap.size, 3, none⟩) (Nat.le_refl _) (.int .u64 (x3 : Int))).setCell (p := ⟨w.heap.size, 4, none⟩) (Nat.le_refl _) vd
  have S5 := Box'.mk s5
  have O5 := Box'.mk o5
  have B5 := Box'.mk b5
  obtain ⟨av, cv, rfl⟩ := ov.slice
  clear rw_ hwi r1 s5 bw o1 o2 o3 o4 o5 b5 b1 ov RI BI
  generalize dif.length = dn at *
  go_wp2_with fail
  exact bodyPost_ret (v := .tuple #[.agg #[.int .u64 (x0 : Int), .int .u64 (x1 : Int), .int .u64 (x2 : Int), .int .u64 (x3 : Int), .slice av dn cv], .int .i64 er]) (results_row_slot rfl _ w.heap.size rfl (.int .i64 er) rfl _ _ S5.out _ Try.underlying34 rfl 5 Try.size34 rfl) rfl ⟨_, rfl, O5.out, B5.out⟩
end Go.Proofs.Ytciiaopbghjcnaa
