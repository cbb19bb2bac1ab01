/- The walks of readWhole for events, and of ReadEvents. -/
import Derived.Test.YtpgljhgfoihnjaaEb
import Derived.Test.YtpgljhgfoihnjaaU
import Derived.Test.YtpgljhgfoihnjaaO
import Derived.Test.YtpgljhgfoihnjaaE
import Derived.Test.YtpgljhgfoihnjaaFa
import Derived.Test.YtpgljhgfoihnjaaH
import Derived.Test.YtpgljhgfoihnjaaN
import Derived.Test.YtpgljhgfoihnjaaOz
import Derived.Test.YtpgljhgfoihnjaaR
import Derived.Test.YtpgljhgfoihnjaaS
import Derived.Test.YtpgljhgfoihnjaaT
import Derived.Test.YtpgljhgfoihnjaaY
import Derived.Test.YtpgljhgfoihnjaaEd
import Derived.Test.YtpgljhgfoihnjaaEa
namespace Go.Proofs.Ytpgljhgfoihnjaa
open Go.RowKit Go.BigFrame
set_option maxRecDepth 100000
set_option linter.unusedSimpArgs false

set_option maxRecDepth 100000 in
set_option maxHeartbeats 2000000 in
theorem catchE_flt (rb : Nat) (x y : Int) (w : World) (hlt : rb < w.heap.size) (hc : w.cell? ⟨rb, 0, none⟩ = some (.int .i64 y)) (hz : w.frozen? ⟨rb, 0, none⟩ = false) :
    CallsD Try.prog 52 #[.pointer (some ⟨rb, 0, none⟩)] (.panicking [{ v := .iface 79 (.agg #[.int .i64 x]), recovered := false }]) w fun e u' w' =>
      e = .returned (.tuple #[]) ∧ u' = .panicking [{ v := .iface 79 (.agg #[.int .i64 x]), recovered := true }] ∧ w' = (w.setCell ⟨rb, 0, none⟩ (.int .i64 x)).alloc (.cells #[.int .i64 x] 79) := by
  have hne : rb ≠ w.heap.size := by omega
  have hc1 : (w.alloc (.cells #[.int .i64 x] 79)).cell? ⟨rb, 0, none⟩ = some (.int .i64 y) := by
    simp only [World.cell?, Below.heap_alloc _ _ _ hlt] at hc ⊢; exact hc
  have hz1 : (w.alloc (.cells #[.int .i64 x] 79)).frozen? ⟨rb, 0, none⟩ = false := by
    simp only [World.frozen?, Below.heap_alloc _ _ _ hlt] at hz ⊢; exact hz
  refine callsD_of_wpS Try.func52 rfl fun c₀ cs hu => ?_
  apply wpS_seq
  apply wpS_region
  simp [wpOpsS, go_sem, recoverD, hu, Try.ntmps52, Exit.thenS]
  refine wpS_of_wp ?_
  have hta : ∀ w, (Instr.typeAssert (.iface 79 (.agg #[.int .i64 x])) 20 79 true).run Try.prog w = .ok (.tuple #[.agg #[.int .i64 x], .bool true]) w := fun w => by
    simp [Instr.typeAssert, go_sem]
  have e12 : #[Value.pointer (some ⟨rb, 0, none⟩)] ++ ((Array.replicate 16 undef).setIfInBounds 3 (Value.iface 79 (Value.agg #[Value.int IntKind.i64 x]))).setIfInBounds 0 (Value.iface 79 (Value.agg #[Value.int IntKind.i64 x])) = #[.pointer (some ⟨rb, 0, none⟩), .iface 79 (.agg #[.int .i64 x]), undef, undef, .iface 79 (.agg #[.int .i64 x]), undef, undef, undef, undef, undef, undef, undef, undef, undef, undef, undef, undef] := rfl
  rw [e12]
  go_wp2_with fail
  simp [bodyPostS, results, Try.results52]
set_option maxRecDepth 100000 in
set_option maxHeartbeats 2000000 in
theorem catchE_idle (p : Addr) (w : World) :
    CallsD Try.prog 52 #[.pointer (some p)] .returning w fun e u' w' => e = .returned (.tuple #[]) ∧ u' = .returning ∧ w' = w := by
  refine callsD_of_wpS Try.func52 rfl fun c₀ cs hu => ?_
  apply wpS_seq
  apply wpS_region
  simp [wpOpsS, go_sem, recoverD, hu, Try.ntmps52, Exit.thenS]
  refine wpS_of_wp ?_
  have e12 : #[Value.pointer (some p)] ++ ((Array.replicate 16 undef).setIfInBounds 3 Value.nilIface).setIfInBounds 0 Value.nilIface = #[.pointer (some p), .nilIface, undef, undef, .nilIface, undef, undef, undef, undef, undef, undef, undef, undef, undef, undef, undef, undef] := rfl
  rw [e12]
  go_wp2_with fail
  cases c₀
  simp_all [bodyPostS, results, Try.results52]


theorem results45 (T : Array Value) (eb : Nat) (u : Value) (x : Int) (w : World) (h4 : T.getD 4 undef = u) (h5 : T.getD 5 undef = .pointer (some ⟨eb, 0, none⟩)) (he : w.cell? ⟨eb, 0, none⟩ = some (.int .i64 x)) :
    (results Try.f40 T).run Try.prog w = .ok (.tuple #[u, .int .i64 x]) w := by
  have h4' : T[4]?.getD undef = u := by simpa using h4
  have h5' : T[5]?.getD undef = .pointer (some ⟨eb, 0, none⟩) := by simpa using h5
  have h2 : (loadVar 26 (⟨eb, 0, none⟩ : Addr)).run Try.prog w = .ok (.int .i64 x) w := by simp [go_sem, he]
  simp only [results, Try.results40]
  simp [h4', h5', asAddr, h2]
/-- What is read of bytes that are not too many. -/
def rdW (l : List UInt8) : List Ev × Int := match evsR l with
  | .error x => ([], x)
  | .ok (xs, []) => (xs, 0)
  | .ok (_, _ :: _) => ([], 8)
theorem rdE_eq (l : List UInt8) : rdE l = if 65536 < l.length then ([], 4) else rdW l := rfl
/-- What ReadEvents hands back. -/
def EEnd (w : World) (R : List Ev × Int) (e : Ending) (w' : World) : Prop :=
  ∃ v ps, e = .returned (.tuple #[v, .int .i64 R.2]) ∧ ps.map (·.1) = R.1 ∧ OwnE w.heap.size w' v ps ∧ Below w.heap.size w w'

set_option maxRecDepth 100000 in
set_option maxHeartbeats 4000000 in
theorem readWholeE_any (w : World) (v : Value) (l : List UInt8) (hl : l.length ≤ 140737488355328) (h : InB w.heap.size w v l) :
    Calls Try.prog 40 #[v, .func (.func 41) #[] #[]] w (EEnd w (rdW l)) := by
  have hmf : ∀ (fn : Fn) (first cap : Array Value) (w : World), (Instr.makeFunc fn first cap).run Try.prog w = .ok (.func fn first cap) w := fun _ _ _ _ => rfl
  obtain ⟨w0, hw0⟩ : ∃ w0, w0 = w.alloc (.cells #[.int .i64 0] 26) := ⟨_, rfl⟩
  have hz0 : w0.heap.size = w.heap.size + 1 := by rw [hw0]; simp
  have re : Row w0 w.heap.size 26 #[.int .i64 0] := by rw [hw0]; exact Row.new _ _ _
  have b0 : Below w.heap.size w w0 := by rw [hw0]; exact (Below.refl _ _).alloc (Nat.le_refl _) _
  have nr := newReader_any w.heap.size w0 v l b0.size hl (h.below b0 (Nat.le_refl _))
  have HB := Box'.mk (rdW.eq_1 l)
  generalize rdW l = R at *
  have RE := Box'.mk re
  have B0 := Box'.mk b0
  have Z0 := Box'.mk hz0
  obtain ⟨a, c, rfl, _⟩ := h.slice
  clear h re b0 hz0
  have OUT : Box' (∀ (T : Array Value) x w1, T.getD 4 undef = .slice none 0 0 → T.getD 5 undef = .pointer (some ⟨w.heap.size, 0, none⟩) → R = ([], x) → Below (w.heap.size + 1) w0 w1 → ∃ u, (results Try.f40 T).run Try.prog ((w1.setCell ⟨w.heap.size, 0, none⟩ (.int .i64 x)).alloc (.cells #[.int .i64 x] 79)) = .ok u ((w1.setCell ⟨w.heap.size, 0, none⟩ (.int .i64 x)).alloc (.cells #[.int .i64 x] 79)) ∧ EEnd w R (.returned u) ((w1.setCell ⟨w.heap.size, 0, none⟩ (.int .i64 x)).alloc (.cells #[.int .i64 x] 79))) := ⟨fun T x w1 h4 h5 hR hb => by
    have r2 := RE.out.below hb (by omega)
    have r4 := (r2.setCell 0 (.int .i64 x)).alloc (.cells #[.int .i64 x] 79)
    subst hR
    refine ⟨_, results45 T _ _ x _ h4 h5 (by rw [r4.cell]; rfl), _, [], rfl, rfl, OwnE.nil _ _, ?_⟩
    have b1 : Below w.heap.size w w1 := B0.out.trans (hb.mono (by omega))
    exact (b1.setCell (p := ⟨w.heap.size, 0, none⟩) (Nat.le_refl _) _).alloc (by simp; exact b1.size) _⟩
  rw [hw0] at nr
  generalize hn : l.length = n at *
  clear hn
  go_enter_defers Try.func40, Try.ntmps40
  go_wp2_with fail
  refine nr.mono ?_
  rw [← hw0]
  rintro e w1 ⟨rb, rv, rfl, rd1, hrb, b1⟩
  have evs := events_any w.heap.size w1 rb rv l rd1
  have hrb2 : w.heap.size + 1 ≤ rb := by rw [← Z0.out]; exact hrb
  have HRB := Box'.mk hrb2
  have B1 : Box' (Below (w.heap.size + 1) w0 w1) := ⟨by rw [← Z0.out]; exact b1⟩
  clear nr hw0 hrb hrb2 rd1 b1
  go_wp2_with fail
  refine evs.mono ?_
  intro e w2 hh
  obtain ⟨g2, ⟨xs, l2, v2, hr, rfl, ⟨ps, hps, oe⟩, rd2⟩ | ⟨x, hr, rfl⟩⟩ := hh.cases
  case inr =>
    have b2 : Below (w.heap.size + 1) w0 w2 := B1.out.trans (g2.on HRB.out (by have := B1.out.size; have := Z0.out; omega))
    have r1 := RE.out.below b2 (by omega)
    refine leaves_cons (f := 52) (args := #[.pointer (some ⟨w.heap.size, 0, none⟩)]) (by simp) (by simp [go_sem]) ?_
    refine (catchE_flt w.heap.size x 0 w2 r1.lt (by rw [r1.cell]; rfl) (r1.frozen 0)).mono ?_
    rintro e u' w'' ⟨rfl, rfl, rfl⟩
    exact OUT.out _ x w2 rfl rfl (by rw [HB.out, hr]) b2
  have b2 : Below (w.heap.size + 1) w0 w2 := B1.out.trans (g2.on HRB.out (by have := B1.out.size; have := Z0.out; omega))
  have hz2 : w.heap.size + 1 ≤ w2.heap.size := by have := b2.size; have := Z0.out; omega
  obtain ⟨v3, r3, i3⟩ := rd2.row
  have k0 : w2.cell? ⟨rb, 0, none⟩ = some v3 := by rw [r3.cell]; rfl
  have oe3 : OwnE w.heap.size w2 v2 ps := by
    refine ⟨?_, fun p hp => (oe.own p hp).less (by have := B1.out.size; have := Z0.out; omega), oe.dis⟩
    refine ⟨oe.row.1, ?_⟩
    rcases oe.row.2 with q | ⟨g, cap, cur, q1, q2, q3⟩
    · exact .inl q
    · exact .inr ⟨g, cap, cur, q1, by have := B1.out.size; have := Z0.out; omega, q3⟩
  have hr1 := HB.out
  rw [hr] at hr1
  have BB3 := Box'.mk b2
  have OE3 := Box'.mk oe3
  clear hh hr evs HB rd2 r3 g2 b2 B1 oe
  obtain ⟨av, cv, rfl⟩ := oe3.slice
  obtain ⟨a3, c3, rfl, _⟩ := i3.slice
  clear oe3 i3
  generalize hpn : ps.length = pn at OE3 ⊢
  clear hpn
  cases l2 with
  | cons y t =>
    have hr2 : R = ([], 8) := hr1
    have HR := Box'.mk hr2
    have FA := Box'.mk (fail_any 8)
    clear hr1 hr2 OE3
    go_wp2_with fail
    refine (FA.out _).mono ?_
    rintro e w4 ⟨rfl, rfl⟩
    have r1 := RE.out.below BB3.out (by omega)
    refine leaves_cons (f := 52) (args := #[.pointer (some ⟨w.heap.size, 0, none⟩)]) (by simp) (by simp [go_sem]) ?_
    refine (catchE_flt w.heap.size 8 0 w4 r1.lt (by rw [r1.cell]; rfl) (r1.frozen 0)).mono ?_
    rintro e u' w'' ⟨rfl, rfl, rfl⟩
    exact OUT.out _ 8 w4 rfl rfl HR.out BB3.out
  | nil =>
    have hr2 : R = (xs, 0) := hr1
    subst hr2
    clear hr1 OUT
    have re := RE.out.below BB3.out (by omega)
    have e0 : w2.cell? ⟨w.heap.size, 0, none⟩ = some (.int .i64 0) := by rw [re.cell]; rfl
    have g0 := re.frozen 0
    have bw : Below w.heap.size w w2 := B0.out.trans (BB3.out.mono (by omega))
    have FIN : Box' (∀ T : Array Value, T.getD 4 undef = .slice av pn cv → T.getD 5 undef = .pointer (some ⟨w.heap.size, 0, none⟩) → ∃ u, (results Try.f40 T).run Try.prog (w2.setCell ⟨w.heap.size, 0, none⟩ (.int .i64 0)) = .ok u (w2.setCell ⟨w.heap.size, 0, none⟩ (.int .i64 0)) ∧ EEnd w (xs, 0) (.returned u) (w2.setCell ⟨w.heap.size, 0, none⟩ (.int .i64 0))) := ⟨fun T h4 h5 => by
      have t6 := re.setCell 0 (.int .i64 0)
      refine ⟨_, results45 T _ _ 0 _ h4 h5 (by rw [t6.cell]; rfl), _, ps, rfl, hps, ?_, bw.setCell (p := ⟨w.heap.size, 0, none⟩) (Nat.le_refl _) _⟩
      refine OE3.out.same (fun g hg => Below.heap_setCell _ _ _ _ fun e => ?_) fun p hp => (OE3.out.own p hp).other re (by decide) 0 _
      obtain ⟨_, cur, r2⟩ := OE3.out.lt g hg
      have e : g = w.heap.size := e
      subst e
      unfold Row at re r2
      rw [re] at r2
      simp at r2⟩
    clear re bw OE3 BB3
    go_wp2_with fail
    refine leaves_cons (f := 52) (args := #[.pointer (some ⟨w.heap.size, 0, none⟩)]) (by simp) (by simp [go_sem]) ?_
    refine (catchE_idle ⟨w.heap.size, 0, none⟩ _).mono ?_
    rintro e u' w'' ⟨rfl, rfl, rfl⟩
    exact FIN.out _ rfl rfl

set_option maxRecDepth 100000 in
set_option maxHeartbeats 4000000 in
theorem readEvents_any (w : World) (v : Value) (l : List UInt8) (hl : l.length ≤ 140737488355328) (h : InB w.heap.size w v l) :
    Calls Try.prog 25 #[v] w (EEnd w (rdE l)) := by
  have rw_ := readWholeE_any w v l hl h
  obtain ⟨a, c, rfl, _⟩ := h.slice
  rw [rdE_eq]
  clear h
  by_cases hq : 65536 < l.length
  · rw [if_pos hq]
    clear rw_
    generalize l.length = n at *
    go_enter Try.func25, Try.ntmps25
    go_wp2_with fail
    go_ret2
    exact ⟨_, [], rfl, rfl, OwnE.nil _ _, Below.refl _ _⟩
  · rw [if_neg hq]
    generalize rdW l = R at *
    generalize l.length = n at *
    go_enter Try.func25, Try.ntmps25
    go_wp2_with fail
    refine rw_.mono ?_
    rintro e w1 ⟨u, ps, rfl, h1, h2, h3⟩
    clear rw_
    go_wp2_with fail
    go_ret2
    exact ⟨_, ps, rfl, h1, h2, h3⟩
end Go.Proofs.Ytpgljhgfoihnjaa
