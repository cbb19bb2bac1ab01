/- What a sender tells; what is asked of the program's; anchored. -/
import Derived.Test.YtikkekdmahdgaaaRl
namespace Go.Proofs.Ytikkekdmahdgaaa
open Go.RowKit Go.BigFrame
set_option linter.unusedSimpArgs false
set_option linter.unusedVariables false

def lastR (l : List Rw) : Rw := l.getD (l.length - 1) Rw.zero
def frF (s : Sd) (now : UInt64) (pace : Int) : Bool := !decide ((lastR s.l).t = s.now) && decide (s.l.length < 32) && (!s.any || pastF now s.tm pace)
def agF (s : Sd) (now : UInt64) (timeout : Int) : Bool := decide (1 < s.l.length) && pastF now (lastR s.l).a timeout
def heF (s : Sd) (now : UInt64) : Bool := !s.any || pastF now s.tm 3000
def rowsT (s : Sd) (now : UInt64) (pace : Int) : List Rw := if frF s now pace = true then s.l ++ [⟨(lastR s.l).n + 1, s.now, 0⟩] else s.l
def setA (l : List Rw) (now : UInt64) : List Rw := l.set (l.length - 1) ⟨(lastR l).n, (lastR l).t, now⟩
def sndF (s : Sd) (now : UInt64) (l : List Rw) : Sd × Ins × Bool × Int :=
  if (sufF (l.getD 0 Rw.zero).t (lastR l).t).2 = true then (⟨s.now, setA l now, true, now, now⟩, ⟨(l.getD 0 Rw.zero).n, (lastR l).n, 0, (l.getD 0 Rw.zero).n, (sufF (l.getD 0 Rw.zero).t (lastR l).t).1⟩, true, 0) else (s, Ins.none, false, 99)
def tickF (s : Sd) (now : UInt64) (pace timeout : Int) : Sd × Ins × Bool × Int :=
  if pace < 0 ∨ timeout < 0 ∨ now.toNat < s.seen.toNat then (s, Ins.none, false, 2)
  else if frF s now pace = false ∧ agF s now timeout = false ∧ heF s now = false then ({ s with seen := now }, Ins.none, false, 0)
  else sndF s now (rowsT s now pace)
/-- The slice v has the bytes l, in a block of S, or is nil. -/
def InX (S : Nat → Prop) (w : World) (v : Value) (l : List UInt8) : Prop :=
  (v = .slice none 0 0 ∧ l = []) ∨ ∃ b o c, v = .slice (some ⟨b, o, none⟩) l.length c ∧ l.length ≤ c ∧ (l = [] ∨ S b) ∧ w.rangeAt b o (l.map B)
theorem InX.keep {S S' : Nat → Prop} {w w' : World} {v : Value} {l : List UInt8} (h : InX S w v l) (hk : ∀ b, S b → S' b ∧ w'.heap[b]? = w.heap[b]?) : InX S' w' v l := by
  rcases h with h | ⟨b, o, c, h1, h2, h3, h4⟩
  · exact .inl h
  · refine .inr ⟨b, o, c, h1, h2, ?_, ?_⟩
    · rcases h3 with q | q
      · exact .inl q
      · exact .inr (hk b q).1
    · rcases h3 with q | q
      · subst q; intro j u hu; simp at hu
      · intro j u hu
        have := h4 j u hu
        simp only [World.cell?, (hk b q).2] at *
        exact this
theorem InX.inB {S : Nat → Prop} {N : Nat} {w : World} {v : Value} {l : List UInt8} (h : InX S w v l) (hk : ∀ b, S b → b < N) : InB N w v l := by
  rcases h with h | ⟨b, o, c, h1, h2, h3, h4⟩
  · exact .inl h
  · refine .inr ⟨b, o, c, h1, h2, ?_, h4⟩
    rcases h3 with q | q
    · exact .inl q
    · exact .inr (hk b q)
theorem InX.slice {S : Nat → Prop} {w : World} {v : Value} {l : List UInt8} (h : InX S w v l) : ∃ a c, v = .slice a l.length c := by
  rcases h with ⟨rfl, rfl⟩ | ⟨b, o, c, h1, _⟩
  · exact ⟨_, _, rfl⟩
  · exact ⟨_, _, h1⟩
/-- What is asked of a sender's making, setting, acking, ticking, telling. -/
def NewSC (f : Nat) (R : World → (Nat → Prop) → Nat → Sd → Prop) : Prop := ∀ (t : List UInt8) (w : World), Calls Try.prog f #[.agg #[sT t]] w fun e w' => ∃ p F, e = .returned (.pointer (some ⟨p, 0, none⟩)) ∧ R w' F p (newS t) ∧ Below w.heap.size w w' ∧ ∀ k, F k → w.heap.size ≤ k
def SetSC (f : Nat) (R : World → (Nat → Prop) → Nat → Sd → Prop) : Prop := ∀ (w : World) (F : Nat → Prop) (p : Nat) (s : Sd) (t : List UInt8), R w F p s →
  Calls Try.prog f #[.pointer (some ⟨p, 0, none⟩), .agg #[sT t]] w fun e w' => ∃ F', e = .returned (.int .i64 0) ∧ R w' F' p { s with now := t } ∧ Tch F w w' ∧ ∀ k, F' k → F k ∨ w.heap.size ≤ k
def AckSC (f : Nat) (R : World → (Nat → Prop) → Nat → Sd → Prop) : Prop := ∀ (w : World) (F : Nat → Prop) (p : Nat) (s : Sd) (n : UInt64), R w F p s → 0 < s.l.length → s.l.length ≤ 32 →
  Calls Try.prog f #[.pointer (some ⟨p, 0, none⟩), uV n] w fun e w' => ∃ F', e = .returned (.int .i64 (ackF s n).2) ∧ R w' F' p (ackF s n).1 ∧ Tch F w w' ∧ ∀ k, F' k → F k ∨ w.heap.size ≤ k
def TickSC (f : Nat) (R : World → (Nat → Prop) → Nat → Sd → Prop) : Prop := ∀ (w : World) (F : Nat → Prop) (p : Nat) (s : Sd) (now : UInt64) (pace timeout : Int), R w F p s → 0 < s.l.length → s.l.length ≤ 32 → s.now.length ≤ 4398046511104 → (∀ y, y ∈ s.l → y.t.length ≤ 4398046511104 ∧ y.n.toNat ≤ 4398046511104) → -9223372036854775808 ≤ pace → pace < 9223372036854775808 → -9223372036854775808 ≤ timeout → timeout < 9223372036854775808 →
  Calls Try.prog f #[.pointer (some ⟨p, 0, none⟩), uV now, .int .i64 pace, .int .i64 timeout] w fun e w' => ∃ F' vb, e = .returned (.tuple #[.agg (insA (tickF s now pace timeout).2.1 vb), .bool (tickF s now pace timeout).2.2.1, .int .i64 (tickF s now pace timeout).2.2.2]) ∧ R w' F' p (tickF s now pace timeout).1 ∧ InX (fun b => w.heap.size ≤ b ∧ b < w'.heap.size ∧ ¬ F' b) w' vb (tickF s now pace timeout).2.1.dif ∧ Tch F w w' ∧ ∀ k, F' k → F k ∨ w.heap.size ≤ k
def ToldSC (f : Nat) (R : World → (Nat → Prop) → Nat → Sd → Prop) : Prop := ∀ (w : World) (F : Nat → Prop) (p : Nat) (s : Sd), R w F p s → 0 < s.l.length → s.l.length ≤ 32 →
  Calls Try.prog f #[.pointer (some ⟨p, 0, none⟩)] w fun e w' => e = .returned (.tuple #[uV (s.l.getD 0 Rw.zero).n, uV (lastR s.l).n, .int .i64 (s.l.length : Int)]) ∧ Below w.heap.size w w'

set_option maxRecDepth 100000 in
set_option maxHeartbeats 2000000 in
theorem instr_eq (x : Ins) (vx vy : Value) (w : World) (h1 : InB w.heap.size w vx x.dif) (h2 : InB w.heap.size w vy x.dif) : Calls Try.prog 15 #[.agg (insA x vx), .agg (insA x vy)] w fun e w' => e = .returned (.bool true) ∧ Below w.heap.size w w' := by
  obtain ⟨w1, hw1⟩ : ∃ w1, w1 = (w.alloc (.cells (insA x vx) 41)).alloc (.cells (insA x vy) 41) := ⟨_, rfl⟩
  have b1 : Below w.heap.size w w1 := by rw [hw1]; exact ((Below.refl _ _).alloc (Nat.le_refl _) _).alloc (by simp) _
  have r1 : Row w1 w.heap.size 41 (insA x vx) := by rw [hw1]; exact (Row.new _ _ _).alloc _
  have r2 : Row w1 (w.heap.size + 1) 41 (insA x vy) := by rw [hw1]; exact Row.made _ _ _ _ _ rfl (by simp)
  have sm := refSame_any _ _ vx vy x.dif x.dif w1 (h1.below b1 (Nat.le_refl _)).bts (h2.below b1 (Nat.le_refl _)).bts
  have B1 := Box'.mk b1
  have x0 := r1.cell 0
  have x1 := r1.cell 1
  have x2 := r1.cell 2
  have x3 := r1.cell 3
  have x4 := r1.cell 4
  have y0 := r2.cell 0
  have y1 := r2.cell 1
  have y2 := r2.cell 2
  have y3 := r2.cell 3
  have y4 := r2.cell 4
  clear r1 r2 b1 h1 h2
  unfold insA uV at *
  rw [hw1] at sm x0 x1 x2 x3 x4 y0 y1 y2 y3 y4
  obtain ⟨xo, xn, xa, xt, xd⟩ := x
  simp only at *
  generalize xo.toNat = n0 at *
  generalize xn.toNat = n1 at *
  generalize xa.toNat = n2 at *
  generalize xt.toNat = n3 at *
  go_enter Try.func15, Try.ntmps15
  go_wp2_with fail
  refine sm.mono ?_
  rw [← hw1]
  rintro e w2 ⟨rfl, hw⟩
  obtain rfl : w1 = w2 := hw.symm
  clear sm hw hw1 x0 x1 x2 x3 x4 y0 y1 y2 y3 y4
  go_wp2_with fail
  go_ret
  exact ⟨by simp, B1.out⟩
end Go.Proofs.Ytikkekdmahdgaaa
