/- The walk of what the document fixes; the walk of HuffCosts. -/
import Derived.Test.YtcppfoolhkcfaaaO
namespace Go.Proofs.Ytcppfoolhkcfaaa
open Go.RowKit Go.BigFrame

def Gf.lA : List Int := [1, 2, 2]
theorem Gf.lA_E : Gf.chkE Gf.lA = 0 := by decide +kernel
theorem Gf.lA_C : cds Gf.lA 3 = [(0, 1), (1, 2), (3, 2)] := by decide +kernel
theorem Gf.lA_S : Gf.symR Gf.lA [1] 0 = (1, 2, 0) := by decide +kernel

/-- The slice of a row of one's own has its numbers. -/
theorem Row.ints {w : World} {g : Nat} {t : TypeId} {l : List Int} {n : Nat} (h : Row w g t (ai l)) (hn : l.length = n) : Ints w.heap.size w (.slice (some ⟨g, 0, none⟩) n n) l :=
  ⟨_, _, by rw [hn], by omega, .inr ⟨g, 0, rfl, h.lt, fun k hk => by rw [Nat.zero_add]; exact h.int hk⟩⟩
theorem Row.bts {w : World} {g : Nat} {l : List UInt8} {n : Nat} (h : Row w g 5 (ag l)) (hn : l.length = n) : Bts (· < w.heap.size) w (.slice (some ⟨g, 0, none⟩) n n) l :=
  ⟨_, _, by rw [hn], by omega, .inr ⟨g, 0, rfl, h.lt, fun j u hu => by rw [Nat.zero_add, h.cell]; simpa [ag] using hu⟩⟩

set_option maxHeartbeats 1000000 in
theorem anchored_any (w : World) : Calls Try.prog 15 #[] w fun e w' => e = .returned (.bool true) ∧ Below w.heap.size w w' := by
  have hp := (Row.new w 3 (ai Gf.lA)).ints (n := 3) rfl
  have hw := codes_any _ _ (show Gf.lA.length ≤ 17592186044416 by show 3 ≤ _; omega) _ hp
  rw [Gf.lA_E] at hw
  have bl0 : Below w.heap.size w (w.alloc (.cells (ai Gf.lA) 3)) := (Below.refl _ _).alloc (Nat.le_refl _) _
  have hai : ai Gf.lA = #[.int .i64 1, .int .i64 2, .int .i64 2] := rfl
  have hag : ag [1] = #[.int .u8 1] := rfl
  rw [hai] at hw bl0
  clear hp
  go_enter Try.func15, Try.ntmps15
  go_wp2_with fail
  refine hw.mono ?_
  rintro e w1 ⟨u, rfl, hwr, hb1⟩
  have bl1 : Below w.heap.size w w1 := bl0.trans (hb1.mono (by simp))
  rcases hwr with ⟨_, g, rfl, hg, rw⟩ | ⟨h, _⟩
  · rw [show Gf.lA.length = 3 from rfl]
    rw [show Gf.lA.length = 3 from rfl, Gf.lA_C] at rw
    have hgl := rw.lt
    have i1 : Ints (w1.alloc (.cells (ai Gf.lA) 3)).heap.size (w1.alloc (.cells (ai Gf.lA) 3)) (.slice (some ⟨w1.heap.size, 0, none⟩) 3 3) Gf.lA := (Row.new w1 3 (ai Gf.lA)).ints (n := 3) rfl
    have i2 := i1.on (w' := (w1.alloc (.cells (ai Gf.lA) 3)).alloc (.cells (ag [1]) 5)) ((Below.refl _ _).alloc (Nat.le_refl _) _)
    have j2 : Bts _ _ _ _ := (Row.new (w1.alloc (.cells (ai Gf.lA) 3)) 5 (ag [1])).bts (n := 1) rfl
    have hsy := symbol_any _ _ _ _ 0 (show Gf.lA.length ≤ 17592186044416 by show 3 ≤ _; omega) (by show 1 ≤ _; omega) (by decide) _ i2 j2
    rw [Gf.lA_S] at hsy
    have r2 := (rw.alloc (.cells (ai Gf.lA) 3)).alloc (.cells (ag [1]) 5)
    have bl2 : Below w.heap.size w ((w1.alloc (.cells (ai Gf.lA) 3)).alloc (.cells (ag [1]) 5)) := (bl1.alloc bl1.size _).alloc (by have := bl1.size; simp; omega) _
    rw [hai, hag] at hsy r2 bl2
    rw [show (w1.alloc (.cells #[.int .i64 1, .int .i64 2, .int .i64 2] 3)).heap.size = w1.heap.size + 1 by simp] at hsy
    unfold sv at hsy
    clear i1 i2 j2 rw hw bl0 hb1 hg
    go_wp2_with fail
    refine hsy.mono ?_
    rintro e w2 ⟨rfl, b2⟩
    have r3 := r2.below b2 r2.lt
    have bl3 := bl2.trans (b2.mono bl2.size)
    have p0 := r3.pr0 (k := 1) (by decide)
    have p1 := r3.pr1 (k := 1) (by decide)
    have q0 := r3.pr0 (k := 2) (by decide)
    have q1 := r3.pr1 (k := 2) (by decide)
    simp only [List.getD_cons_succ, List.getD_cons_zero] at p0 p1 q0 q1
    clear b2 r2 r3 bl2 hsy bl1
    go_wp2_with fail
    go_ret
    exact ⟨rfl, bl3⟩
  · exact absurd Gf.lA_E h

set_option maxHeartbeats 1000000 in
theorem costs_any (v u : Value) (cs ls : List Int) (hcl : cs.length ≤ 17592186044416) (hll : ls.length ≤ 17592186044416) (w : World) (h : Ints w.heap.size w v cs) (g : Ints w.heap.size w u ls) :
    Calls Try.prog 5 #[v, u] w fun e w' => e = .returned (.bool true) ∧ Below w.heap.size w w' := by
  have h1 := cost_any v u cs ls hcl hll w h g
  have h2 := refCost_any v u cs ls hcl hll w h g
  have ha := fun w => anchored_any w
  obtain ⟨a, c, rfl, hc, h3⟩ := h
  obtain ⟨a', c', rfl, hc', g3⟩ := g
  generalize Gf.cstN cs ls = N at *
  generalize Gf.cstE cs ls = E at *
  clear h3 g3
  go_enter Try.func5, Try.ntmps5
  go_wp2_with (go_at_call 18; refine h1.mono ?_; rintro e w' ⟨rfl, hw'⟩; rw [hw'])
  refine h2.mono ?_
  rintro e w2 ⟨rfl, b2⟩
  clear h1 h2
  go_wp2_with (go_at_call 15; refine (ha _).mono ?_; rintro e w3 ⟨rfl, hb3⟩)
  go_ret
  exact ⟨rfl, b2.trans (hb3.mono b2.size)⟩
end Go.Proofs.Ytcppfoolhkcfaaa
