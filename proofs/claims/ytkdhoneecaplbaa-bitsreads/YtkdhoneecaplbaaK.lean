/- The walks of BitsReads and BitsWrites. -/
import Derived.Test.YtkdhoneecaplbaaJ
namespace Go.Proofs.Ytkdhoneecaplbaa
open Go.RowKit Go.BigFrame

set_option maxHeartbeats 2000000 in
theorem reads_any (v : Value) (l : List UInt8) (p q : Int) (xv : Nat) (xs : Int) (hl : l.length ≤ 140737488355328) (hp : p ≤ 9223372036854775807) (hx : xv < 18446744073709551616) (w : World) (h : Bts (· < w.heap.size) w v l) :
    Calls Try.prog 4 #[v, .agg #[.int .i64 p, .int .i64 q], .agg (bts2 xv xs)] w fun e w' => e = .returned (.bool true) ∧ Below w.heap.size w w' := by
  have b0 : Below w.heap.size w ((w.alloc (.cells #[.int .i64 p, .int .i64 q] 36)).alloc (.cells (bts2 xv xs) 39)) := ((Below.refl _ _).alloc (Nat.le_refl _) _).alloc (by simp) _
  have h0 : Bts (· < w.heap.size) ((w.alloc (.cells #[.int .i64 p, .int .i64 q] 36)).alloc (.cells (bts2 xv xs) 39)) v l := h.below b0 fun _ h => h
  have r1 := read_any _ _ _ p q hl _ h0 hp
  have r2 := refRead_any _ _ _ p q hl _ h0
  generalize hE : Gf.rdE l.length p q = E at *
  generalize hV : Gf.rdV l p q = V at *
  clear hE hV
  obtain ⟨a, c, rfl, hc, h3⟩ := h
  clear h3 h0
  have rx : Row ((w.alloc (.cells #[.int .i64 p, .int .i64 q] 36)).alloc (.cells (bts2 xv xs) 39)) (w.heap.size + 1) 39 (bts2 xv xs) := Row.made _ _ _ _ _ rfl (by simp)
  have rv1 := fun w => reverse_any xv hx xs w
  have rv2 := fun w => refReverse_any xv hx xs w
  generalize revE (xv, xs) = RE at *
  generalize revV (xv, xs) = RV at *
  obtain ⟨yv, ys⟩ := RV
  simp only at rv1 rv2
  unfold bts2 at *
  go_enter Try.func4, Try.ntmps4
  go_wp2_with (first | (go_at_call 12; refine r1.mono ?_; rintro e w1 ⟨rfl, rfl⟩) | (go_at_call 13; refine r2.mono ?_; rintro e w1 ⟨rfl, rfl⟩) | fail)
  generalize hw0 : (w.alloc (.cells #[.int .i64 p, .int .i64 q] 36)).alloc (.cells #[.int .u64 (xv : Int), .int .i64 xs] 39) = w0 at *
  have hz0 : w0.heap.size = w.heap.size + 2 := by rw [← hw0]; simp
  clear hw0 r1 r2
  refine (rv1 _).mono ?_
  rintro e w1 ⟨rfl, hb1⟩
  have x1 : Row w1 (w.heap.size + 1) 39 #[.int .u64 (xv : Int), .int .i64 xs] := rx.below hb1 (by omega)
  have c0 : w1.cell? ⟨w.heap.size + 1, 0, none⟩ = some (.int .u64 (xv : Int)) := by rw [x1.cell]; rfl
  have c1 : w1.cell? ⟨w.heap.size + 1, 1, none⟩ = some (.int .i64 xs) := by rw [x1.cell]; rfl
  have hz1 := hb1.size
  have hne : w.heap.size + 1 ≠ w1.heap.size := by omega
  have hlt1 : w.heap.size + 1 < w1.heap.size := by omega
  have bl1 : Below w.heap.size w w1 := b0.trans (hb1.mono (by omega))
  clear x1 rx hb1 rv1 b0
  go_wp2_with fail
  refine (rv2 _).mono ?_
  rintro e w2 ⟨rfl, hb2⟩
  have y1 : Row w2 w1.heap.size 39 #[.int .u64 (yv : Int), .int .i64 ys] := (Row.new _ _ _).below hb2 (by simp)
  have d0 : w2.cell? ⟨w1.heap.size, 0, none⟩ = some (.int .u64 (yv : Int)) := by rw [y1.cell]; rfl
  have d1 : w2.cell? ⟨w1.heap.size, 1, none⟩ = some (.int .i64 ys) := by rw [y1.cell]; rfl
  have hz2 := hb2.size
  simp at hz2
  have hlt2 : w1.heap.size < w2.heap.size := by omega
  have bl2 : Below w.heap.size w w2 := (bl1.alloc bl1.size _).trans (hb2.mono (by simp; omega))
  have bl3 : Below w.heap.size w (w2.alloc (.cells #[.int .u64 (yv : Int), .int .i64 ys] 39)) := bl2.alloc bl2.size _
  have ha := fun w => anchored_any w
  clear y1 hb2 rv2 c0 c1 hlt1 hne bl1 bl2
  go_wp2_with (first | (go_at_call 11; refine (ha _).mono ?_; rintro e w3 ⟨rfl, hb3⟩) | fail)
  go_ret
  exact ⟨rfl, bl3.trans (hb3.mono bl3.size)⟩

theorem Bts.on {w w' : World} {v : Value} {l : List UInt8} (h : Bts (· < w.heap.size) w v l) (hb : Below w.heap.size w w') : Bts (· < w'.heap.size) w' v l :=
  h.keep fun b hs => ⟨Nat.lt_of_lt_of_le hs hb.size, hb.block b hs⟩
theorem Wrote.bts {w w' : World} {l : List (Nat × Int)} {u : Value} (h : Wrote w w' l u) : Bts (· < w'.heap.size) w' u (Gf.out l) := by
  rcases h with ⟨e, g, rfl, _, r⟩ | ⟨e, rfl⟩
  · rw [show Gf.out l = Gf.byt (Gf.wid l) (Gf.val l) from if_pos e]
    exact r.bts (Gf.byt_len _ _)
  · rw [show Gf.out l = [] from if_neg e]
    exact ⟨none, 0, rfl, Nat.le_refl _, .inl rfl⟩

set_option maxHeartbeats 2000000 in
theorem writes_any (v : Value) (l : List (Nat × Int)) (hl : l.length ≤ 140737488355328) (w : World) (h : Prs w.heap.size w v l) :
    Calls Try.prog 3 #[v] w fun e w' => e = .returned (.bool true) ∧ Below w.heap.size w w' := by
  have up : ∀ {W : World}, Below w.heap.size w W → Prs W.heap.size W v l := fun hW => (h.below hW (Nat.le_refl _)).up hW.size
  have h1 := write_any v l hl w h
  have h2 : ∀ {W : World}, Below w.heap.size w W → _ := fun {W} hW => refWrite_any v l hl W (up hW)
  have h3 : ∀ {W : World}, Below w.heap.size w W → _ := fun {W} hW => count_any v l hl W (up hW)
  have h4 : ∀ {W : World}, Below w.heap.size w W → _ := fun {W} hW => refCount_any v l hl W (up hW)
  have H2 := Box'.mk @h2
  have H3 := Box'.mk @h3
  have H4 := Box'.mk @h4
  have WB : Box' (∀ {W W' : World} {u : Value}, Wrote W W' l u → Bts (· < W'.heap.size) W' u (Gf.out l)) := ⟨fun h => h.bts⟩
  clear h2 h3 h4 up
  obtain ⟨a, c, rfl, hc, _, _⟩ := h
  generalize Gf.cntE l = E at *
  generalize Gf.cntN l = N at *
  generalize Gf.out l = R at *
  generalize l.length = n at *
  have ha := fun w => anchored_any w
  go_enter Try.func3, Try.ntmps3
  go_wp2_with fail
  refine h1.mono ?_
  rintro e w1 ⟨u1, rfl, p1, b1⟩
  have q1 := WB.out p1
  clear h1 p1
  go_wp2_with fail
  refine (H2.out b1).mono ?_
  rintro e w2 ⟨u2, rfl, p2, b2⟩
  have q2 := WB.out p2
  have q12 := q1.on b2
  have bl2 := b1.trans (b2.mono b1.size)
  clear p2 q1 b1 b2
  go_wp2_with fail
  refine (H3.out bl2).mono ?_
  rintro e w3 ⟨rfl, b3⟩
  have q23 := q2.on b3
  have q13 := q12.on b3
  have bl3 := bl2.trans (b3.mono bl2.size)
  clear q2 q12 bl2 b3
  go_wp2_with fail
  refine (H4.out bl3).mono ?_
  rintro e w4 ⟨rfl, b4⟩
  have hs := refSame_any _ _ _ _ _ _ _ (q13.on b4) (q23.on b4)
  rw [decide_eq_true rfl] at hs
  have bl4 := bl3.trans (b4.mono bl3.size)
  clear q23 q13 bl3 b4 WB H2 H3 H4
  go_wp2_with (first | (go_at_call 10; refine hs.mono ?_; rintro e w5 ⟨rfl, rfl⟩) | (go_at_call 11; refine (ha _).mono ?_; rintro e w6 ⟨rfl, hb6⟩) | fail)
  go_ret
  exact ⟨rfl, bl4.trans (hb6.mono bl4.size)⟩
end Go.Proofs.Ytkdhoneecaplbaa
