/- The walk of the reference's Read. -/
import Derived.Test.YtciiaopbghjcnaaW
namespace Go.Proofs.Ytciiaopbghjcnaa
open Go.RowKit Go.BigFrame
set_option linter.unusedSimpArgs false

/-- What the reference reads, state by state. -/
def refI (l : List UInt8) : Ins × Int :=
  let s1 := numS (.ok l); let s2 := numS s1; let s3 := numS s2; let s4 := numS s3
  let r := rawR 0 65536 s4
  if endE (stOf r) = 0 then (⟨numV (.ok l), numV s1, numV s2, numV s3, bvOf r⟩, 0) else (⟨0, 0, 0, 0, []⟩, endE (stOf r))
theorem rdU_ne (b : List UInt8) (h : (rdU b).2.2 ≠ 0) : (rdU b).2.2 = 7 ∨ (rdU b).2.2 = 8 := by
  rcases rdU_err (b := b) with e | e | e
  · exact absurd e h
  · rw [e]; exact .inl rfl
  · rw [e]; exact .inr rfl
theorem numF_ne {l : List UInt8} {x : Int} (h : numF l = .error x) : x ≠ 0 := by
  unfold numF at h
  split at h
  · cases h
  · injection h with h; rw [← h]; assumption
theorem pieF_ne {n : Nat} {l : List UInt8} {x : Int} (h : pieF n l = .error x) : x ≠ 0 := by
  unfold pieF at h
  split at h
  · injection h with h; rw [← h]; decide
  · cases h
theorem rawF_bytF (m : Nat) (l : List UInt8) : rawF 0 m l = bytF m l := by
  unfold rawF bytF
  cases h : numF l with
  | error x => rfl
  | ok p => simp
theorem bytF_ne {m : Nat} {l : List UInt8} {x : Int} (h : bytF m l = .error x) : x ≠ 0 := by
  unfold bytF at h
  cases hn : numF l with
  | error y => rw [hn] at h; injection h with h; rw [← h]; exact numF_ne hn
  | ok p =>
    rw [hn] at h
    simp only at h
    split at h
    · injection h with h; rw [← h]; decide
    · exact pieF_ne h
theorem refI_eq (l : List UInt8) : refI l = rdI l := by
  unfold refI rdI insR
  cases h1 : numF l with
  | error x => have := numF_ne h1; simp [numS, numV, h1, rawR, stOf, endE, this]
  | ok p1 =>
    cases h2 : numF p1.2 with
    | error x => have := numF_ne h2; simp [numS, numV, h1, h2, rawR, stOf, endE, this]
    | ok p2 =>
      cases h3 : numF p2.2 with
      | error x => have := numF_ne h3; simp [numS, numV, h1, h2, h3, rawR, stOf, endE, this]
      | ok p3 =>
        cases h4 : numF p3.2 with
        | error x => have := numF_ne h4; simp [numS, numV, h1, h2, h3, h4, rawR, stOf, endE, this]
        | ok p4 =>
          cases h5 : bytF 65536 p4.2 with
          | error x => have := bytF_ne h5; simp [numS, numV, h1, h2, h3, h4, rawR, rawF_bytF, h5, stOf, endE, this]
          | ok p5 =>
            obtain ⟨y, l5⟩ := p5
            cases l5 with
            | nil => simp [numS, numV, h1, h2, h3, h4, rawR, rawF_bytF, h5, stOf, endE, bvOf]
            | cons c t => simp [numS, numV, h1, h2, h3, h4, rawR, rawF_bytF, h5, stOf, endE, bvOf]

theorem OwnB.gb {M rb : Nat} {w w' : World} {v : Value} {d : List UInt8} (h : OwnB M w v d) (g : Gb rb w w') (hM : rb < M) : OwnB M w' v d :=
  h.same fun k hk => by
    obtain ⟨h1, cur, r⟩ := h.lt k hk
    exact g.block k r.lt (fun e => by injection e with e; omega)
/-- Five cells put into a block. -/
theorem put5 {w : World} {ib : Nat} {t : TypeId} (ht : t ≠ 5) {x0 x1 x2 x3 x4 : Value} (r : Row w ib t #[x0, x1, x2, x3, x4]) (u0 u1 u2 u3 u4 : Value) :
    Row (((((w.setCell ⟨ib, 0, none⟩ u0).setCell ⟨ib, 1, none⟩ u1).setCell ⟨ib, 2, none⟩ u2).setCell ⟨ib, 3, none⟩ u3).setCell ⟨ib, 4, none⟩ u4) ib t #[u0, u1, u2, u3, u4] ∧
    (∀ M v d, OwnB M w v d → OwnB M (((((w.setCell ⟨ib, 0, none⟩ u0).setCell ⟨ib, 1, none⟩ u1).setCell ⟨ib, 2, none⟩ u2).setCell ⟨ib, 3, none⟩ u3).setCell ⟨ib, 4, none⟩ u4) v d) ∧
    (∀ N W, N ≤ ib → Below N W w → Below N W (((((w.setCell ⟨ib, 0, none⟩ u0).setCell ⟨ib, 1, none⟩ u1).setCell ⟨ib, 2, none⟩ u2).setCell ⟨ib, 3, none⟩ u3).setCell ⟨ib, 4, none⟩ u4)) := by
  have r0 := r.setCell 0 u0
  have r1 := r0.setCell 1 u1
  have r2 := r1.setCell 2 u2
  have r3 := r2.setCell 3 u3
  refine ⟨r3.setCell 4 u4, fun M v d h => ((((h.other r ht 0 u0).other r0 ht 1 u1).other r1 ht 2 u2).other r2 ht 3 u3).other r3 ht 4 u4, fun N W hN h => ?_⟩
  exact ((((h.setCell (p := ⟨ib, 0, none⟩) hN u0).setCell (p := ⟨ib, 1, none⟩) hN u1).setCell (p := ⟨ib, 2, none⟩) hN u2).setCell (p := ⟨ib, 3, none⟩) hN u3).setCell (p := ⟨ib, 4, none⟩) hN u4
theorem RSt.other {N : Nat} {w : World} {rb : Nat} {st : Except Int (List UInt8)} (h : RSt N w rb st) (g o : Nat) (u : Value) (hg : g ≠ rb) (hN : N ≤ g) : RSt N (w.setCell ⟨g, o, none⟩ u) rb st := by
  obtain ⟨h1, h2, h3⟩ := h
  refine ⟨h1, by simpa using h2, ?_⟩
  have hb : Below N w (w.setCell ⟨g, o, none⟩ u) := (Below.refl _ _).setCell (p := ⟨g, o, none⟩) hN u
  cases st with
  | ok l => obtain ⟨v, r, i, q⟩ := h3; exact ⟨v, r.setOther _ _ (Ne.symm hg), i.below hb (Nat.le_refl _), q⟩
  | error x => obtain ⟨q, v, r⟩ := h3; exact ⟨q, v, r.setOther _ _ (Ne.symm hg)⟩
set_option maxRecDepth 100000 in
set_option maxHeartbeats 4000000 in
theorem refRead_any (w : World) (v : Value) (l : List UInt8) (hl : l.length ≤ 140737488351232) (h : InB w.heap.size w v l) :
    Calls Try.prog 18 #[v] w (IEnd w (rdI l)) := by
  rw [← refI_eq]
  have HB : Box' (refI l = if endE (stOf (rawR 0 65536 (numS (numS (numS (numS (.ok l))))))) = 0 then (⟨numV (.ok l), numV (numS (.ok l)), numV (numS (numS (.ok l))), numV (numS (numS (numS (.ok l)))), bvOf (rawR 0 65536 (numS (numS (numS (numS (.ok l))))))⟩, 0) else (⟨0, 0, 0, 0, []⟩, endE (stOf (rawR 0 65536 (numS (numS (numS (numS (.ok l))))))))) := ⟨rfl⟩
  generalize refI l = R at *
  obtain ⟨wi, hwi⟩ : ∃ wi, wi = w.alloc (.cells #[.int .u64 0, .int .u64 0, .int .u64 0, .int .u64 0, .slice none 0 0] 34) := ⟨_, rfl⟩
  obtain ⟨w0, hw0⟩ : ∃ w0, w0 = wi.alloc (.cells #[v, .int .i64 0] 72) := ⟨_, rfl⟩
  have hzi : wi.heap.size = w.heap.size + 1 := by rw [hwi]; simp
  have ri : Row w0 w.heap.size 34 #[.int .u64 0, .int .u64 0, .int .u64 0, .int .u64 0, .slice none 0 0] := by rw [hw0, hwi]; exact (Row.new _ _ _).alloc _
  have b0 : Below w.heap.size w w0 := by rw [hw0, hwi]; exact ((Below.refl _ _).alloc (Nat.le_refl _) _).alloc (by simp) _
  have s0 : RSt w.heap.size w0 (w.heap.size + 1) (.ok l) := ⟨Nat.le_succ _, by rw [hw0]; simp [hzi], v, by rw [hw0]; exact Row.made _ 72 _ _ _ rfl hzi.symm, h.below b0 (Nat.le_refl _), hl⟩
  have nm := refNum_any _ _ _ _ s0
  have G0 : Box' (Gb (w.heap.size + 1) w0 w0) := ⟨Gb.refl _ _⟩
  have RI := Box'.mk ri
  have B0 := Box'.mk b0
  have ZI : Box' (w.heap.size + 1 < w0.heap.size) := ⟨s0.2.1⟩
  obtain ⟨a, c, rfl, _⟩ := h.slice
  rw [hw0, hwi] at nm
  clear h ri b0 hzi s0
  generalize l.length = n at *
  go_enter Try.func18, Try.ntmps18
  go_wp2_with fail
  refine nm.mono ?_
  rw [← hwi, ← hw0]
  rintro e w1 ⟨rfl, s1, g1⟩
  generalize numV (.ok l) = n1 at *
  generalize numS (.ok l) = S1 at *
  have nm := refNum_any _ _ _ _ s1
  have G1 := Box'.mk g1
  clear s1 g1 G0 hwi hw0
  go_wp2_with fail
  refine nm.mono ?_
  rintro e w2 ⟨rfl, s2, g2⟩
  generalize numV S1 = n2 at *
  generalize numS S1 = S2 at *
  have nm := refNum_any _ _ _ _ s2
  have G2 := Box'.mk (G1.out.trans g2)
  clear s2 g2 G1
  go_wp2_with fail
  refine nm.mono ?_
  rintro e w3 ⟨rfl, s3, g3⟩
  generalize numV S2 = n3 at *
  generalize numS S2 = S3 at *
  have nm := refNum_any _ _ _ _ s3
  have G3 := Box'.mk (G2.out.trans g3)
  clear s3 g3 G2
  go_wp2_with fail
  refine nm.mono ?_
  rintro e w4 ⟨rfl, s4, g4⟩
  generalize numV S3 = n4 at *
  generalize numS S3 = S4 at *
  have G4 := Box'.mk (G3.out.trans g4)
  obtain ⟨w5, hw5⟩ : ∃ w5, w5 = w4.alloc (.cells #[.int .u64 (n1 : Int), .int .u64 (n2 : Int), .int .u64 (n3 : Int), .int .u64 (n4 : Int), .slice none 0 0] 34) := ⟨_, rfl⟩
  have b5 : Below w4.heap.size w4 w5 := by rw [hw5]; exact (Below.refl _ _).alloc (Nat.le_refl _) _
  have r5 : Row w5 w4.heap.size 34 #[.int .u64 (n1 : Int), .int .u64 (n2 : Int), .int .u64 (n3 : Int), .int .u64 (n4 : Int), .slice none 0 0] := by rw [hw5]; exact Row.new _ _ _
  have rr := refRaw_any _ _ _ 0 65536 (by decide) _ (s4.below b5)
  have G5 := Box'.mk (G4.out.trans (Gb.below b5))
  have R5 := Box'.mk r5
  have X4 : Box' (w.heap.size + 1 < w4.heap.size) := ⟨by have := G4.out.size; have := ZI.out; omega⟩
  rw [hw5] at rr
  clear nm s4 g4 G3 b5 r5 G4
  obtain ⟨xb, hxb⟩ : ∃ xb, xb = w4.heap.size := ⟨_, rfl⟩
  have rr' : Calls Try.prog 39 #[.pointer (some ⟨w.heap.size + 1, 0, none⟩), .int .u64 0, .int .u64 65536] (w4.alloc (.cells #[.int .u64 (n1 : Int), .int .u64 (n2 : Int), .int .u64 (n3 : Int), .int .u64 (n4 : Int), .slice none 0 0] 34)) _ := rr
  clear rr
  go_wp2_with fail
  refine rr'.mono ?_
  rw [← hw5, ← hxb]
  rw [← hxb] at R5 X4
  rintro e w6 ⟨v6, rfl, o6, s6, g6⟩
  generalize rawR 0 65536 S4 = RR at *
  have r6 := g6.row R5.out (by have := X4.out; omega)
  have cx : w6.cell? ⟨xb, 4, none⟩ = some (.slice none 0 0) := by rw [r6.cell]; rfl
  have fx := r6.frozen 4
  have ee := refEnd_any _ _ _ _ (s6.other xb 4 v6 (by have := X4.out; omega) (by have := X4.out; omega))
  have G6 := Box'.mk (G5.out.trans g6)
  have R6 := Box'.mk r6
  have O6 := Box'.mk o6
  obtain ⟨a6, c6, rfl⟩ := o6.slice
  have R7 : Box' (Row (w6.setCell ⟨xb, 4, none⟩ (.slice a6 (bvOf RR).length c6)) xb 34 #[.int .u64 (n1 : Int), .int .u64 (n2 : Int), .int .u64 (n3 : Int), .int .u64 (n4 : Int), .slice a6 (bvOf RR).length c6]) := ⟨r6.setCell 4 _⟩
  clear rr' hw5 hxb s6 g6 r6 o6 G5
  go_wp2_with fail
  refine ee.mono ?_
  rintro e w7 ⟨rfl, g7⟩
  have hne : w.heap.size ≠ xb := by have := X4.out; omega
  have ri := g7.row ((G6.out.row RI.out (by omega)).setOther ⟨xb, 4, none⟩ (.slice a6 (bvOf RR).length c6) hne) (by omega)
  have r7 := g7.row R7.out (by have := X4.out; omega)
  have o7 : OwnB w5.heap.size w7 (.slice a6 (bvOf RR).length c6) (bvOf RR) := (O6.out.other R6.out (by decide) 4 (.slice a6 (bvOf RR).length c6)).gb g7 (by have := R5.out.lt; have := X4.out; omega)
  have hz5 : w.heap.size ≤ w5.heap.size := by have := R5.out.lt; have := X4.out; omega
  have bw : Below w.heap.size w w7 := by
    have h1 := G6.out.on (N := w.heap.size) (Nat.le_succ _) B0.out.size
    have h2 := h1.setCell (p := ⟨xb, 4, none⟩) (by have := X4.out; show w.heap.size ≤ xb; omega) (.slice a6 (bvOf RR).length c6)
    exact (B0.out.trans h2).trans (g7.on (Nat.le_succ _) (Nat.le_trans B0.out.size h2.size))
  obtain ⟨p1, p2, p3⟩ := put5 (by decide) ri (.int .u64 (n1 : Int)) (.int .u64 (n2 : Int)) (.int .u64 (n3 : Int)) (.int .u64 (n4 : Int)) (.slice a6 (bvOf RR).length c6)
  obtain ⟨z1, z2, z3⟩ := put5 (by decide) ri (.int .u64 0) (.int .u64 0) (.int .u64 0) (.int .u64 0) (.slice none 0 0)
  have P1 := Box'.mk p1
  have P2 := Box'.mk (p2 _ _ _ (o7.less hz5))
  have P3 := Box'.mk (p3 _ _ (Nat.le_refl _) bw)
  have Z1 := Box'.mk z1
  have Z3 := Box'.mk (z3 _ _ (Nat.le_refl _) bw)
  have i0 : w7.cell? ⟨w.heap.size, 0, none⟩ = some (.int .u64 0) := by rw [ri.cell]; rfl
  have i1 : w7.cell? ⟨w.heap.size, 1, none⟩ = some (.int .u64 0) := by rw [ri.cell]; rfl
  have i2 : w7.cell? ⟨w.heap.size, 2, none⟩ = some (.int .u64 0) := by rw [ri.cell]; rfl
  have i3 : w7.cell? ⟨w.heap.size, 3, none⟩ = some (.int .u64 0) := by rw [ri.cell]; rfl
  have i4 : w7.cell? ⟨w.heap.size, 4, none⟩ = some (.slice none 0 0) := by rw [ri.cell]; rfl
  have f0 := ri.frozen 0
  have f1 := ri.frozen 1
  have f2 := ri.frozen 2
  have f3 := ri.frozen 3
  have f4 := ri.frozen 4
  have q0 : w7.cell? ⟨xb, 0, none⟩ = some (.int .u64 (n1 : Int)) := by rw [r7.cell]; rfl
  have q1 : w7.cell? ⟨xb, 1, none⟩ = some (.int .u64 (n2 : Int)) := by rw [r7.cell]; rfl
  have q2 : w7.cell? ⟨xb, 2, none⟩ = some (.int .u64 (n3 : Int)) := by rw [r7.cell]; rfl
  have q3 : w7.cell? ⟨xb, 3, none⟩ = some (.int .u64 (n4 : Int)) := by rw [r7.cell]; rfl
  have q4 : w7.cell? ⟨xb, 4, none⟩ = some (.slice a6 (bvOf RR).length c6) := by rw [r7.cell]; rfl
  clear ee cx fx g7 ri r7 o7 bw p1 p2 p3 z1 z2 z3 G6 R6 R7 O6 RI B0 R5
  generalize endE (stOf RR) = er at *
  by_cases he : er = 0
  · have e := HB.out
    rw [if_pos he] at e
    subst e he
    clear HB Z1 Z3
    generalize hbl : (bvOf RR).length = bl at *
    clear hbl
    go_wp2_with fail
    exact bodyPost_ret (v := .tuple #[.agg #[.int .u64 (n1 : Int), .int .u64 (n2 : Int), .int .u64 (n3 : Int), .int .u64 (n4 : Int), .slice a6 bl c6], .int .i64 0]) (results_row_slot rfl _ w.heap.size rfl (.int .i64 0) rfl _ _ P1.out _ Try.underlying34 rfl 5 Try.size34 rfl) rfl ⟨_, rfl, P2.out, P3.out⟩
  · have e := HB.out
    rw [if_neg he] at e
    subst e
    have he' : (er != 0) = true := by simpa using he
    clear HB P1 P2 P3
    go_wp2_with fail
    exact bodyPost_ret (v := .tuple #[.agg #[.int .u64 0, .int .u64 0, .int .u64 0, .int .u64 0, .slice none 0 0], .int .i64 er]) (results_row_slot rfl _ w.heap.size rfl (.int .i64 er) rfl _ _ Z1.out _ Try.underlying34 rfl 5 Try.size34 rfl) rfl ⟨_, rfl, OwnB.nil _ _, Z3.out⟩
end Go.Proofs.Ytciiaopbghjcnaa
