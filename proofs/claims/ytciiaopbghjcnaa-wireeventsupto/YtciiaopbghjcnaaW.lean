/- The walks of the reference's raw and end. -/
import Derived.Test.YtciiaopbghjcnaaV
namespace Go.Proofs.Ytciiaopbghjcnaa
open Go.RowKit Go.BigFrame
set_option linter.unusedSimpArgs false

def rawF (lo hi : Nat) (l : List UInt8) : Except Int (List UInt8 × List UInt8) := match numF l with
  | .error x => .error x
  | .ok (n, l1) => if n < lo ∨ hi < n then .error 8 else pieF n l1
def rawR (lo hi : Nat) (st : Except Int (List UInt8)) : Except Int (List UInt8 × List UInt8) := match st with
  | .error x => .error x
  | .ok l => rawF lo hi l
def stOf {α : Type} (r : Except Int (α × List UInt8)) : Except Int (List UInt8) := match r with
  | .error x => .error x
  | .ok (_, l) => .ok l
def bvOf (r : Except Int (List UInt8 × List UInt8)) : List UInt8 := match r with
  | .error _ => []
  | .ok (x, _) => x
/-- What num makes of it. -/
theorem raw_cases (lo hi : Nat) (st : Except Int (List UInt8)) : (∃ x, numS st = .error x ∧ rawR lo hi st = .error x) ∨ (∃ l1, numS st = .ok l1 ∧ rawR lo hi st = if numV st < lo ∨ hi < numV st then .error 8 else pieF (numV st) l1) := by
  cases st with
  | error x => exact .inl ⟨x, rfl, rfl⟩
  | ok l =>
    cases h : numF l with
    | error x => exact .inl ⟨x, by simp [numS, h], by simp [rawR, rawF, h]⟩
    | ok p => exact .inr ⟨p.2, by simp [numS, h], by simp [rawR, rawF, numV, h]⟩

set_option maxRecDepth 100000 in
set_option maxHeartbeats 4000000 in
theorem refRaw_any (N : Nat) (w : World) (rb : Nat) (lo hi : Nat) (hhi : hi ≤ 65536) (st : Except Int (List UInt8)) (h : RSt N w rb st) :
    Calls Try.prog 39 #[.pointer (some ⟨rb, 0, none⟩), .int .u64 (lo : Int), .int .u64 (hi : Int)] w fun e w' => ∃ v, e = .returned v ∧ OwnB w.heap.size w' v (bvOf (rawR lo hi st)) ∧ RSt N w' rb (stOf (rawR lo hi st)) ∧ Gb rb w w' := by
  have nm := refNum_any N w rb st h
  have CS := Box'.mk (raw_cases lo hi st)
  generalize rawR lo hi st = R at *
  generalize numV st = n at *
  generalize numS st = S1 at *
  clear h
  go_enter Try.func39, Try.ntmps39
  go_wp2_with fail
  refine nm.mono ?_
  rintro e w1 ⟨rfl, rs, g1⟩
  clear nm
  have G1 := Box'.mk g1
  have H1 := Box'.mk rs
  clear g1
  rcases CS.out with ⟨x, rfl, hR⟩ | ⟨l1, rfl, hR⟩
  · subst hR
    obtain ⟨h1, h2, hx, v, r⟩ := rs
    have c1 : w1.cell? ⟨rb, 1, none⟩ = some (.int .i64 x) := by rw [r.cell]; rfl
    have hx0 : (x == 0) = false := by simpa using hx
    have hx' : (x != 0) = true := by simpa using hx
    clear CS r h1 h2 hx
    go_wp2_with fail
    go_ret
    exact ⟨_, rfl, OwnB.nil _ _, H1.out, G1.out⟩
  · have HR := Box'.mk hR
    obtain ⟨h1, h2, v, r, hi1, hl⟩ := rs
    have c0 : w1.cell? ⟨rb, 0, none⟩ = some v := by rw [r.cell]; rfl
    have c1 : w1.cell? ⟨rb, 1, none⟩ = some (.int .i64 0) := by rw [r.cell]; rfl
    have f0 := r.frozen 0
    have f1 := r.frozen 1
    have ER : Box' (∀ x, x ≠ 0 → RSt N (w1.setCell ⟨rb, 1, none⟩ (.int .i64 x)) rb (.error x) ∧ Gb rb w (w1.setCell ⟨rb, 1, none⟩ (.int .i64 x))) := ⟨fun x hx => ⟨RSt.err h1 r x hx, G1.out.setCell 1 _⟩⟩
    clear CS hR
    by_cases hrange : n < lo ∨ hi < n
    · have e := HR.out
      rw [if_pos hrange] at e
      subst e
      have e8 := Box'.mk (ER.out 8 (by decide))
      obtain ⟨av, cv, rfl, _⟩ := hi1.slice
      clear HR ER r hi1 h1 h2 H1 G1
      generalize l1.length = ln at *
      rcases hrange with hq | hq
      · go_wp2_with fail
        go_ret
        exact ⟨_, rfl, OwnB.nil _ _, e8.out.1, e8.out.2⟩
      · by_cases hq2 : n < lo
        · go_wp2_with fail
          go_ret
          exact ⟨_, rfl, OwnB.nil _ _, e8.out.1, e8.out.2⟩
        · go_wp2_with fail
          go_ret
          exact ⟨_, rfl, OwnB.nil _ _, e8.out.1, e8.out.2⟩
    · have e := HR.out
      rw [if_neg hrange, pieF] at e
      have HE := Box'.mk e
      have hq1 : lo ≤ n := by omega
      have hq2 : n ≤ hi := by omega
      clear HR e hrange
      by_cases hlen : l1.length < n
      · have e := HE.out
        rw [if_pos hlen] at e
        subst e
        have e7 := Box'.mk (ER.out 7 (by decide))
        obtain ⟨av, cv, rfl, _⟩ := hi1.slice
        clear HE ER r hi1 h1 h2 H1 G1
        generalize l1.length = ln at *
        go_wp2_with fail
        go_ret
        exact ⟨_, rfl, OwnB.nil _ _, e7.out.1, e7.out.2⟩
      · have e := HE.out
        rw [if_neg hlen] at e
        subst e
        clear HE ER
        have hz := G1.out.size
        rcases inB_cut hi1 (show n ≤ l1.length by omega) with ⟨rfl, rfl⟩ | ⟨b, o, c, rfl, hlc, hi2, hi3, hi4⟩
        · have hn0 : n = 0 := by simp at hlen; omega
          subst hn0
          have cp := copy_any (· < N) (.slice none 0 0) [] w1 (bts_nil _ _) (fun b hb => by omega) (by simp)
          have TT : Box' (∀ w2, Below w1.heap.size w1 w2 → w2.cell? ⟨rb, 0, none⟩ = some (.slice none 0 0) ∧ w2.frozen? ⟨rb, 0, none⟩ = false ∧ RSt N (w2.setCell ⟨rb, 0, none⟩ (.slice none 0 0)) rb (.ok []) ∧ Gb rb w (w2.setCell ⟨rb, 0, none⟩ (.slice none 0 0)) ∧ ∀ v, OwnB w1.heap.size w2 v [] → OwnB w.heap.size (w2.setCell ⟨rb, 0, none⟩ (.slice none 0 0)) v []) := ⟨fun w2 b2 => by
            have r2 := r.below b2 r.lt
            exact ⟨by rw [r2.cell]; rfl, r2.frozen 0, RSt.turn h1 r2 _ _ (.inl ⟨rfl, rfl⟩) (by simp), (G1.out.trans (Gb.below b2)).setCell 0 _, fun v ho => (ho.less hz).other r2 (by decide) 0 _⟩⟩
          clear hi1 r h1 h2 H1 G1 hl hlen
          simp only [List.take_nil, List.drop_nil, bvOf, stOf]
          go_wp2_with fail
          refine cp.mono ?_
          rintro e w2 ⟨v2, rfl, o2, b2⟩
          obtain ⟨t1, t2, t3, t4, t5⟩ := TT.out w2 b2
          have T5 := Box'.mk (t5 v2 o2)
          have T3 := Box'.mk t3
          have T4 := Box'.mk t4
          clear cp TT b2 o2 t3 t4 t5 c0 c1
          go_wp2_with fail
          go_ret
          exact ⟨_, rfl, T5.out, T3.out, T4.out⟩
        · have cp := copy_any (· < N) (.slice (some ⟨b, o, none⟩) n c) (l1.take n) w1 hi4.bts (fun b hb => by omega) (by rw [List.length_take]; omega)
          have TT : Box' (∀ w2, Below w1.heap.size w1 w2 → w2.cell? ⟨rb, 0, none⟩ = some (.slice (some ⟨b, o, none⟩) l1.length c) ∧ w2.frozen? ⟨rb, 0, none⟩ = false ∧ (c ≠ n → RSt N (w2.setCell ⟨rb, 0, none⟩ (.slice (some ⟨b, o + n, none⟩) (l1.length - n) (c - n))) rb (.ok (l1.drop n))) ∧ (c = n → RSt N (w2.setCell ⟨rb, 0, none⟩ (.slice (some ⟨b, o, none⟩) 0 0)) rb (.ok (l1.drop n))) ∧ ∀ u, Gb rb w (w2.setCell ⟨rb, 0, none⟩ u) ∧ ∀ v, OwnB w1.heap.size w2 v (l1.take n) → OwnB w.heap.size (w2.setCell ⟨rb, 0, none⟩ u) v (l1.take n)) := ⟨fun w2 b2 => by
            have r2 := r.below b2 r.lt
            exact ⟨by rw [r2.cell]; rfl, r2.frozen 0, fun q => RSt.turn h1 r2 _ _ ((hi2 q).below b2 (by omega)) (by rw [List.length_drop]; omega), fun q => RSt.turn h1 r2 _ _ ((hi3 q).below b2 (by omega)) (by rw [List.length_drop]; omega), fun u => ⟨(G1.out.trans (Gb.below b2)).setCell 0 _, fun v ho => (ho.less hz).other r2 (by decide) 0 _⟩⟩⟩
          clear hi1 hi2 hi3 hi4 r h1 h2 H1 G1
          simp only [bvOf, stOf]
          generalize hln : l1.length = ln at *
          clear hln
          go_wp2_with fail
          refine cp.mono ?_
          rintro e w2 ⟨v2, rfl, o2, b2⟩
          obtain ⟨t1, t2, t3, t4, t5⟩ := TT.out w2 b2
          have T5 : Box' (∀ u, Gb rb w (w2.setCell ⟨rb, 0, none⟩ u) ∧ OwnB w.heap.size (w2.setCell ⟨rb, 0, none⟩ u) v2 (l1.take n)) := ⟨fun u => ⟨(t5 u).1, (t5 u).2 v2 o2⟩⟩
          have T3 := Box'.mk t3
          have T4 := Box'.mk t4
          clear cp TT b2 o2 t3 t4 t5 c0 c1 f0 f1
          by_cases hcs : c = n
          · subst hcs
            have ht := Box'.mk (T4.out rfl)
            clear T3 T4
            go_wp2_with fail
            go_ret
            exact ⟨_, rfl, (T5.out _).2, ht.out, (T5.out _).1⟩
          · have ht := Box'.mk (T3.out hcs)
            clear T3 T4
            go_wp2_with fail
            go_ret
            exact ⟨_, rfl, (T5.out _).2, ht.out, (T5.out _).1⟩

/-- The error at the end: is nothing left? -/
def endE (st : Except Int (List UInt8)) : Int := match st with
  | .error x => x
  | .ok [] => 0
  | .ok (_ :: _) => 8
set_option maxRecDepth 100000 in
set_option maxHeartbeats 4000000 in
theorem refEnd_any (N : Nat) (w : World) (rb : Nat) (st : Except Int (List UInt8)) (h : RSt N w rb st) :
    Calls Try.prog 40 #[.pointer (some ⟨rb, 0, none⟩)] w fun e w' => e = .returned (.int .i64 (endE st)) ∧ Gb rb w w' := by
  cases st with
  | error x =>
    obtain ⟨h1, h2, hx, v, r⟩ := h
    have c1 : w.cell? ⟨rb, 1, none⟩ = some (.int .i64 x) := by rw [r.cell]; rfl
    have hx0 : (x == 0) = false := by simpa using hx
    show Calls Try.prog 40 #[.pointer (some ⟨rb, 0, none⟩)] w fun e w' => e = .returned (.int .i64 x) ∧ Gb rb w w'
    clear r h1 h2 hx
    go_enter Try.func40, Try.ntmps40
    go_wp2_with fail
    go_ret
    exact ⟨rfl, Gb.refl _ _⟩
  | ok l =>
    obtain ⟨h1, h2, v, r, hi, hl⟩ := h
    have c0 : w.cell? ⟨rb, 0, none⟩ = some v := by rw [r.cell]; rfl
    have c1 : w.cell? ⟨rb, 1, none⟩ = some (.int .i64 0) := by rw [r.cell]; rfl
    have f1 := r.frozen 1
    obtain ⟨av, cv, rfl, _⟩ := hi.slice
    have HG := Box'.mk ((Gb.refl rb w).setCell 1 (.int .i64 8))
    clear r hi h1 h2
    cases l with
    | nil =>
      show Calls Try.prog 40 #[.pointer (some ⟨rb, 0, none⟩)] w fun e w' => e = .returned (.int .i64 0) ∧ Gb rb w w'
      simp only [List.length_nil] at c0
      clear HG
      go_enter Try.func40, Try.ntmps40
      go_wp2_with fail
      go_ret
      exact ⟨rfl, Gb.refl _ _⟩
    | cons y t =>
      show Calls Try.prog 40 #[.pointer (some ⟨rb, 0, none⟩)] w fun e w' => e = .returned (.int .i64 8) ∧ Gb rb w w'
      have hpos : 0 < (y :: t).length := by simp
      generalize (y :: t).length = ln at *
      go_enter Try.func40, Try.ntmps40
      go_wp2_with fail
      go_ret
      exact ⟨rfl, HG.out⟩
end Go.Proofs.Ytciiaopbghjcnaa
