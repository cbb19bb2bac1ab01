/- What stands while the reference reads; the walks of its num, raw and end. The walks of the reference's raw and end. The walk of the reference's Read. The walks of the reference's Write and of sameInstruction. -/
import Derived.Test.YtpgljhgfoihnjaaU
import Derived.Test.YtpgljhgfoihnjaaO
import Derived.Test.YtpgljhgfoihnjaaE
import Derived.Test.YtpgljhgfoihnjaaFa
import Derived.Test.YtpgljhgfoihnjaaH
import Derived.Test.YtpgljhgfoihnjaaN
import Derived.Test.YtpgljhgfoihnjaaOz
import Derived.Test.YtpgljhgfoihnjaaR
import Derived.Test.YtpgljhgfoihnjaaS
import Derived.Test.YtpgljhgfoihnjaaT
namespace Go.Proofs.Ytpgljhgfoihnjaa
open Go.RowKit Go.BigFrame
set_option maxRecDepth 100000
set_option linter.unusedSimpArgs false

/-- The reference's reader stands in the block rb: bytes that are left, or an error. -/
def RSt (N : Nat) (w : World) (rb : Nat) (st : Except Int (List UInt8)) : Prop := N ≤ rb ∧ rb < w.heap.size ∧ match st with
  | .ok l => ∃ v, Row w rb 70 #[v, .int .i64 0] ∧ InB N w v l ∧ l.length ≤ 140737488351232
  | .error x => x ≠ 0 ∧ ∃ v, Row w rb 70 #[v, .int .i64 x]
theorem RSt.below {N : Nat} {w w' : World} {rb : Nat} {st : Except Int (List UInt8)} (h : RSt N w rb st) (hb : Below w.heap.size w w') : RSt N w' rb st := by
  obtain ⟨h1, h2, h3⟩ := h
  refine ⟨h1, Nat.lt_of_lt_of_le h2 hb.size, ?_⟩
  cases st with
  | ok l => obtain ⟨v, r, i, q⟩ := h3; exact ⟨v, r.below hb r.lt, i.below hb (by omega), q⟩
  | error x => obtain ⟨q, v, r⟩ := h3; exact ⟨q, v, r.below hb r.lt⟩
theorem RSt.err {N : Nat} {w : World} {rb : Nat} {v : Value} {y : Int} (h1 : N ≤ rb) (r : Row w rb 70 #[v, .int .i64 y]) (x : Int) (hx : x ≠ 0) : RSt N (w.setCell ⟨rb, 1, none⟩ (.int .i64 x)) rb (.error x) :=
  ⟨h1, by simpa using r.lt, hx, v, r.setCell 1 _⟩
theorem RSt.turn {N : Nat} {w : World} {rb : Nat} {v : Value} (h1 : N ≤ rb) (r : Row w rb 70 #[v, .int .i64 0]) (v' : Value) (l' : List UInt8) (hi : InB N w v' l') (hl : l'.length ≤ 140737488351232) : RSt N (w.setCell ⟨rb, 0, none⟩ v') rb (.ok l') :=
  ⟨h1, by simpa using r.lt, v', r.setCell 0 _, hi.below (M := N) ((Below.refl _ _).setCell (p := ⟨rb, 0, none⟩) h1 v') (Nat.le_refl _), hl⟩
def numS (st : Except Int (List UInt8)) : Except Int (List UInt8) := match st with
  | .error x => .error x
  | .ok l => match numF l with
    | .ok (_, l') => .ok l'
    | .error x => .error x
def numV (st : Except Int (List UInt8)) : Nat := match st with
  | .error _ => 0
  | .ok l => match numF l with
    | .ok (n, _) => n
    | .error _ => 0
set_option maxRecDepth 100000 in
set_option maxHeartbeats 4000000 in
theorem refNum_any (N : Nat) (w : World) (rb : Nat) (st : Except Int (List UInt8)) (h : RSt N w rb st) :
    Calls Try.prog 43 #[.pointer (some ⟨rb, 0, none⟩)] w fun e w' => e = .returned (.int .u64 (numV st : Int)) ∧ RSt N w' rb (numS st) ∧ Gb rb w w' := by
  cases st with
  | error x =>
    have H := Box'.mk h
    obtain ⟨h1, h2, hx, v, r⟩ := h
    have c1 : w.cell? ⟨rb, 1, none⟩ = some (.int .i64 x) := by rw [r.cell]; rfl
    have hx' : (x != 0) = true := by simpa using hx
    show Calls Try.prog 43 #[.pointer (some ⟨rb, 0, none⟩)] w fun e w' => e = .returned (.int .u64 0) ∧ RSt N w' rb (.error x) ∧ Gb rb w w'
    clear r h1 h2 hx
    go_enter Try.func43, Try.ntmps43
    go_wp2_with fail
    go_ret
    exact ⟨rfl, H.out, Gb.refl _ _⟩
  | ok l =>
    obtain ⟨h1, h2, v, r, hi, hl⟩ := h
    have ru := refReadUint_any N w v l hi (by omega) (by omega)
    have c0 : w.cell? ⟨rb, 0, none⟩ = some v := by rw [r.cell]; rfl
    have c1 : w.cell? ⟨rb, 1, none⟩ = some (.int .i64 0) := by rw [r.cell]; rfl
    have HS : Box' (numS (.ok l) = match numF l with | .ok (_, l') => .ok l' | .error x => .error x) := ⟨rfl⟩
    have HV : Box' (numV (.ok l) = match numF l with | .ok (n, _) => n | .error _ => 0) := ⟨rfl⟩
    have HN := Box'.mk (numF.eq_1 l)
    have HU : Box' ((rdU l).2.2 = 0 → 0 < (rdU l).2.1 ∧ (rdU l).2.1 ≤ l.length) := ⟨fun e => by
      have := rdU_form (b := l) (n := (rdU l).1) (s := (rdU l).2.1) (by rw [← e])
      exact ⟨this.2.2.2, this.2.1⟩⟩
    generalize numS (.ok l) = RS at *
    generalize numV (.ok l) = RV at *
    generalize numF l = R at *
    generalize rdU l = U at *
    obtain ⟨n, s, e⟩ := U
    simp only at ru HN HU
    by_cases he : e = 0
    · subst he
      obtain ⟨hs0, hsl⟩ := HU.out rfl
      have e1 := HN.out
      rw [if_pos rfl] at e1
      subst e1
      have e2 : RS = .ok (l.drop s) := HS.out
      have e3 : RV = n := HV.out
      subst e2 e3
      have RS2 : Box' (∀ w1, Below w.heap.size w w1 → ∃ b o c, v = .slice (some ⟨b, o, none⟩) l.length c ∧ l.length ≤ c ∧ w1.cell? ⟨rb, 0, none⟩ = some v ∧ w1.frozen? ⟨rb, 0, none⟩ = false ∧ (c ≠ s → RSt N (w1.setCell ⟨rb, 0, none⟩ (.slice (some ⟨b, o + s, none⟩) (l.length - s) (c - s))) rb (.ok (l.drop s))) ∧ (c = s → RSt N (w1.setCell ⟨rb, 0, none⟩ (.slice (some ⟨b, o, none⟩) 0 0)) rb (.ok (l.drop s)))) := ⟨fun w1 b1 => by
        have r1 := r.below b1 r.lt
        rcases inB_cut (hi.below b1 (by omega)) hsl with ⟨rfl, rfl⟩ | ⟨b, o, c, e, q1, q2, q3, -⟩
        · simp at hsl; omega
        · exact ⟨b, o, c, e, q1, by rw [r1.cell]; rfl, r1.frozen 0, fun h => RSt.turn h1 r1 _ _ (q2 h) (by rw [List.length_drop]; omega), fun h => RSt.turn h1 r1 _ _ (q3 h) (by rw [List.length_drop]; omega)⟩⟩
      obtain ⟨av, cv, rfl, _⟩ := hi.slice
      clear HN HS HV HU r hi
      generalize l.drop s = L' at *
      generalize l.length = ln at *
      go_enter Try.func43, Try.ntmps43
      go_wp2_with fail
      refine ru.mono ?_
      rintro e w1 ⟨rfl, b1⟩
      obtain ⟨b, o, c, e, q1, q2, q3, q4, q5⟩ := RS2.out w1 b1
      injection e with e4 _ e5
      subst e4 e5
      have B1 := Box'.mk b1
      have HG : Box' (∀ v, Gb rb w (w1.setCell ⟨rb, 0, none⟩ v)) := ⟨fun v => (Gb.below B1.out).setCell 0 v⟩
      have Q4 := Box'.mk q4
      have Q5 := Box'.mk q5
      clear ru RS2 b1 c0 c1 q4 q5
      by_cases hcs : cv = s
      · subst hcs
        have ht := Box'.mk (Q5.out rfl)
        clear Q4 Q5
        go_wp2_with fail
        go_ret
        exact ⟨rfl, ht.out, HG.out _⟩
      · have ht := Box'.mk (Q4.out hcs)
        clear Q4 Q5
        go_wp2_with fail
        go_ret
        exact ⟨rfl, ht.out, HG.out _⟩
    · have e1 := HN.out
      rw [if_neg he] at e1
      subst e1
      have e2 : RS = .error e := HS.out
      have e3 : RV = 0 := HV.out
      subst e2 e3
      have he' : (e != 0) = true := by simpa using he
      have RS2 : Box' (∀ w1, Below w.heap.size w w1 → w1.cell? ⟨rb, 1, none⟩ = some (.int .i64 0) ∧ w1.frozen? ⟨rb, 1, none⟩ = false ∧ RSt N (w1.setCell ⟨rb, 1, none⟩ (.int .i64 e)) rb (.error e) ∧ Gb rb w (w1.setCell ⟨rb, 1, none⟩ (.int .i64 e))) := ⟨fun w1 b1 => by
        have r1 := r.below b1 r.lt
        exact ⟨by rw [r1.cell]; rfl, r1.frozen 1, RSt.err h1 r1 e he, (Gb.below b1).setCell 1 _⟩⟩
      obtain ⟨av, cv, rfl, _⟩ := hi.slice
      clear HN HS HV HU r hi he
      generalize l.length = ln at *
      go_enter Try.func43, Try.ntmps43
      go_wp2_with fail
      refine ru.mono ?_
      rintro e2 w1 ⟨rfl, b1⟩
      obtain ⟨q1, q2, q3, q4⟩ := RS2.out w1 b1
      have Q3 := Box'.mk q3
      have Q4 := Box'.mk q4
      clear ru RS2 b1 c0 c1 q3 q4
      go_wp2_with fail
      go_ret
      exact ⟨rfl, Q3.out, Q4.out⟩
end Go.Proofs.Ytpgljhgfoihnjaa
namespace Go.Proofs.Ytpgljhgfoihnjaa
open Go.RowKit Go.BigFrame
set_option maxRecDepth 100000
set_option linter.unusedSimpArgs false

def rawF (lo hi : Nat) (l : List UInt8) : Except Int (List UInt8 × List UInt8) := match numF l with
  | .error x => .error x
  | .ok (n, l1) => if n < lo ∨ hi < n then .error 8 else pieF n l1
def rawR (lo hi : Nat) (st : Except Int (List UInt8)) : Except Int (List UInt8 × List UInt8) := match st with
  | .error x => .error x
  | .ok l => rawF lo hi l
def stOf {α : Type} (r : Except Int (α × List UInt8)) : Except Int (List UInt8) := match r with
  | .error x => .error x
  | .ok (_, l) => .ok l
def bvOf (r : Except Int (List UInt8 × List UInt8)) : List UInt8 := match r with
  | .error _ => []
  | .ok (x, _) => x
/-- What num makes of it. -/
theorem raw_cases (lo hi : Nat) (st : Except Int (List UInt8)) : (∃ x, numS st = .error x ∧ rawR lo hi st = .error x) ∨ (∃ l1, numS st = .ok l1 ∧ rawR lo hi st = if numV st < lo ∨ hi < numV st then .error 8 else pieF (numV st) l1) := by
  cases st with
  | error x => exact .inl ⟨x, rfl, rfl⟩
  | ok l =>
    cases h : numF l with
    | error x => exact .inl ⟨x, by simp [numS, h], by simp [rawR, rawF, h]⟩
    | ok p => exact .inr ⟨p.2, by simp [numS, h], by simp [rawR, rawF, numV, h]⟩

set_option maxRecDepth 100000 in
set_option maxHeartbeats 4000000 in
theorem refRaw_any (N : Nat) (w : World) (rb : Nat) (lo hi : Nat) (hhi : hi ≤ 65536) (st : Except Int (List UInt8)) (h : RSt N w rb st) :
    Calls Try.prog 57 #[.pointer (some ⟨rb, 0, none⟩), .int .u64 (lo : Int), .int .u64 (hi : Int)] w fun e w' => ∃ v, e = .returned v ∧ OwnB w.heap.size w' v (bvOf (rawR lo hi st)) ∧ RSt N w' rb (stOf (rawR lo hi st)) ∧ Gb rb w w' := by
  have nm := refNum_any N w rb st h
  have CS := Box'.mk (raw_cases lo hi st)
  generalize rawR lo hi st = R at *
  generalize numV st = n at *
  generalize numS st = S1 at *
  clear h
  go_enter Try.func57, Try.ntmps57
  go_wp2_with fail
  refine nm.mono ?_
  rintro e w1 ⟨rfl, rs, g1⟩
  clear nm
  have G1 := Box'.mk g1
  have H1 := Box'.mk rs
  clear g1
  rcases CS.out with ⟨x, rfl, hR⟩ | ⟨l1, rfl, hR⟩
  · subst hR
    obtain ⟨h1, h2, hx, v, r⟩ := rs
    have c1 : w1.cell? ⟨rb, 1, none⟩ = some (.int .i64 x) := by rw [r.cell]; rfl
    have hx0 : (x == 0) = false := by simpa using hx
    have hx' : (x != 0) = true := by simpa using hx
    clear CS r h1 h2 hx
    go_wp2_with fail
    go_ret
    exact ⟨_, rfl, OwnB.nil _ _, H1.out, G1.out⟩
  · have HR := Box'.mk hR
    obtain ⟨h1, h2, v, r, hi1, hl⟩ := rs
    have c0 : w1.cell? ⟨rb, 0, none⟩ = some v := by rw [r.cell]; rfl
    have c1 : w1.cell? ⟨rb, 1, none⟩ = some (.int .i64 0) := by rw [r.cell]; rfl
    have f0 := r.frozen 0
    have f1 := r.frozen 1
    have ER : Box' (∀ x, x ≠ 0 → RSt N (w1.setCell ⟨rb, 1, none⟩ (.int .i64 x)) rb (.error x) ∧ Gb rb w (w1.setCell ⟨rb, 1, none⟩ (.int .i64 x))) := ⟨fun x hx => ⟨RSt.err h1 r x hx, G1.out.setCell 1 _⟩⟩
    clear CS hR
    by_cases hrange : n < lo ∨ hi < n
    · have e := HR.out
      rw [if_pos hrange] at e
      subst e
      have e8 := Box'.mk (ER.out 8 (by decide))
      obtain ⟨av, cv, rfl, _⟩ := hi1.slice
      clear HR ER r hi1 h1 h2 H1 G1
      generalize l1.length = ln at *
      rcases hrange with hq | hq
      · go_wp2_with fail
        go_ret
        exact ⟨_, rfl, OwnB.nil _ _, e8.out.1, e8.out.2⟩
      · by_cases hq2 : n < lo
        · go_wp2_with fail
          go_ret
          exact ⟨_, rfl, OwnB.nil _ _, e8.out.1, e8.out.2⟩
        · go_wp2_with fail
          go_ret
          exact ⟨_, rfl, OwnB.nil _ _, e8.out.1, e8.out.2⟩
    · have e := HR.out
      rw [if_neg hrange, pieF] at e
      have HE := Box'.mk e
      have hq1 : lo ≤ n := by omega
      have hq2 : n ≤ hi := by omega
      clear HR e hrange
      by_cases hlen : l1.length < n
      · have e := HE.out
        rw [if_pos hlen] at e
        subst e
        have e7 := Box'.mk (ER.out 7 (by decide))
        obtain ⟨av, cv, rfl, _⟩ := hi1.slice
        clear HE ER r hi1 h1 h2 H1 G1
        generalize l1.length = ln at *
        go_wp2_with fail
        go_ret
        exact ⟨_, rfl, OwnB.nil _ _, e7.out.1, e7.out.2⟩
      · have e := HE.out
        rw [if_neg hlen] at e
        subst e
        clear HE ER
        have hz := G1.out.size
        rcases inB_cut hi1 (show n ≤ l1.length by omega) with ⟨rfl, rfl⟩ | ⟨b, o, c, rfl, hlc, hi2, hi3, hi4⟩
        · have hn0 : n = 0 := by simp at hlen; omega
          subst hn0
          have cp := copy_any (· < N) (.slice none 0 0) [] w1 (bts_nil _ _) (fun b hb => by omega) (by simp)
          have TT : Box' (∀ w2, Below w1.heap.size w1 w2 → w2.cell? ⟨rb, 0, none⟩ = some (.slice none 0 0) ∧ w2.frozen? ⟨rb, 0, none⟩ = false ∧ RSt N (w2.setCell ⟨rb, 0, none⟩ (.slice none 0 0)) rb (.ok []) ∧ Gb rb w (w2.setCell ⟨rb, 0, none⟩ (.slice none 0 0)) ∧ ∀ v, OwnB w1.heap.size w2 v [] → OwnB w.heap.size (w2.setCell ⟨rb, 0, none⟩ (.slice none 0 0)) v []) := ⟨fun w2 b2 => by
            have r2 := r.below b2 r.lt
            exact ⟨by rw [r2.cell]; rfl, r2.frozen 0, RSt.turn h1 r2 _ _ (.inl ⟨rfl, rfl⟩) (by simp), (G1.out.trans (Gb.below b2)).setCell 0 _, fun v ho => (ho.less hz).other r2 (by decide) 0 _⟩⟩
          clear hi1 r h1 h2 H1 G1 hl hlen
          simp only [List.take_nil, List.drop_nil, bvOf, stOf]
          go_wp2_with fail
          refine cp.mono ?_
          rintro e w2 ⟨v2, rfl, o2, b2⟩
          obtain ⟨t1, t2, t3, t4, t5⟩ := TT.out w2 b2
          have T5 := Box'.mk (t5 v2 o2)
          have T3 := Box'.mk t3
          have T4 := Box'.mk t4
          clear cp TT b2 o2 t3 t4 t5 c0 c1
          go_wp2_with fail
          go_ret
          exact ⟨_, rfl, T5.out, T3.out, T4.out⟩
        · have cp := copy_any (· < N) (.slice (some ⟨b, o, none⟩) n c) (l1.take n) w1 hi4.bts (fun b hb => by omega) (by rw [List.length_take]; omega)
          have TT : Box' (∀ w2, Below w1.heap.size w1 w2 → w2.cell? ⟨rb, 0, none⟩ = some (.slice (some ⟨b, o, none⟩) l1.length c) ∧ w2.frozen? ⟨rb, 0, none⟩ = false ∧ (c ≠ n → RSt N (w2.setCell ⟨rb, 0, none⟩ (.slice (some ⟨b, o + n, none⟩) (l1.length - n) (c - n))) rb (.ok (l1.drop n))) ∧ (c = n → RSt N (w2.setCell ⟨rb, 0, none⟩ (.slice (some ⟨b, o, none⟩) 0 0)) rb (.ok (l1.drop n))) ∧ ∀ u, Gb rb w (w2.setCell ⟨rb, 0, none⟩ u) ∧ ∀ v, OwnB w1.heap.size w2 v (l1.take n) → OwnB w.heap.size (w2.setCell ⟨rb, 0, none⟩ u) v (l1.take n)) := ⟨fun w2 b2 => by
            have r2 := r.below b2 r.lt
            exact ⟨by rw [r2.cell]; rfl, r2.frozen 0, fun q => RSt.turn h1 r2 _ _ ((hi2 q).below b2 (by omega)) (by rw [List.length_drop]; omega), fun q => RSt.turn h1 r2 _ _ ((hi3 q).below b2 (by omega)) (by rw [List.length_drop]; omega), fun u => ⟨(G1.out.trans (Gb.below b2)).setCell 0 _, fun v ho => (ho.less hz).other r2 (by decide) 0 _⟩⟩⟩
          clear hi1 hi2 hi3 hi4 r h1 h2 H1 G1
          simp only [bvOf, stOf]
          generalize hln : l1.length = ln at *
          clear hln
          go_wp2_with fail
          refine cp.mono ?_
          rintro e w2 ⟨v2, rfl, o2, b2⟩
          obtain ⟨t1, t2, t3, t4, t5⟩ := TT.out w2 b2
          have T5 : Box' (∀ u, Gb rb w (w2.setCell ⟨rb, 0, none⟩ u) ∧ OwnB w.heap.size (w2.setCell ⟨rb, 0, none⟩ u) v2 (l1.take n)) := ⟨fun u => ⟨(t5 u).1, (t5 u).2 v2 o2⟩⟩
          have T3 := Box'.mk t3
          have T4 := Box'.mk t4
          clear cp TT b2 o2 t3 t4 t5 c0 c1 f0 f1
          by_cases hcs : c = n
          · subst hcs
            have ht := Box'.mk (T4.out rfl)
            clear T3 T4
            go_wp2_with fail
            go_ret
            exact ⟨_, rfl, (T5.out _).2, ht.out, (T5.out _).1⟩
          · have ht := Box'.mk (T3.out hcs)
            clear T3 T4
            go_wp2_with fail
            go_ret
            exact ⟨_, rfl, (T5.out _).2, ht.out, (T5.out _).1⟩

/-- The error at the end: is nothing left? -/
def endE (st : Except Int (List UInt8)) : Int := match st with
  | .error x => x
  | .ok [] => 0
  | .ok (_ :: _) => 8
set_option maxRecDepth 100000 in
set_option maxHeartbeats 4000000 in
theorem refEnd_any (N : Nat) (w : World) (rb : Nat) (st : Except Int (List UInt8)) (h : RSt N w rb st) :
    Calls Try.prog 45 #[.pointer (some ⟨rb, 0, none⟩)] w fun e w' => e = .returned (.int .i64 (endE st)) ∧ Gb rb w w' := by
  cases st with
  | error x =>
    obtain ⟨h1, h2, hx, v, r⟩ := h
    have c1 : w.cell? ⟨rb, 1, none⟩ = some (.int .i64 x) := by rw [r.cell]; rfl
    have hx0 : (x == 0) = false := by simpa using hx
    show Calls Try.prog 45 #[.pointer (some ⟨rb, 0, none⟩)] w fun e w' => e = .returned (.int .i64 x) ∧ Gb rb w w'
    clear r h1 h2 hx
    go_enter Try.func45, Try.ntmps45
    go_wp2_with fail
    go_ret
    exact ⟨rfl, Gb.refl _ _⟩
  | ok l =>
    obtain ⟨h1, h2, v, r, hi, hl⟩ := h
    have c0 : w.cell? ⟨rb, 0, none⟩ = some v := by rw [r.cell]; rfl
    have c1 : w.cell? ⟨rb, 1, none⟩ = some (.int .i64 0) := by rw [r.cell]; rfl
    have f1 := r.frozen 1
    obtain ⟨av, cv, rfl, _⟩ := hi.slice
    have HG := Box'.mk ((Gb.refl rb w).setCell 1 (.int .i64 8))
    clear r hi h1 h2
    cases l with
    | nil =>
      show Calls Try.prog 45 #[.pointer (some ⟨rb, 0, none⟩)] w fun e w' => e = .returned (.int .i64 0) ∧ Gb rb w w'
      simp only [List.length_nil] at c0
      clear HG
      go_enter Try.func45, Try.ntmps45
      go_wp2_with fail
      go_ret
      exact ⟨rfl, Gb.refl _ _⟩
    | cons y t =>
      show Calls Try.prog 45 #[.pointer (some ⟨rb, 0, none⟩)] w fun e w' => e = .returned (.int .i64 8) ∧ Gb rb w w'
      have hpos : 0 < (y :: t).length := by simp
      generalize (y :: t).length = ln at *
      go_enter Try.func45, Try.ntmps45
      go_wp2_with fail
      go_ret
      exact ⟨rfl, HG.out⟩
end Go.Proofs.Ytpgljhgfoihnjaa
namespace Go.Proofs.Ytpgljhgfoihnjaa
open Go.RowKit Go.BigFrame
set_option maxRecDepth 100000
set_option linter.unusedSimpArgs false

theorem rawF_bytF (m : Nat) (l : List UInt8) : rawF 0 m l = bytF m l := by
  unfold rawF bytF
  cases h : numF l with
  | error x => rfl
  | ok p => simp
theorem OwnB.gb {M rb : Nat} {w w' : World} {v : Value} {d : List UInt8} (h : OwnB M w v d) (g : Gb rb w w') (hM : rb < M) : OwnB M w' v d :=
  h.same fun k hk => by
    obtain ⟨h1, cur, r⟩ := h.lt k hk
    exact g.block k r.lt (fun e => by injection e with e; omega)
/-- Five cells put into a block. -/
theorem put5 {w : World} {ib : Nat} {t : TypeId} (ht : t ≠ 5) {x0 x1 x2 x3 x4 : Value} (r : Row w ib t #[x0, x1, x2, x3, x4]) (u0 u1 u2 u3 u4 : Value) :
    Row (((((w.setCell ⟨ib, 0, none⟩ u0).setCell ⟨ib, 1, none⟩ u1).setCell ⟨ib, 2, none⟩ u2).setCell ⟨ib, 3, none⟩ u3).setCell ⟨ib, 4, none⟩ u4) ib t #[u0, u1, u2, u3, u4] ∧
    (∀ M v d, OwnB M w v d → OwnB M (((((w.setCell ⟨ib, 0, none⟩ u0).setCell ⟨ib, 1, none⟩ u1).setCell ⟨ib, 2, none⟩ u2).setCell ⟨ib, 3, none⟩ u3).setCell ⟨ib, 4, none⟩ u4) v d) ∧
    (∀ N W, N ≤ ib → Below N W w → Below N W (((((w.setCell ⟨ib, 0, none⟩ u0).setCell ⟨ib, 1, none⟩ u1).setCell ⟨ib, 2, none⟩ u2).setCell ⟨ib, 3, none⟩ u3).setCell ⟨ib, 4, none⟩ u4)) := by
  have r0 := r.setCell 0 u0
  have r1 := r0.setCell 1 u1
  have r2 := r1.setCell 2 u2
  have r3 := r2.setCell 3 u3
  refine ⟨r3.setCell 4 u4, fun M v d h => ((((h.other r ht 0 u0).other r0 ht 1 u1).other r1 ht 2 u2).other r2 ht 3 u3).other r3 ht 4 u4, fun N W hN h => ?_⟩
  exact ((((h.setCell (p := ⟨ib, 0, none⟩) hN u0).setCell (p := ⟨ib, 1, none⟩) hN u1).setCell (p := ⟨ib, 2, none⟩) hN u2).setCell (p := ⟨ib, 3, none⟩) hN u3).setCell (p := ⟨ib, 4, none⟩) hN u4
theorem RSt.other {N : Nat} {w : World} {rb : Nat} {st : Except Int (List UInt8)} (h : RSt N w rb st) (g o : Nat) (u : Value) (hg : g ≠ rb) (hN : N ≤ g) : RSt N (w.setCell ⟨g, o, none⟩ u) rb st := by
  obtain ⟨h1, h2, h3⟩ := h
  refine ⟨h1, by simpa using h2, ?_⟩
  have hb : Below N w (w.setCell ⟨g, o, none⟩ u) := (Below.refl _ _).setCell (p := ⟨g, o, none⟩) hN u
  cases st with
  | ok l => obtain ⟨v, r, i, q⟩ := h3; exact ⟨v, r.setOther _ _ (Ne.symm hg), i.below hb (Nat.le_refl _), q⟩
  | error x => obtain ⟨q, v, r⟩ := h3; exact ⟨q, v, r.setOther _ _ (Ne.symm hg)⟩
end Go.Proofs.Ytpgljhgfoihnjaa
namespace Go.Proofs.Ytpgljhgfoihnjaa
open Go.RowKit Go.BigFrame
set_option maxRecDepth 100000
set_option linter.unusedSimpArgs false

/-- append, by itself: only one's own row is turned. -/
theorem wp_app {o : Oper} {a : Act} {w : World} {K : Act → World → Prop} {Q : Exit → Act → World → Prop} (s x : Operand)
    (ho : o.op = .call { callee := .builtin .append, args := #[s, x], argTypes := #[23, 23] }) (N M : Nat) (hN : N ≤ w.heap.size)
    (v : Value) (d : List UInt8) (hs : a.eval s = v) (hown : OwnB N w v d) (vx : Value) (l : List UInt8) (hx : a.eval x = vx) (hin : InB M w vx l) (hl : 0 < l.length) (hmax : d.length + l.length ≤ 140737488355328)
    (h : ∀ v' w', OwnB N w' v' (d ++ l) → Fr N w w' → (∀ k, k < w.heap.size → v.ownBlock ≠ some k → w'.heap[k]? = w.heap[k]?) → K (a.put o.dst v') w') : o.wp Try.prog a w K Q := by
  obtain ⟨i, h1, h2, h3, h4⟩ := Try.info5a
  rcases hin with ⟨rfl, rfl⟩ | ⟨b, off, c, rfl, hc, hb, hr⟩
  · simp at hl
  · obtain ⟨v', w', hr, g2, g3, _⟩ := run_append_own (P := Try.prog) w N 23 o.type 5 i _ 1 1 Try.underlying23 h1 h2 h3 h4 rfl (by decide) v d.length (d.map B) hown ⟨b, off, none⟩ l.length c (l.map B) (by rw [List.length_map, Nat.mul_one]) (fun j u hu => by rw [Addr.add_mid]; exact hr j u hu) (one_By l) (by unfold maxLen; omega) (by omega) hN
    have g2' : OwnB N w' v' (d ++ l) := by unfold OwnB; rw [List.length_append, List.map_append]; exact g2
    unfold Oper.wp execOp
    simp only [ho, resolve, invoke, builtin, Sem.run_bind, Sem.run_pure, Result.andThen_ok, List.map_toArray, List.map_cons, List.map_nil, hs, hx, hr]
    exact h v' w' g2' (Fr.grown hown g3) (fun k hk hn => g3.block k hk (fun e => hn e.symm))
/-- Blocks from M on stay. -/
def Hi (M : Nat) (w w' : World) : Prop := ∀ k, M ≤ k → k < w.heap.size → w'.heap[k]? = w.heap[k]?
theorem OwnB.hi {M : Nat} {w w' : World} {v : Value} {d : List UInt8} (h : OwnB M w v d) (hh : Hi M w w') : OwnB M w' v d :=
  h.same fun g hg => let ⟨h1, _, r⟩ := h.lt g hg; hh g h1 r.lt
theorem OwnB.low {N : Nat} {w : World} {v : Value} {d : List UInt8} (h : OwnB N w v d) {k : Nat} (hk : w.heap.size ≤ k) : v.ownBlock ≠ some k := fun e => by
  obtain ⟨_, cur, r⟩ := h.lt k e
  have := r.lt
  omega
theorem OwnB.hiOf {N M : Nat} {w w1 w' : World} {v : Value} {d : List UInt8} (h : OwnB N w v d) (hM : w.heap.size ≤ M) (g : ∀ k, k < w1.heap.size → v.ownBlock ≠ some k → w'.heap[k]? = w1.heap[k]?) : Hi M w1 w' := fun k hk hl => g k hl (h.low (Nat.le_trans hM hk))

end Go.Proofs.Ytpgljhgfoihnjaa
