/- The walk of EventsTurn. Layer 21's anchored. The walk of layer 21's anchored. -/
import Derived.Test.YtpgljhgfoihnjaaPf
namespace Go.Proofs.Ytpgljhgfoihnjaa
open Go.RowKit Go.BigFrame
set_option maxRecDepth 100000
set_option linter.unusedSimpArgs false
set_option linter.unusedVariables false

theorem flat_at (l : List (Ev × Value)) (k j : Nat) (hk : k < l.length) (hj : j < 5) : (l.flatMap fun p => evC p.1 p.2)[k * 5 + j]? = (evC (l[k]).1 (l[k]).2)[j]? := by
  induction l generalizing k with
  | nil => simp at hk
  | cons p r ih =>
    rw [List.flatMap_cons]
    have h5 : (evC p.1 p.2).length = 5 := rfl
    cases k with
    | zero => rw [List.getElem?_append_left (by rw [h5]; omega)]; simp
    | succ k =>
      rw [List.getElem?_append_right (by rw [h5]; omega), h5, show (k + 1) * 5 + j - 5 = k * 5 + j by omega, ih k (by simpa using hk)]
      simp
theorem OwnE.evs {N : Nat} {w : World} {v : Value} {l : List (Ev × Value)} (h : OwnE N w v l) : Evs w.heap.size w v (l.map (·.1)) := by
  rcases h.row.2 with ⟨e, e0⟩ | ⟨g, cap, cur, e1, e2, e3, e4, e5, e6, e7⟩
  · refine ⟨none, 0, by rw [e, List.length_map, e0], by rw [List.length_map, e0]; exact Nat.le_refl _, fun k hk => ?_⟩
    rw [List.length_map] at hk
    omega
  · have r : Row w g 48 cur := e3
    refine ⟨_, cap, by rw [e1, List.length_map], by rw [List.length_map]; exact e4, fun k hk => ?_⟩
    rw [List.length_map] at hk
    have hc : ∀ j, j < 5 → w.cell? ⟨g, 0 + k * 5 + j, Option.none⟩ = (evC (l[k]).1 (l[k]).2)[j]? := fun j hj => by
      rw [← flat_at l k j hk hj]
      have h5 : ((l.flatMap fun p => evC p.1 p.2)[k * 5 + j]?).isSome := by rw [flat_at l k j hk hj]; simp [evC]; omega
      obtain ⟨u, hu⟩ := Option.isSome_iff_exists.1 h5
      have := World.ownsRow.cells h.row (g := g) (by rw [e1]; rfl) _ _ hu
      rw [Addr.add_mid] at this
      rw [show 0 + k * 5 + j = 0 + (k * 5 + j) by omega, this, hu]
    have hx : (l.map (·.1)).getD k Ev.none = (l[k]).1 := by simp [hk]
    refine ⟨g, 0, rfl, r.lt, (l[k]).2, ?_, ?_, ?_, ?_, ?_, ?_⟩
    · rw [hx]; have := hc 0 (by decide); simpa [evC] using this
    · have := hc 1 (by decide); simpa [evC] using this
    · rw [hx]; have := hc 2 (by decide); simpa [evC] using this
    · rw [hx]; have := hc 3 (by decide); simpa [evC] using this
    · rw [hx]; have := hc 4 (by decide); simpa [evC] using this
    · rw [hx]; exact (h.own (l[k]) (List.getElem_mem hk)).inB.inE

theorem appF_len (l : List Ev) (d : List UInt8) : (appF l d).1.length ≤ 4096 := by
  unfold appF
  split
  · split
    · simp
    · split
      · simp
      · rename_i h
        show (l ++ (rdE d).1).length ≤ 4096
        rw [List.length_append]
        omega
  · simp
theorem sinF_len (l : List Ev) (n : Int) : (sinF l n).1.length ≤ 4096 := by
  unfold sinF
  split
  · rename_i h
    have := (mayL_len h.1).1
    show (l.drop n.toNat).length ≤ 4096
    rw [List.length_drop]
    omega
  · simp
def AncC (f : Nat) : Prop := ∀ w : World, Calls Try.prog f #[] w fun e w' => e = .returned (.bool true) ∧ Below w.heap.size w w'
set_option maxHeartbeats 8000000 in
theorem turn_walk (HD : DifC 6) (HA : AppC 8) (HS : SinC 10) (HM : MayC 14) (HB : BegC 16) (HN : AncC 18) (w : World) (v1 v2 vd : Value) (l1 l2 : List Ev) (d : List UInt8) (n : Int) (hl1 : l1.length ≤ 140737488355328) (hl2 : l2.length ≤ 140737488355328) (hd : d.length ≤ 140737488351232) (e1 : Evs w.heap.size w v1 l1) (e2 : Evs w.heap.size w v2 l2) (ed : InB w.heap.size w vd d) :
    Calls Try.prog 3 #[v1, v2, .agg #[vd, .int .i64 n]] w fun e w' => e = .returned (.bool true) ∧ Below w.heap.size w w' := by
  obtain ⟨w0, hw0⟩ : ∃ w0, w0 = w.alloc (.cells #[vd, .int .i64 n] 25) := ⟨_, rfl⟩
  have r0 : Row w0 w.heap.size 25 #[vd, .int .i64 n] := by rw [hw0]; exact Row.new _ _ _
  have b0 : Below w.heap.size w w0 := by rw [hw0]; exact (Below.refl _ _).alloc (Nat.le_refl _) _
  have UP : Box' (∀ w1, Below w.heap.size w w1 → Evs w1.heap.size w1 v1 l1 ∧ Evs w1.heap.size w1 v2 l2 ∧ InB w1.heap.size w1 vd d) := ⟨fun w1 b => ⟨(e1.below b (Nat.le_refl _)).up b.size, (e2.below b (Nat.le_refl _)).up b.size, (ed.below b (Nat.le_refl _)).up b.size⟩⟩
  have DC : Box' (∀ f, DifC f → ∀ w1, Below w.heap.size w w1 → Calls Try.prog f #[v1, v2] w1 fun e w' => ∃ u, e = .returned (.tuple #[u, .int .i64 (difF l1 l2).2]) ∧ InB w'.heap.size w' u (difF l1 l2).1 ∧ Below w1.heap.size w1 w') := ⟨fun f h w1 b => h w1 v1 v2 l1 l2 hl1 hl2 (UP.out w1 b).1 (UP.out w1 b).2.1⟩
  have AC : Box' (∀ f, AppC f → ∀ w1, Below w.heap.size w w1 → Calls Try.prog f #[v1, vd] w1 fun e w' => ∃ u, e = .returned (.tuple #[u, .int .i64 (appF l1 d).2]) ∧ Evs w'.heap.size w' u (appF l1 d).1 ∧ Below w1.heap.size w1 w') := ⟨fun f h w1 b => (h w1 v1 vd l1 d hl1 hd (UP.out w1 b).1 (UP.out w1 b).2.2).mono fun e w' ⟨u, ps, q1, q2, q3, q4⟩ => ⟨u, q1, q2 ▸ q3.evs, q4⟩⟩
  have SC : Box' (∀ f, SinC f → ∀ w1, Below w.heap.size w w1 → Calls Try.prog f #[v2, .int .i64 n] w1 fun e w' => ∃ u, e = .returned (.tuple #[u, .int .i64 (sinF l2 n).2]) ∧ Evs w'.heap.size w' u (sinF l2 n).1 ∧ Below w1.heap.size w1 w') := ⟨fun f h w1 b => (h w1 v2 l2 n hl2 (UP.out w1 b).2.1).mono fun e w' ⟨u, ps, q1, q2, q3, q4⟩ => ⟨u, q1, q2 ▸ q3.evs, q4⟩⟩
  have MC : Box' (∀ f, MayC f → ∀ w1, Below w.heap.size w w1 → Calls Try.prog f #[v1] w1 fun e w' => e = .returned (.bool (mayL l1)) ∧ Below w1.heap.size w1 w') := ⟨fun f h w1 b => h w1 v1 l1 hl1 (UP.out w1 b).1⟩
  have BC : Box' (∀ f, BegC f → ∀ w1, Below w.heap.size w w1 → Calls Try.prog f #[v1, v2] w1 fun e w' => e = .returned (.bool (begB l1 l2)) ∧ Below w1.heap.size w1 w') := ⟨fun f h w1 b => h w1 v1 v2 l1 l2 hl1 hl2 (UP.out w1 b).1 (UP.out w1 b).2.1⟩
  have LS : Box' (∀ w1 u1 u2 l, l.length ≤ 4096 → Evs w1.heap.size w1 u1 l → Evs w1.heap.size w1 u2 l → Calls Try.prog 13 #[u1, u2] w1 fun e w' => e = .returned (.bool true) ∧ Below w1.heap.size w1 w') := ⟨fun w1 u1 u2 l hl h1 h2 => (lst_of refLists_C w1 u1 u2 l l (by omega) (by omega) h1 h2).mono fun e w' hh => ⟨by rw [hh.1, (lstB_iff l l).2 rfl], hh.2⟩⟩
  have SM : Box' (∀ w0 v1 v2 l, InB w0.heap.size w0 v1 l → InB w0.heap.size w0 v2 l → Calls Try.prog 12 #[v1, v2] w0 fun e w' => e = .returned (.bool true) ∧ w' = w0) := ⟨fun w0 v1 v2 l h1 h2 => (refSame_any _ _ v1 v2 l l w0 h1.bts h2.bts).mono fun e w' hh => ⟨by rw [hh.1]; simp, hh.2⟩⟩
  have AN : Box' (AncC 18) := ⟨HN⟩
  have RW : Box' (∀ w1, Below w0.heap.size w0 w1 → Row w1 w.heap.size 25 #[vd, .int .i64 n]) := ⟨fun w1 b => r0.below b r0.lt⟩
  have B0 := Box'.mk b0
  have LA := Box'.mk (appF_len l1 d)
  have LN := Box'.mk (sinF_len l2 n)
  obtain ⟨a1, c1, rfl, _⟩ := e1.cap
  obtain ⟨a2, c2, rfl, _⟩ := e2.cap
  obtain ⟨ad, cd, rfl, _⟩ := ed.slice
  have d1 := DC.out 6 HD w0 b0
  have D2 := Box'.mk (DC.out 7 refDiff_C)
  have A1 := Box'.mk (AC.out 8 HA)
  have A2 := Box'.mk (AC.out 9 refApply_C)
  have S1 := Box'.mk (SC.out 10 HS)
  have S2 := Box'.mk (SC.out 11 refSince_C)
  have M1 := Box'.mk (MC.out 14 HM)
  have M2 := Box'.mk (MC.out 15 refMayL_C)
  have B1 := Box'.mk (BC.out 16 HB)
  have B2 := Box'.mk (BC.out 17 refBegins_C)
  clear DC AC SC MC BC UP e1 e2 ed r0 b0 HD HA HS HM HB HN hl1 hl2 hd
  generalize difF l1 l2 = D at *
  generalize appF l1 d = A at *
  generalize sinF l2 n = S at *
  generalize mayL l1 = mm at *
  generalize begB l1 l2 = bb at *
  generalize l1.length = n1 at *
  generalize l2.length = n2 at *
  generalize d.length = dn at *
  rw [hw0] at d1
  go_enter Try.func3, Try.ntmps3
  go_wp2_with fail
  refine d1.mono ?_
  rw [← hw0]
  rintro e w1 ⟨u1, rfl, i1, b1⟩
  have I1 := Box'.mk i1
  have C1 := Box'.mk (B0.out.trans (b1.mono B0.out.size))
  have F1 := Box'.mk b1
  clear d1 hw0 i1 b1 B0
  go_wp2_with fail
  refine (D2.out w1 C1.out).mono ?_
  rintro e w2 ⟨u2, rfl, i2, b2⟩
  have I1 := Box'.mk ((I1.out.below b2 (Nat.le_refl _)).up b2.size)
  have I2 := Box'.mk i2
  have C2 := Box'.mk (C1.out.trans (b2.mono C1.out.size))
  have F2 := Box'.mk (F1.out.trans (b2.mono F1.out.size))
  have r2 := RW.out w2 F2.out
  have k0 : w2.cell? ⟨w.heap.size, 0, none⟩ = some (.slice ad dn cd) := by rw [r2.cell]; rfl
  clear D2 i2 b2 C1 F1 r2
  go_wp2_with fail
  refine (A1.out w2 C2.out).mono ?_
  rintro e w3 ⟨u3, rfl, i3, b3⟩
  have I1 := Box'.mk ((I1.out.below b3 (Nat.le_refl _)).up b3.size)
  have I2 := Box'.mk ((I2.out.below b3 (Nat.le_refl _)).up b3.size)
  have I3 := Box'.mk i3
  have C3 := Box'.mk (C2.out.trans (b3.mono C2.out.size))
  have F3 := Box'.mk (F2.out.trans (b3.mono F2.out.size))
  have r3 := RW.out w3 F3.out
  have k0 : w3.cell? ⟨w.heap.size, 0, none⟩ = some (.slice ad dn cd) := by rw [r3.cell]; rfl
  clear A1 i3 b3 C2 F2 r3
  go_wp2_with fail
  refine (A2.out w3 C3.out).mono ?_
  rintro e w4 ⟨u4, rfl, i4, b4⟩
  have I1 := Box'.mk ((I1.out.below b4 (Nat.le_refl _)).up b4.size)
  have I2 := Box'.mk ((I2.out.below b4 (Nat.le_refl _)).up b4.size)
  have I3 := Box'.mk ((I3.out.below b4 (Nat.le_refl _)).up b4.size)
  have I4 := Box'.mk i4
  have C4 := Box'.mk (C3.out.trans (b4.mono C3.out.size))
  have F4 := Box'.mk (F3.out.trans (b4.mono F3.out.size))
  have r4 := RW.out w4 F4.out
  have k1 : w4.cell? ⟨w.heap.size, 1, none⟩ = some (.int .i64 n) := by rw [r4.cell]; rfl
  clear A2 i4 b4 C3 F3 r4 k0
  go_wp2_with fail
  refine (S1.out w4 C4.out).mono ?_
  rintro e w5 ⟨u5, rfl, i5, b5⟩
  have I1 := Box'.mk ((I1.out.below b5 (Nat.le_refl _)).up b5.size)
  have I2 := Box'.mk ((I2.out.below b5 (Nat.le_refl _)).up b5.size)
  have I3 := Box'.mk ((I3.out.below b5 (Nat.le_refl _)).up b5.size)
  have I4 := Box'.mk ((I4.out.below b5 (Nat.le_refl _)).up b5.size)
  have I5 := Box'.mk i5
  have C5 := Box'.mk (C4.out.trans (b5.mono C4.out.size))
  have F5 := Box'.mk (F4.out.trans (b5.mono F4.out.size))
  have r5 := RW.out w5 F5.out
  have k1 : w5.cell? ⟨w.heap.size, 1, none⟩ = some (.int .i64 n) := by rw [r5.cell]; rfl
  clear S1 i5 b5 C4 F4 r5
  go_wp2_with fail
  refine (S2.out w5 C5.out).mono ?_
  rintro e w6 ⟨u6, rfl, i6, b6⟩
  have sm := SM.out w6 u1 u2 _ ((I1.out.below b6 (Nat.le_refl _)).up b6.size) ((I2.out.below b6 (Nat.le_refl _)).up b6.size)
  have ls := LS.out w6 u3 u4 _ LA.out ((I3.out.below b6 (Nat.le_refl _)).up b6.size) ((I4.out.below b6 (Nat.le_refl _)).up b6.size)
  have I5 := Box'.mk ((I5.out.below b6 (Nat.le_refl _)).up b6.size)
  have I6 := Box'.mk i6
  have C6 := Box'.mk (C5.out.trans (b6.mono C5.out.size))
  clear S2 i6 b6 C5 F5 k1 RW I1 I2 I3 I4 SM LA
  generalize D.2 = x1 at *
  generalize A.2 = x2 at *
  generalize S.2 = x3 at *
  have hx1 : (x1 == x1) = true := by simp
  have hx2 : (x2 == x2) = true := by simp
  have hx3 : (x3 == x3) = true := by simp
  have hx4 : (mm == mm) = true := by simp
  have hx5 : (bb == bb) = true := by simp
  go_wp2_with fail
  refine sm.mono ?_
  rintro e w7 ⟨rfl, rfl⟩
  clear sm
  go_wp2_with fail
  refine ls.mono ?_
  rintro e w8 ⟨rfl, b8⟩
  have ls := LS.out w8 u5 u6 _ LN.out ((I5.out.below b8 (Nat.le_refl _)).up b8.size) ((I6.out.below b8 (Nat.le_refl _)).up b8.size)
  have C8 := Box'.mk (C6.out.trans (b8.mono C6.out.size))
  clear b8 C6 I5 I6 LS LN
  go_wp2_with fail
  refine ls.mono ?_
  rintro e w9 ⟨rfl, b9⟩
  have C9 := Box'.mk (C8.out.trans (b9.mono C8.out.size))
  clear ls b9 C8
  go_wp2_with fail
  refine (M1.out w9 C9.out).mono ?_
  rintro e w10 ⟨rfl, b10⟩
  have C10 := Box'.mk (C9.out.trans (b10.mono C9.out.size))
  clear M1 b10 C9
  go_wp2_with fail
  refine (M2.out w10 C10.out).mono ?_
  rintro e w11 ⟨rfl, b11⟩
  have C11 := Box'.mk (C10.out.trans (b11.mono C10.out.size))
  clear M2 b11 C10
  go_wp2_with fail
  refine (B1.out w11 C11.out).mono ?_
  rintro e w12 ⟨rfl, b12⟩
  have C12 := Box'.mk (C11.out.trans (b12.mono C11.out.size))
  clear B1 b12 C11
  go_wp2_with fail
  refine (B2.out w12 C12.out).mono ?_
  rintro e w13 ⟨rfl, b13⟩
  have C13 := Box'.mk (C12.out.trans (b13.mono C12.out.size))
  clear B2 b13 C12
  go_wp2_with fail
  refine (AN.out w13).mono ?_
  rintro e w14 ⟨rfl, b14⟩
  have C14 := Box'.mk (C13.out.trans (b14.mono C13.out.size))
  clear AN b14 C13
  go_wp2_with fail
  go_ret
  exact ⟨rfl, C14.out⟩
end Go.Proofs.Ytpgljhgfoihnjaa
namespace Go.Proofs.Ytpgljhgfoihnjaa
open Go.RowKit Go.BigFrame
set_option maxRecDepth 100000
set_option linter.unusedSimpArgs false
set_option linter.unusedVariables false

def evA : Ev := ⟨4, [], 0, 0, 65⟩
def evZ : Ev := ⟨4, [], 0, 0, 66⟩
theorem evs_of_row (w : World) (g n : Nat) (l : List Ev) (hl : ∀ x ∈ l, x.byt = []) (hn : l.length = n) (hm : n ≤ 1000) (h : Row w g 48 ((l.map fun x => (x, Value.slice none 0 0)).flatMap fun p => evC p.1 p.2).toArray) : Evs w.heap.size w (.slice (some ⟨g, 0, none⟩) n n) l := by
  subst hn
  have hlen : ∀ l : List Ev, ((l.map fun x => (x, Value.slice none 0 0)).flatMap fun p => evC p.1 p.2).length = l.length * 5 := fun l => by
    induction l with
    | nil => rfl
    | cons x r ih => rw [List.map_cons, List.flatMap_cons, List.length_append, ih, List.length_cons]; show 5 + _ = _; omega
  have o : OwnE 0 w (.slice (some ⟨g, 0, none⟩) l.length l.length) (l.map fun x => (x, Value.slice none 0 0)) := by
    refine ⟨⟨by rw [hlen, List.length_map], .inr ⟨g, l.length, _, by rw [List.length_map], Nat.zero_le _, h, by rw [List.length_map]; exact Nat.le_refl _, by unfold maxLen; omega, ?_, ?_⟩⟩, fun p hp => ?_, ?_⟩
    · rw [List.size_toArray, hlen]
    · rw [List.length_map]
      exact List.take_of_length_le (by show _ ≤ _; rw [List.toList_toArray, hlen]; exact Nat.le_refl _)
    · obtain ⟨x, hx, rfl⟩ := List.mem_map.1 hp
      rw [hl x hx]
      exact OwnB.nil _ _
    · rw [List.pairwise_map]
      refine List.pairwise_iff_getElem.2 fun i j hi hj _ g hg => ?_
      simp [Value.ownBlock] at hg
  have := o.evs
  rwa [List.map_map, show ((fun p : Ev × Value => p.1) ∘ fun x => (x, Value.slice none 0 0)) = id from rfl, List.map_id] at this
theorem dif1 : difF [evA] [evA, evZ] = ([1, 4, 66], 0) := by simp [difF, mayL, badE, begB, lstB, evB, sameN, evA, evZ, wevF, preE, evF, uf_small, Ev.may, mayN]
theorem dif2 : difF [evZ] [evA, evZ] = ([], 210) := by simp [difF, mayL, badE, begB, lstB, evB, sameN, evA, evZ, Ev.may, mayN]
theorem rd1 : rdE [1, 4, 66] = ([evZ], 0) := by
  have e : wevF [evZ] = ([1, 4, 66], 0) := by simp [badE, evZ, wevF, preE, evF, uf_small, Ev.may, mayN]
  exact rdE_back e
end Go.Proofs.Ytpgljhgfoihnjaa
namespace Go.Proofs.Ytpgljhgfoihnjaa
open Go.RowKit Go.BigFrame
set_option maxRecDepth 100000
set_option linter.unusedSimpArgs false
set_option linter.unusedVariables false

set_option maxHeartbeats 4000000 in
theorem anch21 (HD : DifC 6) (HA : AppC 8) : AncC 18 := by
  intro w
  have D1 : Box' (∀ w1 v1 v2, Evs w1.heap.size w1 v1 [evA] → Evs w1.heap.size w1 v2 [evA, evZ] → Calls Try.prog 6 #[v1, v2] w1 fun e w' => ∃ u, e = .returned (.tuple #[u, .int .i64 0]) ∧ InB w'.heap.size w' u [1, 4, 66] ∧ Below w1.heap.size w1 w') := ⟨fun w1 v1 v2 h1 h2 => by
    have := HD w1 v1 v2 _ _ (by decide) (by decide) h1 h2
    rw [dif1] at this
    exact this⟩
  have D2 : Box' (∀ w1 v1 v2, Evs w1.heap.size w1 v1 [evZ] → Evs w1.heap.size w1 v2 [evA, evZ] → Calls Try.prog 6 #[v1, v2] w1 fun e w' => ∃ u, e = .returned (.tuple #[u, .int .i64 210]) ∧ Below w1.heap.size w1 w') := ⟨fun w1 v1 v2 h1 h2 => by
    have := HD w1 v1 v2 _ _ (by decide) (by decide) h1 h2
    rw [dif2] at this
    exact this.mono fun e w' ⟨u, q1, q2, q3⟩ => ⟨u, q1, q3⟩⟩
  have A1 : Box' (∀ w1 v1 v2, Evs w1.heap.size w1 v1 [evA] → InB w1.heap.size w1 v2 [1, 4, 66] → Calls Try.prog 8 #[v1, v2] w1 fun e w' => ∃ u, e = .returned (.tuple #[u, .int .i64 0]) ∧ Evs w'.heap.size w' u [evA, evZ] ∧ Below w1.heap.size w1 w') := ⟨fun w1 v1 v2 h1 h2 => by
    have e : appF [evA] [1, 4, 66] = ([evA, evZ], 0) := by rw [appF, rd1]; simp [mayL, badE, evA, Ev.may, mayN]
    have := HA w1 v1 v2 _ _ (by decide) (by decide) h1 h2
    rw [e] at this
    exact this.mono fun e w' ⟨u, ps, q1, q2, q3, q4⟩ => ⟨u, q1, (show ps.map (·.1) = [evA, evZ] from q2) ▸ q3.evs, q4⟩⟩
  have LS : Box' (∀ w1 u1 u2, Evs w1.heap.size w1 u1 [evA, evZ] → Evs w1.heap.size w1 u2 [evA, evZ] → Calls Try.prog 13 #[u1, u2] w1 fun e w' => e = .returned (.bool true) ∧ Below w1.heap.size w1 w') := ⟨fun w1 u1 u2 h1 h2 => (lst_of refLists_C w1 u1 u2 _ _ (by decide) (by decide) h1 h2).mono fun e w' hh => ⟨by rw [hh.1, (lstB_iff _ _).2 rfl], hh.2⟩⟩
  have SM : Box' (∀ w0 v1 v2 l, InB w0.heap.size w0 v1 l → InB w0.heap.size w0 v2 l → Calls Try.prog 12 #[v1, v2] w0 fun e w' => e = .returned (.bool true) ∧ w' = w0) := ⟨fun w0 v1 v2 l h1 h2 => (refSame_any _ _ v1 v2 l l w0 h1.bts h2.bts).mono fun e w' hh => ⟨by rw [hh.1]; simp, hh.2⟩⟩
  have RA : Box' (∀ w1 g, Row w1 g 48 #[.int .u8 4, .slice none 0 0, .int .i64 0, .int .i64 0, .int .u8 65] → Evs w1.heap.size w1 (.slice (some ⟨g, 0, none⟩) 1 1) [evA]) := ⟨fun w1 g h => evs_of_row w1 g 1 [evA] (by simp [evA]) rfl (by decide) h⟩
  have RZ : Box' (∀ w1 g, Row w1 g 48 #[.int .u8 4, .slice none 0 0, .int .i64 0, .int .i64 0, .int .u8 66] → Evs w1.heap.size w1 (.slice (some ⟨g, 0, none⟩) 1 1) [evZ]) := ⟨fun w1 g h => evs_of_row w1 g 1 [evZ] (by simp [evZ]) rfl (by decide) h⟩
  have RB : Box' (∀ w1 g, Row w1 g 48 #[.int .u8 4, .slice none 0 0, .int .i64 0, .int .i64 0, .int .u8 65, .int .u8 4, .slice none 0 0, .int .i64 0, .int .i64 0, .int .u8 66] → Evs w1.heap.size w1 (.slice (some ⟨g, 0, none⟩) 2 2) [evA, evZ]) := ⟨fun w1 g h => evs_of_row w1 g 2 [evA, evZ] (by simp [evA, evZ]) rfl (by decide) h⟩
  obtain ⟨w2, hw2⟩ : ∃ w2, w2 = (w.alloc (.cells #[.int .u8 4, .slice none 0 0, .int .i64 0, .int .i64 0, .int .u8 65] 48)).alloc (.cells #[.int .u8 4, .slice none 0 0, .int .i64 0, .int .i64 0, .int .u8 66] 48) := ⟨_, rfl⟩
  have ra : Row w2 w.heap.size 48 #[.int .u8 4, .slice none 0 0, .int .i64 0, .int .i64 0, .int .u8 65] := by rw [hw2]; exact (Row.new _ _ _).alloc _
  have rz : Row w2 (w.heap.size + 1) 48 #[.int .u8 4, .slice none 0 0, .int .i64 0, .int .i64 0, .int .u8 66] := by rw [hw2]; exact Row.made _ _ _ _ _ rfl (by simp)
  have b2 : Below w.heap.size w w2 := by rw [hw2]; exact ((Below.refl _ _).alloc (Nat.le_refl _) _).alloc (by simp) _
  have hz2 : w2.heap.size = w.heap.size + 2 := by rw [hw2]; simp
  clear HD HA
  go_enter Try.func18, Try.ntmps18
  go_wp2_with fail
  refine (D1.out _ _ _ (RA.out _ _ ((Row.made _ 48 _ _ _ rfl (by simp)).alloc _)) (RB.out _ _ (Row.made _ 48 _ _ _ rfl (by simp)))).mono ?_
  rw [← hw2]
  rintro e w3 ⟨u1, rfl, i1, b1⟩
  have AL : Box' (∀ (w : World) (o : Obj), Below w.heap.size w (w.alloc o)) := ⟨fun w o => (Below.refl _ _).alloc (Nat.le_refl _) _⟩
  have AL2 : Box' (∀ (w : World) (o p : Obj), Below w.heap.size w ((w.alloc o).alloc p)) := ⟨fun w o p => ((Below.refl _ _).alloc (Nat.le_refl _) _).alloc (by simp) _⟩
  have b3 : Below w2.heap.size w2 w3 := (AL2.out w2 _ _).trans (b1.mono (AL2.out w2 _ _).size)
  have ra3 := ra.below b3 (by omega)
  have rz3 := rz.below b3 (by omega)
  have B3 := Box'.mk b3
  have I1 := Box'.mk i1
  have W0 := Box'.mk (show Below w.heap.size w w2 from b2)
  clear i1 b1 b3 b2 hw2 D1
  go_wp2_with (first
    | (refine wpList_load_row rfl 48 (.tmp 1) rfl w.heap.size rfl 48 _ ra3 _ Try.underlying48 rfl 5 (by kernel_rfl) rfl ?_)
    | (refine wpList_load_row rfl 48 (.tmp 2) rfl (w.heap.size + 1) rfl 48 _ rz3 _ Try.underlying48 rfl 5 (by kernel_rfl) rfl ?_)
    | fail)
  refine (A1.out _ _ _ (RA.out _ _ (Row.new _ _ _)) ((I1.out.below (AL.out _ _) (Nat.le_refl _)).up (AL.out _ _).size)).mono ?_
  rintro e w4 ⟨u2, rfl, i2, b4⟩
  have b34 : Below w3.heap.size w3 w4 := (AL.out w3 _).trans (b4.mono (AL.out w3 _).size)
  have I1 := Box'.mk ((I1.out.below b34 (Nat.le_refl _)).up b34.size)
  have I2 := Box'.mk i2
  have b4' := B3.out.trans (b34.mono B3.out.size)
  have ra4 := ra.below b4' (by omega)
  have rz4 := rz.below b4' (by omega)
  have B4 := Box'.mk b4'
  clear i2 b4 b34 b4' ra3 rz3 B3 A1
  go_wp2_with (first
    | (refine wpList_load_row rfl 48 (.tmp 1) rfl w.heap.size rfl 48 _ ra4 _ Try.underlying48 rfl 5 (by kernel_rfl) rfl ?_)
    | (refine wpList_load_row rfl 48 (.tmp 2) rfl (w.heap.size + 1) rfl 48 _ rz4 _ Try.underlying48 rfl 5 (by kernel_rfl) rfl ?_)
    | (refine wpList_load_row rfl 48 (.tmp 1) rfl w.heap.size rfl 48 _ (ra4.alloc _) _ Try.underlying48 rfl 5 (by kernel_rfl) rfl ?_)
    | (refine wpList_load_row rfl 48 (.tmp 2) rfl (w.heap.size + 1) rfl 48 _ (rz4.alloc _) _ Try.underlying48 rfl 5 (by kernel_rfl) rfl ?_)
    | fail)
  refine (D2.out _ _ _ (RZ.out _ w4.heap.size ((Row.new w4 48 #[.int .u8 4, .slice none 0 0, .int .i64 0, .int .i64 0, .int .u8 66]).alloc _)) (RB.out _ (w4.heap.size + 1) (Row.made (w4.alloc (.cells #[.int .u8 4, .slice none 0 0, .int .i64 0, .int .i64 0, .int .u8 66] 48)) 48 _ _ (w4.heap.size + 1) rfl (by simp)))).mono ?_
  rintro e w5 ⟨u3, rfl, b5⟩
  have b45 : Below w4.heap.size w4 w5 := (AL2.out w4 _ _).trans (b5.mono (AL2.out w4 _ _).size)
  have I1 := Box'.mk ((I1.out.below b45 (Nat.le_refl _)).up b45.size)
  have I2 := Box'.mk ((I2.out.below b45 (Nat.le_refl _)).up b45.size)
  have b5' := B4.out.trans (b45.mono B4.out.size)
  have ra5 := ra.below b5' (by omega)
  have rz5 := rz.below b5' (by omega)
  have B5 := Box'.mk b5'
  clear b5 b45 b5' ra4 rz4 B4 D2
  go_wp2_with fail
  refine (SM.out _ u1 _ [1, 4, 66] ((I1.out.below (AL.out _ _) (Nat.le_refl _)).up (AL.out _ _).size) ((mark_in w5 [1, 4, 66] 3 rfl (0, 0)).up (by simp))).mono ?_
  rintro e w6 ⟨rfl, hw6⟩
  have b56 : Below w5.heap.size w5 w6 := by rw [hw6]; exact AL.out _ _
  have I2 := Box'.mk ((I2.out.below b56 (Nat.le_refl _)).up b56.size)
  have b6' := B5.out.trans (b56.mono B5.out.size)
  have ra6 := ra.below b6' (by omega)
  have rz6 := rz.below b6' (by omega)
  have B6 := Box'.mk b6'
  clear hw6 b56 b6' ra5 rz5 B5 SM I1
  go_wp2_with (first
    | (go_big_want; refine wp_load_row 48 (.tmp 1) rfl w.heap.size rfl 48 _ ra6 _ Try.underlying48 rfl 5 (by kernel_rfl) rfl ?_; simp only [Act.put, List.setIfInBounds_toArray, List.set_cons_succ, List.set_cons_zero])
    | (go_big_want; refine wp_load_row 48 (.tmp 2) rfl (w.heap.size + 1) rfl 48 _ rz6 _ Try.underlying48 rfl 5 (by kernel_rfl) rfl ?_; simp only [Act.put, List.setIfInBounds_toArray, List.set_cons_succ, List.set_cons_zero])
    | fail)
  refine (LS.out _ u2 _ ((I2.out.below (AL.out _ _) (Nat.le_refl _)).up (AL.out _ _).size) (RB.out _ _ (Row.new _ _ _))).mono ?_
  rintro e w7 ⟨rfl, b7⟩
  have B7 := Box'.mk (W0.out.trans ((B6.out.trans (((AL.out w6 _).trans (b7.mono (AL.out w6 _).size)).mono B6.out.size)).mono W0.out.size))
  clear b7 B6 I2 LS ra6 rz6
  go_wp2_with fail
  go_ret
  exact ⟨rfl, B7.out⟩
end Go.Proofs.Ytpgljhgfoihnjaa
