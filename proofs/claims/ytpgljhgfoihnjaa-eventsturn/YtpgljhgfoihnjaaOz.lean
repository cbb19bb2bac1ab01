/- Events behind a slice; the walks of IndexFunc, ContainsFunc and WriteEvents. -/
import Derived.Test.YtpgljhgfoihnjaaN
import Derived.Test.YtpgljhgfoihnjaaU
import Derived.Test.YtpgljhgfoihnjaaO
import Derived.Test.YtpgljhgfoihnjaaE
import Derived.Test.YtpgljhgfoihnjaaFa
import Derived.Test.YtpgljhgfoihnjaaH
namespace Go.Proofs.Ytpgljhgfoihnjaa
open Go.RowKit Go.BigFrame
set_option maxRecDepth 100000
set_option linter.unusedSimpArgs false

set_option maxRecDepth 100000 in
set_option maxHeartbeats 1000000 in
theorem notMay_any (N : Nat) (w : World) (vb : Value) (x : Ev) (hN : N ≤ w.heap.size) (hi : InE N w vb x.byt) :
    Calls Try.prog 35 #[x.val vb] w fun e w' => e = .returned (.bool (!x.may)) ∧ Below w.heap.size w w' := by
  obtain ⟨k, l, c, r, a⟩ := x
  unfold Ev.val Ev.may
  simp only at hi ⊢
  have hb : Below w.heap.size w (w.alloc (.cells #[.int .u8 (k.toNat : Int), vb, .int .i64 c, .int .i64 r, .int .u8 (a.toNat : Int)] 48)) := (Below.refl _ _).alloc (Nat.le_refl _) _
  have hm := may_any (· < N) k.toNat c r a.toNat vb l (w.alloc (.cells #[.int .u8 (k.toNat : Int), vb, .int .i64 c, .int .i64 r, .int .u8 (a.toNat : Int)] 48)) (fun b h => Nat.lt_of_lt_of_le h (Nat.le_trans hN hb.size)) (hi.below hb hN).bts
  have HB : Box' (∀ w', Below (w.alloc (.cells #[.int .u8 (k.toNat : Int), vb, .int .i64 c, .int .i64 r, .int .u8 (a.toNat : Int)] 48)).heap.size (w.alloc (.cells #[.int .u8 (k.toNat : Int), vb, .int .i64 c, .int .i64 r, .int .u8 (a.toNat : Int)] 48)) w' → Below w.heap.size w w') := ⟨fun w' h => hb.trans (h.mono hb.size)⟩
  obtain ⟨a1, c1, rfl, _⟩ := hi.slice
  clear hi hb
  generalize mayN k.toNat l.length c r a.toNat = M at *
  generalize l.length = n at *
  go_enter Try.func35, Try.ntmps35
  go_wp2_with fail
  refine hm.mono ?_
  rintro e w1 ⟨rfl, b1⟩
  have B1 := Box'.mk (HB.out w1 b1)
  clear hm b1 HB
  go_wp2_with fail
  go_ret
  exact ⟨rfl, B1.out⟩

set_option maxRecDepth 100000 in
set_option maxHeartbeats 2000000 in
theorem index_any (w : World) (v : Value) (l : List Ev) (hl : l.length ≤ 140737488355328) (h : Evs w.heap.size w v l) :
    Calls Try.prog 46 #[v, .func (.func 35) #[] #[]] w fun e w' => ∃ z : Int, e = .returned (.int .i64 z) ∧ decide (0 ≤ z) = badE l ∧ Below w.heap.size w w' := by
  have HE := Box'.mk h
  obtain ⟨a, c, rfl, hc, h3⟩ := h
  have H3 := Box'.mk h3
  have BA := Box'.mk (fun k => badE_at (l := l) (k := k))
  have BN := Box'.mk (badE_none (l := l))
  clear h3
  generalize badE l = R at *
  generalize hn : l.length = n at *
  go_enter Try.func46, Try.ntmps46
  go_wp2_with fail
  go_loopw [8] (fun i wr => ∃ k : Nat, i = .int .i64 (k : Int) ∧ k ≤ n ∧ Box' (∀ j, j < k → (l.getD j Ev.none).may = true) ∧ Below w.heap.size w wr) (fun i _ => n - (intOf i).toNat)
  case atStart => exact ⟨0, rfl, by omega, ⟨fun j hj => by omega⟩, Below.refl _ _⟩
  case round =>
    obtain ⟨k, rfl, hk, HJ, hb⟩ := hrel
    by_cases hlt : k < n
    · obtain ⟨b, o, rfl, hbN, vb, q1, q2, q3, q4, q5, q6⟩ := H3.out k hlt
      have nm := notMay_any w.heap.size wr vb (l.getD k Ev.none) hb.size (q6.below hb (Nat.le_refl _))
      have ce : ∀ q, wr.cell? ⟨b, q, Option.none⟩ = w.cell? ⟨b, q, Option.none⟩ := fun q => hb.cell (p := ⟨b, q, Option.none⟩) hbN
      rw [← ce] at q1 q2 q3 q4 q5
      have ba := Box'.mk (BA.out k hlt)
      have HJ2 : Box' ((l.getD k Ev.none).may = true → ∀ j, j < k + 1 → (l.getD j Ev.none).may = true) := ⟨fun h j hj => by
        rcases Nat.lt_succ_iff_lt_or_eq.1 hj with h1 | rfl
        · exact HJ.out j h1
        · exact h⟩
      have HB := Box'.mk hb
      unfold Ev.val at nm
      generalize l.getD k Ev.none = x at *
      obtain ⟨a1, c1, rfl, _⟩ := q6.slice
      clear ce q6 BA BN H3 HE HJ hb
      generalize x.may = m at *
      obtain ⟨xk, xl, xc, xr, xa⟩ := x
      simp only at nm q1 q2 q3 q4 q5
      generalize xl.length = xn at *
      go_wp2_with fail
      refine nm.mono ?_
      rintro e w1 ⟨rfl, b1⟩
      have B1 := Box'.mk (HB.out.trans (b1.mono HB.out.size))
      clear nm b1 HB q1 q2 q3 q4 q5
      cases m with
      | true =>
        have hj := HJ2.out rfl
        clear HJ2 ba
        go_wp2_with fail
        exact ⟨⟨k + 1, by go_num, by omega, ⟨hj⟩, B1.out⟩, by simp [intOf]; omega⟩
      | false =>
        have hj := ba.out rfl
        clear HJ2 ba
        go_wp2_with fail
        go_ret
        exact ⟨_, rfl, by rw [hj]; exact decide_eq_true (by omega), B1.out⟩
    · obtain rfl : k = n := by omega
      have hj := BN.out HJ.out
      clear BA BN H3 HE HJ
      go_wp2_with fail
      go_ret
      exact ⟨_, rfl, by rw [hj]; rfl, hb⟩

set_option maxRecDepth 100000 in
set_option maxHeartbeats 1000000 in
theorem contains_any (w : World) (v : Value) (l : List Ev) (hl : l.length ≤ 140737488355328) (h : Evs w.heap.size w v l) :
    Calls Try.prog 29 #[v, .func (.func 35) #[] #[]] w fun e w' => e = .returned (.bool (badE l)) ∧ Below w.heap.size w w' := by
  have hi := index_any w v l hl h
  obtain ⟨a, c, rfl, _⟩ := h
  generalize badE l = R at *
  generalize l.length = n at *
  go_enter Try.func29, Try.ntmps29
  go_wp2_with fail
  refine hi.mono ?_
  rintro e w1 ⟨z, rfl, hz, b1⟩
  have HZ := Box'.mk hz
  clear hi hz
  go_wp2_with fail
  go_ret
  exact ⟨by rw [← HZ.out]; rfl, b1⟩

/-- The forms of the first k events, and how many they are. -/
def preE (l : List Ev) (k : Nat) : List UInt8 := uf l.length ++ ((l.take k).map evF).flatten
theorem preE_step (l : List Ev) (k : Nat) (h : k < l.length) : preE l (k + 1) = preE l k ++ evF (l.getD k Ev.none) := by
  unfold preE
  rw [List.take_succ_eq_append_getElem h, List.map_append, List.flatten_append, ← List.append_assoc]
  simp [h]
theorem preE_mono (l : List Ev) (k : Nat) : (preE l k).length ≤ (preE l l.length).length := by
  unfold preE
  rw [List.take_length, List.length_append, List.length_append]
  have : ((l.map evF).flatten).length = (((l.take k).map evF).flatten).length + (((l.drop k).map evF).flatten).length := by
    rw [← List.length_append, ← List.flatten_append, ← List.map_append, List.take_append_drop]
  omega
/-- What WriteEvents answers. -/
def wevF (l : List Ev) : List UInt8 × Int := if badE l = true then ([], 2) else if 4096 < l.length ∨ 65536 < (preE l l.length).length then ([], 4) else (preE l l.length, 0)

set_option maxRecDepth 100000 in
set_option maxHeartbeats 4000000 in
theorem writeEvents_any (w : World) (v : Value) (l : List Ev) (hl : l.length ≤ 140737488355328) (h : Evs w.heap.size w v l) :
    Calls Try.prog 22 #[v] w fun e w' => ∃ u, e = .returned (.tuple #[u, .int .i64 (wevF l).2]) ∧ OwnB w.heap.size w' u (wevF l).1 ∧ Below w.heap.size w w' := by
  have hco := contains_any w v l hl h
  have HE := Box'.mk h
  have HW := Box'.mk (wevF.eq_1 l)
  generalize wevF l = R at *
  obtain ⟨a, c, rfl, hc, h3⟩ := h
  cases hbad : badE l with
  | true =>
    rw [hbad] at hco
    have e := HW.out
    rw [if_pos hbad] at e
    subst e
    clear HW HE h3 hbad
    generalize l.length = n at *
    go_enter Try.func22, Try.ntmps22
    go_wp2_with fail
    refine hco.mono ?_
    rintro e w1 ⟨rfl, b1⟩
    clear hco
    go_wp2_with fail
    go_ret2
    exact ⟨_, rfl, OwnB.nil _ _, b1⟩
  | false =>
    rw [hbad] at hco
    have e := HW.out
    rw [if_neg (by rw [hbad]; decide)] at e
    have HG := Box'.mk (fun k => badE_get hbad (k := k))
    clear HW hbad
    by_cases hlong : 4096 < l.length
    · rw [if_pos (.inl hlong)] at e
      subst e
      clear HG HE h3
      generalize l.length = n at *
      go_enter Try.func22, Try.ntmps22
      go_wp2_with fail
      refine hco.mono ?_
      rintro e w1 ⟨rfl, b1⟩
      clear hco
      go_wp2_with fail
      go_ret2
      exact ⟨_, rfl, OwnB.nil _ _, b1⟩
    · have ER : Box' (R = if 65536 < (preE l l.length).length then ([], 4) else (preE l l.length, 0)) := ⟨by
        rw [e]
        by_cases q : 65536 < (preE l l.length).length
        · rw [if_pos (.inr q), if_pos q]
        · rw [if_neg (by omega), if_neg q]⟩
      have H3 := Box'.mk h3
      have P0 : Box' (preE l 0 = uf l.length) := ⟨by simp [preE]⟩
      have PS := Box'.mk (preE_step l)
      have PM := Box'.mk (preE_mono l)
      have UL := Box'.mk (uf_len64 (n := l.length) (by omega))
      have UI := Box'.mk (fun w => uint_any l.length (by omega) w)
      clear e h3
      generalize hn : l.length = n at *
      have HN := Box'.mk hn
      clear hn
      go_enter Try.func22, Try.ntmps22
      go_wp2_with fail
      refine hco.mono ?_
      rintro e w1 ⟨rfl, b1⟩
      clear hco
      have ui := UI.out w1
      rw [← P0.out] at ui
      have B1 := Box'.mk b1
      have Z1 := b1.size
      clear b1 UI
      go_wp2_with fail
      refine ui.mono ?_
      rintro e w2 ⟨v2, rfl, o2, b2⟩
      clear ui
      have B2 := Box'.mk (B1.out.trans (b2.mono Z1))
      have O2 := Box'.mk (o2.less Z1)
      clear o2 b2 B1 Z1
      have PL : Box' ((preE l 0).length ≤ 65536) := ⟨by rw [P0.out]; have := UL.out; omega⟩
      clear UL P0
      go_wp2_with fail
      go_loopw [4, 18] (fun u i wr => ∃ k : Nat, i = .int .i64 (k : Int) ∧ k ≤ n ∧ Box' ((preE l k).length ≤ 65536) ∧ Box' (OwnB w.heap.size wr u (preE l k)) ∧ Box' (Below w.heap.size w wr)) (fun _ i _ => n - (intOf i).toNat)
      case atStart => exact ⟨0, rfl, by omega, PL, O2, B2⟩
      case round =>
        clear PL O2 B2
        obtain ⟨k, rfl, hk, PL, OO, BB⟩ := hrel
        by_cases hlt : k < n
        · obtain ⟨b, o, rfl, hbN, vb, q1, q2, q3, q4, q5, q6⟩ := H3.out k hlt
          have hbb := BB.out
          have ce : ∀ q, wr.cell? ⟨b, q, Option.none⟩ = w.cell? ⟨b, q, Option.none⟩ := fun q => hbb.cell (p := ⟨b, q, Option.none⟩) hbN
          rw [← ce] at q1 q2 q3 q4 q5
          have q7 := q6.below hbb (Nat.le_refl _)
          have hz := hbb.size
          have hg := HG.out k hlt
          have AE : Box' (∀ w3, Below wr.heap.size wr w3 → Calls Try.prog 37 #[u4, (l.getD k Ev.none).val vb] w3 fun e w' => ∃ v', e = .returned v' ∧ OwnB w.heap.size w' v' (preE l (k + 1)) ∧ Below w.heap.size w w') := ⟨fun w3 b3 => (appEvent_any w.heap.size w3 u4 vb (preE l k) (l.getD k Ev.none) hg (Nat.le_trans hz b3.size) (OO.out.below b3) (q7.below b3 hz) (by have := PL.out; omega)).mono fun e w' hh => by
            obtain ⟨v', e1, e2, e3⟩ := hh
            rw [← PS.out k hlt] at e2
            exact ⟨v', e1, e2, (BB.out.trans (b3.mono hz)).trans (e3.below (Nat.le_trans hz b3.size))⟩⟩
          have LE : Box' (65536 < (preE l (k + 1)).length → R = ([], 4)) := ⟨fun h => by have := PM.out (k + 1); rw [ER.out, if_pos (by omega)]⟩
          obtain ⟨ao, co, rfl⟩ := OO.out.slice
          obtain ⟨a1, c1, rfl, _⟩ := q6.slice
          unfold Ev.val at AE
          generalize l.getD k Ev.none = x at *
          obtain ⟨xk, xl, xc, xr, xa⟩ := x
          simp only at AE q1 q2 q3 q4 q5
          clear ce q6 q7 HE OO PL BB hbb hg PS
          generalize xl.length = xn at *
          generalize (preE l k).length = ol at *
          go_wp2_with fail
          refine (AE.out _ ((Below.refl _ _).alloc (Nat.le_refl _) _)).mono ?_
          rintro e w3 ⟨v3, rfl, o3, b3⟩
          have O3 := Box'.mk o3
          have B3 := Box'.mk b3
          obtain ⟨a3, c3, rfl⟩ := o3.slice
          clear AE q1 q2 q3 q4 q5 o3 b3
          by_cases hbig : 65536 < (preE l (k + 1)).length
          · have e := LE.out hbig
            subst e
            clear LE ER PM H3 HG HN
            generalize (preE l (k + 1)).length = dl at *
            go_wp2_with fail
            go_ret2
            exact ⟨_, rfl, OwnB.nil _ _, B3.out⟩
          · have PL : Box' ((preE l (k + 1)).length ≤ 65536) := ⟨by omega⟩
            clear LE ER PM H3 HG HN
            generalize hdl : (preE l (k + 1)).length = dl at O3 hbig ⊢
            clear hdl
            go_wp2_with fail
            exact ⟨⟨k + 1, by go_num, by omega, PL, O3, B3⟩, by simp [intOf]; omega⟩
        · obtain rfl : k = n := by omega
          have e := ER.out
          rw [if_neg (by have := PL.out; omega)] at e
          clear ER H3 HG HE PS PM PL HN
          obtain ⟨RX, RE⟩ := R
          injection e with e1 e2
          subst e2
          rw [← e1] at OO
          clear e1
          obtain ⟨ao, co, rfl⟩ := OO.out.slice
          generalize RX.length = dl at OO ⊢
          go_wp2_with fail
          go_ret2
          exact ⟨_, rfl, OO.out, BB.out⟩
end Go.Proofs.Ytpgljhgfoihnjaa
