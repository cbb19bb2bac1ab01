/- What a stream tells; the walk of Inflate. -/
import Derived.Test.YtbnghmeeddjaoaaHa
namespace Go.Proofs.Ytbnghmeeddjaoaa
open Go.RowKit Go.BigFrame Gt

/-- What a stream tells, how many bytes it has, the error. -/
def infR (b : List UInt8) (most : Int) : List UInt8 × Nat × Int :=
  if most < 0 ∨ 65536 < most then ([], 0, 2) else match blocksF b most.toNat (8 * b.length + 1) 0 [] with
    | .ok (q, o) => (o, (q + 7) / 8, 0)
    | .error x => ([], 0, x)
theorem LEnds.cases {K : Nat → Prop} {N : Nat} {w w' : World} {sb : Nat} {vb : Value} {b : List UInt8} {most : Nat} {r : Except Int (Nat × List UInt8)} {e : Ending} (h : LEnds K N w sb vb b most r e w') :
    Kp K w w' ∧ ((∃ q o fx, r = .ok (q, o) ∧ e = .returned (.int .i64 0) ∧ St K N w' sb vb b q o most fx) ∨ (∃ x, r = .error x ∧ e = .returned (.int .i64 x))) := by
  obtain ⟨kp, h⟩ := h
  refine ⟨kp, ?_⟩
  cases r with
  | error x => exact .inr ⟨x, rfl, h⟩
  | ok sq => obtain ⟨h1, fx, h2⟩ := h; exact .inl ⟨sq.1, sq.2, fx, rfl, h1, h2⟩
/-- What Inflate hands back. -/
def IEnds (w : World) (R : List UInt8 × Nat × Int) (e : Ending) (w' : World) : Prop :=
  ∃ u, e = .returned (.tuple #[u, .int .i64 (R.2.1 : Int), .int .i64 R.2.2]) ∧ OwnB w.heap.size w' u R.1 ∧ Below w.heap.size w w'

set_option maxRecDepth 100000 in
set_option maxHeartbeats 4000000 in
theorem inflate_any (v : Value) (b : List UInt8) (most : Int) (hb : b.length ≤ 140737488355328) (w : World) (h : Bts (· < w.heap.size) w v b) :
    Calls Try.prog 6 #[v, .int .i64 most] w (IEnds w (infR b most)) := by
  have HI := Box'.mk (infR.eq_1 b most)
  generalize infR b most = R at *
  by_cases hm : most < 0 ∨ 65536 < most
  · have e0 := HI.out
    rw [if_pos hm] at e0
    subst e0
    have RES : Box' (∀ u, u = .slice none 0 0 → OwnB w.heap.size w u [] ∧ Below w.heap.size w w) := ⟨fun u hu => by rw [hu]; exact ⟨OwnB.nil _ _, Below.refl _ _⟩⟩
    clear HI h
    rcases hm with hm | hm
    · go_enter Try.func6, Try.ntmps6
      go_wp2_with fail
      go_ret3
      exact ⟨_, rfl, RES.out _ rfl⟩
    · have hm0 : decide (most < 0) = false := decide_eq_false (by omega)
      go_enter Try.func6, Try.ntmps6
      go_wp2_with fail
      go_ret3
      exact ⟨_, rfl, RES.out _ rfl⟩
  · obtain ⟨n, rfl⟩ : ∃ n : Nat, most = (n : Int) := ⟨most.toNat, by omega⟩
    have e0 := HI.out
    rw [if_neg hm, Int.toNat_natCast] at e0
    have hn : n ≤ 65536 := by omega
    obtain ⟨w0, hw0⟩ : ∃ w0, w0 = w.alloc (.cells #[v, .int .i64 0, .slice none 0 0, .int .i64 (n : Int), .pointer none] 45) := ⟨_, rfl⟩
    have r0 : Row w0 w.heap.size 45 #[v, .int .i64 ((0 : Nat) : Int), .slice none 0 0, .int .i64 (n : Int), .pointer none] := by rw [hw0]; exact Row.new _ _ _
    have b0 : Below w.heap.size w w0 := by rw [hw0]; exact (Below.refl _ _).alloc (Nat.le_refl _) _
    have st0 : St (· < w.heap.size) w.heap.size w0 w.heap.size v b 0 [] n (.pointer none) :=
      ⟨⟨_, r0, OwnB.nil _ _⟩, fun k hk => .inl hk, h.below b0 fun _ hk => hk, Nat.lt_irrefl _, fun k hk => Nat.lt_of_lt_of_le hk b0.size, hb, Nat.zero_le _, Nat.zero_le _, hn, b0.size⟩
    have bl := blocks_any _ _ w0 w.heap.size v b 0 [] n st0
    have BL : Box' (∀ w', Kp (· < w.heap.size) w0 w' → Below w.heap.size w w') := ⟨fun w' kp => b0.trans ⟨kp.os, kp.tape, kp.output, kp.size, fun k hk => kp.block k hk⟩⟩
    have UB := Box'.mk (up_blocks b n (8 * b.length + 1) 0 [])
    have E0 := Box'.mk e0
    rw [hw0] at bl
    obtain ⟨av, cv, rfl, _⟩ := h
    clear HI hm e0 r0 b0 st0
    generalize blocksF b n (8 * b.length + 1) 0 [] = RB at *
    go_enter Try.func6, Try.ntmps6
    go_wp2_with fail
    refine bl.mono ?_
    clear bl
    rw [← hw0]
    intro e w1 hh
    obtain ⟨kp, ⟨q, o, fx, hr, rfl, st⟩ | ⟨x, hr, rfl⟩⟩ := hh.cases
    · have e1 := E0.out
      rw [hr] at e1
      have e2 : R = (o, (q + 7) / 8, 0) := e1
      subst e2
      have hbr := fun m => bytesRead_any _ _ (w1.drewN m) w.heap.size _ b q o n fx (st.drewN m)
      obtain ⟨vo, hr1, ho⟩ := st.row
      have c2 : w1.cell? ⟨w.heap.size, 2, none⟩ = some vo := by rw [hr1.cell]; rfl
      have BLW := Box'.mk (BL.out w1 kp)
      have HO := Box'.mk ho
      clear hh kp hr st e1 UB hr1 ho E0 BL
      have HBR : ∀ m, Calls Try.prog 19 #[.pointer (some ⟨w.heap.size, 0, none⟩)] (w1.drewN m) fun e w' => e = .returned (.int .i64 (((q + 7) / 8 : Nat) : Int)) ∧ ∃ k, w' = (w1.drewN m).drewN k := fun m => (hbr m).mono fun e w' hh => ⟨hh.1, 0, hh.2⟩
      clear hbr
      generalize (q + 7) / 8 = us at *
      go_wp2_with fail
      go_quiet ((go_at_call 19; exact Calls.quiet_of (HBR _)))
      clear HBR c2
      go_wp2_with fail
      go_ret3
      exact ⟨_, rfl, HO.out, Below.drewN BLW.out nq⟩
    · have hx := UB.out
      rw [hr] at hx
      have hx : x ≠ 0 := hx
      have hx' : (x != 0) = true := by simpa using hx
      have e1 := E0.out
      rw [hr] at e1
      have e2 : R = ([], 0, x) := e1
      subst e2
      have RES : Box' (∀ u, u = .slice none 0 0 → OwnB w.heap.size w1 u [] ∧ Below w.heap.size w w1) := ⟨fun u hu => by rw [hu]; exact ⟨OwnB.nil _ _, BL.out w1 kp⟩⟩
      clear hh kp hr e1 hx UB E0 BL
      go_wp2_with fail
      go_ret3
      exact ⟨_, rfl, RES.out _ rfl⟩
end Go.Proofs.Ytbnghmeeddjaoaa
