/- The walks of appendBytes, Text and Write. -/
import Derived.Test.YtpgljhgfoihnjaaFa
import Derived.Test.YtpgljhgfoihnjaaU
import Derived.Test.YtpgljhgfoihnjaaO
import Derived.Test.YtpgljhgfoihnjaaE
namespace Go.Proofs.Ytpgljhgfoihnjaa
open Go.RowKit Go.BigFrame
set_option maxRecDepth 100000
set_option linter.unusedSimpArgs false

/-- The form of bytes. -/
def tx (l : List UInt8) : List UInt8 := uf l.length ++ l
theorem tx_len {l : List UInt8} (h : l.length ≤ 65536) : (tx l).length ≤ l.length + 10 := by
  unfold tx; rw [List.length_append]; have := uf_len64 (n := l.length) (by omega); omega

set_option maxRecDepth 100000 in
set_option maxHeartbeats 2000000 in
theorem appBytes_any (N : Nat) (w : World) (v vb : Value) (d l : List UInt8) (hN : N ≤ w.heap.size) (ho : OwnB N w v d) (hi : InE N w vb l) (hd : d.length ≤ 1000000) (hl : l.length ≤ 65536) :
    Calls Try.prog 50 #[v, vb] w fun e w' => ∃ v', e = .returned v' ∧ OwnB N w' v' (d ++ tx l) ∧ Fr N w w' := by
  have hc := appNum_any N w v d l.length (by omega) hN ho hd
  have HD : Box' (∀ A : List UInt8, A = d ++ uf l.length → A ++ l = d ++ tx l ∧ A.length + l.length ≤ 140737488355328) := ⟨fun A h => by
    subst h
    refine ⟨by unfold tx; rw [List.append_assoc], ?_⟩
    rw [List.length_append]; have := uf_len64 (n := l.length) (by omega); omega⟩
  have HI : Box' (∀ w1, Fr N w w1 → InE N w1 vb l ∧ N ≤ w1.heap.size) := ⟨fun w1 f => ⟨hi.below (f.below hN) (Nat.le_refl _), Nat.le_trans hN f.size⟩⟩
  obtain ⟨a0, c0, rfl⟩ := ho.slice
  obtain ⟨a1, c1, rfl, _⟩ := hi.slice
  clear ho hi
  generalize d ++ tx l = D at *
  generalize hA : d ++ uf l.length = A at *
  have H2 := Box'.mk (HD.out A rfl)
  clear HD hA
  generalize d.length = dl at *
  go_enter Try.func50, Try.ntmps50
  go_wp2_with fail
  refine hc.mono ?_
  rintro e w1 ⟨v1, rfl, o1, f1⟩
  clear hc
  obtain ⟨h1, h2⟩ := HI.out w1 f1
  have F1 := Box'.mk f1
  clear HI f1
  go_wp2_with (refine wpList_appE rfl (.tmp 9) (.tmp 10) rfl N N h2 _ A rfl o1 _ l rfl h1 H2.out.2 ?_; intro v2 w2 o2 f2)
  have o3 := o2
  rw [H2.out.1] at o3
  have F2 := F1.out.trans f2
  go_ret
  exact ⟨_, rfl, o3, F2⟩

set_option maxRecDepth 100000 in
set_option maxHeartbeats 2000000 in
theorem text_any (N : Nat) (w : World) (vb : Value) (l : List UInt8) (hN : N ≤ w.heap.size) (hi : InE N w vb l) (hl : l.length ≤ 65536) :
    Calls Try.prog 51 #[vb] w fun e w' => ∃ v', e = .returned v' ∧ OwnB w.heap.size w' v' (tx l) ∧ Below w.heap.size w w' := by
  have hc := refUint_any l.length (by omega) w
  have HD : Box' (uf l.length ++ l = tx l ∧ (uf l.length).length + l.length ≤ 140737488355328) := ⟨rfl, by have := uf_len64 (n := l.length) (by omega); omega⟩
  have HI : Box' (∀ w1, Below w.heap.size w w1 → InE w1.heap.size w1 vb l) := ⟨fun w1 f => (hi.below f hN).up (Nat.le_trans hN f.size)⟩
  obtain ⟨a1, c1, rfl, _⟩ := hi.slice
  clear hi
  generalize tx l = D at *
  generalize uf l.length = A at *
  go_enter Try.func51, Try.ntmps51
  go_wp2_with fail
  refine hc.mono ?_
  rintro e w1 ⟨v1, rfl, o1, f1⟩
  clear hc
  have h1 := HI.out w1 f1
  have F1 := Box'.mk f1
  have hz := f1.size
  clear HI f1
  go_wp2_with (refine wpList_appE rfl (.tmp 6) (.tmp 7) rfl w.heap.size w1.heap.size hz _ A rfl o1 _ l rfl h1 HD.out.2 ?_; intro v2 w2 o2 f2)
  have o3 := o2
  rw [HD.out.1] at o3
  have F2 := F1.out.trans (f2.below hz)
  go_ret
  exact ⟨_, rfl, o3, F2⟩

/-- An instruction. -/
structure Ins where
  old : Nat
  new : Nat
  ack : Nat
  thr : Nat
  dif : List UInt8
structure Ins.ok (x : Ins) : Prop where
  old : x.old < 18446744073709551616
  new : x.new < 18446744073709551616
  ack : x.ack < 18446744073709551616
  thr : x.thr < 18446744073709551616
end Go.Proofs.Ytpgljhgfoihnjaa
