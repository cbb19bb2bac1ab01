/- The walks of bytes, side and instruction. -/
import Derived.Test.YtpgljhgfoihnjaaR
import Derived.Test.YtpgljhgfoihnjaaU
import Derived.Test.YtpgljhgfoihnjaaO
import Derived.Test.YtpgljhgfoihnjaaE
import Derived.Test.YtpgljhgfoihnjaaFa
import Derived.Test.YtpgljhgfoihnjaaH
import Derived.Test.YtpgljhgfoihnjaaN
import Derived.Test.YtpgljhgfoihnjaaOz
namespace Go.Proofs.Ytpgljhgfoihnjaa
open Go.RowKit Go.BigFrame
set_option maxRecDepth 100000
set_option linter.unusedSimpArgs false

theorem REnd.cases {α : Type} {N rb rv : Nat} {w w' : World} {r : Except Int (α × List UInt8)} {V : α → Value → World → Prop} {e : Ending} (h : REnd N rb rv w r V e w') :
    Gb rb w w' ∧ ((∃ x l v, r = .ok (x, l) ∧ e = .returned v ∧ V x v w' ∧ Rdr N w' rb rv l) ∨ (∃ x, r = .error x ∧ e = flt x)) := by
  obtain ⟨g, h⟩ := h
  refine ⟨g, ?_⟩
  cases r with
  | error x => exact .inr ⟨x, rfl, h⟩
  | ok p => obtain ⟨v, h1, h2, h3⟩ := h; exact .inl ⟨p.1, p.2, v, rfl, h1, h2, h3⟩
theorem REnd.good {α : Type} {N rb rv : Nat} {w w' : World} {r : Except Int (α × List UInt8)} {V : α → Value → World → Prop} {x : α} {l : List UInt8} {v : Value} (h : r = .ok (x, l)) (g : Gb rb w w') (hV : V x v w') (hr : Rdr N w' rb rv l) : REnd N rb rv w r V (.returned v) w' := by subst h; exact ⟨g, v, rfl, hV, hr⟩
theorem REnd.bad {α : Type} {N rb rv : Nat} {w w' : World} {r : Except Int (α × List UInt8)} {V : α → Value → World → Prop} {x : Int} (h : r = .error x) (g : Gb rb w w') : REnd N rb rv w r V (flt x) w' := by subst h; exact ⟨g, rfl⟩
theorem Rdr.clo {N : Nat} {w : World} {rb rv : Nat} {l : List UInt8} (h : Rdr N w rb rv l) : w.cell? ⟨rb, 1, none⟩ = some (.func (.func 58) #[] #[.pointer (some ⟨rv, 0, none⟩)]) := by
  obtain ⟨v, hr, _⟩ := h.row
  rw [hr.cell]; rfl
/-- The next bytes, if they are no more than most. -/
def bytF (most : Nat) (l : List UInt8) : Except Int (List UInt8 × List UInt8) := match numF l with
  | .error x => .error x
  | .ok (n, l1) => if most < n then .error 8 else pieF n l1

set_option maxRecDepth 100000 in
set_option maxHeartbeats 4000000 in
theorem bytes_any (N : Nat) (w : World) (rb rv : Nat) (l : List UInt8) (most : Nat) (hm : most ≤ 65536) (h : Rdr N w rb rv l) :
    Calls Try.prog 61 #[.pointer (some ⟨rb, 0, none⟩), .int .u64 (most : Int)] w (REnd N rb rv w (bytF most l) fun x v w' => OwnB w.heap.size w' v x) := by
  have nm := number_any N w rb rv l h
  have c1 := h.clo
  have HB := Box'.mk (bytF.eq_1 most l)
  generalize bytF most l = R at *
  clear h
  go_enter Try.func61, Try.ntmps61
  go_wp2_with fail
  refine nm.mono ?_
  intro e w1 hh
  obtain ⟨g1, ⟨n, l1, v1, hr, rfl, rfl, rd1⟩ | ⟨x, hr, rfl⟩⟩ := hh.cases
  case inr =>
    exact ⟨rfl, REnd.bad (by rw [HB.out, hr]) g1⟩
  have e1 := HB.out
  rw [hr] at e1
  have e2 : R = if most < n then .error 8 else pieF n l1 := e1
  have HE := Box'.mk e2
  have G1 := Box'.mk g1
  clear nm hh hr e1 e2 HB c1 g1
  by_cases hgt : most < n
  · have HR : Box' (R = .error 8) := ⟨by rw [HE.out, if_pos hgt]⟩
    have FA := Box'.mk (fail_any 8)
    clear HE rd1
    go_wp2_with fail
    refine (FA.out _).mono ?_
    rintro e2 w2 ⟨rfl, rfl⟩
    exact ⟨rfl, REnd.bad HR.out G1.out⟩
  · have HR : Box' (R = pieF n l1) := ⟨by rw [HE.out, if_neg hgt]⟩
    have pc := piece_any N w1 rb rv l1 n (by omega) rd1
    have PL : Box' (∀ x l2, pieF n l1 = .ok (x, l2) → x.length ≤ 65536) := ⟨fun x l2 h => by
      unfold pieF at h
      split at h
      · cases h
      · injection h with h; injection h with h _; rw [← h, List.length_take]; omega⟩
    clear HE rd1
    have hn64 : n ≤ 65536 := by omega
    generalize pieF n l1 = PR at *
    go_wp2_with fail
    refine pc.mono ?_
    intro e w2 hh
    obtain ⟨g2, ⟨x, l2, v2, hr, rfl, hi2, rd2⟩ | ⟨x, hr, rfl⟩⟩ := hh.cases
    case inr =>
      exact ⟨rfl, REnd.bad (by rw [HR.out, hr]) (G1.out.trans g2)⟩
    have HX : Box' (R = .ok (x, l2)) := ⟨by rw [HR.out, hr]⟩
    have G2 := Box'.mk (G1.out.trans g2)
    have hz2 := G2.out.size
    have HL : Box' (([] : List UInt8).length + x.length ≤ 140737488355328) := ⟨by have := PL.out x l2 hr; simp; omega⟩
    have RD := Box'.mk rd2
    clear pc hh hr HR G1 g2 PL rd2
    go_wp2_with (refine wpList_app rfl (.const (.slice none 0 0)) (.tmp 18) rfl w2.heap.size N (Nat.le_refl _) (.slice none 0 0) [] rfl (OwnB.nil _ _) _ x rfl hi2 HL.out ?_; intro v3 w3 o3 f3)
    rw [List.nil_append] at o3
    have b3 := f3.below (Nat.le_refl _)
    go_ret
    exact REnd.good HX.out (G2.out.trans (Gb.below b3)) (o3.less hz2) (RD.out.below b3)

/-- The next number as columns or rows. -/
def sidF (l : List UInt8) : Except Int (Nat × List UInt8) := match numF l with
  | .error x => .error x
  | .ok (n, l1) => .ok (min n 513, l1)
set_option maxRecDepth 100000 in
set_option maxHeartbeats 4000000 in
theorem side_any (N : Nat) (w : World) (rb rv : Nat) (l : List UInt8) (h : Rdr N w rb rv l) :
    Calls Try.prog 62 #[.pointer (some ⟨rb, 0, none⟩)] w (REnd N rb rv w (sidF l) fun n v _ => v = .int .i64 (n : Int)) := by
  have nm := number_any N w rb rv l h
  have c1 := h.clo
  have HB := Box'.mk (sidF.eq_1 l)
  generalize sidF l = R at *
  clear h
  go_enter Try.func62, Try.ntmps62
  go_wp2_with fail
  refine nm.mono ?_
  intro e w1 hh
  obtain ⟨g1, ⟨n, l1, v1, hr, rfl, rfl, rd1⟩ | ⟨x, hr, rfl⟩⟩ := hh.cases
  case inr =>
    exact ⟨rfl, REnd.bad (by rw [HB.out, hr]) g1⟩
  have e1 := HB.out
  rw [hr] at e1
  have HE : Box' (R = .ok (min n 513, l1)) := ⟨e1⟩
  have G1 := Box'.mk g1
  have RD := Box'.mk rd1
  clear nm hh hr e1 HB c1 g1 rd1
  by_cases hn : n ≤ 513
  · have hE : Box' (R = .ok (n, l1)) := ⟨by rw [HE.out, Nat.min_eq_left (by omega)]⟩
    clear HE
    go_wp2_with fail
    go_ret
    exact REnd.good hE.out G1.out rfl RD.out
  · have hE : Box' (R = .ok (513, l1)) := ⟨by rw [HE.out, Nat.min_eq_right (by omega)]⟩
    clear HE
    go_wp2_with fail
    go_ret
    exact REnd.good hE.out G1.out rfl RD.out

theorem Gb.setNew {g : Nat} {w w' : World} (h : Gb g w w') (b o : Nat) (v : Value) (hb : w.heap.size ≤ b) : Gb g w (w'.setCell ⟨b, o, none⟩ v) :=
  ⟨h.os, h.tape, h.output, by simpa using h.size, fun j hj hn => by
    rw [Below.heap_setCell _ _ _ _ (fun e => by have e : j = b := e; omega)]; exact h.block j hj hn⟩
theorem OwnB.other {M : Nat} {w : World} {v : Value} {d : List UInt8} (h : OwnB M w v d) {b : Nat} {t : TypeId} {c : Array Value} (hr : Row w b t c) (ht : t ≠ 5) (o : Nat) (u : Value) : OwnB M (w.setCell ⟨b, o, none⟩ u) v d :=
  h.same fun g hg => Below.heap_setCell _ _ _ _ (fun e => own_ne h hr ht g hg e)
/-- What stands while what was read is put into the block pb. -/
structure Loc (rb : Nat) (w0 w : World) (N rv : Nat) (l : List UInt8) (pb : Nat) (t : TypeId) (v : Value) (d : List UInt8) : Prop where
  gb : Gb rb w0 w
  rdr : Rdr N w rb rv l
  row : ∃ c, Row w pb t c
  own : OwnB w0.heap.size w v d
  n1 : pb ≠ rb
  n2 : pb ≠ rv
  n3 : N ≤ pb
  n4 : w0.heap.size ≤ pb
theorem Loc.set {rb : Nat} {w0 w : World} {N rv : Nat} {l : List UInt8} {pb : Nat} {t : TypeId} {v : Value} {d : List UInt8} (h : Loc rb w0 w N rv l pb t v d) (ht : t ≠ 5) (o : Nat) (u : Value) : Loc rb w0 (w.setCell ⟨pb, o, none⟩ u) N rv l pb t v d := by
  obtain ⟨c, hr⟩ := h.row
  exact ⟨h.gb.setNew pb o u h.n4, h.rdr.other pb o u h.n1 h.n2 h.n3, ⟨_, hr.setCell o u⟩, h.own.other hr ht o u, h.n1, h.n2, h.n3, h.n4⟩
end Go.Proofs.Ytpgljhgfoihnjaa
