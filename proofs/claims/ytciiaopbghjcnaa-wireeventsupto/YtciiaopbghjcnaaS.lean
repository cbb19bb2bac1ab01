/- The walks of bytes, side and instruction. -/
import Derived.Test.YtciiaopbghjcnaaR
namespace Go.Proofs.Ytciiaopbghjcnaa
open Go.RowKit Go.BigFrame
set_option linter.unusedSimpArgs false

theorem REnd.cases {α : Type} {N rb rv : Nat} {w w' : World} {r : Except Int (α × List UInt8)} {V : α → Value → World → Prop} {e : Ending} (h : REnd N rb rv w r V e w') :
    Gb rb w w' ∧ ((∃ x l v, r = .ok (x, l) ∧ e = .returned v ∧ V x v w' ∧ Rdr N w' rb rv l) ∨ (∃ x, r = .error x ∧ e = flt x)) := by
  obtain ⟨g, h⟩ := h
  refine ⟨g, ?_⟩
  cases r with
  | error x => exact .inr ⟨x, rfl, h⟩
  | ok p => obtain ⟨v, h1, h2, h3⟩ := h; exact .inl ⟨p.1, p.2, v, rfl, h1, h2, h3⟩
theorem REnd.good {α : Type} {N rb rv : Nat} {w w' : World} {r : Except Int (α × List UInt8)} {V : α → Value → World → Prop} {x : α} {l : List UInt8} {v : Value} (h : r = .ok (x, l)) (g : Gb rb w w') (hV : V x v w') (hr : Rdr N w' rb rv l) : REnd N rb rv w r V (.returned v) w' := by subst h; exact ⟨g, v, rfl, hV, hr⟩
theorem REnd.bad {α : Type} {N rb rv : Nat} {w w' : World} {r : Except Int (α × List UInt8)} {V : α → Value → World → Prop} {x : Int} (h : r = .error x) (g : Gb rb w w') : REnd N rb rv w r V (flt x) w' := by subst h; exact ⟨g, rfl⟩
theorem Rdr.clo {N : Nat} {w : World} {rb rv : Nat} {l : List UInt8} (h : Rdr N w rb rv l) : w.cell? ⟨rb, 1, none⟩ = some (.func (.func 57) #[] #[.pointer (some ⟨rv, 0, none⟩)]) := by
  obtain ⟨v, hr, _⟩ := h.row
  rw [hr.cell]; rfl
/-- The next bytes, if they are no more than most. -/
def bytF (most : Nat) (l : List UInt8) : Except Int (List UInt8 × List UInt8) := match numF l with
  | .error x => .error x
  | .ok (n, l1) => if most < n then .error 8 else pieF n l1

set_option maxRecDepth 100000 in
set_option maxHeartbeats 4000000 in
theorem bytes_any (N : Nat) (w : World) (rb rv : Nat) (l : List UInt8) (most : Nat) (hm : most ≤ 65536) (h : Rdr N w rb rv l) :
    Calls Try.prog 53 #[.pointer (some ⟨rb, 0, none⟩), .int .u64 (most : Int)] w (REnd N rb rv w (bytF most l) fun x v w' => OwnB w.heap.size w' v x) := by
  have nm := number_any N w rb rv l h
  have c1 := h.clo
  have HB := Box'.mk (bytF.eq_1 most l)
  generalize bytF most l = R at *
  clear h
  go_enter Try.func53, Try.ntmps53
  go_wp2_with fail
  refine nm.mono ?_
  intro e w1 hh
  obtain ⟨g1, ⟨n, l1, v1, hr, rfl, rfl, rd1⟩ | ⟨x, hr, rfl⟩⟩ := hh.cases
  case inr =>
    exact ⟨rfl, REnd.bad (by rw [HB.out, hr]) g1⟩
  have e1 := HB.out
  rw [hr] at e1
  have e2 : R = if most < n then .error 8 else pieF n l1 := e1
  have HE := Box'.mk e2
  have G1 := Box'.mk g1
  clear nm hh hr e1 e2 HB c1 g1
  by_cases hgt : most < n
  · have HR : Box' (R = .error 8) := ⟨by rw [HE.out, if_pos hgt]⟩
    have FA := Box'.mk (fail_any 8)
    clear HE rd1
    go_wp2_with fail
    refine (FA.out _).mono ?_
    rintro e2 w2 ⟨rfl, rfl⟩
    exact ⟨rfl, REnd.bad HR.out G1.out⟩
  · have HR : Box' (R = pieF n l1) := ⟨by rw [HE.out, if_neg hgt]⟩
    have pc := piece_any N w1 rb rv l1 n (by omega) rd1
    have PL : Box' (∀ x l2, pieF n l1 = .ok (x, l2) → x.length ≤ 65536) := ⟨fun x l2 h => by
      unfold pieF at h
      split at h
      · cases h
      · injection h with h; injection h with h _; rw [← h, List.length_take]; omega⟩
    clear HE rd1
    have hn64 : n ≤ 65536 := by omega
    generalize pieF n l1 = PR at *
    go_wp2_with fail
    refine pc.mono ?_
    intro e w2 hh
    obtain ⟨g2, ⟨x, l2, v2, hr, rfl, hi2, rd2⟩ | ⟨x, hr, rfl⟩⟩ := hh.cases
    case inr =>
      exact ⟨rfl, REnd.bad (by rw [HR.out, hr]) (G1.out.trans g2)⟩
    have HX : Box' (R = .ok (x, l2)) := ⟨by rw [HR.out, hr]⟩
    have G2 := Box'.mk (G1.out.trans g2)
    have hz2 := G2.out.size
    have HL : Box' (([] : List UInt8).length + x.length ≤ 140737488355328) := ⟨by have := PL.out x l2 hr; simp; omega⟩
    have RD := Box'.mk rd2
    clear pc hh hr HR G1 g2 PL rd2
    go_wp2_with (refine wpList_app rfl (.const (.slice none 0 0)) (.tmp 18) rfl w2.heap.size N (Nat.le_refl _) (.slice none 0 0) [] rfl (OwnB.nil _ _) _ x rfl hi2 HL.out ?_; intro v3 w3 o3 f3)
    rw [List.nil_append] at o3
    have b3 := f3.below (Nat.le_refl _)
    go_ret
    exact REnd.good HX.out (G2.out.trans (Gb.below b3)) (o3.less hz2) (RD.out.below b3)

/-- The next number as columns or rows. -/
def sidF (l : List UInt8) : Except Int (Nat × List UInt8) := match numF l with
  | .error x => .error x
  | .ok (n, l1) => .ok (min n 513, l1)
set_option maxRecDepth 100000 in
set_option maxHeartbeats 4000000 in
theorem side_any (N : Nat) (w : World) (rb rv : Nat) (l : List UInt8) (h : Rdr N w rb rv l) :
    Calls Try.prog 59 #[.pointer (some ⟨rb, 0, none⟩)] w (REnd N rb rv w (sidF l) fun n v _ => v = .int .i64 (n : Int)) := by
  have nm := number_any N w rb rv l h
  have c1 := h.clo
  have HB := Box'.mk (sidF.eq_1 l)
  generalize sidF l = R at *
  clear h
  go_enter Try.func59, Try.ntmps59
  go_wp2_with fail
  refine nm.mono ?_
  intro e w1 hh
  obtain ⟨g1, ⟨n, l1, v1, hr, rfl, rfl, rd1⟩ | ⟨x, hr, rfl⟩⟩ := hh.cases
  case inr =>
    exact ⟨rfl, REnd.bad (by rw [HB.out, hr]) g1⟩
  have e1 := HB.out
  rw [hr] at e1
  have HE : Box' (R = .ok (min n 513, l1)) := ⟨e1⟩
  have G1 := Box'.mk g1
  have RD := Box'.mk rd1
  clear nm hh hr e1 HB c1 g1 rd1
  by_cases hn : n ≤ 513
  · have hE : Box' (R = .ok (n, l1)) := ⟨by rw [HE.out, Nat.min_eq_left (by omega)]⟩
    clear HE
    go_wp2_with fail
    go_ret
    exact REnd.good hE.out G1.out rfl RD.out
  · have hE : Box' (R = .ok (513, l1)) := ⟨by rw [HE.out, Nat.min_eq_right (by omega)]⟩
    clear HE
    go_wp2_with fail
    go_ret
    exact REnd.good hE.out G1.out rfl RD.out

theorem Gb.setNew {g : Nat} {w w' : World} (h : Gb g w w') (b o : Nat) (v : Value) (hb : w.heap.size ≤ b) : Gb g w (w'.setCell ⟨b, o, none⟩ v) :=
  ⟨h.os, h.tape, h.output, by simpa using h.size, fun j hj hn => by
    rw [Below.heap_setCell _ _ _ _ (fun e => by have e : j = b := e; omega)]; exact h.block j hj hn⟩
theorem OwnB.other {M : Nat} {w : World} {v : Value} {d : List UInt8} (h : OwnB M w v d) {b : Nat} {t : TypeId} {c : Array Value} (hr : Row w b t c) (ht : t ≠ 5) (o : Nat) (u : Value) : OwnB M (w.setCell ⟨b, o, none⟩ u) v d :=
  h.same fun g hg => Below.heap_setCell _ _ _ _ (fun e => own_ne h hr ht g hg e)
/-- What stands while what was read is put into the block pb. -/
structure Loc (rb : Nat) (w0 w : World) (N rv : Nat) (l : List UInt8) (pb : Nat) (t : TypeId) (v : Value) (d : List UInt8) : Prop where
  gb : Gb rb w0 w
  rdr : Rdr N w rb rv l
  row : ∃ c, Row w pb t c
  own : OwnB w0.heap.size w v d
  n1 : pb ≠ rb
  n2 : pb ≠ rv
  n3 : N ≤ pb
  n4 : w0.heap.size ≤ pb
theorem Loc.set {rb : Nat} {w0 w : World} {N rv : Nat} {l : List UInt8} {pb : Nat} {t : TypeId} {v : Value} {d : List UInt8} (h : Loc rb w0 w N rv l pb t v d) (ht : t ≠ 5) (o : Nat) (u : Value) : Loc rb w0 (w.setCell ⟨pb, o, none⟩ u) N rv l pb t v d := by
  obtain ⟨c, hr⟩ := h.row
  exact ⟨h.gb.setNew pb o u h.n4, h.rdr.other pb o u h.n1 h.n2 h.n3, ⟨_, hr.setCell o u⟩, h.own.other hr ht o u, h.n1, h.n2, h.n3, h.n4⟩
/-- An instruction, and what is left. -/
def insR (l : List UInt8) : Except Int (Ins × List UInt8) := match numF l with
  | .error x => .error x
  | .ok (a, l) => match numF l with
    | .error x => .error x
    | .ok (b, l) => match numF l with
      | .error x => .error x
      | .ok (c, l) => match numF l with
        | .error x => .error x
        | .ok (d, l) => match bytF 65536 l with
          | .error x => .error x
          | .ok (y, l) => .ok (⟨a, b, c, d, y⟩, l)
theorem Try.size34 : (Try.prog.info? 34).map (·.size) = some 5 := by kernel_rfl
set_option maxRecDepth 100000 in
set_option maxHeartbeats 4000000 in
theorem instruction_any (N : Nat) (w : World) (rb rv : Nat) (l : List UInt8) (h : Rdr N w rb rv l) :
    Calls Try.prog 37 #[.pointer (some ⟨rb, 0, none⟩)] w (REnd N rb rv w (insR l) fun x v w' => ∃ vd, v = .agg #[.int .u64 (x.old : Int), .int .u64 (x.new : Int), .int .u64 (x.ack : Int), .int .u64 (x.thr : Int), vd] ∧ OwnB w.heap.size w' vd x.dif) := by
  have HB := Box'.mk (insR.eq_1 l)
  generalize insR l = R at *
  obtain ⟨w0, hw0⟩ : ∃ w0, w0 = w.alloc (.cells #[.int .u64 0, .int .u64 0, .int .u64 0, .int .u64 0, .slice none 0 0] 34) := ⟨_, rfl⟩
  have h0 : Rdr N w0 rb rv l := by rw [hw0]; exact h.alloc _
  have r0 : Row w0 w.heap.size 34 #[.int .u64 0, .int .u64 0, .int .u64 0, .int .u64 0, .slice none 0 0] := by rw [hw0]; exact Row.new _ _ _
  have G0 : Box' (Gb rb w w0) := ⟨by rw [hw0]; exact (Gb.refl _ _).alloc _⟩
  have HX : Box' (w.heap.size ≠ rb ∧ w.heap.size ≠ rv ∧ N ≤ w.heap.size) := ⟨by
    obtain ⟨v, hr, _⟩ := h.row
    have := hr.lt
    have := h.var.lt
    exact ⟨by omega, by omega, h.nl⟩⟩
  have nm := number_any N w0 rb rv l h0
  have c1 := h0.clo
  have R0 := Box'.mk r0
  rw [hw0] at nm c1
  clear h h0 r0
  obtain ⟨pb, hpb⟩ : ∃ pb, pb = w.heap.size := ⟨_, rfl⟩
  go_enter Try.func37, Try.ntmps37
  go_wp2_with fail
  refine nm.mono ?_
  rw [← hw0, ← hpb]
  rw [← hpb] at R0 HX
  have ZB := Box'.mk (Nat.le_of_eq hpb.symm)
  clear hw0 hpb nm c1
  intro e w1 hh
  obtain ⟨g1, ⟨na, la, v1, hr, rfl, rfl, rd1⟩ | ⟨x, hr, rfl⟩⟩ := hh.cases
  case inr =>
    exact ⟨rfl, REnd.bad (by rw [HB.out, hr]) (G0.out.trans g1)⟩
  have e1 := HB.out
  rw [hr] at e1
  have e2 : R = (match numF la with | .error x => .error x | .ok (b, l) => (match numF l with | .error x => .error x | .ok (c, l) => (match numF l with | .error x => .error x | .ok (d, l) => (match bytF 65536 l with | .error x => .error x | .ok (y, l) => .ok (⟨na, b, c, d, y⟩, l))))) := e1
  have r1 := g1.row R0.out HX.out.1
  have cx : w1.cell? ⟨pb, 0, none⟩ = some (.int .u64 0) := by rw [r1.cell]; rfl
  have fx := r1.frozen 0
  have r2 := r1.setCell 0 (.int .u64 (na : Int))
  have rd2 := rd1.other pb 0 (.int .u64 (na : Int)) HX.out.1 HX.out.2.1 HX.out.2.2
  have G1 := Box'.mk ((G0.out.trans g1).setNew pb 0 (.int .u64 (na : Int)) ZB.out)
  have R1 : Box' (Row (w1.setCell ⟨pb, 0, none⟩ (.int .u64 (na : Int))) pb 34 #[.int .u64 (na : Int), .int .u64 0, .int .u64 0, .int .u64 0, .slice none 0 0]) := ⟨r2⟩
  have nm := number_any N _ rb rv la rd2
  have c1 := rd2.clo
  clear hh hr e1 r1 r2 rd1 rd2 g1 HB G0 R0
  have HB := Box'.mk e2
  clear e2
  go_wp2_with fail
  refine nm.mono ?_
  clear nm c1
  generalize w1.setCell ⟨pb, 0, none⟩ (.int .u64 (na : Int)) = wa at *
  clear cx fx
  intro e w1 hh
  obtain ⟨g1, ⟨nb, lb, v1, hr, rfl, rfl, rd1⟩ | ⟨x, hr, rfl⟩⟩ := hh.cases
  case inr =>
    exact ⟨rfl, REnd.bad (by rw [HB.out, hr]) (G1.out.trans g1)⟩
  have e1 := HB.out
  rw [hr] at e1
  have e2 : R = (match numF lb with | .error x => .error x | .ok (c, l) => (match numF l with | .error x => .error x | .ok (d, l) => (match bytF 65536 l with | .error x => .error x | .ok (y, l) => .ok (⟨na, nb, c, d, y⟩, l)))) := e1
  have r1 := g1.row R1.out HX.out.1
  have cx : w1.cell? ⟨pb, 1, none⟩ = some (.int .u64 0) := by rw [r1.cell]; rfl
  have fx := r1.frozen 1
  have r2 := r1.setCell 1 (.int .u64 (nb : Int))
  have rd2 := rd1.other pb 1 (.int .u64 (nb : Int)) HX.out.1 HX.out.2.1 HX.out.2.2
  have G2 := Box'.mk ((G1.out.trans g1).setNew pb 1 (.int .u64 (nb : Int)) ZB.out)
  have R2 : Box' (Row (w1.setCell ⟨pb, 1, none⟩ (.int .u64 (nb : Int))) pb 34 #[.int .u64 (na : Int), .int .u64 (nb : Int), .int .u64 0, .int .u64 0, .slice none 0 0]) := ⟨r2⟩
  have nm := number_any N _ rb rv lb rd2
  have c1 := rd2.clo
  clear hh hr e1 r1 r2 rd1 rd2 g1 HB G1 R1
  have HB := Box'.mk e2
  clear e2
  go_wp2_with fail
  refine nm.mono ?_
  clear nm c1
  generalize w1.setCell ⟨pb, 1, none⟩ (.int .u64 (nb : Int)) = wb at *
  clear cx fx
  intro e w1 hh
  obtain ⟨g1, ⟨nc, lc, v1, hr, rfl, rfl, rd1⟩ | ⟨x, hr, rfl⟩⟩ := hh.cases
  case inr =>
    exact ⟨rfl, REnd.bad (by rw [HB.out, hr]) (G2.out.trans g1)⟩
  have e1 := HB.out
  rw [hr] at e1
  have e2 : R = (match numF lc with | .error x => .error x | .ok (d, l) => (match bytF 65536 l with | .error x => .error x | .ok (y, l) => .ok (⟨na, nb, nc, d, y⟩, l))) := e1
  have r1 := g1.row R2.out HX.out.1
  have cx : w1.cell? ⟨pb, 2, none⟩ = some (.int .u64 0) := by rw [r1.cell]; rfl
  have fx := r1.frozen 2
  have r2 := r1.setCell 2 (.int .u64 (nc : Int))
  have rd2 := rd1.other pb 2 (.int .u64 (nc : Int)) HX.out.1 HX.out.2.1 HX.out.2.2
  have G3 := Box'.mk ((G2.out.trans g1).setNew pb 2 (.int .u64 (nc : Int)) ZB.out)
  have R3 : Box' (Row (w1.setCell ⟨pb, 2, none⟩ (.int .u64 (nc : Int))) pb 34 #[.int .u64 (na : Int), .int .u64 (nb : Int), .int .u64 (nc : Int), .int .u64 0, .slice none 0 0]) := ⟨r2⟩
  have nm := number_any N _ rb rv lc rd2
  have c1 := rd2.clo
  clear hh hr e1 r1 r2 rd1 rd2 g1 HB G2 R2
  have HB := Box'.mk e2
  clear e2
  go_wp2_with fail
  refine nm.mono ?_
  clear nm c1
  generalize w1.setCell ⟨pb, 2, none⟩ (.int .u64 (nc : Int)) = wc at *
  clear cx fx
  intro e w1 hh
  obtain ⟨g1, ⟨nd, ld, v1, hr, rfl, rfl, rd1⟩ | ⟨x, hr, rfl⟩⟩ := hh.cases
  case inr =>
    exact ⟨rfl, REnd.bad (by rw [HB.out, hr]) (G3.out.trans g1)⟩
  have e1 := HB.out
  rw [hr] at e1
  have e2 : R = (match bytF 65536 ld with | .error x => .error x | .ok (y, l) => .ok (⟨na, nb, nc, nd, y⟩, l)) := e1
  have r1 := g1.row R3.out HX.out.1
  have cx : w1.cell? ⟨pb, 3, none⟩ = some (.int .u64 0) := by rw [r1.cell]; rfl
  have fx := r1.frozen 3
  have r2 := r1.setCell 3 (.int .u64 (nd : Int))
  have rd2 := rd1.other pb 3 (.int .u64 (nd : Int)) HX.out.1 HX.out.2.1 HX.out.2.2
  have G4 := Box'.mk ((G3.out.trans g1).setNew pb 3 (.int .u64 (nd : Int)) ZB.out)
  have R4 : Box' (Row (w1.setCell ⟨pb, 3, none⟩ (.int .u64 (nd : Int))) pb 34 #[.int .u64 (na : Int), .int .u64 (nb : Int), .int .u64 (nc : Int), .int .u64 (nd : Int), .slice none 0 0]) := ⟨r2⟩
  have nm := bytes_any N _ rb rv ld 65536 (by decide) rd2
  have c1 := rd2.clo
  clear hh hr e1 r1 r2 rd1 rd2 g1 HB G3 R3
  have HB := Box'.mk e2
  clear e2
  go_wp2_with fail
  refine nm.mono ?_
  clear nm c1
  generalize w1.setCell ⟨pb, 3, none⟩ (.int .u64 (nd : Int)) = wd at *
  clear cx fx
  intro e w1 hh
  obtain ⟨g1, ⟨y, ly, v1, hr, rfl, ov, rd1⟩ | ⟨x, hr, rfl⟩⟩ := hh.cases
  case inr =>
    exact ⟨rfl, REnd.bad (by rw [HB.out, hr]) (G4.out.trans g1)⟩
  have e1 := HB.out
  rw [hr] at e1
  have e2 : R = .ok (⟨na, nb, nc, nd, y⟩, ly) := e1
  have HE := Box'.mk e2
  have r1 := g1.row R4.out HX.out.1
  have OV : Box' (OwnB w.heap.size w1 v1 y) := ⟨ov.less G4.out.size⟩
  have G5 := Box'.mk (G4.out.trans g1)
  have RD := Box'.mk rd1
  have R5 := Box'.mk r1
  have cx : w1.cell? ⟨pb, 4, none⟩ = some (.slice none 0 0) := by rw [r1.cell]; rfl
  have d0 : w1.cell? ⟨pb, 0, none⟩ = some (.int .u64 (na : Int)) := by rw [r1.cell]; rfl
  have d1 : w1.cell? ⟨pb, 1, none⟩ = some (.int .u64 (nb : Int)) := by rw [r1.cell]; rfl
  have d2 : w1.cell? ⟨pb, 2, none⟩ = some (.int .u64 (nc : Int)) := by rw [r1.cell]; rfl
  have d3 : w1.cell? ⟨pb, 3, none⟩ = some (.int .u64 (nd : Int)) := by rw [r1.cell]; rfl
  have f0 := r1.frozen 0
  have f1 := r1.frozen 1
  have f2 := r1.frozen 2
  have f3 := r1.frozen 3
  have f4 := r1.frozen 4
  obtain ⟨a1, c1, rfl⟩ := ov.slice
  clear hh hr e1 e2 HB r1 rd1 g1 ov
  generalize y.length = yl at *
  have L0 : Loc rb w w1 N rv ly pb 34 (.slice a1 yl c1) y := ⟨G5.out, RD.out, ⟨_, R5.out⟩, OV.out, HX.out.1, HX.out.2.1, HX.out.2.2, ZB.out⟩
  have L6 := Box'.mk ((((((L0.set (by decide) 4 (.slice a1 yl c1)).set (by decide) 0 (.int .u64 (na : Int))).set (by decide) 1 (.int .u64 (nb : Int))).set (by decide) 2 (.int .u64 (nc : Int))).set (by decide) 3 (.int .u64 (nd : Int))).set (by decide) 4 (.slice a1 yl c1))
  have R6 := Box'.mk ((((((R5.out.setCell 4 (.slice a1 yl c1)).setCell 0 (.int .u64 (na : Int))).setCell 1 (.int .u64 (nb : Int))).setCell 2 (.int .u64 (nc : Int))).setCell 3 (.int .u64 (nd : Int))).setCell 4 (.slice a1 yl c1))
  clear L0 G4 R4 G5 R5 OV RD
  go_wp2_with fail
  exact bodyPost_ret (results_row rfl _ pb rfl _ _ R6.out _ Try.underlying34 rfl 5 Try.size34 rfl) rfl (REnd.good HE.out L6.out.gb ⟨_, rfl, L6.out.own⟩ L6.out.rdr)
end Go.Proofs.Ytciiaopbghjcnaa
