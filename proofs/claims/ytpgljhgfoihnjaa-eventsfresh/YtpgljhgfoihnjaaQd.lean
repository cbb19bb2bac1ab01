/- The program's closure that puts a copy of an event behind what there is. -/
import Derived.Test.YtpgljhgfoihnjaaQc
import Derived.Test.YtpgljhgfoihnjaaPd
import Derived.Test.YtpgljhgfoihnjaaEc
namespace Go.Proofs.Ytpgljhgfoihnjaa
open Go.RowKit Go.BigFrame
set_option maxRecDepth 100000
set_option linter.unusedSimpArgs false
set_option linter.unusedVariables false

theorem OwnE.other {N : Nat} {w : World} {v : Value} {l : List (Ev × Value)} (h : OwnE N w v l) {b : Nat} {t : TypeId} {c : Array Value} (hr : Row w b t c) (h1 : t ≠ 5) (h2 : t ≠ 48) (o : Nat) (u : Value) : OwnE N (w.setCell ⟨b, o, none⟩ u) v l :=
  h.same (fun g hg => Below.heap_setCell _ _ _ _ fun e => by
    obtain ⟨_, cur, r2⟩ := h.lt g hg
    have e : g = b := e
    subst e
    unfold Row at hr r2
    rw [hr] at r2
    simp at r2
    exact h2 r2.2) fun p hp => (h.own p hp).other hr h1 o u
/-- What the closure makes. -/
def PutE (N gO : Nat) (w : World) (ps : List (Ev × Value)) (x : Ev) (e : Ending) (w' : World) : Prop :=
  e = .returned (.tuple #[]) ∧ ∃ v' vb', Row w' gO 22 #[v'] ∧ OwnE N w' v' (ps ++ [(x, vb')]) ∧ Below N w w'
set_option maxHeartbeats 1000000 in
theorem put_any (N gO : Nat) (w : World) (v : Value) (ps : List (Ev × Value)) (x : Ev) (vb : Value) (hg : N ≤ gO) (hN : N ≤ w.heap.size) (hr : Row w gO 22 #[v]) (ho : OwnE N w v ps) (hi : InE N w vb x.byt) (hl : x.byt.length ≤ 140737488351232) (hmx : (ps.length + 1) * 56 ≤ 140737488355328) :
    Calls Try.prog 42 #[x.val vb, .pointer (some ⟨gO, 0, none⟩)] w (PutE N gO w ps x) := by
  obtain ⟨w1, hw1⟩ : ∃ w1, w1 = w.alloc (.cells #[.int .u8 (x.kind.toNat : Int), vb, .int .i64 x.cols, .int .i64 x.rows, .int .u8 (x.arr.toNat : Int)] 48) := ⟨_, rfl⟩
  have r1 : Row w1 w.heap.size 48 (evC x vb).toArray := by rw [hw1]; exact Row.new _ _ _
  have b1 : Below w.heap.size w w1 := by rw [hw1]; exact (Below.refl _ _).alloc (Nat.le_refl _) _
  have R1 := Box'.mk r1
  have B1 := Box'.mk b1
  have Z1 : Box' (w.heap.size < w1.heap.size) := ⟨r1.lt⟩
  have GO1 := Box'.mk (hr.below b1 hr.lt)
  have GL : Box' (gO < w.heap.size) := ⟨hr.lt⟩
  have OE0 := Box'.mk ho
  have GR0 := Box'.mk hr
  have OE1 := Box'.mk (ho.below b1)
  have I1 := Box'.mk (hi.below (b1.mono hN) (Nat.le_refl _))
  obtain ⟨ax, cx, rfl, hcx⟩ := hi.slice
  obtain ⟨ao, co, rfl⟩ := ho.slice
  have HX : Box' (([] : List UInt8).length + x.byt.length ≤ 140737488355328) := ⟨by simp; omega⟩
  have HMX := Box'.mk hmx
  have HN := Box'.mk hN
  have HG := Box'.mk hg
  have kk1 : w1.cell? ⟨w.heap.size, 1, none⟩ = some (.slice ax x.byt.length cx) := by rw [r1.cell]; rfl
  clear r1 b1 hr ho hi hl hmx hcx hN hg
  unfold Ev.val
  go_enter Try.func42, Try.ntmps42
  go_upto_region 1 with fail
  rw [← hw1]
  clear hw1
  go_upto_region 2 with (first
    | (refine wpList_appE rfl (.const (.slice none 0 0)) (.tmp 4) rfl w1.heap.size N (Nat.le_refl _) _ [] rfl (OwnB.nil _ _) _ x.byt rfl I1.out HX.out ?_; intro v2 w2 o2 f2
       obtain ⟨au, cu, rfl, _⟩ := OwnB.slice (d := x.byt) o2
       have O2 : Box' (OwnB w1.heap.size w2 (.slice au x.byt.length cu) x.byt) := ⟨o2⟩
       have B2 := Box'.mk (f2.below (Nat.le_refl _))
       have R2 := Box'.mk (R1.out.below B2.out Z1.out)
       have k2 : w2.cell? ⟨w.heap.size, 1, none⟩ = some (.slice ax x.byt.length cx) := by rw [R2.out.cell]; rfl
       have f2' : w2.frozen? ⟨w.heap.size, 1, none⟩ = false := R2.out.frozen 1
       have one2 : Value.oneCell' (.slice au x.byt.length cu) = true := rfl
       clear o2 f2 kk1)
    | fail)
  obtain ⟨w3, hw3⟩ : ∃ w3, w3 = w2.setCell ⟨w.heap.size, 1, none⟩ (.slice au x.byt.length cu) := ⟨_, rfl⟩
  rw [← hw3]
  have hz3 : w3.heap.size = w2.heap.size := by rw [hw3]; simp [World.setCell]
  have r3 : Row w3 w.heap.size 48 (evC x (.slice au x.byt.length cu)).toArray := by rw [hw3]; exact R2.out.setCell 1 _
  have b3 : Below w.heap.size w w3 := by rw [hw3]; exact (B1.out.trans (B2.out.mono B1.out.size)).setCell (p := ⟨w.heap.size, 1, none⟩) (Nat.le_refl _) _
  have oe3 : OwnE N w3 (.slice ao ps.length co) ps := OE0.out.below b3
  have o3 : OwnB w1.heap.size w3 (.slice au x.byt.length cu) x.byt := by rw [hw3]; exact O2.out.setCell _ _ _ Z1.out
  have gr3 : Row w3 gO 22 #[.slice ao ps.length co] := GR0.out.below b3 GL.out
  have kg3 : w3.cell? ⟨gO, 0, none⟩ = some (.slice ao ps.length co) := by rw [gr3.cell]; rfl
  have hdis : ∀ p ∈ ps, ∀ g, p.2.ownBlock = some g → Value.ownBlock (.slice au x.byt.length cu) ≠ some g := fun p hp g hg hv => by
    obtain ⟨_, cur, rp⟩ := (OE0.out.own p hp).lt g hg
    have := rp.lt
    have := (O2.out.lt g hv).1
    have := Z1.out
    omega
  obtain ⟨w4, hw4⟩ : ∃ w4, w4 = w3.alloc (.cells #[.int .u8 (x.kind.toNat : Int), .slice au x.byt.length cu, .int .i64 x.cols, .int .i64 x.rows, .int .u8 (x.arr.toNat : Int)] 48) := ⟨_, rfl⟩
  have b34 : Below w3.heap.size w3 w4 := by rw [hw4]; exact (Below.refl _ _).alloc (Nat.le_refl _) _
  have R4 : Box' (Row w4 w3.heap.size 48 (evC x (.slice au x.byt.length cu)).toArray) := ⟨by rw [hw4]; exact Row.new _ _ _⟩
  have B4 := Box'.mk (b3.trans (b34.mono b3.size))
  have OE4 := Box'.mk (oe3.below b34)
  have O4 := Box'.mk ((o3.below b34).less (Nat.le_trans HN.out (Nat.le_of_lt Z1.out)))
  have GR4 := Box'.mk (gr3.below b34 gr3.lt)
  have HN4 : Box' (N ≤ w4.heap.size) := ⟨Nat.le_trans HN.out B4.out.size⟩
  have HDI := Box'.mk hdis
  have FIN : Box' (∀ v' w5, OwnE N w5 v' (ps ++ [(x, Value.slice au x.byt.length cu)]) → w4.grownBy w5 (Value.slice ao ps.length co).ownBlock → Row w5 gO 22 #[.slice ao ps.length co] ∧ PutE N gO w ps x (.returned (.tuple #[])) (w5.setCell ⟨gO, 0, none⟩ v')) := ⟨fun v' w5 h1 g => by
    have r5 : Row w5 gO 22 #[.slice ao ps.length co] := GR4.out.same (g.block gO GR4.out.lt fun e => by
      obtain ⟨_, cur, q⟩ := OE4.out.lt gO e.symm
      have r := GR4.out
      unfold Row at q r
      rw [r] at q
      simp at q)
    have b5 : Below N w4 w5 := ⟨g.os, g.tape, g.output, g.size, fun q hq => g.block q (by have := HN4.out; omega) fun e => by
      have := (OE4.out.lt q e.symm).1
      omega⟩
    refine ⟨r5, rfl, v', _, r5.setCell 0 v', h1.other r5 (by decide) (by decide) 0 v', ((B4.out.mono HN.out).trans b5).setCell (p := ⟨gO, 0, none⟩) HG.out v'⟩⟩
  have R3 : Box' (Row w3 w.heap.size 48 #[.int .u8 (x.kind.toNat : Int), .slice au x.byt.length cu, .int .i64 x.cols, .int .i64 x.rows, .int .u8 (x.arr.toNat : Int)]) := ⟨r3⟩
  clear hw3 r3 b3 oe3 o3 gr3 hdis b34 hz3 R1 B1 GO1 OE1 I1 O2 B2 R2 k2 f2' one2 HX GL OE0 GR0
  go_wp2_with (first
    | (refine wpList_load_row rfl 48 (.tmp 2) rfl w.heap.size rfl 48 _ R3.out _ Try.underlying48 rfl 5 (by kernel_rfl) rfl ?_)
    | (rw [← hw4]; refine wpList_appEv2 rfl (.tmp 7) (.tmp 9) rfl N HN4.out _ ps rfl OE4.out x (.slice au x.byt.length cu) O4.out HDI.out _ 1 rfl R4.out HMX.out ?_; intro v5 w5 o5 g5
       have F5 := Box'.mk (FIN.out v5 w5 o5 g5)
       obtain ⟨a5, c5, rfl⟩ := OwnE.slice o5
       have k5 : w5.cell? ⟨gO, 0, none⟩ = some (.slice ao ps.length co) := by rw [F5.out.1.cell]; rfl
       have f5 : w5.frozen? ⟨gO, 0, none⟩ = false := F5.out.1.frozen 0
       have one5 : Value.oneCell' (.slice a5 (ps ++ [(x, Value.slice au x.byt.length cu)]).length c5) = true := rfl
       have F6 := Box'.mk F5.out.2
       clear o5 g5 FIN R3 R4 OE4 O4 GR4 HDI B4 kg3 HN4 hw4 F5 HMX HG HN Z1
       generalize hq5 : (ps ++ [(x, Value.slice au x.byt.length cu)]).length = n5 at *)
    | fail)
  exact bodyPost_end (by simp [results, show Try.f42.results = #[] from rfl]) rfl F6.out
end Go.Proofs.Ytpgljhgfoihnjaa
