/- The stored stream; the walk of the program's Stored. -/
import Derived.Test.YtfbgackmjkancaaF
namespace Go.Proofs.Ytfbgackmjkancaa
open Go.RowKit Go.BigFrame

/-- The stored stream of at most 65536 bytes. -/
def stoF (l : List UInt8) : List UInt8 :=
  if 65536 < l.length then [] else if l.length ≤ 65535 then hdr 1 l.length ++ l else hdr 0 65535 ++ l.take 65535 ++ hdr 1 (l.drop 65535).length ++ l.drop 65535
def stoE (l : List UInt8) : Int := if 65536 < l.length then 4 else 0
/-- How far the stored stream is: what is there, and what is left. -/
def StS (l d r : List UInt8) : Prop := (d = [] ∧ r = l) ∨ (65535 < l.length ∧ d = hdr 0 65535 ++ l.take 65535 ∧ r = l.drop 65535)
theorem StS.done {l d r : List UInt8} (h : StS l d r) (hl : l.length ≤ 65536) (hr : r.length ≤ 65535) : d ++ hdr 1 r.length ++ r = stoF l := by
  unfold stoF
  rw [if_neg (by omega)]
  rcases h with ⟨rfl, rfl⟩ | ⟨h1, rfl, rfl⟩
  · rw [if_pos hr]; rfl
  · rw [if_neg (by omega)]
theorem StS.step {l d r : List UInt8} (h : StS l d r) (hl : l.length ≤ 65536) (hr : 65535 < r.length) : StS l (d ++ hdr 0 65535 ++ r.take 65535) (r.drop 65535) := by
  rcases h with ⟨rfl, rfl⟩ | ⟨h1, rfl, rfl⟩
  · exact .inr ⟨hr, rfl, rfl⟩
  · rw [List.length_drop] at hr; omega
theorem StS.bound {l d r : List UInt8} (h : StS l d r) (hl : l.length ≤ 65536) : d.length ≤ 65540 ∧ r.length ≤ 65536 := by
  rcases h with ⟨rfl, rfl⟩ | ⟨h1, rfl, rfl⟩
  · exact ⟨by simp, hl⟩
  · rw [List.length_append, List.length_take, List.length_drop]
    have : (hdr 0 65535).length = 5 := rfl
    omega
theorem StS.start {l d r : List UInt8} (h : StS l d r) (hl : l.length ≤ 65536) (hr : 65535 < r.length) : d.length = 0 ∧ r.length = 65536 := by
  rcases h with ⟨rfl, rfl⟩ | ⟨h1, rfl, rfl⟩
  · exact ⟨rfl, by omega⟩
  · rw [List.length_drop] at hr; omega
theorem InB.cut {N : Nat} {w : World} {b o n c : Nat} {l : List UInt8} (hc : n ≤ c) (hn : l.length = n) (hb : b < N) (h : w.rangeAt b o (l.map B)) (k : Nat) (hk : k ≤ n) :
    InB N w (.slice (some ⟨b, o, none⟩) k c) (l.take k) ∧ InB N w (.slice (some ⟨b, o + k, none⟩) (n - k) (c - k)) (l.drop k) := by
  constructor
  · refine .inr ⟨b, o, c, by rw [List.length_take, hn, Nat.min_eq_left hk], by rw [List.length_take]; omega, .inr hb, fun j u hu => h j u ?_⟩
    rw [List.map_take, List.getElem?_take] at hu
    split at hu
    · exact hu
    · simp at hu
  · refine .inr ⟨b, o + k, c - k, by rw [List.length_drop, hn], by rw [List.length_drop]; omega, .inr hb, fun j u hu => ?_⟩
    rw [List.map_drop, List.getElem?_drop] at hu
    have := h (k + j) u hu
    rw [Nat.add_assoc]; exact this
def lenV : Value → Nat
  | .slice _ n _ => n
  | _ => 0

set_option maxRecDepth 100000 in
set_option maxHeartbeats 2000000 in
theorem stored_any (v : Value) (l : List UInt8) (hl : l.length ≤ 140737488355328) (w : World) (hi : InB w.heap.size w v l) :
    Calls Try.prog 9 #[v] w fun e w' => ∃ u, e = .returned (.tuple #[u, .int .i64 (stoE l)]) ∧ OwnB w.heap.size w' u (stoF l) ∧ Below w.heap.size w w' := by
  obtain ⟨a, c, rfl, hc⟩ := hi.slice
  have HI := Box'.mk hi
  clear hi
  by_cases hb : 65536 < l.length
  · have e1 : stoE l = 4 := by unfold stoE; rw [if_pos hb]
    have e2 : stoF l = [] := by unfold stoF; rw [if_pos hb]
    rw [e1, e2]
    have O0 := Box'.mk (OwnB.nil w.heap.size w)
    clear e1 e2 HI
    generalize l.length = n at *
    go_enter Try.func9, Try.ntmps9
    go_wp2_with fail
    go_ret2
    exact ⟨_, rfl, O0.out, Below.refl _ _⟩
  · have e1 : stoE l = 0 := by unfold stoE; rw [if_neg hb]
    have DN := Box'.mk (@StS.done l)
    have SP := Box'.mk (@StS.step l)
    have BD := Box'.mk (@StS.bound l)
    have ST := Box'.mk (@StS.start l)
    have hl6 : l.length ≤ 65536 := by omega
    have HL6 := Box'.mk hl6
    have HW : Box' (w.heap.size ≤ w.heap.size) := ⟨Nat.le_refl _⟩
    rw [e1]
    clear e1 hb hl
    generalize stoF l = SF at *
    generalize hn : l.length = n at *
    clear hn
    go_enter Try.func9, Try.ntmps9
    go_wp2_with fail
    go_loopw [4, 5] (fun u r wr => ∃ (d rest : List UInt8), Box' (StS l d rest) ∧ Box' (OwnB w.heap.size wr u d) ∧ Box' (InB w.heap.size wr r rest) ∧ Below w.heap.size w wr) (fun _ r _ => lenV r)
    case atStart => exact ⟨[], l, ⟨.inl ⟨rfl, rfl⟩⟩, ⟨OwnB.nil _ _⟩, HI, Below.refl _ _⟩
    case round =>
      obtain ⟨d, rest, HS, HO, HR, hbl⟩ := hrel
      clear HI hl6 hc
      by_cases hr : rest.length ≤ 65535
      · have hs := store_any w.heap.size wr _ _ d rest 1 (by have := (BD.out HS.out HL6.out).1; omega) hr hbl.size HO.out HR.out
        rw [DN.out HS.out HL6.out hr] at hs
        obtain ⟨ar, cr, rfl, hcr⟩ := HR.out.slice
        clear HR HO HS DN SP BD ST HL6
        generalize rest.length = m at *
        go_wp2_with fail
        refine hs.mono ?_
        rintro e w1 ⟨u1, rfl, o1, b1⟩
        have O1 := Box'.mk o1
        have B1 := Box'.mk (hbl.trans b1)
        clear o1 b1 hs hbl
        go_wp2_with fail
        go_ret2
        exact ⟨_, rfl, O1.out, B1.out⟩
      · have hr2 := (ST.out HS.out HL6.out (by omega)).2
        have HS2 := Box'.mk (SP.out HS.out HL6.out (by omega))
        rcases HR.out with ⟨_, e0⟩ | ⟨b, o, cr, rfl, hcr, hbn, hrg⟩
        · rw [e0] at hr2; simp at hr2
        have hbN : b < w.heap.size := by
          rcases hbn with e0 | h
          · rw [e0] at hr2; simp at hr2
          · exact h
        obtain ⟨i1, i2⟩ := InB.cut (c := cr) (by omega) hr2 hbN hrg 65535 (by omega)
        have hs := store_any w.heap.size wr _ _ d (rest.take 65535) 0 (by have := (BD.out HS.out HL6.out).1; omega) (by rw [List.length_take]; omega) hbl.size HO.out i1
        rw [show (rest.take 65535).length = 65535 by rw [List.length_take]; omega] at hs
        have I2 := Box'.mk i2
        rw [hr2] at hcr ⊢
        clear HR HO HS DN SP BD ST HL6 hr hbn hrg i1 i2 hr2
        go_wp2_with fail
        refine hs.mono ?_
        rintro e w1 ⟨u1, rfl, o1, b1⟩
        have O1 := Box'.mk o1
        have B1 := Box'.mk (hbl.trans b1)
        have I3 : Box' (InB w.heap.size w1 (.slice (some ⟨b, o + 65535, none⟩) (65536 - 65535) (cr - 65535)) (rest.drop 65535)) := ⟨I2.out.below b1 (Nat.le_refl _)⟩
        clear o1 b1 hs hbl I2
        go_wp2_with fail
        exact ⟨⟨_, _, HS2, O1, I3, B1.out⟩, by show (1 : Nat) < 65536; omega⟩
end Go.Proofs.Ytfbgackmjkancaa
