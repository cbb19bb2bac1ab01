/- The walk of the closure that reads a symbol. -/
import Derived.Test.YtbnghmeeddjaoaaFn
namespace Go.Proofs.Ytbnghmeeddjaoaa
open Go.RowKit Go.BigFrame Gt

/-- The closure that reads symbols of the lengths l stands, in blocks of K. -/
def RdK (K : Nat → Prop) (w : World) (sb : Nat) (l : List Int) (fb xb : Nat) : Prop :=
  ∃ g cap, K fb ∧ K xb ∧ K g ∧ Row w fb 79 #[.slice (some ⟨g, 0, none⟩) (treeB l l.length).length cap] ∧ Row w xb 58 #[.pointer (some ⟨sb, 0, none⟩)] ∧ (treeB l l.length).length ≤ cap ∧
    ∀ q c, q < (treeB l l.length).length → c < 2 → w.cell? ⟨g, q * 2 + c, none⟩ = some (.int .i64 (get (treeB l l.length) q c))
theorem RdK.keep {K : Nat → Prop} {w w' : World} {sb : Nat} {l : List Int} {fb xb : Nat} (h : RdK K w sb l fb xb) (kp : Kp K w w') : RdK K w' sb l fb xb := by
  obtain ⟨g, cap, k1, k2, k3, r1, r2, hc, hcl⟩ := h
  refine ⟨g, cap, k1, k2, k3, r1.same (kp.block _ k1), r2.same (kp.block _ k2), hc, fun q c hq hc => ?_⟩
  have := hcl q c hq hc
  simp only [World.cell?, kp.block _ k3] at *
  exact this
theorem RdK.more {K K' : Nat → Prop} {w : World} {sb : Nat} {l : List Int} {fb xb : Nat} (h : RdK K w sb l fb xb) (hK : ∀ k, K k → K' k) : RdK K' w sb l fb xb := by
  obtain ⟨g, cap, k1, k2, k3, h⟩ := h
  exact ⟨g, cap, hK _ k1, hK _ k2, hK _ k3, h⟩
/-- A symbol read: it and the place behind it, or the error. -/
def rdF (l : List Int) (b : List UInt8) (p : Nat) : Except Int (Nat × Nat) :=
  if (Gf.symF l (Gf.bitAt b p) 17 0 0).2.2 = 0 then .ok ((Gf.symF l (Gf.bitAt b p) 17 0 0).1, p + (Gf.symF l (Gf.bitAt b p) 17 0 0).2.1) else .error (Gf.symF l (Gf.bitAt b p) 17 0 0).2.2
/-- How far the reading of a symbol is: n bits, at the place q. -/
structure Wk (fs : List Fk) (bit : Nat → Option Nat) (T : Nat × Nat × Int) (S : List (List Nat × Int)) (n q : Nat) : Prop where
  lt : q < fs.length
  n14 : n ≤ 14
  eq : T = treeF fs bit (16 - n) n q
  path : ∃ P, Tri fs P S [] ∧ (P q).length = n
theorem Wk.none {fs : List Fk} {bit : Nat → Option Nat} {T : Nat × Nat × Int} {S : List (List Nat × Int)} {n q : Nat} (h : Wk fs bit T S n q) (hb : bit n = none) : T = (0, 0, 7) := by
  rw [h.eq, show 16 - n = (15 - n) + 1 by have := h.n14; omega, treeF, hb]
theorem Wk.zero {fs : List Fk} {bit : Nat → Option Nat} {T : Nat × Nat × Int} {S : List (List Nat × Int)} {n q v : Nat} (h : Wk fs bit T S n q) (hb : bit n = some v) (h0 : get fs q v = 0) : T = (0, 0, 8) := by
  rw [h.eq, show 16 - n = (15 - n) + 1 by have := h.n14; omega, treeF, hb]
  simp only [h0, if_true]
theorem Wk.leaf {fs : List Fk} {bit : Nat → Option Nat} {T : Nat × Nat × Int} {S : List (List Nat × Int)} {n q v : Nat} (hS : ∀ k s, (k, s) ∈ S → 0 ≤ s ∧ s < 512) (h : Wk fs bit T S n q) (hb : bit n = some v) (hv : v < 2) (h0 : get fs q v < 0) : ∃ s : Nat, get fs q v = -(s : Int) - 1 ∧ s < 512 ∧ T = (s, n + 1, 0) := by
  obtain ⟨P, ht, _⟩ := h.path
  obtain ⟨s, e1, e2⟩ := ht.leaf q v h.lt hv h0
  have := hS _ _ e2
  refine ⟨s.toNat, by omega, by omega, ?_⟩
  rw [h.eq, show 16 - n = (15 - n) + 1 by have := h.n14; omega, treeF, hb]
  simp only [if_neg (show ¬ get fs q v = 0 by omega), if_pos h0]
  rw [e1, show -(-s - 1) - 1 = s by omega]
theorem Wk.on {fs : List Fk} {bit : Nat → Option Nat} {T : Nat × Nat × Int} {S : List (List Nat × Int)} {n q v : Nat} (hS : ∀ k s, (k, s) ∈ S → k.length ≤ 15) (h : Wk fs bit T S n q) (hb : bit n = some v) (hv : v < 2) (h0 : 0 < get fs q v) : ∃ q' : Nat, get fs q v = (q' : Int) ∧ q' ≠ 0 ∧ Wk fs bit T S (n + 1) q' := by
  obtain ⟨P, ht, hp⟩ := h.path
  obtain ⟨q', e1, e2, e3⟩ := ht.on q v h.lt hv h0
  refine ⟨q', e1, by omega, e2, ?_, ?_, P, ht, by rw [e3, List.length_append, hp]; rfl⟩
  · rcases ht.pre q v h.lt hv h0 with ⟨k, s, hm, h1, h2⟩ | ⟨h1, _⟩
    · have a1 := h1.length_le
      have a2 := hS k s hm
      rw [List.length_append, hp] at a1
      have a3 : (P q ++ [v]).length ≠ k.length := fun e => h2 (h1.eq_of_length e)
      rw [List.length_append, hp] at a3
      simp at a1 a3
      omega
    · have := h1.length_le; simp at this
  · rw [h.eq, show 16 - n = (16 - (n + 1)) + 1 by have := h.n14; omega, treeF, hb]
    simp only [if_neg (show ¬ get fs q v = 0 by omega), if_neg (show ¬ get fs q v < 0 by omega)]
    rw [e1, Int.toNat_natCast]
theorem codes_len {l : List Int} (hA : l.all Gf.lenB = true) : ∀ k s, (k, s) ∈ codesOf l l.length → k.length ≤ 15 := by
  intro k s h
  obtain ⟨i, _, _, _, rfl⟩ := codes_mem h
  rw [bitsH_len]
  exact (Gf.ln_le l hA i).1
theorem codes_sym {l : List Int} (h512 : l.length ≤ 512) : ∀ k s, (k, s) ∈ codesOf l l.length → 0 ≤ s ∧ s < 512 := by
  intro k s h
  obtain ⟨i, rfl, hi, _, _⟩ := codes_mem h
  omega
theorem i64_not_neg (a : Nat) (ha : a < 1000000) : bits .xor .i64 (-1) (-(a : Int) - 1) = (a : Int) := by
  show IntKind.i64.wrap ((BitVec.ofInt 64 (-1) ^^^ BitVec.ofInt 64 (-(a : Int) - 1)).toNat : Int) = _
  have h1 : BitVec.ofInt 64 (-1) = BitVec.allOnes 64 := by decide
  rw [h1, BitVec.allOnes_xor, BitVec.toNat_not, BitVec.toNat_ofInt]
  have h2 : ((-(a : Int) - 1) % ((2 ^ 64 : Nat) : Int)).toNat = 18446744073709551615 - a := by
    rw [show ((2 ^ 64 : Nat) : Int) = 18446744073709551616 from rfl]
    omega
  rw [h2]
  simp [IntKind.wrap, IntKind.bits, IntKind.signed]
  omega
end Go.Proofs.Ytbnghmeeddjaoaa
