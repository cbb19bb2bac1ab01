/- What a block tells; the walk of block. -/
import Derived.Test.YtbnghmeeddjaoaaFv
namespace Go.Proofs.Ytbnghmeeddjaoaa
open Go.RowKit Go.BigFrame Gt

/-- What a block tells behind the bit that says whether it is the last one. -/
def blockF (b : List UInt8) (most p : Nat) (out : List UInt8) : Except Int (Nat × List UInt8) :=
  if p + 2 ≤ 8 * b.length then
    if nbr b p 2 = 0 then storedF b most (p + 2) out
    else if nbr b p 2 = 1 then toldF fixS fixD b most (8 * b.length + 1) (p + 2) out
    else if nbr b p 2 = 2 then
      match dynF b (p + 2) with
      | .error x => .error x
      | .ok (q, l1, l2) => toldF l1 l2 b most (8 * b.length + 1) q out
    else .error 8
  else .error 7
/-- What the stream keeps of the fixed codes: nothing yet, or two closures that read by them. -/
def FxOk (K : Nat → Prop) (w : World) (sb : Nat) (fx : Value) : Prop :=
  fx = .pointer none ∨ ∃ cb f1 x1 f2 x2, fx = .pointer (some ⟨cb, 0, none⟩) ∧ K cb ∧ Row w cb 72 #[.func (.func 48) #[] #[.pointer (some ⟨f1, 0, none⟩), .pointer (some ⟨x1, 0, none⟩)], .func (.func 48) #[] #[.pointer (some ⟨f2, 0, none⟩), .pointer (some ⟨x2, 0, none⟩)]] ∧ RdK K w sb fixS f1 x1 ∧ RdK K w sb fixD f2 x2
theorem FxOk.keep {K : Nat → Prop} {w w' : World} {sb : Nat} {fx : Value} (h : FxOk K w sb fx) (kp : Kp K w w') : FxOk K w' sb fx := by
  rcases h with h | ⟨cb, f1, x1, f2, x2, h1, h2, h3, h4, h5⟩
  · exact .inl h
  · exact .inr ⟨cb, f1, x1, f2, x2, h1, h2, h3.same (kp.block cb h2), h4.keep kp, h5.keep kp⟩
theorem FxOk.more {K K' : Nat → Prop} {w : World} {sb : Nat} {fx : Value} (h : FxOk K w sb fx) (hK : ∀ k, K k → K' k) : FxOk K' w sb fx := by
  rcases h with h | ⟨cb, f1, x1, f2, x2, h1, h2, h3, h4, h5⟩
  · exact .inl h
  · exact .inr ⟨cb, f1, x1, f2, x2, h1, hK _ h2, h3, h4.more hK, h5.more hK⟩
/-- How a block ends. -/
def BEnds (K : Nat → Prop) (N : Nat) (w : World) (sb : Nat) (vb : Value) (b : List UInt8) (most : Nat) (r : Except Int (Nat × List UInt8)) (e : Ending) (w' : World) : Prop :=
  Kp K w w' ∧ match r with
    | .ok (p, out) => e = .returned (.tuple #[]) ∧ ∃ (K' : Nat → Prop) (fx : Value), (∀ k, K k → K' k) ∧ FxOk K' w' sb fx ∧ St K' N w' sb vb b p out most fx
    | .error x => e = flt x
theorem BEnds.bad {K : Nat → Prop} {N : Nat} {w w' : World} {sb : Nat} {vb : Value} {b : List UInt8} {most : Nat} {r : Except Int (Nat × List UInt8)} {x : Int} (h : r = .error x) (kp : Kp K w w') : BEnds K N w sb vb b most r (flt x) w' := by subst h; exact ⟨kp, rfl⟩
/-- A part's end is the block's. -/
theorem Ends.block {K K' : Nat → Prop} {N : Nat} {w w1 w' : World} {sb : Nat} {vb : Value} {b : List UInt8} {most : Nat} {fx : Value} {r : Except Int (Nat × List UInt8)} {e : Ending} (h : Ends K' N w1 sb vb b most fx r e w') (hK : ∀ k, K k → K' k) (kp : Kp K w w1) (hf : FxOk K' w1 sb fx) : BEnds K N w sb vb b most r e w' := by
  obtain ⟨kp', h⟩ := h
  refine ⟨kp.trans (kp'.less hK), ?_⟩
  cases r with
  | error x => exact h
  | ok q => exact ⟨h.1, K', fx, hK, hf.keep kp', h.2⟩
theorem St.fix {K : Nat → Prop} {N : Nat} {w : World} {sb : Nat} {vb : Value} {b : List UInt8} {p : Nat} {out : List UInt8} {most : Nat} {fx : Value} (h : St K N w sb vb b p out most fx) (v : Value) : St K N (w.setCell ⟨sb, 4, none⟩ v) sb vb b p out most v := by
  obtain ⟨vo, hr, ho⟩ := h.row
  have hk : ∀ k, K k → (w.setCell ⟨sb, 4, none⟩ v).heap[k]? = w.heap[k]? := fun k hk => Below.heap_setCell _ _ _ _ (fun e => h.sbK (by have e : k = sb := e; rw [← e]; exact hk))
  exact ⟨⟨vo, by simpa using hr.setCell 4 v, ho.same fun g hg => Below.heap_setCell _ _ _ _ (St.ne ho hr g hg)⟩, kt_keep h.kt hk, h.bts.keep fun g hg => ⟨hg, hk g hg⟩, h.sbK, fun k hk => by simpa [World.setCell] using h.kl k hk, h.bl, h.pl, h.ol, h.ml, by simpa [World.setCell] using h.nl⟩
theorem chk_fixS : Gf.chkE fixS = 0 := by decide +kernel
theorem chk_fixD : Gf.chkE fixD = 0 := by decide +kernel
theorem results29 (T : Array Value) (w : World) : (results Try.f29 T).run Try.prog w = .ok (.tuple #[]) w := by
  unfold results
  simp [go_sem]
end Go.Proofs.Ytbnghmeeddjaoaa
