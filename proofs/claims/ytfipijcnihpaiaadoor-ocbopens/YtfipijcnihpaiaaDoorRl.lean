/- What stands while the reference digests, seals or opens. -/
import Derived.Test.YtfipijcnihpaiaaDoorRk
import Derived.Test.YtfipijcnihpaiaaDoorOl
namespace Go.Proofs.YtfipijcnihpaiaaDoor
open Go.RowKit Go.BigFrame

/-- The cipher with its L's in the block ne, an offset in po, a sum in pd. -/
structure En (key : List UInt8) (sb N ne po pd : Nat) (w0 w : World) (o d : List UInt8) : Prop where
  el : Row w ne 54 (elk key sb)
  tb : Row w sb 66 (ag Gf.sbox)
  ro : Row w po 23 (ag o)
  rd : Row w pd 23 (ag d)
  bl : Below N w0 w
  n1 : N ≤ po
  n2 : N ≤ pd
  n3 : po ≠ pd
section
variable {key : List UInt8} {sb N ne po pd : Nat} {w0 w w' : World} {o d : List UInt8}
theorem En.below (h : En key sb N ne po pd w0 w o d) (hb : Below w.heap.size w w') : En key sb N ne po pd w0 w' o d :=
  ⟨h.el.below hb h.el.lt, h.tb.below hb h.tb.lt, h.ro.below hb h.ro.lt, h.rd.below hb h.rd.lt, h.bl.trans (hb.mono (by have := h.n1; have := h.ro.lt; omega)), h.n1, h.n2, h.n3⟩
theorem En.drew (h : En key sb N ne po pd w0 w o d) : En key sb N ne po pd w0 w.drew o d := ⟨h.el, h.tb, h.ro, h.rd, h.bl.drew, h.n1, h.n2, h.n3⟩
theorem En.setO (h : En key sb N ne po pd w0 w o d) (o' : List UInt8) : En key sb N ne po pd w0 (w.setRow po (ag o')) o' d :=
  ⟨h.el.setRowOther _ _ (row_ne h.el h.ro (by decide)), h.tb.setRowOther _ _ (row_ne h.tb h.ro (by decide)), h.ro.setRow _, h.rd.setRowOther _ _ (Ne.symm h.n3), below_setRow h.bl h.n1 _, h.n1, h.n2, h.n3⟩
theorem En.setD (h : En key sb N ne po pd w0 w o d) (d' : List UInt8) : En key sb N ne po pd w0 (w.setRow pd (ag d')) o d' :=
  ⟨h.el.setRowOther _ _ (row_ne h.el h.rd (by decide)), h.tb.setRowOther _ _ (row_ne h.tb h.rd (by decide)), h.ro.setRowOther _ _ h.n3, h.rd.setRow _, below_setRow h.bl h.n2 _, h.n1, h.n2, h.n3⟩
theorem En.apd (h : En key sb N ne po pd w0 w o d) (ha : Apd N w w') : En key sb N ne po pd w0 w' o d :=
  ⟨ha.rows _ _ _ (by decide) h.el, ha.rows _ _ _ (by decide) h.tb, ha.rows _ _ _ (by decide) h.ro, ha.rows _ _ _ (by decide) h.rd, ha.bel _ h.bl, h.n1, h.n2, h.n3⟩
theorem En.setP (h : En key sb N ne po pd w0 w o d) {p n : Nat} (hp : Room w p 23 n) (h1 : p ≠ po) (h2 : p ≠ pd) (hN : N ≤ p) (c : Array Value) : En key sb N ne po pd w0 (w.setRow p c) o d := by
  obtain ⟨c0, hp, _⟩ := hp
  exact ⟨h.el.setRowOther _ _ (row_ne h.el hp (by decide)), h.tb.setRowOther _ _ (row_ne h.tb hp (by decide)), h.ro.setRowOther _ _ (Ne.symm h1), h.rd.setRowOther _ _ (Ne.symm h2), below_setRow h.bl hN _, h.n1, h.n2, h.n3⟩
theorem En.size (h : En key sb N ne po pd w0 w o d) : N ≤ w.heap.size := by have := h.n1; have := h.ro.lt; omega
end
/-- Bytes in blocks that were there at first stay. -/
theorem Bts.up {N : Nat} {w w' : World} {v : Value} {l : List UInt8} (h : Bts (· < N) w v l) (hk : ∀ b, b < N → w'.heap[b]? = w.heap[b]?) : Bts (· < N) w' v l := h.keep fun b hb => ⟨hb, hk b hb⟩
theorem Bts.bel {N : Nat} {w0 w w' : World} {v : Value} {l : List UInt8} (h : Bts (· < N) w v l) (h1 : Below N w0 w) (h2 : Below N w0 w') : Bts (· < N) w' v l :=
  h.up fun b hb => by rw [h2.block b hb, h1.block b hb]
/-- What is left behind sixteen bytes. -/
def rest16 (b o n c : Nat) : Value := if c = 16 then .slice (some ⟨b, o, none⟩) (n - 16) (c - 16) else .slice (some ⟨b, o + 16, none⟩) (n - 16) (c - 16)
theorem Bts.rest {S : Nat → Prop} {w : World} {b o c : Nat} {l : List UInt8} (h16 : 16 ≤ l.length) (hc : l.length ≤ c) (hS : S b) (hr : w.rangeAt b o (l.map B)) : Bts S w (rest16 b o l.length c) (l.drop 16) := by
  have hd : (l.drop 16).length = l.length - 16 := by rw [List.length_drop]
  have hr2 : w.rangeAt b (o + 16) ((l.drop 16).map B) := fun j u hu => by
    rw [List.map_drop, List.getElem?_drop] at hu
    have := hr (16 + j) u hu
    rw [← Nat.add_assoc] at this; exact this
  unfold rest16
  by_cases e : c = 16
  · rw [if_pos e]
    exact ⟨_, _, by rw [hd], by omega, .inl (List.eq_nil_of_length_eq_zero (by omega))⟩
  · rw [if_neg e]
    exact ⟨_, _, by rw [hd], by omega, .inr ⟨b, o + 16, rfl, hS, hr2⟩⟩
theorem Bts.first {S : Nat → Prop} {w : World} {b o c : Nat} {l : List UInt8} (h16 : 16 ≤ l.length) (hc : l.length ≤ c) (hS : S b) (hr : w.rangeAt b o (l.map B)) : Bts S w (.slice (some ⟨b, o, none⟩) 16 c) (l.take 16) := by
  have ht : (l.take 16).length = 16 := by rw [List.length_take]; omega
  refine ⟨_, _, by rw [ht], by omega, .inr ⟨b, o, rfl, hS, fun j u hu => ?_⟩⟩
  refine hr j u ?_
  rw [List.map_take, List.getElem?_take] at hu
  split at hu
  · exact hu
  · cases hu
/-- The cipher of the key, wherever its L's lie. -/
theorem elk_enc (key : List UInt8) {sb : Nat} (b : List UInt8) (hb : b.length = 16) {w : World} (hT : Row w sb 66 (ag Gf.sbox)) :
    Calls Tryd.prog 31 #[.agg (cip (.pointer (some ⟨sb, 0, none⟩)) (Gf.keys Gf.sbox key)), .agg (ag b)] w fun e w' => e = .returned (.agg (ag (Gf.encrypt key b))) ∧ Below w.heap.size w w' :=
  cipher_any Gf.sbox (Gf.keys Gf.sbox key) b Gf.sbox_len (Gf.keys_len _ _) hb w sb hT
theorem cipk_size (key : List UInt8) (sb : Nat) : (cip (.pointer (some ⟨sb, 0, none⟩)) (Gf.keys Gf.sbox key)).size = 177 := by rw [cip_size, Gf.keys_len]
theorem wp_slice {P : Program} {op : Oper} {a : Act} {w : World} {K : Act → World → Prop} {Q : Exit → Act → World → Prop} (t : TypeId) (x : Operand) (lo hi mx : Option Operand) (ho : op.op = .slice t x lo hi mx) (v : Value)
    (hrun : (Instr.sliceAt t (a.eval x) (lo.map a.eval) (hi.map a.eval) (mx.map a.eval)).run P w = .ok v w) (h : K (a.put op.dst v) w) : op.wp P a w K Q :=
  wp_run v (slice_op t x lo hi mx ho v w hrun) h
end Go.Proofs.YtfipijcnihpaiaaDoor
