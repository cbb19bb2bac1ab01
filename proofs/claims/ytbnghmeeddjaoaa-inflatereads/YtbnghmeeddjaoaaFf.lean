/- What stands beside the stream; the lengths of the nineteen. -/
import Derived.Test.YtbnghmeeddjaoaaFe
namespace Go.Proofs.Ytbnghmeeddjaoaa
open Go.RowKit Go.BigFrame

section
variable {K : Nat → Prop} {N : Nat} {w : World} {sb : Nat} {vb : Value} {b : List UInt8} {p : Nat} {out : List UInt8} {most : Nat} {fx : Value}
/-- A block more that is to stay. -/
theorem St.more (h : St K N w sb vb b p out most fx) (g : Nat) {t : TypeId} {cur : Array Value} (r : Row w g t cur) (ht : t ≠ 5) (hs : g ≠ sb) : St (fun k => K k ∨ k = g) N w sb vb b p out most fx := by
  refine ⟨h.row, ?_, h.bts.keep fun g hg => ⟨.inl hg, rfl⟩, fun hh => ?_, fun k hk => ?_, h.bl, h.pl, h.ol, h.ml, h.nl⟩
  · rintro k (hk | rfl)
    · exact h.kt k hk
    · refine .inr fun c hc => ht ?_
      unfold Row at r hc
      rw [r] at hc
      simp at hc
      exact hc.2
  · rcases hh with hh | hh
    · exact h.sbK hh
    · exact hs hh.symm
  · rcases hk with hk | rfl
    · exact h.kl k hk
    · exact r.lt
theorem St.back {K' : Nat → Prop} {w' : World} {p' : Nat} {out' : List UInt8} (h : St K N w sb vb b p out most fx) (h' : St K' N w' sb vb b p' out' most fx) (kp : Kp K w w') : St K N w' sb vb b p' out' most fx :=
  ⟨h'.row, kt_keep h.kt kp.block, h.bts.keep fun g hg => ⟨hg, kp.block g hg⟩, h.sbK, fun k hk => Nat.lt_of_lt_of_le (h.kl k hk) kp.size, h'.bl, h'.pl, h'.ol, h'.ml, h'.nl⟩
theorem St.alloc (h : St K N w sb vb b p out most fx) (o : Obj) : St K N (w.alloc o) sb vb b p out most fx := by
  obtain ⟨vo, hr, ho⟩ := h.row
  have hk : ∀ k, k < w.heap.size → (w.alloc o).heap[k]? = w.heap[k]? := fun k hk => Below.heap_alloc _ _ _ hk
  refine ⟨⟨vo, hr.alloc o, ho.same fun g hg => ?_⟩, kt_keep h.kt fun k hk' => hk k (h.kl k hk'), h.bts.keep fun g hg => ⟨hg, hk g (h.kl g hg)⟩, h.sbK, fun k hk' => ?_, h.bl, h.pl, h.ol, h.ml, ?_⟩
  · obtain ⟨-, cur, r⟩ := ho.lt g hg
    exact hk g r.lt
  · have := h.kl k hk'; simp; omega
  · have := h.nl; simp; omega
theorem St.other (h : St K N w sb vb b p out most fx) (g o : Nat) (v : Value) {t : TypeId} {cur : Array Value} (r : Row w g t cur) (ht : t ≠ 5) (hs : g ≠ sb) (hg : ¬ K g) : St K N (w.setCell ⟨g, o, none⟩ v) sb vb b p out most fx := by
  obtain ⟨vo, hr, ho⟩ := h.row
  have hk : ∀ k, k ≠ g → (w.setCell ⟨g, o, none⟩ v).heap[k]? = w.heap[k]? := fun k hk => Below.heap_setCell _ _ _ _ hk
  have hne : ∀ k, K k → k ≠ g := fun k hk e => hg (e ▸ hk)
  refine ⟨⟨vo, hr.same (hk sb (Ne.symm hs)), ho.same fun q hq => hk q ?_⟩, kt_keep h.kt fun k hk' => hk k (hne k hk'), h.bts.keep fun q hq => ⟨hq, hk q (hne q hq)⟩, h.sbK, fun k hk' => by simpa [World.setCell] using h.kl k hk', h.bl, h.pl, h.ol, h.ml, by simpa [World.setCell] using h.nl⟩
  rintro rfl
  obtain ⟨-, c2, r2⟩ := ho.lt q hq
  unfold Row at r r2
  rw [r] at r2
  simp at r2
  exact ht r2.2
end
def ordL : List Int := [16, 17, 18, 0, 8, 7, 9, 6, 10, 5, 11, 4, 12, 3, 13, 2, 14, 1, 15]
/-- The lengths of the nineteen, when so many are read. -/
def kindL (b : List UInt8) (p : Nat) : Nat → List Int
  | 0 => List.replicate 19 0
  | k + 1 => (kindL b p k).set (ordL.getD k 0).toNat ((nbr b (p + 3 * k) 3 : Nat) : Int)
theorem kindL_len (b : List UInt8) (p : Nat) : ∀ k, (kindL b p k).length = 19
  | 0 => rfl
  | k + 1 => by rw [kindL, List.length_set, kindL_len b p k]
theorem ordL_lt : ∀ k, k < 19 → ∃ i : Nat, ordL.getD k 0 = (i : Int) ∧ i < 19 := by
  intro k hk
  have h : ∀ k, k < 19 → 0 ≤ ordL.getD k 0 ∧ ordL.getD k 0 < 19 := by decide +kernel
  obtain ⟨h1, h2⟩ := h k hk
  exact ⟨(ordL.getD k 0).toNat, by omega, by omega⟩
end Go.Proofs.Ytbnghmeeddjaoaa
