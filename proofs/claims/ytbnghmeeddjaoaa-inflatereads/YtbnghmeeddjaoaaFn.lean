/- The walk of reader. -/
import Derived.Test.YtbnghmeeddjaoaaFm
namespace Go.Proofs.Ytbnghmeeddjaoaa
open Go.RowKit Go.BigFrame Gt

/-- The closure that reads symbols of the lengths l, from the stream in the block sb. -/
def RdV (N : Nat) (w : World) (sb : Nat) (l : List Int) (u : Value) : Prop :=
  ∃ fb xb fv, u = .func (.func 48) #[] #[.pointer (some ⟨fb, 0, none⟩), .pointer (some ⟨xb, 0, none⟩)] ∧ N ≤ fb ∧ N ≤ xb ∧ Row w fb 79 #[fv] ∧ Row w xb 58 #[.pointer (some ⟨sb, 0, none⟩)] ∧ OwnF N w fv (treeB l l.length)
set_option maxRecDepth 100000 in
set_option maxHeartbeats 2000000 in
theorem reader_any (sb : Nat) (v : Value) (l : List Int) (hl : l.length ≤ 17592186044416) (w : World) (h : Ints w.heap.size w v l) :
    Calls Try.prog 37 #[.pointer (some ⟨sb, 0, none⟩), v] w fun e w' => Below w.heap.size w w' ∧ ((Gf.chkE l = 0 ∧ ∃ u, e = .returned u ∧ RdV w.heap.size w' sb l u) ∨ (Gf.chkE l ≠ 0 ∧ e = flt 8)) := by
  have hmf : ∀ (fn : Fn) (first cap : Array Value) (w : World), (Instr.makeFunc fn first cap).run Try.prog w = .ok (.func fn first cap) w := fun _ _ _ _ => rfl
  have b1 := (Below.refl w.heap.size w).alloc (Nat.le_refl _) (.cells #[.pointer (some ⟨sb, 0, none⟩)] 58)
  have r1 := Row.new w 58 #[.pointer (some ⟨sb, 0, none⟩)]
  have ht := tree_any v l hl _ (h.on b1)
  have hz1 : (w.alloc (.cells #[.pointer (some ⟨sb, 0, none⟩)] 58)).heap.size = w.heap.size + 1 := by simp
  have B1 := Box'.mk b1
  have R1 := Box'.mk r1
  have HZ := Box'.mk hz1
  clear h b1 r1 hz1
  go_enter Try.func37, Try.ntmps37
  go_wp2_with fail
  refine ht.mono ?_
  clear ht
  rintro e w2 ⟨b2, ⟨h0, u, rfl, ho⟩ | ⟨h0, rfl⟩⟩
  · have r2 := R1.out.below b2 R1.out.lt
    have bl2 := B1.out.trans (b2.mono (by rw [HZ.out]; omega))
    have hsl : ∃ a c m, u = .slice a m c := by
      rcases ho.2 with ⟨e, _⟩ | ⟨g, cap, cur, e1, _⟩
      · exact ⟨_, _, _, e⟩
      · exact ⟨_, _, _, e1⟩
    have O2 := Box'.mk ho
    have R2 := Box'.mk r2
    have BL2 := Box'.mk bl2
    have H0 := Box'.mk h0
    obtain ⟨a, c, m, rfl⟩ := hsl
    clear b2 ho r2 bl2 h0 B1 R1
    go_wp2_with fail
    go_ret
    have hz2 := BL2.out.size
    refine ⟨BL2.out.alloc (by omega) _, .inl ⟨H0.out, _, rfl, w2.heap.size, w.heap.size, .slice a m c, rfl, by omega, Nat.le_refl _, Row.new _ _ _, R2.out.alloc _, ?_⟩⟩
    have o3 := O2.out
    rw [HZ.out] at o3
    refine ⟨o3.1, ?_⟩
    rcases o3.2 with h2 | ⟨q, cap, cur, e1, e2, e3, e4⟩
    · exact .inl h2
    · exact .inr ⟨q, cap, cur, e1, by omega, by rw [Below.heap_alloc _ _ _ (Array.getElem?_eq_some_iff.1 e3).1]; exact e3, e4⟩
  · exact ⟨rfl, B1.out.trans (b2.mono (by rw [HZ.out]; omega)), .inr ⟨h0, rfl⟩⟩
end Go.Proofs.Ytbnghmeeddjaoaa
