/- Bytes of their own, and marks in every place. -/
import Derived.Test.YthcokaffbgbanaaDoorXf
namespace Go.Proofs.YthcokaffbgbanaaDoor
open Go.RowKit Go.BigFrame

set_option maxRecDepth 100000 in
theorem Tryd.info5o : ∃ i, Tryd.prog.info? 5 = some i ∧ i.zero = some (.int .u8 0) ∧ i.size = 1 ∧ i.bytes = 1 := ⟨_, rfl, rfl, rfl, rfl⟩
set_option maxRecDepth 100000 in
theorem one_B (l : List UInt8) : ∀ u ∈ l.map B, u.oneCell' = true := by
  intro u hu
  obtain ⟨x, _, rfl⟩ := List.mem_map.1 hu
  rfl
set_option maxRecDepth 100000 in
set_option maxHeartbeats 1000000 in
theorem copy_any (S : Nat → Prop) (v : Value) (l : List UInt8) (w : World) (h : Bts S w v l) (hS : ∀ b, S b → b < w.heap.size) (hm : l.length ≤ 140737488351232) :
    Calls Tryd.prog 27 #[v] w fun e w' => ∃ g cap, e = .returned (.slice (some ⟨g, 0, none⟩) l.length cap) ∧ Buf w' g cap l ∧ w.heap.size ≤ g ∧ Below w.heap.size w w' := by
  have b0 : Below w.heap.size w (w.alloc (.cells #[] 5)) := (Below.refl _ _).alloc (Nat.le_refl _) _
  have h' : Bts S (w.alloc (.cells #[] 5)) v l := h.keep fun b hb => ⟨hb, b0.block b (hS b hb)⟩
  clear h
  obtain ⟨a, c, rfl, hc, h3⟩ := h'
  have buf0 : Buf (w.alloc (.cells #[] 5)) w.heap.size 0 [] := ⟨rfl, .inr ⟨_, _, #[], rfl, Nat.zero_le _, Row.new w 5 #[], Nat.le_refl _, Nat.zero_le _, rfl, rfl⟩⟩
  have hz : (w.alloc (.cells #[] 5)).heap.size = w.heap.size + 1 := by simp
  cases a with
  | none =>
    obtain rfl : l = [] := by
      rcases h3 with h3 | ⟨b, o, h3, _⟩
      · exact h3
      · cases h3
    go_enter Tryd.func27, Tryd.ntmps27
    go_wp2
    go_ret
    exact ⟨_, _, rfl, buf0, Nat.le_refl _, b0⟩
  | some ad =>
    have hcl : ∀ j u, (l.map B)[j]? = some u → (w.alloc (.cells #[] 5)).cell? (ad.add j) = some u := by
      intro j u hu
      rcases h3 with rfl | ⟨b, o, h4, h5, h6⟩
      · simp at hu
      · injection h4 with h4
        subst h4
        rw [Addr.add_mid]
        exact h6 j u hu
    obtain ⟨i0, i1, i2, i3, i4⟩ := Tryd.info5o
    clear h3
    go_enter Tryd.func27, Tryd.ntmps27
    go_wp2_with (first
      | (refine wpList_append_at rfl (.tmp 3) (.tmp 4) 26 rfl 5 i0 _ 1 1 Tryd.underlying26 i1 i2 i3 i4 rfl (by decide) w.heap.size 0 0 [] rfl buf0 ad l.length c (l.map B) rfl (by rw [List.length_map, Nat.mul_one]) hcl (one_B l) (by unfold maxLen; omega) (by omega) (fun g cp w' ho hg hnew => ?_))
      | fail)
    rw [Nat.zero_add, List.nil_append] at ho
    have hB : Below w.heap.size w w' := ⟨hg.os.trans b0.os, hg.tape.trans b0.tape, hg.output.trans b0.output, Nat.le_trans b0.size hg.size, fun k hk => (hg.block k (by omega) (by simp; omega)).trans (b0.block k hk)⟩
    have hgg : w.heap.size ≤ g := by omega
    clear hg hnew hcl b0 buf0 hz i1 i2 i3 i4
    go_wp2
    go_ret
    exact ⟨_, _, rfl, ho, hgg, hB⟩
end Go.Proofs.YthcokaffbgbanaaDoor
