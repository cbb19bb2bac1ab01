/- The reference's begins, whole. -/
import Derived.Test.YtfnlnbdlahckeaaDoorTb
import Derived.Test.YtfnlnbdlahckeaaDoorTc
import Derived.Test.YtfnlnbdlahckeaaDoorTe
namespace Go.Proofs.YtfnlnbdlahckeaaDoor
open Go.RowKit Go.BigFrame
set_option linter.unusedVariables false

theorem bg_ok : BgOk := by
  intro S w v b hb hne
  cases b with
  | nil => exact absurd rfl hne
  | cons a t =>
    rw [bg_cons]
    have hlt : a.toNat < 256 := a.toNat_lt
    by_cases h1 : a.toNat < 128
    · rw [if_pos h1]
      by_cases ht : t = []
      · rw [if_pos ht]; exact begins_a S w v a t hb h1 ht
      · rw [if_neg ht]; exact begins_b S w v a t hb h1 (List.length_pos_iff.2 ht)
    · rw [if_neg h1]
      have hc := sz_cases a.toNat
      by_cases hz : sz a.toNat = 0
      · rw [if_pos (by omega)]
        have hr : a.toNat < 194 ∨ 245 ≤ a.toNat := by
          by_cases q1 : a.toNat < 194
          · exact .inl q1
          · by_cases q2 : a.toNat < 224
            · rw [sz2 (by omega) q2] at hz; omega
            · by_cases q3 : a.toNat < 240
              · rw [sz3 (by omega) q3] at hz; omega
              · by_cases q4 : a.toNat < 245
                · rw [sz4 (by omega) q4] at hz; omega
                · exact .inr (by omega)
        rcases hr with h | h
        · exact begins_c S w v a t hb (by omega) h
        · exact begins_d S w v a t hb h
      · have hr : (194 ≤ a.toNat ∧ a.toNat ≤ 223 ∧ sz a.toNat = 2) ∨ (224 ≤ a.toNat ∧ a.toNat ≤ 239 ∧ sz a.toNat = 3) ∨ (240 ≤ a.toNat ∧ a.toNat ≤ 244 ∧ sz a.toNat = 4) := by omega
        have fin : ∀ z : Nat, sz a.toNat = z → ¬ z < t.length + 1 → (Calls Tryd.prog 33 #[v] w fun e w' => e = .returned (.tuple #[.int .i32 (if okF a.toNat 1 t then (val (bse a.toNat) t : Int) else 0), .int .i64 (if okF a.toNat 1 t then (z : Int) else 0)]) ∧ Below w.heap.size w w') →
            Calls Tryd.prog 33 #[v] w fun e w' => e = .returned (.tuple #[.int .i32 (if okF a.toNat 1 t then ((val (bse a.toNat) t : Int), sz a.toNat) else (0, 0) : Int × Nat).1, .int .i64 ((if okF a.toNat 1 t then ((val (bse a.toNat) t : Int), sz a.toNat) else (0, 0) : Int × Nat).2 : Int)]) ∧ Below w.heap.size w w' := by
          intro z hz hl hcall
          refine hcall.mono fun e w' hh => ⟨?_, hh.2⟩
          rw [hh.1, hz]
          cases okF a.toNat 1 t <;> rfl
        rcases hr with ⟨g1, g2, g3⟩ | ⟨g1, g2, g3⟩ | ⟨g1, g2, g3⟩
        · by_cases hl : sz a.toNat < t.length + 1
          · rw [if_pos hl]; exact begins_two S w v a t hb g1 g2 (by omega)
          · rw [if_neg hl]; exact fin 2 g3 (by omega) (beginsL_two S w v a t hb g1 g2 (by omega))
        · by_cases hA : a.toNat = 224
          · by_cases hl : sz a.toNat < t.length + 1
            · rw [if_pos hl]; exact begins_threeA S w v a t hb hA (by omega)
            · rw [if_neg hl]; exact fin 3 g3 (by omega) (beginsL_threeA S w v a t hb hA (by omega))
          · by_cases hB : a.toNat = 237
            · by_cases hl : sz a.toNat < t.length + 1
              · rw [if_pos hl]; exact begins_threeB S w v a t hb hB (by omega)
              · rw [if_neg hl]; exact fin 3 g3 (by omega) (beginsL_threeB S w v a t hb hB (by omega))
            · by_cases hl : sz a.toNat < t.length + 1
              · rw [if_pos hl]; exact begins_three S w v a t hb g1 g2 hA hB (by omega)
              · rw [if_neg hl]; exact fin 3 g3 (by omega) (beginsL_three S w v a t hb g1 g2 hA hB (by omega))
        · by_cases hA : a.toNat = 240
          · by_cases hl : sz a.toNat < t.length + 1
            · rw [if_pos hl]; exact begins_fourA S w v a t hb hA (by omega)
            · rw [if_neg hl]; exact fin 4 g3 (by omega) (beginsL_fourA S w v a t hb hA (by omega))
          · by_cases hB : a.toNat = 244
            · by_cases hl : sz a.toNat < t.length + 1
              · rw [if_pos hl]; exact begins_fourB S w v a t hb hB (by omega)
              · rw [if_neg hl]; exact fin 4 g3 (by omega) (beginsL_fourB S w v a t hb hB (by omega))
            · by_cases hl : sz a.toNat < t.length + 1
              · rw [if_pos hl]; exact begins_four S w v a t hb g1 g2 hA hB (by omega)
              · rw [if_neg hl]; exact fin 4 g3 (by omega) (beginsL_four S w v a t hb g1 g2 hA hB (by omega))
end Go.Proofs.YtfnlnbdlahckeaaDoor
