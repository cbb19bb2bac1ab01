/- Widths: the tables, what is in spans, widths of numbers and of texts. -/
import Derived.Test.YtnbonlkmadmpcaaL
namespace Go.Proofs.Ytnbonlkmadmpcaa
set_option linter.unusedVariables false

def wideL : List (Int × Int) := [(4352, 4447), (8986, 8987), (9001, 9002), (9193, 9196), (9725, 9726), (9748, 9749), (9800, 9811), (9889, 9889), (9917, 9918), (9989, 9989), (10024, 10024), (10060, 10060), (10067, 10069), (10133, 10135), (11035, 11036), (11088, 11088), (11904, 12350), (12353, 13311), (13312, 19903), (19968, 40959), (40960, 42191), (44032, 55203), (63744, 64255), (65072, 65135), (65281, 65376), (65504, 65510), (127744, 127776), (127789, 127797), (127799, 127868), (128000, 128062), (128064, 128064), (128066, 128252), (128512, 128591), (128640, 128709), (129280, 129535), (131072, 196605), (196608, 262141)]
def zeroL : List (Int × Int) := [(768, 879), (1155, 1161), (1425, 1469), (1471, 1471), (1473, 1474), (1552, 1562), (1611, 1631), (1750, 1756), (2304, 2306), (2364, 2364), (2369, 2376), (2381, 2381), (3633, 3633), (3636, 3642), (6832, 6911), (7616, 7679), (8203, 8207), (8234, 8238), (8288, 8292), (8400, 8447), (12330, 12333), (12441, 12442), (65024, 65039), (65056, 65071), (65279, 65279), (917760, 917999)]
def inF (l : List (Int × Int)) (c : Int) : Bool := l.any fun p => decide (p.1 ≤ c ∧ c ≤ p.2)
def hw (c : Int) : Bool := decide (32 ≤ c ∧ c ≤ 1114111) && !decide (127 ≤ c ∧ c ≤ 159) && !decide (55296 ≤ c ∧ c ≤ 57343)
def ofF (c : Int) : Int := if hw c then (if inF zeroL c then 0 else if inF wideL c then 2 else 1) else -1
def txtF (l : List Int) : Int := (l.map fun c => max (ofF c) 0).sum
/-- Spans that rise: none is empty, each begins behind the end of the one ahead. -/
def Rises (l : List (Int × Int)) : Prop := ∀ i, i < l.length → (l.getD i (0, 0)).1 ≤ (l.getD i (0, 0)).2 ∧ (0 < i → (l.getD (i - 1) (0, 0)).2 < (l.getD i (0, 0)).1)
theorem rises_wide : Rises wideL := by unfold Rises; decide +kernel
theorem rises_zero : Rises zeroL := by unfold Rises; decide +kernel
theorem Rises.le {l : List (Int × Int)} (h : Rises l) : ∀ d i, i + d < l.length → (l.getD i (0, 0)).1 ≤ (l.getD (i + d) (0, 0)).1 ∧ (l.getD i (0, 0)).2 ≤ (l.getD (i + d) (0, 0)).2
  | 0, i, _ => ⟨Int.le_refl _, Int.le_refl _⟩
  | d + 1, i, hi => by
    have h1 := h.le d i (by omega)
    have h2 := h (i + d) (by omega)
    have h3 := h (i + (d + 1)) hi
    have h4 := h3.2 (by omega)
    rw [show i + (d + 1) - 1 = i + d by omega] at h4
    omega
theorem in_iff (l : List (Int × Int)) (c : Int) : inF l c = true ↔ ∃ i, i < l.length ∧ (l.getD i (0, 0)).1 ≤ c ∧ c ≤ (l.getD i (0, 0)).2 := by
  unfold inF
  rw [List.any_eq_true]
  constructor
  · rintro ⟨p, hp, h⟩
    obtain ⟨i, hi, rfl⟩ := List.mem_iff_getElem.1 hp
    exact ⟨i, hi, by simpa [hi] using h⟩
  · rintro ⟨i, hi, h⟩
    exact ⟨l[i], List.getElem_mem hi, by simpa [hi] using h⟩
theorem in_none {l : List (Int × Int)} {c : Int} (h : ∀ i, i < l.length → ¬ ((l.getD i (0, 0)).1 ≤ c ∧ c ≤ (l.getD i (0, 0)).2)) : inF l c = false := by
  rw [Bool.eq_false_iff]
  intro h1
  obtain ⟨i, hi, h2⟩ := (in_iff l c).1 h1
  exact h i hi h2
theorem wide_lo : ∀ i, i < wideL.length → 768 ≤ (wideL.getD i (0, 0)).1 := by decide +kernel
theorem zero_lo : ∀ i, i < zeroL.length → 768 ≤ (zeroL.getD i (0, 0)).1 := by decide +kernel
theorem of_low {c : Int} (h : hw c = true) (hc : c < 768) : ofF c = 1 := by
  unfold ofF
  rw [if_pos h, in_none (fun i hi h => by have := zero_lo i hi; omega), in_none (fun i hi h => by have := wide_lo i hi; omega)]
  rfl
theorem of_cases (c : Int) : ofF c = -1 ∨ ofF c = 0 ∨ ofF c = 1 ∨ ofF c = 2 := by
  unfold ofF
  split
  · split
    · simp
    · split <;> simp
  · simp
theorem txt_app (a b : List Int) : txtF (a ++ b) = txtF a + txtF b := by simp [txtF]
theorem txt_bd : ∀ l : List Int, 0 ≤ txtF l ∧ txtF l ≤ 2 * l.length
  | [] => by simp [txtF]
  | c :: l => by
    have h := txt_bd l
    have h2 := of_cases c
    simp only [txtF, List.map_cons, List.sum_cons, List.length_cons] at *
    omega
theorem txt_take {l : List Int} {k : Nat} (h : k < l.length) : txtF (l.take (k + 1)) = txtF (l.take k) + max (ofF (l.getD k 0)) 0 := by
  rw [List.take_succ_eq_append_getElem h, txt_app]
  simp [txtF, h]
end Go.Proofs.Ytnbonlkmadmpcaa
