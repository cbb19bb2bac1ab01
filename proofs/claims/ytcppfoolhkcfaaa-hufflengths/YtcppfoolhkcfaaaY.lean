/- The walk of the reference's high. -/
import Derived.Test.YtcppfoolhkcfaaaX
namespace Go.Proofs.Ytcppfoolhkcfaaa
open Go.RowKit Go.BigFrame

theorem made_ints (n : Nat) : madeCells #[.int .i64 0] n = ai (List.replicate n 0) := by
  apply Array.ext
  · simp [ai, madeCells]
  · intro j h1 h2
    simp only [madeCells, ai, Array.getElem_map, List.getElem_toArray, List.getElem_map, Array.getElem_range, List.getElem_replicate]
    have : j % (#[Value.int .i64 0] : Array Value).size = 0 := Nat.mod_one j
    rw [this]; rfl
theorem Try.info3' : ∃ i, Try.prog.info? 3 = some i ∧ i.zero = some (.int .i64 0) ∧ i.size = 1 ∧ i.bytes = 8 := ⟨_, rfl, rfl, rfl, rfl⟩
/-- so many numbers are made -/
theorem wpList_make_ints {ops : Array Oper} {rest : List Oper} {op : Oper} {a : Act} {w : World} {Q : Exit → Act → World → Prop}
    (hgd : op.guard = none) (x y : Operand) (ho : op.op = .makeSlice 22 x y) (L C : Int) (n : Nat) (hx : a.eval x = .int .i64 L) (hy : a.eval y = .int .i64 C) (hL : L = (n : Int)) (hC : C = (n : Int)) (hn : n ≤ 65536)
    (h : wpList Try.prog ops Q rest (a.put op.dst (.slice (some ⟨w.heap.size, 0, none⟩) n n)) (w.alloc (.cells (ai (List.replicate n 0)) 3))) : wpList Try.prog ops Q (op :: rest) a w := by
  obtain ⟨i, h1, h2, h3, h4⟩ := Try.info3'
  have hrun := run_make (P := Try.prog) w 22 3 i _ Try.underlying22 h1 h2 .i64 .i64 (n : Int) (n : Int) (by omega) (Int.le_refl _) (by rw [h4]; omega) (by omega)
  rw [h3, Int.toNat_natCast, Nat.mul_one, show (Value.int .i64 0).cells = #[.int .i64 0] from rfl, made_ints] at hrun
  refine wpList_plain hgd fun K hK' => ?_
  subst hL hC
  unfold Oper.wp
  simp only [execOp, ho, hx, hy, Sem.run_bind, hrun, Result.andThen_ok]
  exact hK' _ _ h

def hgs (l : List Int) (m k : Nat) : List Int := (List.range l.length).map fun i => if Gf.ln l i < m ∨ (Gf.ln l i = m ∧ i < k) then (Gf.cod l i : Int) else 0
def cdi (l : List Int) : List Int := (List.range l.length).map fun i => (Gf.cod l i : Int)
theorem hgs_len (l : List Int) (m k : Nat) : (hgs l m k).length = l.length := by simp [hgs]
theorem hgs_zero (l : List Int) (hA : l.all Gf.lenB = true) (hW : Gf.wgt l ≤ 32768) : hgs l 1 0 = List.replicate l.length 0 := by
  unfold hgs
  apply List.ext_getElem
  · simp
  · intro i h1 h2
    simp only [List.length_map, List.length_range] at h1
    simp only [List.getElem_map, List.getElem_range, List.getElem_replicate]
    split
    · rename_i h; rw [Gf.cod_zero l hA hW i h1 (by omega)]; rfl
    · rfl
theorem hgs_turn (l : List Int) (m : Nat) : hgs l m l.length = hgs l (m + 1) 0 := by
  unfold hgs
  apply List.map_congr_left
  intro i hi
  have := List.mem_range.1 hi
  by_cases h : Gf.ln l i < m + 1
  · rw [if_pos (by omega), if_pos (by omega)]
  · rw [if_neg (by omega), if_neg (by omega)]
theorem hgs_all (l : List Int) (hA : l.all Gf.lenB = true) : hgs l 16 0 = cdi l := by
  unfold hgs cdi
  apply List.map_congr_left
  intro i _
  rw [if_pos (by have := (Gf.ln_le l hA i).1; omega)]
theorem hgs_set (l : List Int) (m k : Nat) (h : Gf.ln l k = m) : (hgs l m k).set k (Gf.cod l k : Int) = hgs l m (k + 1) := by
  apply List.ext_getElem
  · simp [hgs]
  · intro i h1 h2
    simp only [hgs, List.getElem_set, List.getElem_map, List.getElem_range]
    by_cases e : k = i
    · subst e; rw [if_pos rfl, if_pos (by omega)]
    · rw [if_neg e]
      by_cases h3 : Gf.ln l i < m ∨ (Gf.ln l i = m ∧ i < k)
      · rw [if_pos h3, if_pos (by omega)]
      · rw [if_neg h3, if_neg (by omega)]
theorem hgs_skip (l : List Int) (m k : Nat) (h : Gf.ln l k ≠ m) : hgs l m (k + 1) = hgs l m k := by
  unfold hgs
  apply List.map_congr_left
  intro i _
  by_cases h3 : Gf.ln l i < m ∨ (Gf.ln l i = m ∧ i < k)
  · rw [if_pos h3, if_pos (by omega)]
  · have : ¬ (Gf.ln l i < m ∨ (Gf.ln l i = m ∧ i < k + 1)) := by
      intro h4
      rcases h4 with h4 | ⟨h4, h5⟩
      · exact h3 (.inl h4)
      · have : i = k := Classical.byContradiction fun hne => h3 (.inr ⟨h4, by omega⟩)
        subst this; exact h h4
    rw [if_neg h3, if_neg this]

theorem wrap_small (z : Nat) (h : z ≤ 65536) : wrap64 (z : Int) = (z : Int) := by
  unfold wrap64; omega
theorem add_pow (y m : Nat) (hy : y ≤ 32768) (hm : 1 ≤ m) : wrap64 ((y : Int) + wrap64 (2 ^ (15 - m))) = ((y + 2 ^ (15 - m) : Nat) : Int) := by
  have e0 : ((2 : Int) ^ (15 - m)) = ((2 ^ (15 - m) : Nat) : Int) := by simp
  have hp : 2 ^ (15 - m) ≤ 2 ^ 14 := Nat.pow_le_pow_right (by decide) (by omega)
  have e : (y : Int) + 2 ^ (15 - m) = ((y + 2 ^ (15 - m) : Nat) : Int) := by simp
  rw [e0, wrap_small _ (by omega), ← e0, e]
  exact wrap_small _ (by omega)

set_option maxRecDepth 100000 in
set_option maxHeartbeats 2000000 in
theorem high_any (v : Value) (l : List Int) (hA : l.all Gf.lenB = true) (hW : Gf.wgt l ≤ 32768) (h512 : l.length ≤ 512) (w : World) (h : Ints w.heap.size w v l) :
    Calls Try.prog 25 #[v] w fun e w' => ∃ g, e = .returned (.slice (some ⟨g, 0, none⟩) l.length l.length) ∧ w.heap.size ≤ g ∧ Row w' g 3 (ai (cdi l)) ∧ Below w.heap.size w w' := by
  obtain ⟨a, c, rfl, hc, h3⟩ := h
  have HCL := Box'.mk (Ints.cells h3)
  have EB : Box' (∀ n k, n ≤ 15 → k ≤ l.length → Gf.nxt l n k ≤ 32768) := ⟨fun n k h1 h2 => Nat.le_trans (Gf.nxt_le l hA n k h1 h2) hW⟩
  have LN : Box' (∀ k, l.getD k 0 = (Gf.ln l k : Int) ∧ Gf.ln l k ≤ 15) := ⟨fun k => ⟨(Gf.ln_le l hA k).2, (Gf.ln_le l hA k).1⟩⟩
  have H0 := Box'.mk (hgs_zero l hA hW)
  have HT := Box'.mk (hgs_turn l)
  have HF := Box'.mk (hgs_all l hA)
  have HS := Box'.mk (hgs_set l)
  have HK := Box'.mk (hgs_skip l)
  have HL := Box'.mk (hgs_len l)
  have NS : Box' (∀ k, k < l.length → Gf.ln l k ≠ 0 → Gf.nxt l (Gf.ln l k) (k + 1) = Gf.nxt l (Gf.ln l k) k + 2 ^ (15 - Gf.ln l k)) := ⟨Gf.nxt_succ l hA⟩
  have NO : Box' (∀ m k, k < l.length → Gf.ln l k ≠ m → Gf.nxt l m (k + 1) = Gf.nxt l m k) := ⟨fun m k hk hne => Gf.nxt_other l m k hk (by have := (Gf.ln_le l hA k).2; omega)⟩
  have NT : Box' (∀ m, Gf.nxt l m l.length = Gf.nxt l (m + 1) 0) := ⟨fun m => by unfold Gf.nxt; rw [Gf.low_succ, Gf.eqk_zero]; rfl⟩
  have N1 : Box' (Gf.nxt l 1 0 = 0) := ⟨by unfold Gf.nxt; rw [Gf.low_one l hA, Gf.eqk_zero]⟩
  have CD : Box' (∀ k, Gf.cod l k = Gf.nxt l (Gf.ln l k) k / 2 ^ (15 - Gf.ln l k)) := ⟨fun k => rfl⟩
  generalize hn : l.length = n at *
  clear h3 hA hW hn
  go_enter Try.func25, Try.ntmps25
  go_wp2_with (refine wpList_make_ints rfl _ _ rfl _ _ n rfl rfl rfl rfl (by omega) ?_)
  go_loopw [4, 5] (fun t j wr => ∃ m x : Nat, 1 ≤ m ∧ m ≤ 16 ∧ j = .int .i64 (m : Int) ∧ t = .int .i64 (x : Int) ∧ Box' (x = Gf.nxt l m 0) ∧ Row wr w.heap.size 3 (ai (hgs l m 0)) ∧ Below w.heap.size w wr) (fun _ j _ => 16 - (intOf j).toNat)
  case atStart => exact ⟨1, 0, by omega, by omega, rfl, rfl, ⟨N1.out.symm⟩, by rw [H0.out]; exact Row.new _ _ _, (Below.refl _ _).alloc (Nat.le_refl _) _⟩
  case round =>
    obtain ⟨m, x, hm1, hm2, rfl, rfl, HX, r1, hbl⟩ := hrel
    by_cases hlt : m ≤ 15
    · clear H0 N1 HF
      go_wp2_with fail
      go_loopw [4, 6] (fun t i wr => ∃ k y : Nat, k ≤ n ∧ i = .int .i64 (k : Int) ∧ t = .int .i64 (y : Int) ∧ Box' (y = Gf.nxt l m k) ∧ Row wr w.heap.size 3 (ai (hgs l m k)) ∧ Below w.heap.size w wr) (fun _ i _ => n - (intOf i).toNat)
      case atStart => exact ⟨0, x, by omega, rfl, rfl, HX, r1, hbl⟩
      case round =>
        clear r1 hbl HX
        obtain ⟨k, y, hk, rfl, rfl, HY, r1, hbl⟩ := hrel
        by_cases hlk : k < n
        · obtain ⟨b, o, rfl, hbw, c0⟩ := HCL.out k hlk
          obtain ⟨hx, hx15⟩ := LN.out k
          obtain ⟨hc0, -⟩ := bcell hbl
          rw [← hc0 _ _ hbw, hx] at c0
          by_cases he : Gf.ln l k = m
          · have hEB := EB.out m k hlt (by omega)
            have HSk := Box'.mk (HS.out m k he)
            have NSk := NS.out k hlk (by omega)
            rw [he] at NSk c0
            have NSk := Box'.mk NSk
            have CDk := CD.out k
            rw [he] at CDk
            have CDk := Box'.mk CDk
            have f0 := r1.frozen k
            have c1 := r1.int (k := k) (by rw [HL.out]; omega)
            rw [← HY.out] at hEB
            clear HCL EB LN HT HS HK NS NO NT CD hc0 hx
            go_wp2_with fail
            refine ⟨⟨k + 1, y + 2 ^ (15 - m), by omega, by go_num, by rw [add_pow y m hEB hm1], ⟨by rw [NSk.out, HY.out]⟩, ?_, hbl.setCell (Nat.le_refl _) _⟩, by simp [intOf]; omega⟩
            have e : ((y : Int) / 2 ^ (15 - m)) = ((Gf.cod l k : Nat) : Int) := by
              rw [CDk.out, ← HY.out]; simp
            rw [e, ← HSk.out]
            exact r1.setInt k _
          · have HKk := Box'.mk (HK.out m k he)
            have NOk := Box'.mk (NO.out m k hlk he)
            have i0 : ((Gf.ln l k : Int) == (m : Int)) = false := by rw [beq_eq_false_iff_ne]; omega
            generalize Gf.ln l k = s at *
            clear HCL EB LN HT HS HK NS NO NT CD hc0 hx
            go_wp2_with fail
            exact ⟨⟨k + 1, y, by omega, by go_num, rfl, ⟨by rw [NOk.out]; exact HY.out⟩, by rw [HKk.out]; exact r1, hbl⟩, by simp [intOf]; omega⟩
        · obtain rfl : k = n := by omega
          have NTm := Box'.mk (NT.out m)
          have HTm := Box'.mk (HT.out m)
          clear HCL EB LN HT HS HK NS NO NT CD
          go_wp2_with fail
          exact ⟨⟨m + 1, y, by omega, by omega, by go_num, rfl, ⟨by rw [← NTm.out]; exact HY.out⟩, by rw [← HTm.out]; exact r1, hbl⟩, by simp [intOf]; omega⟩
    · obtain rfl : m = 16 := by omega
      rw [HF.out] at r1
      clear HCL EB LN HT HS HK NS NO NT CD
      go_wp2_with fail
      go_ret
      exact ⟨w.heap.size, rfl, Nat.le_refl _, r1, hbl⟩
end Go.Proofs.Ytcppfoolhkcfaaa
