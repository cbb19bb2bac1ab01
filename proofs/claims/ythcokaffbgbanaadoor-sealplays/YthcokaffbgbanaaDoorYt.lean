/- What SealPlays is handed: plays. -/
import Derived.Test.YthcokaffbgbanaaDoorYs
import Derived.Test.YthcokaffbgbanaaDoorYn
import Derived.Test.YthcokaffbgbanaaDoorYj
namespace Go.Proofs.YthcokaffbgbanaaDoor
open Go.ChangeShapes Go.WideShapes Go.RowKit
set_option linter.unusedVariables false
theorem Tryd.cells61 : Tryd.prog.cellsOf 61 = 4 := by kernel_rfl
theorem Tryd.bytes61 : Tryd.prog.bytesOf 61 = 32 := by kernel_rfl
set_option maxRecDepth 100000 in
theorem open_plays {H : Type} {enc : TypeId × Value → H} {W : World} {base R : Nat} {v : Value} {fuel : Nat} {x : DataW H × List MemPlace} (hok : Value.okWide Tryd.prog W .any base 46 v) (h : DataW.trod enc Tryd.prog W 0 (fun _ => true) true fuel 46 v.cells.toList = some x)
    (hw : ∀ y ∈ DataW.weights Tryd.prog 46 x.1, y ≤ R) : ∃ (la : Option Addr) (ln lc : Nat) (ls : List Ply), v = .slice la ln lc ∧ ls.length = ln ∧ ln * 32 ≤ R ∧ Plys W.heap.size W la ls := by
  unfold Value.okWide at hok
  rw [Tryd.underlying46] at hok
  have hc1 : v.cells.toList = [v] := by
    unfold Cell.okWide at hok
    rw [Tryd.underlying46] at hok
    cases v <;> first | rfl | (simp only [Cell.ok, Tryd.underlying46] at hok)
  rw [hc1] at h
  rcases Deep.open_slice Tryd.underlying46 h with ⟨e, _⟩ | ⟨a, len, cap, m, n, D, Pl, e, hb, hl, hm, hmm, hx, hc⟩
  · simp only [List.cons.injEq, and_true] at e
    subst e
    exact ⟨none, 0, 0, [], rfl, rfl, by omega, fun k hk => by simp at hk⟩
  · simp only [List.cons.injEq, and_true] at e
    subst e
    simp only [if_true] at hmm
    subst hmm
    have hsp : a.spot = none := by
      unfold Cell.okWide at hok
      rw [Tryd.underlying46] at hok
      simp only [Cell.ok, Tryd.underlying46] at hok
      exact hok.2.2.2.1
    obtain ⟨b, o, sp⟩ := a
    simp only at hsp
    subst hsp
    have each : ∀ i, i < len → ∃ (q : Ply), ∃ vk, W.cell? ⟨b, o + i * 4, none⟩ = some (.int .u8 (q.c : Int)) ∧ W.cell? ⟨b, o + i * 4 + 1, none⟩ = some (.int .u16 (q.a : Int)) ∧ W.cell? ⟨b, o + i * 4 + 2, none⟩ = some (.int .u16 (q.b : Int)) ∧ W.cell? ⟨b, o + i * 4 + 3, none⟩ = some vk ∧ InE W.heap.size W vk q.l ∧ q.l.length ≤ maxLen ∧ q.c < 256 ∧ q.a < 65536 ∧ q.b < 65536 := by
      intro i hi
      obtain ⟨cs', h1, h2⟩ := hc i (by omega)
      rw [Tryd.cells61] at h1
      obtain ⟨_, hlen, hcell⟩ := World.cells?_some h1
      obtain ⟨xs, k, hk, hxy, _, hxl, hf⟩ := DataW.trod_struct Tryd.underlying61 h2
      match cs', hlen with
      | [v0, v1, v2, v3], _ =>
        have hl4 : xs.length = 4 := hxl
        have g0 : DataW.trod enc Tryd.prog W 0 (fun _ => true) true k 5 (([v0, v1, v2, v3].drop 0).take (Tryd.prog.cellsOf 5)) = xs[0]? := hf 0 _ rfl
        have g1 : DataW.trod enc Tryd.prog W 0 (fun _ => true) true k 25 (([v0, v1, v2, v3].drop 1).take (Tryd.prog.cellsOf 25)) = xs[1]? := hf 1 _ rfl
        have g2 : DataW.trod enc Tryd.prog W 0 (fun _ => true) true k 25 (([v0, v1, v2, v3].drop 2).take (Tryd.prog.cellsOf 25)) = xs[2]? := hf 2 _ rfl
        have g3 : DataW.trod enc Tryd.prog W 0 (fun _ => true) true k 26 (([v0, v1, v2, v3].drop 3).take (Tryd.prog.cellsOf 26)) = xs[3]? := hf 3 _ rfl
        rw [Tryd.cells5, List.getElem?_eq_getElem (by omega)] at g0
        rw [Tryd.cells25, List.getElem?_eq_getElem (by omega)] at g1 g2
        rw [Tryd.cells26', List.getElem?_eq_getElem (by omega)] at g3
        obtain ⟨n0, e0, _, w0⟩ := DataW.trod_int Tryd.underlying5 g0
        obtain ⟨n1, e1, _, w1⟩ := DataW.trod_int Tryd.underlying25 g1
        obtain ⟨n2, e2, _, w2⟩ := DataW.trod_int Tryd.underlying25 g2
        simp only [List.drop_zero, List.take_succ_cons, List.take_zero, List.cons.injEq, and_true] at e0
        simp only [List.drop_succ_cons, List.drop_zero, List.take_succ_cons, List.take_zero, List.cons.injEq, and_true] at e1 e2
        simp only [List.drop_succ_cons, List.drop_zero, List.take_succ_cons, List.take_zero] at g3
        obtain ⟨l, i1, i2⟩ := open_inE g3
        obtain ⟨m0, rfl, q0⟩ := wf_u8' w0
        obtain ⟨m1, rfl, q1⟩ := wf_u16' w1
        obtain ⟨m2, rfl, q2⟩ := wf_u16' w2
        subst e0 e1 e2
        have f0 := hcell 0 (by omega)
        have f1 := hcell 1 (by omega)
        have f2 := hcell 2 (by omega)
        have f3 := hcell 3 (by omega)
        rw [Deep.add_add, Addr.add_mid] at f0 f1 f2 f3
        exact ⟨⟨m0, m1, m2, l⟩, v3, by simpa [Nat.add_assoc] using f0, by simpa [Nat.add_assoc] using f1, by simpa [Nat.add_assoc] using f2, by simpa [Nat.add_assoc] using f3, i1, i2, q0, q1, q2⟩
    obtain ⟨q, hq⟩ : ∃ q : Nat → Ply, ∀ i, i < len → ∃ vk, W.cell? ⟨b, o + i * 4, none⟩ = some (.int .u8 ((q i).c : Int)) ∧ W.cell? ⟨b, o + i * 4 + 1, none⟩ = some (.int .u16 ((q i).a : Int)) ∧ W.cell? ⟨b, o + i * 4 + 2, none⟩ = some (.int .u16 ((q i).b : Int)) ∧ W.cell? ⟨b, o + i * 4 + 3, none⟩ = some vk ∧ InE W.heap.size W vk (q i).l ∧ (q i).l.length ≤ maxLen ∧ (q i).c < 256 ∧ (q i).a < 65536 ∧ (q i).b < 65536 := by
      classical
      exact ⟨fun i => if hi : i < len then Classical.choose (each i hi) else ⟨0, 0, 0, []⟩, fun i hi => by simp only [hi, dif_pos]; exact Classical.choose_spec (each i hi)⟩
    have hlen : ((List.range len).map q).length = len := by simp
    refine ⟨_, _, _, (List.range len).map q, rfl, hlen, ?_, fun k hk => ?_⟩
    · subst hx
      have := hw _ (by simp only [DataW.weights, Tryd.underlying46]; exact List.mem_cons_self)
      rw [Tryd.bytes61] at this
      simp at this
      omega
    · rw [hlen] at hk
      have e : ((List.range len).map q).getD k ⟨0, 0, 0, []⟩ = q k := by simp [hk]
      rw [e]
      obtain ⟨vk, c0, c1⟩ := hq k hk
      exact ⟨b, o, vk, rfl, World.block_lt_of_cell? W _ c0, c0, c1⟩
end Go.Proofs.YthcokaffbgbanaaDoor
