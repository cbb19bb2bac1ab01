/- Events that came in, bounded by their bulk. -/
import Derived.Test.YtpgljhgfoihnjaaKo
import Derived.Test.YtpgljhgfoihnjaaKw
import Derived.JoinedCond
namespace Go.Proofs.Ytpgljhgfoihnjaa
open Go.ChangeShapes Go.WideShapes Go.ChangeAt Go.RowKit
set_option linter.unusedVariables false
set_option linter.unusedSimpArgs false
set_option maxRecDepth 100000 in
theorem bulk_bytes {H : Type} {enc : TypeId × Value → H} {W : World} {fuel : Nat} {a : Option Addr} {n c : Nat} {x : DataW H × List MemPlace} (h : DataW.trod enc Try.prog W 0 (fun _ => true) true fuel 23 [.slice a n c] = some x) : n ≤ Rows.uptoBulk x.1 := by
  rcases open_ints Try.underlying23 Try.underlying5 Try.cells5 h with ⟨e, _⟩ | ⟨a', len, cap, zs, e, _, hlc, hcm, hzl, hx, _⟩
  · simp only [List.cons.injEq, and_true, Value.slice.injEq] at e
    omega
  · simp only [List.cons.injEq, and_true, Value.slice.injEq] at e
    simp only [if_true] at hzl
    subst hx
    simp only [Rows.uptoBulk]
    refine Nat.le_trans ?_ (Nat.le_trans (bulk_all _) (Nat.le_trans (Nat.le_add_right _ _) (Nat.le_add_right _ _)))
    simp [lits]
    omega
set_option maxRecDepth 100000 in
/-- Events that came in. -/
theorem open_evsU {H : Type} {enc : TypeId × Value → H} {W : World} {base : Nat} {v : Value} {fuel : Nat} {x : DataW H × List MemPlace} (hok : Cell.okWide Try.prog W .any base 22 v) (h : DataW.trod enc Try.prog W 0 (fun _ => true) true fuel 22 [v] = some x) : ∃ l, Evs W.heap.size W v l ∧ l.length ≤ Rows.uptoBulk x.1 := by
  rcases Deep.open_slice Try.underlying22 h with ⟨e, _⟩ | ⟨a, len, cap, m, n, D, Pl, e, hb, hl, hm, hmm, hx, hc⟩
  · simp only [List.cons.injEq, and_true] at e
    subst e
    exact ⟨[], ⟨none, 0, rfl, Nat.le_refl _, fun k hk => by simp at hk⟩, Nat.zero_le _⟩
  · simp only [List.cons.injEq, and_true] at e
    subst e
    simp only [if_true] at hmm
    subst hmm
    have hsp : a.spot = none := by
      unfold Cell.okWide at hok
      rw [Try.underlying22] at hok
      simp only [Cell.ok, Try.underlying22] at hok
      exact hok.2.2.2.1
    obtain ⟨b, o, sp⟩ := a
    simp only at hsp
    subst hsp
    have each : ∀ i, i < len → ∃ q : Ev, EvAt W.heap.size W b (o + i * 5) q := by
      intro i hi
      obtain ⟨cs', h1, h2⟩ := hc i (by omega)
      rw [Try.cells48] at h1
      obtain ⟨_, hlen, hcell⟩ := World.cells?_some h1
      obtain ⟨xs, k, hk, hxy, _, hxl, hf⟩ := DataW.trod_struct Try.underlying48 h2
      match cs', hlen with
      | [v0, v1, v2, v3, v4], _ =>
        have hl5 : xs.length = 5 := hxl
        have g0 : DataW.trod enc Try.prog W 0 (fun _ => true) true k 46 (([v0, v1, v2, v3, v4].drop 0).take (Try.prog.cellsOf 46)) = xs[0]? := hf 0 _ rfl
        have g1 : DataW.trod enc Try.prog W 0 (fun _ => true) true k 23 (([v0, v1, v2, v3, v4].drop 1).take (Try.prog.cellsOf 23)) = xs[1]? := hf 1 _ rfl
        have g2 : DataW.trod enc Try.prog W 0 (fun _ => true) true k 3 (([v0, v1, v2, v3, v4].drop 2).take (Try.prog.cellsOf 3)) = xs[2]? := hf 2 _ rfl
        have g3 : DataW.trod enc Try.prog W 0 (fun _ => true) true k 3 (([v0, v1, v2, v3, v4].drop 3).take (Try.prog.cellsOf 3)) = xs[3]? := hf 3 _ rfl
        have g4 : DataW.trod enc Try.prog W 0 (fun _ => true) true k 5 (([v0, v1, v2, v3, v4].drop 4).take (Try.prog.cellsOf 5)) = xs[4]? := hf 4 _ rfl
        rw [Try.cells46, List.getElem?_eq_getElem (by omega)] at g0
        rw [Try.cells23, List.getElem?_eq_getElem (by omega)] at g1
        rw [Try.cells3, List.getElem?_eq_getElem (by omega)] at g2 g3
        rw [Try.cells5, List.getElem?_eq_getElem (by omega)] at g4
        obtain ⟨n0, e0, _, w0⟩ := DataW.trod_int Try.underlying46 g0
        obtain ⟨n2, e2, _, _⟩ := DataW.trod_int Try.underlying3 g2
        obtain ⟨n3, e3, _, _⟩ := DataW.trod_int Try.underlying3 g3
        obtain ⟨n4, e4, _, w4⟩ := DataW.trod_int Try.underlying5 g4
        simp only [List.drop_zero, List.take_succ_cons, List.take_zero, List.cons.injEq, and_true] at e0
        simp only [List.drop_succ_cons, List.drop_zero, List.take_succ_cons, List.take_zero, List.cons.injEq, and_true] at e2 e3 e4
        simp only [List.drop_succ_cons, List.drop_zero, List.take_succ_cons, List.take_zero] at g1
        obtain ⟨y0, rfl⟩ := wf_u8 w0
        obtain ⟨y4, rfl⟩ := wf_u8 w4
        obtain ⟨d, hd⟩ := open_inE g1
        have f0 := hcell 0 (by omega)
        have f1 := hcell 1 (by omega)
        have f2 := hcell 2 (by omega)
        have f3 := hcell 3 (by omega)
        have f4 := hcell 4 (by omega)
        rw [Deep.add_add, Addr.add_mid] at f0 f1 f2 f3 f4
        exact ⟨⟨y0, d, n2, n3, y4⟩, v1, by simpa [e0] using f0, by simpa [Nat.add_assoc] using f1, by simpa [e2, Nat.add_assoc] using f2, by simpa [e3, Nat.add_assoc] using f3, by simpa [e4, Nat.add_assoc] using f4, hd⟩
    obtain ⟨q, hq⟩ : ∃ q : Nat → Ev, ∀ i, i < len → EvAt W.heap.size W b (o + i * 5) (q i) := by
      classical
      exact ⟨fun i => if hi : i < len then Classical.choose (each i hi) else Ev.none, fun i hi => by simp only [hi, dif_pos]; exact Classical.choose_spec (each i hi)⟩
    have hlen : ((List.range len).map q).length = len := by simp
    refine ⟨(List.range len).map q, ⟨_, _, by rw [hlen], by rw [hlen]; exact hl, fun k hk => ?_⟩, ?_⟩
    · rw [hlen] at hk
      have e : ((List.range len).map q).getD k Ev.none = q k := by simp [hk]
      obtain ⟨vb, c0, _⟩ := hq k hk
      exact ⟨b, o, rfl, World.block_lt_of_cell? W _ c0, by rw [e]; exact hq k hk⟩
    · subst hx
      rw [hlen]
      simp only [Rows.uptoBulk]
      refine Nat.le_trans ?_ (Nat.le_trans (bulk_all _) (Nat.le_trans (Nat.le_add_right _ _) (Nat.le_add_right _ _)))
      simp
end Go.Proofs.Ytpgljhgfoihnjaa
