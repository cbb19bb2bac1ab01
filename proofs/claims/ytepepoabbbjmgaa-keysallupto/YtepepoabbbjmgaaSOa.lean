/- What came in: styles, cells, numbers, characters. -/
import Derived.ProofKit
import Derived.OpenShut
import Derived.HandedShaped
import Derived.ChangeSlices
import Derived.ChangeArms
import Derived.ChangeOld
import Derived.Deep.SlicePairs
import Derived.Carry
import Derived.Test.YtepepoabbbjmgaaSGw
import Derived.Test.YtepepoabbbjmgaaSMb
import Derived.Test.YtepepoabbbjmgaaSXb
namespace Go.Proofs.Ytepepoabbbjmgaa.Sc
open Go.ChangeShapes Go.WideShapes Go.ChangeAt Go.RowKit Go.BigFrame
set_option linter.unusedVariables false
set_option linter.unusedSimpArgs false
set_option maxRecDepth 100000
theorem own : ownKnob Try.prog.godebug = none := by kernel_rfl
theorem Try.cells3 : Try.prog.cellsOf 3 = 1 := by kernel_rfl
theorem Try.bytes3 : Try.prog.bytesOf 3 = 8 := by kernel_rfl
theorem Try.cells4 : Try.prog.cellsOf 4 = 1 := by kernel_rfl
theorem Try.cells21 : Try.prog.cellsOf 21 = 1 := by kernel_rfl
theorem Try.bytes21 : Try.prog.bytesOf 21 = 4 := by kernel_rfl
theorem Try.cells41 : Try.prog.cellsOf 41 = 10 := by kernel_rfl
theorem Try.cells5 : Try.prog.cellsOf 5 = 1 := by kernel_rfl
theorem Try.cells70 : Try.prog.cellsOf 70 = 3 := by kernel_rfl
theorem Try.cells72 : Try.prog.cellsOf 72 = 15 := by kernel_rfl
theorem Try.bytes72 : Try.prog.bytesOf 72 = 48 := by kernel_rfl
theorem read_style {H : Type} {enc : TypeId × Value → H} {W : World} {fuel : Nat} {cs : List Value} {x : DataW H × List MemPlace} (h : DataW.trod enc Try.prog W 0 (fun _ => true) true fuel 41 cs = some x) : ∃ s : St, cs = (sA s).toList := by
 obtain ⟨xs, k, hk, hxy, hcl, hxl, hf⟩ := DataW.trod_struct Try.underlying41 h
 rw [Try.cells41] at hcl
 have hl2 : xs.length = 10 := hxl
 match cs, hcl with
 | [v0, v1, v2, v3, v4, v5, v6, v7, v8, v9], _ =>
  have g0 : DataW.trod enc Try.prog W 0 (fun _ => true) true k 3 (([v0, v1, v2, v3, v4, v5, v6, v7, v8, v9].drop 0).take (Try.prog.cellsOf 3)) = xs[0]? := hf 0 _ rfl
  have g1 : DataW.trod enc Try.prog W 0 (fun _ => true) true k 3 (([v0, v1, v2, v3, v4, v5, v6, v7, v8, v9].drop 1).take (Try.prog.cellsOf 3)) = xs[1]? := hf 1 _ rfl
  have g2 : DataW.trod enc Try.prog W 0 (fun _ => true) true k 4 (([v0, v1, v2, v3, v4, v5, v6, v7, v8, v9].drop 2).take (Try.prog.cellsOf 4)) = xs[2]? := hf 2 _ rfl
  have g3 : DataW.trod enc Try.prog W 0 (fun _ => true) true k 4 (([v0, v1, v2, v3, v4, v5, v6, v7, v8, v9].drop 3).take (Try.prog.cellsOf 4)) = xs[3]? := hf 3 _ rfl
  have g4 : DataW.trod enc Try.prog W 0 (fun _ => true) true k 4 (([v0, v1, v2, v3, v4, v5, v6, v7, v8, v9].drop 4).take (Try.prog.cellsOf 4)) = xs[4]? := hf 4 _ rfl
  have g5 : DataW.trod enc Try.prog W 0 (fun _ => true) true k 4 (([v0, v1, v2, v3, v4, v5, v6, v7, v8, v9].drop 5).take (Try.prog.cellsOf 4)) = xs[5]? := hf 5 _ rfl
  have g6 : DataW.trod enc Try.prog W 0 (fun _ => true) true k 4 (([v0, v1, v2, v3, v4, v5, v6, v7, v8, v9].drop 6).take (Try.prog.cellsOf 4)) = xs[6]? := hf 6 _ rfl
  have g7 : DataW.trod enc Try.prog W 0 (fun _ => true) true k 4 (([v0, v1, v2, v3, v4, v5, v6, v7, v8, v9].drop 7).take (Try.prog.cellsOf 4)) = xs[7]? := hf 7 _ rfl
  have g8 : DataW.trod enc Try.prog W 0 (fun _ => true) true k 4 (([v0, v1, v2, v3, v4, v5, v6, v7, v8, v9].drop 8).take (Try.prog.cellsOf 4)) = xs[8]? := hf 8 _ rfl
  have g9 : DataW.trod enc Try.prog W 0 (fun _ => true) true k 4 (([v0, v1, v2, v3, v4, v5, v6, v7, v8, v9].drop 9).take (Try.prog.cellsOf 4)) = xs[9]? := hf 9 _ rfl
  rw [Try.cells3, List.getElem?_eq_getElem (by omega)] at g0 g1
  rw [Try.cells4, List.getElem?_eq_getElem (by omega)] at g2 g3 g4 g5 g6 g7 g8 g9
  obtain ⟨n0, e0, _, _⟩ := DataW.trod_int Try.underlying3 g0
  obtain ⟨n1, e1, _, _⟩ := DataW.trod_int Try.underlying3 g1
  obtain ⟨n2, e2, _⟩ := DataW.trod_bool Try.underlying4 g2
  obtain ⟨n3, e3, _⟩ := DataW.trod_bool Try.underlying4 g3
  obtain ⟨n4, e4, _⟩ := DataW.trod_bool Try.underlying4 g4
  obtain ⟨n5, e5, _⟩ := DataW.trod_bool Try.underlying4 g5
  obtain ⟨n6, e6, _⟩ := DataW.trod_bool Try.underlying4 g6
  obtain ⟨n7, e7, _⟩ := DataW.trod_bool Try.underlying4 g7
  obtain ⟨n8, e8, _⟩ := DataW.trod_bool Try.underlying4 g8
  obtain ⟨n9, e9, _⟩ := DataW.trod_bool Try.underlying4 g9
  simp only [List.drop_zero, List.drop_succ_cons, tkS, tkZ, List.cons.injEq, and_true] at e0 e1 e2 e3 e4 e5 e6 e7 e8 e9
  subst e0 e1 e2 e3 e4 e5 e6 e7 e8 e9
  exact ⟨⟨n0, n1, n2, n3, n4, n5, n6, n7, n8, n9⟩, rfl⟩
theorem read_marks {H : Type} {enc : TypeId × Value → H} {W : World} {fuel : Nat} {cs : List Value} {x : DataW H × List MemPlace} (h : DataW.trod enc Try.prog W 0 (fun _ => true) true fuel 70 cs = some x) : ∃ a b c : Int, cs = [.int .i32 a, .int .i32 b, .int .i32 c] := by
 obtain ⟨xs, k, hk, hxy, hcl, hxl, hf⟩ := DataW.trod_array Try.underlying70 h
 rw [Try.cells70] at hcl
 match cs, hcl with
 | [v0, v1, v2], _ =>
  have g0 := hf 0 (by decide)
  have g1 := hf 1 (by decide)
  have g2 := hf 2 (by decide)
  rw [Try.cells21, List.getElem?_eq_getElem (by omega)] at g0 g1 g2
  obtain ⟨n0, e0, _, _⟩ := DataW.trod_int Try.underlying21 g0
  obtain ⟨n1, e1, _, _⟩ := DataW.trod_int Try.underlying21 g1
  obtain ⟨n2, e2, _, _⟩ := DataW.trod_int Try.underlying21 g2
  simp at e0 e1 e2
  subst e0 e1 e2
  exact ⟨n0, n1, n2, rfl⟩
theorem read_cell {H : Type} {enc : TypeId × Value → H} {W : World} {fuel : Nat} {cs : List Value} {x : DataW H × List MemPlace} (h : DataW.trod enc Try.prog W 0 (fun _ => true) true fuel 72 cs = some x) : ∃ y : Cl, cs = (cA y).toList ∧ y.wd < 256 := by
 obtain ⟨xs, k, hk, hxy, hcl, hxl, hf⟩ := DataW.trod_struct Try.underlying72 h
 rw [Try.cells72] at hcl
 have hl2 : xs.length = 4 := hxl
 match cs, hcl with
 | [v0, v1, v2, v3, v4, v5, v6, v7, v8, v9, v10, v11, v12, v13, v14], _ =>
  have g0 : DataW.trod enc Try.prog W 0 (fun _ => true) true k 21 (([v0, v1, v2, v3, v4, v5, v6, v7, v8, v9, v10, v11, v12, v13, v14].drop 0).take (Try.prog.cellsOf 21)) = xs[0]? := hf 0 _ rfl
  have g1 : DataW.trod enc Try.prog W 0 (fun _ => true) true k 70 (([v0, v1, v2, v3, v4, v5, v6, v7, v8, v9, v10, v11, v12, v13, v14].drop 1).take (Try.prog.cellsOf 70)) = xs[1]? := hf 1 _ rfl
  have g2 : DataW.trod enc Try.prog W 0 (fun _ => true) true k 5 (([v0, v1, v2, v3, v4, v5, v6, v7, v8, v9, v10, v11, v12, v13, v14].drop 4).take (Try.prog.cellsOf 5)) = xs[2]? := hf 2 _ rfl
  have g3 : DataW.trod enc Try.prog W 0 (fun _ => true) true k 41 (([v0, v1, v2, v3, v4, v5, v6, v7, v8, v9, v10, v11, v12, v13, v14].drop 5).take (Try.prog.cellsOf 41)) = xs[3]? := hf 3 _ rfl
  rw [Try.cells21, List.getElem?_eq_getElem (by omega)] at g0
  rw [Try.cells70, List.getElem?_eq_getElem (by omega)] at g1
  rw [Try.cells5, List.getElem?_eq_getElem (by omega)] at g2
  rw [Try.cells41, List.getElem?_eq_getElem (by omega)] at g3
  obtain ⟨ch, e0, _, _⟩ := DataW.trod_int Try.underlying21 g0
  obtain ⟨a, b, c, e1⟩ := read_marks g1
  obtain ⟨wd, e2, _, w2⟩ := DataW.trod_int Try.underlying5 g2
  obtain ⟨s, e3⟩ := read_style g3
  simp only [Lit.wf, Bool.and_eq_true, decide_eq_true_eq] at w2
  have hw0 : 0 ≤ wd := w2.1
  have hw1 : wd ≤ 255 := w2.2
  simp only [List.drop_zero, List.drop_succ_cons, tkS, tkZ, List.cons.injEq, and_true] at e0 e1 e2
  simp only [List.drop_zero, List.drop_succ_cons, tkS, tkZ, sA, List.cons.injEq, and_true] at e3
  obtain ⟨f1, f2, f3⟩ := e1
  obtain ⟨h5, h6, h7, h8, h9, h10, h11, h12, h13, h14⟩ := e3
  refine ⟨⟨ch, a, b, c, wd.toNat, s⟩, ?_, by show wd.toNat < 256; omega⟩
  rw [e0, f1, f2, f3, e2, h5, h6, h7, h8, h9, h10, h11, h12, h13, h14]
  simp only [cA]
  rw [show ((wd.toNat : Nat) : Int) = wd by omega]
theorem open_cells {H : Type} {enc : TypeId × Value → H} {W : World} {base R : Nat} {v : Value} {fuel : Nat} {x : DataW H × List MemPlace} (hok : Cell.okWide Try.prog W .any base 37 v) (h : DataW.trod enc Try.prog W 0 (fun _ => true) true fuel 37 [v] = some x)
  (hw : ∀ y ∈ DataW.weights Try.prog 37 x.1, y ≤ R) : ∃ l, Cls W.heap.size W v l ∧ 48 * l.length ≤ R ∧ ∀ y ∈ l, y.wd < 256 := by
 rcases Deep.open_slice Try.underlying37 h with ⟨e, _⟩ | ⟨a, len, cap, m, n, D, Pl, e, hb, hl, hm, hmm, hx, hc⟩
 ·simp only [List.cons.injEq, and_true] at e
  subst e
  exact ⟨[], ⟨none, 0, rfl, Nat.le_refl _, .inl rfl⟩, Nat.zero_le _, by simp⟩
 ·simp only [List.cons.injEq, and_true] at e
  subst e
  simp only [if_true] at hmm
  subst hmm
  have hsp : a.spot = none := by
   unfold Cell.okWide at hok
   rw [Try.underlying37] at hok
   simp only [Cell.ok, Try.underlying37] at hok
   exact hok.2.2.2.1
  obtain ⟨b, o, sp⟩ := a
  simp only at hsp
  subst hsp
  have each : ∀ i, i < len → ∃ q : Cl, (∀ j, j < 15 → W.cell? ⟨b, o + i * 15 + j, none⟩ = (cA q)[j]?) ∧ q.wd < 256 := by
   intro i hi
   obtain ⟨cs', h1, h2⟩ := hc i (by omega)
   rw [Try.cells72] at h1
   obtain ⟨_, hlen, hcell⟩ := World.cells?_some h1
   obtain ⟨q, hq, hq2⟩ := read_cell h2
   refine ⟨q, fun j hj => ?_, hq2⟩
   have f0 := hcell j hj
   rw [Deep.add_add, Addr.add_mid] at f0
   rw [← Nat.add_assoc] at f0
   rw [f0, hq]
   simp
  obtain ⟨q, hq⟩ : ∃ q : Nat → Cl, ∀ i, i < len → (∀ j, j < 15 → W.cell? ⟨b, o + i * 15 + j, none⟩ = (cA (q i))[j]?) ∧ (q i).wd < 256 := by
   classical
   exact ⟨fun i => if hi : i < len then Classical.choose (each i hi) else hf pl, fun i hi => by simp only [hi, dif_pos]; exact Classical.choose_spec (each i hi)⟩
  have hlen : ((List.range len).map q).length = len := by simp
  refine ⟨(List.range len).map q, ⟨_, _, by rw [hlen], by rw [hlen]; exact hl, ?_⟩, ?_, ?_⟩
  ·by_cases h0 : len = 0
   ·left; apply List.eq_nil_of_length_eq_zero; rw [hlen]; exact h0
   ·right
    have c0 := (hq 0 (by omega)).1 0 (by decide)
    refine ⟨b, o, rfl, World.block_lt_of_cell? W _ c0, fun k hk j hj => ?_⟩
    rw [hlen] at hk
    have e : ((List.range len).map q).getD k (hf pl) = q k := by simp [hk]
    rw [e]
    exact (hq k hk).1 j hj
  ·subst hx
   rw [hlen]
   have := hw _ (by simp only [DataW.weights, Try.underlying37]; exact List.mem_cons_self)
   rw [Try.bytes72] at this
   simp at this
   omega
  ·intro y hy
   obtain ⟨i, hi, rfl⟩ := List.mem_map.1 hy
   exact (hq i (List.mem_range.1 hi)).2
theorem open_is {H : Type} {enc : TypeId × Value → H} {W : World} {base R : Nat} {v : Value} {fuel : Nat} {x : DataW H × List MemPlace} (hok : Cell.okWide Try.prog W .any base 42 v) (h : DataW.trod enc Try.prog W 0 (fun _ => true) true fuel 42 [v] = some x)
  (hw : ∀ y ∈ DataW.weights Try.prog 42 x.1, y ≤ R) : ∃ l, Is W.heap.size W v l ∧ 8 * l.length ≤ R ∧ ∀ n ∈ l, (Lit.int .i64 n).wf = true := by
 rcases open_ints Try.underlying42 Try.underlying3 Try.cells3 h with ⟨e, _⟩ | ⟨a, len, cap, zs, e, _, hlc, hcm, hzl, hx, hcell, hwf⟩
 ·simp only [List.cons.injEq, and_true] at e
  subst e
  exact ⟨[], ⟨none, 0, rfl, Nat.le_refl _, .inl rfl⟩, Nat.zero_le _, by simp⟩
 ·simp only [List.cons.injEq, and_true] at e
  subst e
  simp only [if_true] at hzl
  have hsp : a.spot = none := by
   unfold Cell.okWide at hok
   rw [Try.underlying42] at hok
   simp only [Cell.ok, Try.underlying42] at hok
   exact hok.2.2.2.1
  obtain ⟨b, o, sp⟩ := a
  simp only at hsp
  subst hsp
  have hlen : (zs.take len).length = len := by rw [List.length_take]; omega
  have hcl : ∀ k, k < len → W.cell? ⟨b, o + k, none⟩ = some (.int .i64 ((zs.take len).getD k 0)) := by
   intro k hk
   have hc := hcell k (by omega)
   rw [Addr.add_mid] at hc
   rw [hc]
   simp [List.getElem?_take_of_lt hk]
  refine ⟨zs.take len, ⟨_, _, by rw [hlen], by rw [hlen]; exact hlc, ?_⟩, ?_, fun n hn => hwf n (List.mem_of_mem_take hn)⟩
  ·by_cases h0 : len = 0
   ·left
    apply List.eq_nil_of_length_eq_zero
    rw [hlen]; exact h0
   ·right
    refine ⟨b, o, rfl, ?_, fun k hk => hcl k (by rw [hlen] at hk; exact hk)⟩
    have := hcl 0 (by omega)
    exact World.block_lt_of_cell? W _ this
  ·rw [hlen]
   subst hx
   have := hw _ (by simp only [DataW.weights, Try.underlying42]; exact List.mem_cons_self)
   rw [Try.bytes3] at this
   simp [lits] at this
   omega
theorem open_rs {H : Type} {enc : TypeId × Value → H} {W : World} {base R : Nat} {v : Value} {fuel : Nat} {x : DataW H × List MemPlace} (hok : Cell.okWide Try.prog W .any base 45 v) (h : DataW.trod enc Try.prog W 0 (fun _ => true) true fuel 45 [v] = some x)
  (hw : ∀ y ∈ DataW.weights Try.prog 45 x.1, y ≤ R) : ∃ l, Rs W.heap.size W v l ∧ 4 * l.length ≤ R ∧ ∀ n ∈ l, (Lit.int .i32 n).wf = true := by
 rcases open_ints Try.underlying45 Try.underlying21 Try.cells21 h with ⟨e, _⟩ | ⟨a, len, cap, zs, e, _, hlc, hcm, hzl, hx, hcell, hwf⟩
 ·simp only [List.cons.injEq, and_true] at e
  subst e
  exact ⟨[], ⟨none, 0, rfl, Nat.le_refl _, .inl rfl⟩, Nat.zero_le _, by simp⟩
 ·simp only [List.cons.injEq, and_true] at e
  subst e
  simp only [if_true] at hzl
  have hsp : a.spot = none := by
   unfold Cell.okWide at hok
   rw [Try.underlying45] at hok
   simp only [Cell.ok, Try.underlying45] at hok
   exact hok.2.2.2.1
  obtain ⟨b, o, sp⟩ := a
  simp only at hsp
  subst hsp
  have hlen : (zs.take len).length = len := by rw [List.length_take]; omega
  have hcl : ∀ k, k < len → W.cell? ⟨b, o + k, none⟩ = some (.int .i32 ((zs.take len).getD k 0)) := by
   intro k hk
   have hc := hcell k (by omega)
   rw [Addr.add_mid] at hc
   rw [hc]
   simp [List.getElem?_take_of_lt hk]
  refine ⟨zs.take len, ⟨_, _, by rw [hlen], by rw [hlen]; exact hlc, ?_⟩, ?_, fun n hn => hwf n (List.mem_of_mem_take hn)⟩
  ·by_cases h0 : len = 0
   ·left
    apply List.eq_nil_of_length_eq_zero
    rw [hlen]; exact h0
   ·right
    refine ⟨b, o, rfl, ?_, fun k hk => hcl k (by rw [hlen] at hk; exact hk)⟩
    have := hcl 0 (by omega)
    exact World.block_lt_of_cell? W _ this
  ·rw [hlen]
   subst hx
   have := hw _ (by simp only [DataW.weights, Try.underlying45]; exact List.mem_cons_self)
   rw [Try.bytes21] at this
   simp [lits] at this
   omega
end Go.Proofs.Ytepepoabbbjmgaa.Sc
