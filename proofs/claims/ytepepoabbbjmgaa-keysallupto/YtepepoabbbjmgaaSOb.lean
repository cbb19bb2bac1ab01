/- Screens and deeds that came in. -/
import Derived.Test.YtepepoabbbjmgaaSOa
import Derived.Test.YtepepoabbbjmgaaSXd
import Derived.Test.YtepepoabbbjmgaaSNn
namespace Go.Proofs.Ytepepoabbbjmgaa.Sc
open Go.ChangeShapes Go.WideShapes Go.ChangeAt Go.RowKit Go.BigFrame
set_option linter.unusedVariables false
set_option linter.unusedSimpArgs false
set_option maxRecDepth 100000
theorem Try.cells39 : Try.prog.cellsOf 39 = 3 := by kernel_rfl
theorem Try.cells37' : Try.prog.cellsOf 37 = 1 := by kernel_rfl
theorem Try.cells42 : Try.prog.cellsOf 42 = 1 := by kernel_rfl
theorem Try.cells44 : Try.prog.cellsOf 44 = 14 := by kernel_rfl
theorem Try.cells45 : Try.prog.cellsOf 45 = 1 := by kernel_rfl
theorem Try.cells47 : Try.prog.cellsOf 47 = 44 := by kernel_rfl
theorem Try.types47 : Try.prog.cellTypes Try.prog.depth 47 = some [3, 3, 37, 3, 3, 4, 3, 3, 4, 4, 4, 4, 4, 4, 4, 4, 3, 3, 42, 4, 4, 4, 4, 4, 4, 3, 3, 4, 4, 3, 3, 4, 4, 4, 4, 4, 4, 4, 4, 4, 3, 3, 37, 45] := by kernel_rfl
theorem wf_i64 {n : Int} (h : (Lit.int .i64 n).wf = true) : -9223372036854775808 ≤ n ∧ n ≤ 9223372036854775807 := by
 simp only [Lit.wf, Bool.and_eq_true, decide_eq_true_eq] at h
 exact ⟨h.1, h.2⟩
theorem each_at {H : Type} : ∀ (ts : List TypeId) (xs : List (DataW H × List MemPlace)) (j : Nat) (t : TypeId) (x : DataW H × List MemPlace), ts[j]? = some t → xs[j]? = some x → ∀ y, y ∈ DataW.weights Try.prog t x.1 → y ∈ DataW.weightsEach Try.prog ts (xs.map (·.1))
 | [], _, _, _, _, h, _, _, _ => by simp at h
 | _ :: _, [], _, _, _, _, h, _, _ => by simp at h
 | a :: ts, b :: xs, 0, t, x, h1, h2, y, hy => by
  simp only [List.getElem?_cons_zero, Option.some.injEq] at h1 h2
  subst h1 h2
  simp only [List.map_cons, DataW.weightsEach, List.mem_append]
  exact .inl hy
 | a :: ts, b :: xs, j + 1, t, x, h1, h2, y, hy => by
  simp only [List.getElem?_cons_succ] at h1 h2
  simp only [List.map_cons, DataW.weightsEach, List.mem_append]
  exact .inr (each_at ts xs j t x h1 h2 y hy)
theorem nil_of {H : Type} {enc : TypeId × Value → H} {W : World} {fuel : Nat} {v : Value} {t e : TypeId} (ht : Try.prog.underlying t = some (.slice e)) {x : DataW H × List MemPlace} (h : DataW.trod enc Try.prog W 0 (fun _ => true) true fuel t [v] = some x) (h0 : ∃ a c, v = .slice a 0 c) : v = .slice none 0 0 ∨ ∃ ad k, v = .slice (some ad) 0 k := by
 obtain ⟨a0, c0, e0⟩ := h0
 rcases Deep.open_slice ht h with ⟨e, _⟩ | ⟨a, len, cap, m, n, D, Pl, e, _⟩
 ·simp only [List.cons.injEq, and_true] at e
  exact .inl e
 ·simp only [List.cons.injEq, and_true] at e
  rw [e] at e0
  simp only [Value.slice.injEq] at e0
  obtain ⟨_, q, _⟩ := e0
  exact .inr ⟨a, cap, by rw [e, q]⟩
theorem read_gr {H : Type} {enc : TypeId × Value → H} {W : World} {base R : Nat} {fuel : Nat} {cs : List Value} {x : DataW H × List MemPlace} (h : DataW.trod enc Try.prog W 0 (fun _ => true) true fuel 39 cs = some x) (hok : ∀ v, cs[2]? = some v → Cell.okWide Try.prog W .any base 37 v)
  (hw : ∀ y ∈ DataW.weights Try.prog 39 x.1, y ≤ R) : ∃ (co ro : Int) (vc : Value) (l : List Cl), cs = [.int .i64 co, .int .i64 ro, vc] ∧ co ≤ 9223372036854775807 ∧ Cls W.heap.size W vc l ∧ 48 * l.length ≤ R ∧ (l = [] → vc = .slice none 0 0 ∨ ∃ ad k, vc = .slice (some ad) 0 k) := by
 obtain ⟨xs, k, hk, hxy, hcl, hxl, hf⟩ := DataW.trod_struct Try.underlying39 h
 rw [Try.cells39] at hcl
 have hl2 : xs.length = 3 := hxl
 match cs, hcl with
 | [v0, v1, v2], _ =>
  have g0 : DataW.trod enc Try.prog W 0 (fun _ => true) true k 3 (([v0, v1, v2].drop 0).take (Try.prog.cellsOf 3)) = xs[0]? := hf 0 _ rfl
  have g1 : DataW.trod enc Try.prog W 0 (fun _ => true) true k 3 (([v0, v1, v2].drop 1).take (Try.prog.cellsOf 3)) = xs[1]? := hf 1 _ rfl
  have g2 : DataW.trod enc Try.prog W 0 (fun _ => true) true k 37 (([v0, v1, v2].drop 2).take (Try.prog.cellsOf 37)) = xs[2]? := hf 2 _ rfl
  rw [Try.cells3, List.getElem?_eq_getElem (by omega)] at g0 g1
  rw [Try.cells37', List.getElem?_eq_getElem (by omega)] at g2
  obtain ⟨n0, e0, _, w0⟩ := DataW.trod_int Try.underlying3 g0
  obtain ⟨n1, e1, _, w1⟩ := DataW.trod_int Try.underlying3 g1
  simp only [List.drop_zero, List.drop_succ_cons, tkS, tkZ, List.cons.injEq, and_true] at e0 e1
  simp only [List.drop_succ_cons, List.drop_zero, tkS, tkZ] at g2
  obtain ⟨d, hd, hn, _⟩ := open_cells (R := R) (hok v2 rfl) g2 (fun y hy => hw y (by rw [hxy]; simp only [DataW.weights, Try.underlying39]; exact each_at _ xs 2 37 _ rfl (List.getElem?_eq_getElem (by omega)) y hy))
  subst e0 e1
  exact ⟨n0, n1, v2, d, rfl, (wf_i64 w0).2, hd, hn, fun e => nil_of Try.underlying37 g2 (by obtain ⟨a, c, e1, _⟩ := hd; exact ⟨a, c, by rw [e1, e]; rfl⟩)⟩
theorem read_sv {H : Type} {enc : TypeId × Value → H} {W : World} {fuel : Nat} {cs : List Value} {x : DataW H × List MemPlace} (h : DataW.trod enc Try.prog W 0 (fun _ => true) true fuel 44 cs = some x) : ∃ s : Sv, cs = (svA s).toList := by
 obtain ⟨xs, k, hk, hxy, hcl, hxl, hf⟩ := DataW.trod_struct Try.underlying44 h
 rw [Try.cells44] at hcl
 have hl2 : xs.length = 5 := hxl
 match cs, hcl with
 | [v0, v1, v2, v3, v4, v5, v6, v7, v8, v9, v10, v11, v12, v13], _ =>
  have g0 : DataW.trod enc Try.prog W 0 (fun _ => true) true k 3 (([v0, v1, v2, v3, v4, v5, v6, v7, v8, v9, v10, v11, v12, v13].drop 0).take (Try.prog.cellsOf 3)) = xs[0]? := hf 0 _ rfl
  have g1 : DataW.trod enc Try.prog W 0 (fun _ => true) true k 3 (([v0, v1, v2, v3, v4, v5, v6, v7, v8, v9, v10, v11, v12, v13].drop 1).take (Try.prog.cellsOf 3)) = xs[1]? := hf 1 _ rfl
  have g2 : DataW.trod enc Try.prog W 0 (fun _ => true) true k 4 (([v0, v1, v2, v3, v4, v5, v6, v7, v8, v9, v10, v11, v12, v13].drop 2).take (Try.prog.cellsOf 4)) = xs[2]? := hf 2 _ rfl
  have g3 : DataW.trod enc Try.prog W 0 (fun _ => true) true k 4 (([v0, v1, v2, v3, v4, v5, v6, v7, v8, v9, v10, v11, v12, v13].drop 3).take (Try.prog.cellsOf 4)) = xs[3]? := hf 3 _ rfl
  have g4 : DataW.trod enc Try.prog W 0 (fun _ => true) true k 41 (([v0, v1, v2, v3, v4, v5, v6, v7, v8, v9, v10, v11, v12, v13].drop 4).take (Try.prog.cellsOf 41)) = xs[4]? := hf 4 _ rfl
  rw [Try.cells3, List.getElem?_eq_getElem (by omega)] at g0 g1
  rw [Try.cells4, List.getElem?_eq_getElem (by omega)] at g2 g3
  rw [Try.cells41, List.getElem?_eq_getElem (by omega)] at g4
  obtain ⟨n0, e0, _, _⟩ := DataW.trod_int Try.underlying3 g0
  obtain ⟨n1, e1, _, _⟩ := DataW.trod_int Try.underlying3 g1
  obtain ⟨n2, e2, _⟩ := DataW.trod_bool Try.underlying4 g2
  obtain ⟨n3, e3, _⟩ := DataW.trod_bool Try.underlying4 g3
  obtain ⟨s, e4⟩ := read_style g4
  simp only [List.drop_zero, List.drop_succ_cons, tkS, tkZ, List.cons.injEq, and_true] at e0 e1 e2 e3
  simp only [List.drop_zero, List.drop_succ_cons, tkS, tkZ, sA, List.cons.injEq, and_true] at e4
  obtain ⟨q0, q1, q2, q3, q4, q5, q6, q7, q8, q9⟩ := e4
  subst e0 e1 e2 e3 q0 q1 q2 q3 q4 q5 q6 q7 q8 q9
  exact ⟨⟨n0, n1, n2, n3, s⟩, rfl⟩
theorem cons_of {α : Type} (l : List α) (n : Nat) (h : l.length = n + 1) : ∃ a r, l = a :: r ∧ r.length = n := by
 cases l with
 | nil => cases h
 | cons a r => exact ⟨a, r, rfl, Nat.succ.inj h⟩
/-- A screen that came in. -/
theorem open_screen {H : Type} {enc : TypeId × Value → H} {W : World} {base : Nat} {v : Value} {fuel : Nat} {x : DataW H × List MemPlace} (hok : Value.okWide Try.prog W .any base 47 v) (h : DataW.trod enc Try.prog W 0 (fun _ => true) true fuel 47 v.cells.toList = some x)
  (hw : ∀ y ∈ DataW.weights Try.prog 47 x.1, y ≤ 140737488351232) : ∃ (s : Sn) (vg vt vm vl : Value), v = .agg (snA s vg vt vm vl) ∧ Li W.heap.size W s vg vt vm vl ∧ Bo s ∧ Bw s ∧ Nl s vt vm vl ∧ (s.g.c = [] → vg = .slice none 0 0 ∨ ∃ ad k, vg = .slice (some ad) 0 k) := by
 unfold Value.okWide at hok
 rw [Try.underlying47] at hok
 simp only at hok
 obtain ⟨cs, rfl, hsz, ts, hts, _, hcell⟩ := hok
 rw [Try.cells47] at hsz
 rw [Try.types47] at hts
 injection hts with hts
 subst hts
 obtain ⟨l⟩ := cs
 have hsz : l.length = 44 := hsz
 obtain ⟨v0, r0, rfl, hz0⟩ := cons_of l 43 hsz
 obtain ⟨v1, r1, rfl, hz1⟩ := cons_of r0 42 hz0
 obtain ⟨v2, r2, rfl, hz2⟩ := cons_of r1 41 hz1
 obtain ⟨v3, r3, rfl, hz3⟩ := cons_of r2 40 hz2
 obtain ⟨v4, r4, rfl, hz4⟩ := cons_of r3 39 hz3
 obtain ⟨v5, r5, rfl, hz5⟩ := cons_of r4 38 hz4
 obtain ⟨v6, r6, rfl, hz6⟩ := cons_of r5 37 hz5
 obtain ⟨v7, r7, rfl, hz7⟩ := cons_of r6 36 hz6
 obtain ⟨v8, r8, rfl, hz8⟩ := cons_of r7 35 hz7
 obtain ⟨v9, r9, rfl, hz9⟩ := cons_of r8 34 hz8
 obtain ⟨v10, r10, rfl, hz10⟩ := cons_of r9 33 hz9
 obtain ⟨v11, r11, rfl, hz11⟩ := cons_of r10 32 hz10
 obtain ⟨v12, r12, rfl, hz12⟩ := cons_of r11 31 hz11
 obtain ⟨v13, r13, rfl, hz13⟩ := cons_of r12 30 hz12
 obtain ⟨v14, r14, rfl, hz14⟩ := cons_of r13 29 hz13
 obtain ⟨v15, r15, rfl, hz15⟩ := cons_of r14 28 hz14
 obtain ⟨v16, r16, rfl, hz16⟩ := cons_of r15 27 hz15
 obtain ⟨v17, r17, rfl, hz17⟩ := cons_of r16 26 hz16
 obtain ⟨v18, r18, rfl, hz18⟩ := cons_of r17 25 hz17
 obtain ⟨v19, r19, rfl, hz19⟩ := cons_of r18 24 hz18
 obtain ⟨v20, r20, rfl, hz20⟩ := cons_of r19 23 hz19
 obtain ⟨v21, r21, rfl, hz21⟩ := cons_of r20 22 hz20
 obtain ⟨v22, r22, rfl, hz22⟩ := cons_of r21 21 hz21
 obtain ⟨v23, r23, rfl, hz23⟩ := cons_of r22 20 hz22
 obtain ⟨v24, r24, rfl, hz24⟩ := cons_of r23 19 hz23
 obtain ⟨v25, r25, rfl, hz25⟩ := cons_of r24 18 hz24
 obtain ⟨v26, r26, rfl, hz26⟩ := cons_of r25 17 hz25
 obtain ⟨v27, r27, rfl, hz27⟩ := cons_of r26 16 hz26
 obtain ⟨v28, r28, rfl, hz28⟩ := cons_of r27 15 hz27
 obtain ⟨v29, r29, rfl, hz29⟩ := cons_of r28 14 hz28
 obtain ⟨v30, r30, rfl, hz30⟩ := cons_of r29 13 hz29
 obtain ⟨v31, r31, rfl, hz31⟩ := cons_of r30 12 hz30
 obtain ⟨v32, r32, rfl, hz32⟩ := cons_of r31 11 hz31
 obtain ⟨v33, r33, rfl, hz33⟩ := cons_of r32 10 hz32
 obtain ⟨v34, r34, rfl, hz34⟩ := cons_of r33 9 hz33
 obtain ⟨v35, r35, rfl, hz35⟩ := cons_of r34 8 hz34
 obtain ⟨v36, r36, rfl, hz36⟩ := cons_of r35 7 hz35
 obtain ⟨v37, r37, rfl, hz37⟩ := cons_of r36 6 hz36
 obtain ⟨v38, r38, rfl, hz38⟩ := cons_of r37 5 hz37
 obtain ⟨v39, r39, rfl, hz39⟩ := cons_of r38 4 hz38
 obtain ⟨v40, r40, rfl, hz40⟩ := cons_of r39 3 hz39
 obtain ⟨v41, r41, rfl, hz41⟩ := cons_of r40 2 hz40
 obtain ⟨v42, r42, rfl, hz42⟩ := cons_of r41 1 hz41
 obtain ⟨v43, r43, rfl, hz43⟩ := cons_of r42 0 hz42
 obtain rfl := List.eq_nil_of_length_eq_zero hz43
 ·have h' : DataW.trod enc Try.prog W 0 (fun _ => true) true fuel 47 [v0, v1, v2, v3, v4, v5, v6, v7, v8, v9, v10, v11, v12, v13, v14, v15, v16, v17, v18, v19, v20, v21, v22, v23, v24, v25, v26, v27, v28, v29, v30, v31, v32, v33, v34, v35, v36, v37, v38, v39, v40, v41, v42, v43] = some x := h
  obtain ⟨xs, k, hk, hxy, _, hxl, hf⟩ := DataW.trod_struct Try.underlying47 h'
  have hl4 : xs.length = 18 := hxl
  have g0 : DataW.trod enc Try.prog W 0 (fun _ => true) true k 39 (([v0, v1, v2, v3, v4, v5, v6, v7, v8, v9, v10, v11, v12, v13, v14, v15, v16, v17, v18, v19, v20, v21, v22, v23, v24, v25, v26, v27, v28, v29, v30, v31, v32, v33, v34, v35, v36, v37, v38, v39, v40, v41, v42, v43].drop 0).take (Try.prog.cellsOf 39)) = xs[0]? := hf 0 _ rfl
  have g1 : DataW.trod enc Try.prog W 0 (fun _ => true) true k 3 (([v0, v1, v2, v3, v4, v5, v6, v7, v8, v9, v10, v11, v12, v13, v14, v15, v16, v17, v18, v19, v20, v21, v22, v23, v24, v25, v26, v27, v28, v29, v30, v31, v32, v33, v34, v35, v36, v37, v38, v39, v40, v41, v42, v43].drop 3).take (Try.prog.cellsOf 3)) = xs[1]? := hf 1 _ rfl
  have g2 : DataW.trod enc Try.prog W 0 (fun _ => true) true k 3 (([v0, v1, v2, v3, v4, v5, v6, v7, v8, v9, v10, v11, v12, v13, v14, v15, v16, v17, v18, v19, v20, v21, v22, v23, v24, v25, v26, v27, v28, v29, v30, v31, v32, v33, v34, v35, v36, v37, v38, v39, v40, v41, v42, v43].drop 4).take (Try.prog.cellsOf 3)) = xs[2]? := hf 2 _ rfl
  have g3 : DataW.trod enc Try.prog W 0 (fun _ => true) true k 4 (([v0, v1, v2, v3, v4, v5, v6, v7, v8, v9, v10, v11, v12, v13, v14, v15, v16, v17, v18, v19, v20, v21, v22, v23, v24, v25, v26, v27, v28, v29, v30, v31, v32, v33, v34, v35, v36, v37, v38, v39, v40, v41, v42, v43].drop 5).take (Try.prog.cellsOf 4)) = xs[3]? := hf 3 _ rfl
  have g4 : DataW.trod enc Try.prog W 0 (fun _ => true) true k 41 (([v0, v1, v2, v3, v4, v5, v6, v7, v8, v9, v10, v11, v12, v13, v14, v15, v16, v17, v18, v19, v20, v21, v22, v23, v24, v25, v26, v27, v28, v29, v30, v31, v32, v33, v34, v35, v36, v37, v38, v39, v40, v41, v42, v43].drop 6).take (Try.prog.cellsOf 41)) = xs[4]? := hf 4 _ rfl
  have g5 : DataW.trod enc Try.prog W 0 (fun _ => true) true k 3 (([v0, v1, v2, v3, v4, v5, v6, v7, v8, v9, v10, v11, v12, v13, v14, v15, v16, v17, v18, v19, v20, v21, v22, v23, v24, v25, v26, v27, v28, v29, v30, v31, v32, v33, v34, v35, v36, v37, v38, v39, v40, v41, v42, v43].drop 16).take (Try.prog.cellsOf 3)) = xs[5]? := hf 5 _ rfl
  have g6 : DataW.trod enc Try.prog W 0 (fun _ => true) true k 3 (([v0, v1, v2, v3, v4, v5, v6, v7, v8, v9, v10, v11, v12, v13, v14, v15, v16, v17, v18, v19, v20, v21, v22, v23, v24, v25, v26, v27, v28, v29, v30, v31, v32, v33, v34, v35, v36, v37, v38, v39, v40, v41, v42, v43].drop 17).take (Try.prog.cellsOf 3)) = xs[6]? := hf 6 _ rfl
  have g7 : DataW.trod enc Try.prog W 0 (fun _ => true) true k 42 (([v0, v1, v2, v3, v4, v5, v6, v7, v8, v9, v10, v11, v12, v13, v14, v15, v16, v17, v18, v19, v20, v21, v22, v23, v24, v25, v26, v27, v28, v29, v30, v31, v32, v33, v34, v35, v36, v37, v38, v39, v40, v41, v42, v43].drop 18).take (Try.prog.cellsOf 42)) = xs[7]? := hf 7 _ rfl
  have g8 : DataW.trod enc Try.prog W 0 (fun _ => true) true k 4 (([v0, v1, v2, v3, v4, v5, v6, v7, v8, v9, v10, v11, v12, v13, v14, v15, v16, v17, v18, v19, v20, v21, v22, v23, v24, v25, v26, v27, v28, v29, v30, v31, v32, v33, v34, v35, v36, v37, v38, v39, v40, v41, v42, v43].drop 19).take (Try.prog.cellsOf 4)) = xs[8]? := hf 8 _ rfl
  have g9 : DataW.trod enc Try.prog W 0 (fun _ => true) true k 4 (([v0, v1, v2, v3, v4, v5, v6, v7, v8, v9, v10, v11, v12, v13, v14, v15, v16, v17, v18, v19, v20, v21, v22, v23, v24, v25, v26, v27, v28, v29, v30, v31, v32, v33, v34, v35, v36, v37, v38, v39, v40, v41, v42, v43].drop 20).take (Try.prog.cellsOf 4)) = xs[9]? := hf 9 _ rfl
  have g10 : DataW.trod enc Try.prog W 0 (fun _ => true) true k 4 (([v0, v1, v2, v3, v4, v5, v6, v7, v8, v9, v10, v11, v12, v13, v14, v15, v16, v17, v18, v19, v20, v21, v22, v23, v24, v25, v26, v27, v28, v29, v30, v31, v32, v33, v34, v35, v36, v37, v38, v39, v40, v41, v42, v43].drop 21).take (Try.prog.cellsOf 4)) = xs[10]? := hf 10 _ rfl
  have g11 : DataW.trod enc Try.prog W 0 (fun _ => true) true k 4 (([v0, v1, v2, v3, v4, v5, v6, v7, v8, v9, v10, v11, v12, v13, v14, v15, v16, v17, v18, v19, v20, v21, v22, v23, v24, v25, v26, v27, v28, v29, v30, v31, v32, v33, v34, v35, v36, v37, v38, v39, v40, v41, v42, v43].drop 22).take (Try.prog.cellsOf 4)) = xs[11]? := hf 11 _ rfl
  have g12 : DataW.trod enc Try.prog W 0 (fun _ => true) true k 4 (([v0, v1, v2, v3, v4, v5, v6, v7, v8, v9, v10, v11, v12, v13, v14, v15, v16, v17, v18, v19, v20, v21, v22, v23, v24, v25, v26, v27, v28, v29, v30, v31, v32, v33, v34, v35, v36, v37, v38, v39, v40, v41, v42, v43].drop 23).take (Try.prog.cellsOf 4)) = xs[12]? := hf 12 _ rfl
  have g13 : DataW.trod enc Try.prog W 0 (fun _ => true) true k 4 (([v0, v1, v2, v3, v4, v5, v6, v7, v8, v9, v10, v11, v12, v13, v14, v15, v16, v17, v18, v19, v20, v21, v22, v23, v24, v25, v26, v27, v28, v29, v30, v31, v32, v33, v34, v35, v36, v37, v38, v39, v40, v41, v42, v43].drop 24).take (Try.prog.cellsOf 4)) = xs[13]? := hf 13 _ rfl
  have g14 : DataW.trod enc Try.prog W 0 (fun _ => true) true k 44 (([v0, v1, v2, v3, v4, v5, v6, v7, v8, v9, v10, v11, v12, v13, v14, v15, v16, v17, v18, v19, v20, v21, v22, v23, v24, v25, v26, v27, v28, v29, v30, v31, v32, v33, v34, v35, v36, v37, v38, v39, v40, v41, v42, v43].drop 25).take (Try.prog.cellsOf 44)) = xs[14]? := hf 14 _ rfl
  have g15 : DataW.trod enc Try.prog W 0 (fun _ => true) true k 4 (([v0, v1, v2, v3, v4, v5, v6, v7, v8, v9, v10, v11, v12, v13, v14, v15, v16, v17, v18, v19, v20, v21, v22, v23, v24, v25, v26, v27, v28, v29, v30, v31, v32, v33, v34, v35, v36, v37, v38, v39, v40, v41, v42, v43].drop 39).take (Try.prog.cellsOf 4)) = xs[15]? := hf 15 _ rfl
  have g16 : DataW.trod enc Try.prog W 0 (fun _ => true) true k 39 (([v0, v1, v2, v3, v4, v5, v6, v7, v8, v9, v10, v11, v12, v13, v14, v15, v16, v17, v18, v19, v20, v21, v22, v23, v24, v25, v26, v27, v28, v29, v30, v31, v32, v33, v34, v35, v36, v37, v38, v39, v40, v41, v42, v43].drop 40).take (Try.prog.cellsOf 39)) = xs[16]? := hf 16 _ rfl
  have g17 : DataW.trod enc Try.prog W 0 (fun _ => true) true k 45 (([v0, v1, v2, v3, v4, v5, v6, v7, v8, v9, v10, v11, v12, v13, v14, v15, v16, v17, v18, v19, v20, v21, v22, v23, v24, v25, v26, v27, v28, v29, v30, v31, v32, v33, v34, v35, v36, v37, v38, v39, v40, v41, v42, v43].drop 43).take (Try.prog.cellsOf 45)) = xs[17]? := hf 17 _ rfl
  rw [Try.cells39, List.getElem?_eq_getElem (by omega)] at g0 g16
  rw [Try.cells3, List.getElem?_eq_getElem (by omega)] at g1 g2 g5 g6
  rw [Try.cells4, List.getElem?_eq_getElem (by omega)] at g3 g8 g9 g10 g11 g12 g13 g15
  rw [Try.cells41, List.getElem?_eq_getElem (by omega)] at g4
  rw [Try.cells42, List.getElem?_eq_getElem (by omega)] at g7
  rw [Try.cells44, List.getElem?_eq_getElem (by omega)] at g14
  rw [Try.cells45, List.getElem?_eq_getElem (by omega)] at g17
  obtain ⟨n1, e1, _, _⟩ := DataW.trod_int Try.underlying3 g1
  obtain ⟨n2, e2, _, _⟩ := DataW.trod_int Try.underlying3 g2
  obtain ⟨n5, e5, _, _⟩ := DataW.trod_int Try.underlying3 g5
  obtain ⟨n6, e6, _, _⟩ := DataW.trod_int Try.underlying3 g6
  obtain ⟨n3, e3, _⟩ := DataW.trod_bool Try.underlying4 g3
  obtain ⟨n8, e8, _⟩ := DataW.trod_bool Try.underlying4 g8
  obtain ⟨n9, e9, _⟩ := DataW.trod_bool Try.underlying4 g9
  obtain ⟨n10, e10, _⟩ := DataW.trod_bool Try.underlying4 g10
  obtain ⟨n11, e11, _⟩ := DataW.trod_bool Try.underlying4 g11
  obtain ⟨n12, e12, _⟩ := DataW.trod_bool Try.underlying4 g12
  obtain ⟨n13, e13, _⟩ := DataW.trod_bool Try.underlying4 g13
  obtain ⟨n15, e15, _⟩ := DataW.trod_bool Try.underlying4 g15
  have k2 : Cell.okWide Try.prog W .any base 37 v2 := Exists.elim (hcell 2 v2 rfl) fun u hu => by have h' : u = 37 := (by simpa using hu.1.symm); exact h' ▸ hu.2
  have k18 : Cell.okWide Try.prog W .any base 42 v18 := Exists.elim (hcell 18 v18 rfl) fun u hu => by have h' : u = 42 := (by simpa using hu.1.symm); exact h' ▸ hu.2
  have k42 : Cell.okWide Try.prog W .any base 37 v42 := Exists.elim (hcell 42 v42 rfl) fun u hu => by have h' : u = 37 := (by simpa using hu.1.symm); exact h' ▸ hu.2
  have k43 : Cell.okWide Try.prog W .any base 45 v43 := Exists.elim (hcell 43 v43 rfl) fun u hu => by have h' : u = 45 := (by simpa using hu.1.symm); exact h' ▸ hu.2
  clear hcell
  simp only [List.drop_zero, List.drop_succ_cons, tkS, tkZ, List.cons.injEq, and_true] at e1 e2 e5 e6 e3 e8 e9 e10 e11 e12 e13 e15
  simp only [List.drop_zero, List.drop_succ_cons, tkS, tkZ] at g0 g4 g7 g14 g16 g17
  obtain ⟨co, ro, vg, lg, a0, bco, cg, ng, ig⟩ := read_gr (R := 140737488351232) g0 (fun v hv => (show v2 = v by simpa using hv) ▸ k2) (fun y hy => hw y (by rw [hxy]; simp only [DataW.weights, Try.underlying47]; exact each_at _ xs 0 39 _ rfl (List.getElem?_eq_getElem (by omega)) y hy))
  obtain ⟨st, a4⟩ := read_style g4
  obtain ⟨lt, ct, nt, _⟩ := open_is (R := 140737488351232) k18 g7 (fun y hy => hw y (by rw [hxy]; simp only [DataW.weights, Try.underlying47]; exact each_at _ xs 7 42 _ rfl (List.getElem?_eq_getElem (by omega)) y hy))
  obtain ⟨sv, a14⟩ := read_sv g14
  obtain ⟨mco, mro, vm, lm, a16, _, cm, nm, im⟩ := read_gr (R := 140737488351232) g16 (fun v hv => (show v42 = v by simpa using hv) ▸ k42) (fun y hy => hw y (by rw [hxy]; simp only [DataW.weights, Try.underlying47]; exact each_at _ xs 16 39 _ rfl (List.getElem?_eq_getElem (by omega)) y hy))
  obtain ⟨ll, cl, nl, _⟩ := open_rs (R := 140737488351232) k43 g17 (fun y hy => hw y (by rw [hxy]; simp only [DataW.weights, Try.underlying47]; exact each_at _ xs 17 45 _ rfl (List.getElem?_eq_getElem (by omega)) y hy))
  simp only [sA, svA, List.cons.injEq, and_true] at a0 a4 a14 a16
  obtain ⟨a0a, a0b, a0c⟩ := a0
  obtain ⟨b0, b1, b2, b3, b4, b5, b6, b7, b8, b9⟩ := a4
  obtain ⟨c0, c1, c2, c3, c4, c5, c6, c7, c8, c9, c10, c11, c12, c13⟩ := a14
  obtain ⟨a16a, a16b, a16c⟩ := a16
  subst e1 e2 e5 e6 e3 e8 e9 e10 e11 e12 e13 e15 a0a a0b a0c b0 b1 b2 b3 b4 b5 b6 b7 b8 b9 c0 c1 c2 c3 c4 c5 c6 c7 c8 c9 c10 c11 c12 c13 a16a a16b a16c
  exact ⟨⟨⟨co, ro, lg⟩, ⟨n1, n2, n3, n9, st⟩, n5, n6, lt, n8, n10, n11, n12, n13, sv, n15, ⟨mco, mro, lm⟩, ll⟩, v2, v18, v42, v43, rfl, ⟨cg, ct, cm, cl⟩, ⟨by show lm.length < _; omega, by show lg.length < _; omega, by show lt.length ≤ _; omega, bco⟩, ⟨by show lg.length * 48 ≤ _; omega, by show lm.length * 48 ≤ _; omega, by show lt.length ≤ _; omega, by show ll.length ≤ _; omega⟩, ⟨im, fun e => nil_of Try.underlying42 g7 (by obtain ⟨a, c, e1, _⟩ := ct; exact ⟨a, c, by rw [e1]; rw [show lt = [] from e]; rfl⟩), fun e => nil_of Try.underlying45 g17 (by obtain ⟨a, c, e1, _⟩ := cl; exact ⟨a, c, by rw [e1]; rw [show ll = [] from e]; rfl⟩)⟩, ig⟩
end Go.Proofs.Ytepepoabbbjmgaa.Sc
