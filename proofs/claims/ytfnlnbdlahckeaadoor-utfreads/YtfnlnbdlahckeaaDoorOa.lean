/- What came in: the table. -/
import Derived.Test.YtfnlnbdlahckeaaDoorRows
import Derived.Test.YtfnlnbdlahckeaaDoorQ
import Derived.ProofKit
import Derived.LaidMore
import Derived.OpenShut
import Derived.Stop.Joined
import Derived.Lib.LaidTab
import Derived.ChangeSlices
import Derived.ChangeArms
import Derived.ChangeOld
import Derived.Stop.LaidErr
namespace Go.Proofs.YtfnlnbdlahckeaaDoor
open Go.ChangeShapes Go.WideShapes Go.ChangeAt Go.RowKit
set_option linter.unusedVariables false

set_option maxRecDepth 100000 in
theorem Tryd.cells5 : Tryd.prog.cellsOf 5 = 1 := by kernel_rfl
set_option maxRecDepth 100000 in
theorem Tryd.cells3 : Tryd.prog.cellsOf 3 = 1 := by kernel_rfl
set_option maxRecDepth 100000 in
theorem Tryd.cells54 : Tryd.prog.cellsOf 54 = 5 := by kernel_rfl
set_option maxRecDepth 100000 in
theorem gLeads : Tryd.prog.globalNamed "wayfarer/utf.leads" = some 0 := by kernel_rfl
set_option maxRecDepth 100000 in
theorem tLeads : (Tryd.prog.globals[0]?).map (·.type) = some 62 := by kernel_rfl
set_option maxRecDepth 100000 in
theorem own : ownKnob Tryd.prog.godebug = none := by kernel_rfl
set_option maxRecDepth 100000 in
theorem laidOut : laidOutB Tryd.prog = true := by kernel_rfl
def laidTabs : List (String × DataW Unit) := [("wayfarer/utf.leads", Rows.laid_wayfarer_utf_leads)]
set_option maxRecDepth 100000 in
theorem lead_cells {H : Type} {enc : TypeId × Value → H} {W : World} {base : Nat} {sp : Nat → Bool} {held : Bool} {fuel : Nat} {sub : List Value} {f l s o h : Int} {p : List MemPlace}
    (hd : DataW.trod enc Tryd.prog W base sp held fuel 54 sub = some (.agg [.lit (.int .u8 f), .lit (.int .u8 l), .lit (.int .i64 s), .lit (.int .u8 o), .lit (.int .u8 h)], p)) : sub = [.int .u8 f, .int .u8 l, .int .i64 s, .int .u8 o, .int .u8 h] := by
  obtain ⟨xs, k, hk, hx, hl, hxl, hf⟩ := DataW.trod_struct Tryd.underlying54 hd
  rw [Tryd.cells54] at hl
  have hx1 : xs.map (·.1) = [.lit (.int .u8 f), .lit (.int .u8 l), .lit (.int .i64 s), .lit (.int .u8 o), .lit (.int .u8 h)] := by
    have := congrArg Prod.fst hx
    simpa using this.symm
  match sub, hl with
  | [v0, v1, v2, v3, v4], _ =>
    match xs, hx1 with
    | [y0, y1, y2, y3, y4], hx1 =>
      simp only [List.map_cons, List.map_nil, List.cons.injEq, and_true] at hx1
      obtain ⟨e0, e1, e2, e3, e4⟩ := hx1
      have g0 : DataW.trod enc Tryd.prog W base sp held k 5 (([v0, v1, v2, v3, v4].drop 0).take (Tryd.prog.cellsOf 5)) = some y0 := hf 0 _ rfl
      have g1 : DataW.trod enc Tryd.prog W base sp held k 5 (([v0, v1, v2, v3, v4].drop 1).take (Tryd.prog.cellsOf 5)) = some y1 := hf 1 _ rfl
      have g2 : DataW.trod enc Tryd.prog W base sp held k 3 (([v0, v1, v2, v3, v4].drop 2).take (Tryd.prog.cellsOf 3)) = some y2 := hf 2 _ rfl
      have g3 : DataW.trod enc Tryd.prog W base sp held k 5 (([v0, v1, v2, v3, v4].drop 3).take (Tryd.prog.cellsOf 5)) = some y3 := hf 3 _ rfl
      have g4 : DataW.trod enc Tryd.prog W base sp held k 5 (([v0, v1, v2, v3, v4].drop 4).take (Tryd.prog.cellsOf 5)) = some y4 := hf 4 _ rfl
      rw [Tryd.cells5] at g0 g1 g3 g4
      rw [Tryd.cells3] at g2
      obtain ⟨n0, q0, z0, _⟩ := DataW.trod_int Tryd.underlying5 g0
      obtain ⟨n1, q1, z1, _⟩ := DataW.trod_int Tryd.underlying5 g1
      obtain ⟨n2, q2, z2, _⟩ := DataW.trod_int Tryd.underlying3 g2
      obtain ⟨n3, q3, z3, _⟩ := DataW.trod_int Tryd.underlying5 g3
      obtain ⟨n4, q4, z4, _⟩ := DataW.trod_int Tryd.underlying5 g4
      rw [z0] at e0; rw [z1] at e1; rw [z2] at e2; rw [z3] at e3; rw [z4] at e4
      simp only [DataW.lit.injEq, Lit.int.injEq, true_and] at e0 e1 e2 e3 e4
      simp only [List.drop_succ_cons, List.drop_zero, List.take_succ_cons, List.take_zero, List.cons.injEq, and_true] at q0 q1 q2 q3 q4
      rw [q0, q1, q2, q3, q4, e0, e1, e2, e3, e4]
    | [], hx1 => simp at hx1
    | [_], hx1 => simp at hx1
    | [_, _], hx1 => simp at hx1
    | [_, _, _], hx1 => simp at hx1
    | [_, _, _, _], hx1 => simp at hx1
    | _ :: _ :: _ :: _ :: _ :: _ :: _, hx1 => simp at hx1
def ldD {H : Type} (k : Nat) : DataW H := .agg [.lit (.int .u8 (ldF k : Int)), .lit (.int .u8 (ldL k : Int)), .lit (.int .i64 (ldS k : Int)), .lit (.int .u8 (ldO k : Int)), .lit (.int .u8 (ldH k : Int))]
theorem leads_eq {H : Type} : (Rows.laid_wayfarer_utf_leads : DataW H) = .agg [ldD 0, ldD 1, ldD 2, ldD 3, ldD 4, ldD 5, ldD 6, ldD 7, ldD 8] := rfl
set_option maxRecDepth 100000 in
theorem tab_of_laid {W : World} (h : laidMetH Tryd.prog laidTabs W) : Tab W := by
  rw [MakeChecks.laidMetH_plain _ _ _ (by kernel_rfl)] at h
  obtain ⟨ps, ⟨g', t', cs, fuel, p, q, hg', ht', hvar, hd, _, _⟩, _⟩ := h
  obtain rfl := Option.some.inj (gLeads.symm.trans hg')
  obtain rfl := Option.some.inj (tLeads.symm.trans ht')
  rw [leads_eq] at hd
  obtain ⟨xs, m, hm, hx, hl, hxl, hf⟩ := DataW.trod_array Tryd.underlying62 hd
  have hx1 : xs.map (·.1) = [ldD 0, ldD 1, ldD 2, ldD 3, ldD 4, ldD 5, ldD 6, ldD 7, ldD 8] := by
    have := congrArg Prod.fst hx
    simpa using this.symm
  have hk : ∀ k, k < 9 → W.rangeAt 0 (k * 5) [.int .u8 (ldF k : Int), .int .u8 (ldL k : Int), .int .i64 (ldS k : Int), .int .u8 (ldO k : Int), .int .u8 (ldH k : Int)] := by
    intro k hk
    have hkx : k < xs.length := by omega
    have g := hf k hk
    rw [Tryd.cells54, List.getElem?_eq_getElem hkx] at g
    have e : xs[k].1 = ldD k := by
      have := congrArg (fun l => l[k]?) hx1
      simp only [List.getElem?_map, List.getElem?_eq_getElem hkx, Option.map_some] at this
      have h9 : k = 0 ∨ k = 1 ∨ k = 2 ∨ k = 3 ∨ k = 4 ∨ k = 5 ∨ k = 6 ∨ k = 7 ∨ k = 8 := by omega
      rcases h9 with rfl | rfl | rfl | rfl | rfl | rfl | rfl | rfl | rfl <;> exact Option.some.inj this
    have hs := lead_cells (f := ldF k) (l := ldL k) (s := ldS k) (o := ldO k) (h := ldH k) (p := xs[k].2) (g.trans (congrArg some (Prod.ext e rfl)))
    intro j u hu
    rw [World.var?_cell gLeads hvar (k * 5 + j)]
    rw [← hs] at hu
    have hj : j < 5 := by
      have := (List.getElem?_eq_some_iff.1 hu).1
      rw [List.length_take] at this
      omega
    rw [List.getElem?_take_of_lt hj, List.getElem?_drop] at hu
    simpa using hu
  exact ⟨hk, World.block_lt_of_cell? W _ (hk 0 (by decide) 0 _ rfl)⟩
set_option maxRecDepth 100000 in
theorem door_met (os : Os) (args : Array Value) : laidMetH Tryd.prog laidTabs ((World.doorLaid Tryd.prog 400 os).forCall (fun _ _ => 0) ⟨#[], args, []⟩).memory :=
  laidMetH_of_parts3 (fuel := 8) (laidMet_of_run' 8 (by kernel_rfl) (by kernel_rfl)) (by kernel_rfl) (by kernel_rfl)
end Go.Proofs.YtfnlnbdlahckeaaDoor
