/- Rows written, erased, shifted, as lists. -/
import Derived.Test.YtejnlogoidkloaaMj
namespace Go.Proofs.Ytejnlogoidkloaa
open Go.RowKit Go.BigFrame
set_option linter.unusedVariables false
set_option linter.unusedSimpArgs false

theorem lay_row (c : List Cl) (cols row a : Nat) (m : List Cl) (h : a + m.length ≤ cols) (hfit : cols * row + cols ≤ c.length) :
    lay c (cols * row + a) m = lay c (cols * row) (lay (rowF c cols row) a m) := by
  have hrl : (rowF c cols row).length = cols := rowF_len c cols row (by rw [Nat.mul_comm row cols]; omega)
  have hll : (lay (rowF c cols row) a m).length = cols := by rw [lay_len _ _ _ (by omega), hrl]
  refine cat_ext _ _ (by rw [lay_len _ _ _ (by omega), lay_len _ _ _ (by omega)]) fun i hi => ?_
  rw [cat_lay _ _ _ (by omega), cat_lay _ _ _ (by omega), hll]
  by_cases h1 : i < cols * row
  · rw [if_pos (by omega), if_pos h1]
  · rw [if_neg h1]
    by_cases h2 : i < cols * row + cols
    · rw [if_pos h2, cat_lay _ _ _ (by omega)]
      have e : ∀ j, i - cols * row = j → j < cols → cat (rowF c cols row) j = cat c i := fun j hj hlt => by
        rw [cat_row c cols row j hlt, Nat.mul_comm row cols]
        congr 1
        omega
      by_cases h3 : i < cols * row + a
      · rw [if_pos h3, if_pos (by omega), e _ rfl (by omega)]
      · by_cases h4 : i < cols * row + a + m.length
        · rw [if_neg h3, if_pos h4, if_neg (show ¬ i - cols * row < a by omega), if_pos (show i - cols * row < a + m.length by omega)]
          congr 1
          omega
        · rw [if_neg h3, if_neg h4, if_neg (show ¬ i - cols * row < a by omega), if_neg (show ¬ i - cols * row < a + m.length by omega), e _ rfl (by omega)]
    · rw [if_neg h2, if_neg (by omega), if_neg (by omega)]
theorem wrF_lay (r : List Cl) (col : Nat) (l : List Cl) (h : col ≤ r.length) : lay r col (l.take (r.length - col)) = wrF r col l := by
  unfold lay wrF
  congr 1
  rw [List.length_take]
  rcases Nat.le_total l.length (r.length - col) with q | q
  · rw [Nat.min_eq_right q]
  · rw [Nat.min_eq_left q, List.drop_of_length_le (by omega), List.drop_of_length_le (by omega)]
theorem erF_lay (r : List Cl) (f t : Nat) (s : St) (h : f ≤ t) : lay r f (List.replicate (t - f) (bl s)) = erF r f t s := by
  unfold lay erF
  rw [List.length_replicate, show f + (t - f) = t by omega]
theorem fiL_lay (l : List Cl) (o k : Nat) (s : St) : fiL l o k s = lay l o (List.replicate k (bl s)) := by
  unfold fiL lay
  rw [List.length_replicate]
theorem row_drop (c : List Cl) (cols row f : Nat) : (c.drop (cols * row + f)).take (cols - f) = (rowF c cols row).drop f := by
  unfold rowF
  rw [List.drop_take, List.drop_drop, Nat.mul_comm row cols]
theorem shF_lay (r : List Cl) (f : Nat) (k : Int) (s : St) (h : f ≤ r.length) : lay r f (puF (r.drop f) (clF k ((r.length - f : Nat) : Int)) s) = shF r f k s := by
  have hdl : (r.drop f).length = r.length - f := List.length_drop
  have hz1 : -((r.drop f).length : Int) ≤ clF k ((r.length - f : Nat) : Int) := by rw [hdl]; unfold clF; omega
  have hz2 : clF k ((r.length - f : Nat) : Int) ≤ ((r.drop f).length : Int) := by rw [hdl]; unfold clF; omega
  have hpl := puF_len (r.drop f) _ s hz1 hz2
  rw [hdl] at hpl
  refine cat_ext _ _ (by rw [lay_len _ _ _ (by omega), shF_len]) fun i hi => ?_
  rw [lay_len _ _ _ (by omega)] at hi
  have e : cat (shF r f k s) i = if i < f then cat r i else if (f : Int) ≤ (i : Int) - k ∧ (i : Int) - k < (r.length : Int) then cat r ((i : Int) - k).toNat else bl s := by
    unfold shF cat
    simp only [List.getD_eq_getElem?_getD, List.getElem?_map, List.getElem?_range hi, Option.map_some, Option.getD_some]
  rw [e, cat_lay _ _ _ (by omega), hpl]
  by_cases h1 : i < f
  · rw [if_pos h1, if_pos h1]
  · rw [if_neg h1, if_neg h1, if_pos (by omega), cat_pu _ _ _ hz1 hz2 _ (by omega), hdl]
    by_cases h2 : (f : Int) ≤ (i : Int) - k ∧ (i : Int) - k < (r.length : Int)
    · have hk : clF k ((r.length - f : Nat) : Int) = k := by unfold clF; omega
      rw [hk, if_pos (by omega), if_pos h2, cat_drop]
      congr 1
      omega
    · rw [if_neg h2, if_neg]
      intro hh
      apply h2
      have hk : clF k ((r.length - f : Nat) : Int) = k := by unfold clF at hh ⊢; omega
      rw [hk] at hh
      omega
theorem lay_put (c : List Cl) (cols row : Nat) (r : List Cl) (h : r.length = cols) : lay c (cols * row) r = putRow c cols row r := by
  unfold lay putRow
  rw [h, Nat.mul_comm cols row]
/-- Nothing is copied out of a slice without cells. -/
theorem run_copyN (w : World) (ty : TypeId) (g x dLen dCap sCap : Nat) (a : Option Addr) : (Builtin.copy_ #[22, 22] ty #[.slice (some ⟨g, x, none⟩) dLen dCap, .slice a 0 sCap]).run Try.prog w = .ok (goInt 0) w := by
  obtain ⟨i, z, h1, h2, h3, h4, h5⟩ := info26'
  cases a with
  | none => simp [Builtin.copy_, run_underlying Try.underlying22, Builtin.lenOf, Builtin.firstCells, sizeOf, typeInfo, h1, h3, storeCells]
  | some ad =>
    have hl := run_loadCells_list (P := Try.prog) w ad [] (fun j v h => by simp at h)
    simp only [List.length_nil] at hl
    simp [Builtin.copy_, run_underlying Try.underlying22, Builtin.lenOf, Builtin.firstCells, sizeOf, typeInfo, h1, h3, hl, storeCells]
theorem wpList_copyA {ops : Array Oper} {rest : List Oper} {op : Oper} {a : Act} {w : World} {Q : Exit → Act → World → Prop} (hgd : op.guard = none) (s x : Operand) (ho : op.op = .call { callee := .builtin .copy, args := #[s, x], argTypes := #[22, 22] }) (g y o dLen dCap : Nat) (vx : Value) (N : Nat) (l src m : List Cl) (sp : List Value)
    (hs : a.eval s = .slice (some ⟨g, y, none⟩) dLen dCap) (hxx : a.eval x = vx) (hc : Cls N w vx src) (hr : RC w g l sp) (hm : m = src.take dLen) (hx : m = [] ∨ y = o * 15) (hfit : o + m.length ≤ l.length)
    (h : ∀ u w', Box' (RC w' g (lay l o m) sp ∧ Tc g w w') → wpList Try.prog ops Q rest (a.put op.dst u) w') : wpList Try.prog ops Q (op :: rest) a w := by
  obtain ⟨ad, cp, rfl, hcp, h3⟩ := hc
  by_cases hsl : src.length = 0
  · have hs0 : src = [] := List.eq_nil_of_length_eq_zero hsl
    subst hs0
    have hm0 : m = [] := by rw [hm]; simp
    subst hm0
    refine wpList_plain hgd fun K hK => ?_
    unfold Oper.wp execOp
    have hxx' : a.eval x = .slice ad 0 cp := hxx
    simp only [ho, resolve, invoke, builtin, Sem.run_bind, Sem.run_pure, Result.andThen_ok, List.map_toArray, List.map_cons, List.map_nil, hs, hxx', run_copyN]
    refine hK _ _ (h _ _ ⟨?_, Tc.refl _ _⟩)
    unfold lay
    simpa using hr
  · rcases h3 with rfl | ⟨b, o', rfl, h6, h7⟩
    · simp at hsl
    · have hml : m.length = Nat.min src.length dLen := by rw [hm, List.length_take]; exact Nat.min_comm _ _
      refine wpList_copyW hgd s x ho g y o dLen dCap ⟨b, o', none⟩ src.length cp l m sp hs hxx hr hml hx ?_ hfit (fun w' hw => h _ w' hw)
      intro j u hu
      have hj : j < m.length * 15 := by have := (List.getElem?_eq_some_iff.1 hu).1; rwa [cLs_len] at this
      have hmle : m.length ≤ src.length := by rw [hml]; exact Nat.min_le_left _ _
      have hmd : m.length ≤ dLen := by rw [hml]; exact Nat.min_le_right _ _
      have e1 : j = j / 15 * 15 + j % 15 := by omega
      rw [Addr.add_mid]
      rw [e1] at hu ⊢
      rw [cLs_get m (j / 15) (j % 15) (by omega) (by omega)] at hu
      rw [← Nat.add_assoc, h7 (j / 15) (by omega) (j % 15) (by omega), ← hu, hm]
      congr 2
      have := cat_take src dLen (j / 15) (by omega)
      unfold cat at this
      exact this.symm
end Go.Proofs.Ytejnlogoidkloaa
