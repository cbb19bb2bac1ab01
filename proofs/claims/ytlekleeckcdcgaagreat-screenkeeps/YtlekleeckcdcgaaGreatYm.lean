/- Numbers are searched for, put in and taken away. -/
import Derived.Test.YtlekleeckcdcgaaGreatYo
import Derived.Test.YtlekleeckcdcgaaGreatYc
import Derived.Shelf.Slices.SearchI
import Derived.Shelf.Slices.Delete
import Derived.Shelf.Slices.Empties
namespace Go.Proofs
open Go.Shelf
set_option linter.unusedVariables false
set_option linter.unusedSimpArgs false
def Tryz.laysNm225_ren : Go.Shelf.Ren := ⟨fun | 25 => 141 | 31 => 175 | 32 => 176 | 37 => 189 | n => n, fun | 22 => 27 | 3 => 3 | 4 => 4 | 40 => 152 | 0 => 0 | n => n, fun | n => n⟩
theorem Tryz.laysNm225 : Go.Proofs.Lays2.n25 Tryz.prog Tryz.laysNm225_ren := {
 mixed := by kernel_rfl
 f25 := Tryz.func141.trans (congrArg some (by kernel_rfl))
 f31 := Tryz.func175.trans (congrArg some (by kernel_rfl))
 f32 := Tryz.func176.trans (congrArg some (by kernel_rfl))
 f37 := Tryz.func189.trans (congrArg some (by kernel_rfl))
 t0 := Tryz.underlying0
 a0 := Tryz.isAgg0
 z0 := Tryz.sizeOf0
 v0 := Tryz.zeroValue0
 t3 := Tryz.underlying3
 a3 := Tryz.isAgg3
 z3 := Tryz.sizeOf3
 v3 := Tryz.zeroValue3
 t4 := Tryz.underlying4
 a4 := Tryz.isAgg4
 z4 := Tryz.sizeOf4
 v4 := Tryz.zeroValue4
 t22 := Tryz.underlying27
 a22 := Tryz.isAgg27
 z22 := Tryz.sizeOf27
 v22 := Tryz.zeroValue27
 t40 := Tryz.underlying152
 a40 := Tryz.isAgg152
 z40 := Tryz.sizeOf152
 v40 := Tryz.zeroValue152 }
def Tryz.laysNm223_ren : Go.Shelf.Ren := ⟨fun | 23 => 143 | n => n, fun | 22 => 27 | 3 => 3 | 4 => 4 | 0 => 0 | n => n, fun | n => n⟩
theorem Tryz.laysNm223 : Go.Proofs.Lays2.n23 Tryz.prog Tryz.laysNm223_ren := {
 mixed := by kernel_rfl
 f23 := Tryz.func143.trans (congrArg some (by kernel_rfl))
 t0 := Tryz.underlying0
 a0 := Tryz.isAgg0
 z0 := Tryz.sizeOf0
 v0 := Tryz.zeroValue0
 t3 := Tryz.underlying3
 a3 := Tryz.isAgg3
 z3 := Tryz.sizeOf3
 v3 := Tryz.zeroValue3
 t4 := Tryz.underlying4
 a4 := Tryz.isAgg4
 z4 := Tryz.sizeOf4
 v4 := Tryz.zeroValue4
 t22 := Tryz.underlying27
 a22 := Tryz.isAgg27
 z22 := Tryz.sizeOf27
 v22 := Tryz.zeroValue27
 i3 := by kernel_rfl }
end Go.Proofs
namespace Go.Proofs.YtlekleeckcdcgaaGreat
open Go.RowKit Go.BigFrame
set_option maxRecDepth 100000
theorem tab_pair : ∀ (l : List Int) (ah cols : Int), tabF ah cols l = true → l.Pairwise (· ≤ ·) ∧ ∀ c ∈ l, ah < c
 | [], ah, cols, _ => ⟨.nil, fun c h => by cases h⟩
 | t :: r, ah, cols, h => by
  unfold tabF at h
  split at h
  ·cases h
  ·obtain ⟨h1, h2⟩ := tab_pair r t cols h
   refine ⟨.cons (fun c hc => by have := h2 c hc; omega) h1, fun c hc => ?_⟩
   rcases List.mem_cons.1 hc with rfl | q
   ·omega
   ·have := h2 c q; omega
theorem lw_count (c : Int) : ∀ (l : List Int), l.Pairwise (· ≤ ·) → l.countP (· < c) = lwT c l
 | [], _ => rfl
 | t :: r, h => by
  rw [List.pairwise_cons] at h
  unfold lwT
  by_cases q : t < c
  ·rw [if_pos q, List.countP_cons_of_pos (by simpa using q), lw_count c r h.2]
  ·rw [if_neg q, List.countP_cons_of_neg (by simpa using q), List.countP_eq_zero]
   intro x hx
   have := h.1 x hx
   simp
   omega
theorem lw_has (c : Int) : ∀ (l : List Int), l.Pairwise (· ≤ ·) → l.contains c = decide (l[lwT c l]? = some c)
 | [], _ => by simp
 | t :: r, h => by
  rw [List.pairwise_cons] at h
  unfold lwT
  rw [List.contains_cons]
  by_cases q : t < c
  ·rw [if_pos q, lw_has c r h.2]
   have : (c == t) = false := by simp; omega
   rw [this]
   simp
  ·rw [if_neg q]
   by_cases e : t = c
   ·subst e; simp
   ·have h1 : (c == t) = false := by simp; exact fun x => e x.symm
    have h2 : r.contains c = false := by
     cases hq : r.contains c with
     | false => rfl
     | true =>
      have := h.1 c (by simpa using hq)
      omega
    rw [h1, h2]
    simp [e]
/-- What a search tells of tabulators. -/
theorem search_any (b : Nat) (l : List Int) (cp : Nat) (col cols ah : Int) (hn : l.length ≤ 1000000) (ht : tabF ah cols l = true) (w : World) (a : Option Addr) (hc : ∀ k, k < l.length → a = some ⟨b, 0, none⟩ ∧ w.cell? ⟨b, k, none⟩ = some (.int .i64 (l.getD k 0))) :
  Calls Tryz.prog 141 #[.slice a l.length cp, .int .i64 col] w fun e w' => e = .returned (.tuple #[.int .i64 ((lwT col l : Nat) : Int), .bool (decide (l[lwT col l]? = some col))]) ∧ ∃ q, w' = w.drewN q := by
 obtain ⟨hp, _⟩ := tab_pair l ah cols ht
 by_cases h0 : l.length = 0
 ·have hl : l = [] := List.eq_nil_of_length_eq_zero h0
  subst hl
  refine (Any.slices_BinarySearch_int_empty Tryz.laysNm225 a cp col w).mono ?_
  rintro e w' ⟨rfl, rfl⟩
  exact ⟨rfl, 0, rfl⟩
 ·obtain ⟨rfl, _⟩ := hc 0 (by omega)
  have := Any.slices_BinarySearch_int Tryz.laysNm225 b 0 l.length cp l col w (Nat.le_refl _) (by omega) (fun j hj => by rw [Nat.zero_add]; exact (hc j hj).2) (by rw [List.take_length]; exact hp)
  rw [List.take_length, lw_count col l hp, lw_has col l hp] at this
  exact this
end Go.Proofs.YtlekleeckcdcgaaGreat
