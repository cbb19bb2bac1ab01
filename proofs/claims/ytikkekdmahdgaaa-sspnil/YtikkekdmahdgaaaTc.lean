/- A row that is put anew: what stands there, and more behind it, in new memory; clones; the program's Ack. -/
import Derived.Test.YtikkekdmahdgaaaTb
import Derived.Test.YtikkekdmahdgaaaGy
import Derived.Deep.Upon
namespace Go.Proofs.Ytikkekdmahdgaaa
open Go.RowKit Go.BigFrame
set_option linter.unusedSimpArgs false
set_option linter.unusedVariables false
set_option maxRecDepth 100000

/-- What is put behind a row without room is a row in a new block, with both. -/
theorem run_anew {t e : TypeId} {i : TypeInfo} {z : Value} (ht : Try.prog.underlying t = some (.slice e)) (hi : Try.prog.info? e = some i) (hz : i.zero = some z) (w : World) (ty : TypeId) (b : Addr) (k : Nat) (olds : List Value) (hlo : olds.length = k * i.size) (holds : ∀ j v, olds[j]? = some v → w.cell? (b.add j) = some v)
    (a : Addr) (n c : Nat) (news : List Value) (hl : news.length = n * i.size) (hnews : ∀ j v, news[j]? = some v → w.cell? (a.add j) = some v) (h0 : 0 < n) (hf : (k + n) * i.bytes ≤ 140737488355328) (hm : k + n ≤ 1048576) :
    ∃ cc w', (Builtin.append_ #[t, t] ty #[.slice (some b) k k, .slice (some a) n c]).run Try.prog w = .ok (.slice (some ⟨w.heap.size, 0, none⟩) (k + n) cc) w' ∧ k + n ≤ cc ∧ Below w.heap.size w w' ∧ w.heap.size < w'.heap.size ∧ ∀ j u, (olds ++ news)[j]? = some u → w'.cell? ⟨w.heap.size, j, none⟩ = some u := by
  refine ⟨_, _, run_append_grow w t ty e i z ht hi hz b k k olds hlo holds a n c news hl hnews (by omega) (by omega) (growslice_fits (by omega) hf), grownCap_ge _ _ _ _, ((Below.refl _ _).drew).alloc (Nat.le_refl _) _, by simp, fun j u hu => ?_⟩
  have r := Row.new w.drew e ((olds.toArray ++ news.toArray ++ Builtin.zeroCells z.cells (grownCap w (k + n) k e - (k + n))))
  have r' : Row (w.drew.alloc (.cells (olds.toArray ++ news.toArray ++ Builtin.zeroCells z.cells (grownCap w (k + n) k e - (k + n))) e)) w.heap.size e (olds.toArray ++ news.toArray ++ Builtin.zeroCells z.cells (grownCap w (k + n) k e - (k + n))) := r
  rw [r'.cell]
  have hj := (List.getElem?_eq_some_iff.1 hu).1
  rw [Array.getElem?_append_left (by simpa using hj)]
  simpa using hu
theorem wpList_anew {ops : Array Oper} {rest : List Oper} {o : Oper} {a : Act} {w : World} {Q : Exit → Act → World → Prop} (hgd : o.guard = none) (s x : Operand) {t e : TypeId} {i : TypeInfo} {z : Value}
    (ho : o.op = .call { callee := .builtin .append, args := #[s, x], argTypes := #[t, t] }) (ht : Try.prog.underlying t = some (.slice e)) (hi : Try.prog.info? e = some i) (hz : i.zero = some z) (b : Addr) (k : Nat) (hs : a.eval s = .slice (some b) k k) (olds : List Value) (hlo : olds.length = k * i.size) (holds : ∀ j v, olds[j]? = some v → w.cell? (b.add j) = some v)
    (ad : Addr) (n c : Nat) (hx : a.eval x = .slice (some ad) n c) (news : List Value) (hl : news.length = n * i.size) (hnews : ∀ j v, news[j]? = some v → w.cell? (ad.add j) = some v) (h0 : 0 < n) (hf : (k + n) * i.bytes ≤ 140737488355328) (hm : k + n ≤ 1048576)
    (h : ∀ cc w', k + n ≤ cc → Below w.heap.size w w' → w.heap.size < w'.heap.size → (∀ j u, (olds ++ news)[j]? = some u → w'.cell? ⟨w.heap.size, j, none⟩ = some u) → wpList Try.prog ops Q rest (a.put o.dst (.slice (some ⟨w.heap.size, 0, none⟩) (k + n) cc)) w') : wpList Try.prog ops Q (o :: rest) a w := by
  obtain ⟨cc, w', hr, h1, h2, h3, h4⟩ := run_anew ht hi hz w o.type b k olds hlo holds ad n c news hl hnews h0 hf hm
  refine wpList_plain hgd fun K hK => ?_
  unfold Oper.wp execOp
  simp only [ho, resolve, invoke, builtin, Sem.run_bind, Sem.run_pure, Result.andThen_ok, List.map_toArray, List.map_cons, List.map_nil, hs, hx, hr]
  exact hK _ _ (h cc w' h1 h2 h3 h4)
theorem info26 : ∃ i z, Try.prog.info? 26 = some i ∧ i.zero = some z ∧ i.size = 1 ∧ i.bytes = 16 := ⟨_, _, rfl, rfl, rfl, rfl⟩
theorem info90 : ∃ i z, Try.prog.info? 90 = some i ∧ i.zero = some z ∧ i.size = 2 ∧ i.bytes = 24 := ⟨_, _, rfl, rfl, rfl, rfl⟩
theorem Try.under76 : Try.prog.underlying 76 = some (.slice 26) := by kernel_rfl
theorem Try.under91 : Try.prog.underlying 91 = some (.slice 90) := by kernel_rfl
theorem elem26 : Try.prog.elem 76 = 26 := by kernel_rfl
theorem elem90 : Try.prog.elem 91 = 90 := by kernel_rfl
theorem size26 (w : World) : (sizeOf 26).run Try.prog w = .ok 1 w := by
  obtain ⟨i, _, h1, _, h2, _⟩ := info26
  simp [sizeOf, typeInfo, h1, h2]
theorem size90 (w : World) : (sizeOf 90).run Try.prog w = .ok 2 w := by
  obtain ⟨i, _, h1, _, h2, _⟩ := info90
  simp [sizeOf, typeInfo, h1, h2]
/-- Clones of rows. -/
theorem clone26_any (g o n c : Nat) (l : List Value) (w : World) (hl : l.length = n * 1) (hc : ∀ j u, l[j]? = some u → w.cell? ⟨g, o + j, none⟩ = some u) (hg : g < w.heap.size) (h0 : 0 < n) (hn : n ≤ 1048576) :
    Calls Try.prog 26 #[.slice (some ⟨g, o, none⟩) n c] w fun e w' => ∃ g' c', e = .returned (.slice (some ⟨g', 0, none⟩) n c') ∧ n ≤ c' ∧ w.heap.size ≤ g' ∧ g' < w'.heap.size ∧ Below w.heap.size w w' ∧ ∀ j u, l[j]? = some u → w'.cell? ⟨g', j, none⟩ = some u := by
  have b0 : Below w.heap.size w (w.alloc (.cells #[] 26)) := (Below.refl _ _).alloc (Nat.le_refl _) _
  have B0 := Box'.mk b0
  have C0 : Box' (∀ j u, l[j]? = some u → (w.alloc (.cells #[] 26)).cell? ((⟨g, o, none⟩ : Addr).add j) = some u) := ⟨fun j u hu => by
    rw [Addr.add_mid]
    exact (b0.cell (p := ⟨g, o + j, none⟩) hg).trans (hc j u hu)⟩
  have qE : ∀ (w : World) (a : Option Addr) (n c n' c' : Nat), (binOp .eql 76 (.slice a n c) (.slice none n' c')).run Try.prog w = .ok (.bool a.isNone) w := fun w a n c n' c' => Go.Lib.run_eql_slice_nil w 76 26 a n c n' c' Try.under76
  obtain ⟨i, z, h1, h2, h3, h4⟩ := info26
  have HL := Box'.mk hl
  have I4 := Box'.mk h4
  have I3 := Box'.mk h3
  have I1 := Box'.mk h1
  have I2 := Box'.mk h2
  clear hc b0 hl h1 h2 h3 h4
  go_enter Try.func26, Try.ntmps26
  go_wp2_with (refine wpList_anew rfl _ _ rfl Try.under76 I1.out I2.out ⟨w.heap.size, 0, none⟩ 0 (by simp [Act.eval]) [] (by simp) (fun j v h => by simp at h) ⟨g, o, none⟩ n c (by simp [Act.eval]) l (by rw [I3.out]; exact HL.out) C0.out h0 (by rw [I4.out]; omega) (by omega) ?_)
  intro cc w' k1 k2 k3 k4
  have HB : Box' (Below w.heap.size w w' ∧ n ≤ cc ∧ w.heap.size ≤ w.heap.size + 1) := ⟨B0.out.trans (k2.mono (by omega)), by omega, by omega⟩
  have K3 := Box'.mk k3
  have K4 := Box'.mk k4
  clear k1 k2 k3 k4 C0 B0 HL
  generalize w.heap.size + 1 = g' at *
  go_wp2_with fail
  go_ret
  exact ⟨_, _, rfl, HB.out.2.1, HB.out.2.2, K3.out, HB.out.1, fun j u hu => K4.out j u (by simpa using hu)⟩
theorem clone51_any (g o n c : Nat) (l : List Value) (w : World) (hl : l.length = n * 2) (hc : ∀ j u, l[j]? = some u → w.cell? ⟨g, o + j, none⟩ = some u) (hg : g < w.heap.size) (h0 : 0 < n) (hn : n ≤ 1048576) :
    Calls Try.prog 51 #[.slice (some ⟨g, o, none⟩) n c] w fun e w' => ∃ g' c', e = .returned (.slice (some ⟨g', 0, none⟩) n c') ∧ n ≤ c' ∧ w.heap.size ≤ g' ∧ g' < w'.heap.size ∧ Below w.heap.size w w' ∧ ∀ j u, l[j]? = some u → w'.cell? ⟨g', j, none⟩ = some u := by
  have b0 : Below w.heap.size w (w.alloc (.cells #[] 90)) := (Below.refl _ _).alloc (Nat.le_refl _) _
  have B0 := Box'.mk b0
  have C0 : Box' (∀ j u, l[j]? = some u → (w.alloc (.cells #[] 90)).cell? ((⟨g, o, none⟩ : Addr).add j) = some u) := ⟨fun j u hu => by
    rw [Addr.add_mid]
    exact (b0.cell (p := ⟨g, o + j, none⟩) hg).trans (hc j u hu)⟩
  have qE : ∀ (w : World) (a : Option Addr) (n c n' c' : Nat), (binOp .eql 91 (.slice a n c) (.slice none n' c')).run Try.prog w = .ok (.bool a.isNone) w := fun w a n c n' c' => Go.Lib.run_eql_slice_nil w 91 90 a n c n' c' Try.under91
  obtain ⟨i, z, h1, h2, h3, h4⟩ := info90
  have HL := Box'.mk hl
  have I4 := Box'.mk h4
  have I3 := Box'.mk h3
  have I1 := Box'.mk h1
  have I2 := Box'.mk h2
  clear hc b0 hl h1 h2 h3 h4
  go_enter Try.func51, Try.ntmps51
  go_wp2_with (refine wpList_anew rfl _ _ rfl Try.under91 I1.out I2.out ⟨w.heap.size, 0, none⟩ 0 (by simp [Act.eval]) [] (by simp) (fun j v h => by simp at h) ⟨g, o, none⟩ n c (by simp [Act.eval]) l (by rw [I3.out]; exact HL.out) C0.out h0 (by rw [I4.out]; omega) (by omega) ?_)
  intro cc w' k1 k2 k3 k4
  have HB : Box' (Below w.heap.size w w' ∧ n ≤ cc ∧ w.heap.size ≤ w.heap.size + 1) := ⟨B0.out.trans (k2.mono (by omega)), by omega, by omega⟩
  have K3 := Box'.mk k3
  have K4 := Box'.mk k4
  clear k1 k2 k3 k4 C0 B0 HL
  generalize w.heap.size + 1 = g' at *
  go_wp2_with fail
  go_ret
  exact ⟨_, _, rfl, HB.out.2.1, HB.out.2.2, K3.out, HB.out.1, fun j u hu => K4.out j u (by simpa using hu)⟩
end Go.Proofs.Ytikkekdmahdgaaa
