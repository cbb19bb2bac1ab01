/- A map of one's own, whose keys are bits: what is stored is found, and nothing else. -/
import Derived.Test.YtcppfoolhkcfaaaY
import Derived.ProofKit
import Derived.DeepKeys4
import Derived.Carry
namespace Go.Proofs.Ytcppfoolhkcfaaa
open Go.RowKit Go.BigFrame

theorem own : ownKnob Try.prog.godebug = none := by kernel_rfl
theorem laidOut : laidOutB Try.prog = true := by kernel_rfl
theorem keyLaw : WideMaps.KeyLaw Try.prog 51 := deep_law_laid laidOut (m := 2) (by decide) (of_decide_eq_true (by kernel_rfl)) (by kernel_rfl) (by rw [Try.underlying51])
/-- bits as a key -/
def ky (c s : Nat) : Value := .agg #[.int .u64 (c : Int), .int .i64 (s : Int)]
theorem ky_inj {c s c' s' : Nat} (h : ky c s = ky c' s') : c = c' ∧ s = s' := by
  unfold ky at h
  simp only [Value.agg.injEq, Array.mk.injEq, List.cons.injEq, Value.int.injEq, true_and, and_true] at h
  omega
theorem key_lits (P : Program) (d : Nat) (a b : Int) (fs : Array Field) (t0 t1 : TypeId) (f0 f1 : Field) (hfs : fs = #[f0, f1]) (hu : P.underlying 51 = some (.struct fs)) (n0 : f0.name != "_") (n1 : f1.name != "_") (e0 : f0.type = t0) (e1 : f1.type = t1) (o0 : f0.offset = 0) (o1 : f1.offset = 1) (c51 : P.cellsOf 51 = 2) (c0 : P.cellsOf t0 = 1) (c1 : P.cellsOf t1 = 1)
    (h0 : P.underlying t0 = some (.int .u64)) (h1 : P.underlying t1 = some (.int .i64)) (wa : (Lit.int .u64 a).wf = true) (wb : (Lit.int .i64 b).wf = true) :
    P.keyLits (d + 2) 51 [.int .u64 a, .int .i64 b] = some [.int .u64 a, .int .i64 b] := by
  subst hfs
  unfold Program.keyLits
  simp only [hu, List.length_cons, List.length_nil, c51]
  rw [if_pos ⟨by trivial, by simp at n0 n1; simp [n0, n1]⟩]
  have k0 : P.keyLits (d + 1) t0 [.int .u64 a] = some [.int .u64 a] := by
    unfold Program.keyLits; simp [h0, wa]
  have k1 : P.keyLits (d + 1) t1 [.int .i64 b] = some [.int .i64 b] := by
    unfold Program.keyLits; simp [h1, wb]
  simp [List.mapM_cons, e0, e1, o0, o1, c0, c1, k0, k1]
theorem ky_key (c s : Nat) (hc : c ≤ 65536) (hs : s ≤ 64) : ∃ k, keyOf Try.prog 51 (ky c s) = some k := by
  have wa : (Lit.int .u64 (c : Int)).wf = true := by
    simp only [Lit.wf, Bool.and_eq_true, IntKind.min, IntKind.max, IntKind.bits, IntKind.signed]
    exact ⟨by simp, by simp; omega⟩
  have wb : (Lit.int .i64 (s : Int)).wf = true := by
    simp only [Lit.wf, Bool.and_eq_true, IntKind.min, IntKind.max, IntKind.bits, IntKind.signed]
    exact ⟨by simp <;> omega, by simp; omega⟩
  have hkt : Try.prog.keyType 51 = true := by kernel_rfl
  have c51 : Try.prog.cellsOf 51 = 2 := by kernel_rfl
  have hsz : Try.prog.types.size + 1 = 113 + 2 := by kernel_rfl
  have hl := key_lits Try.prog 113 (c : Int) (s : Int) _ 49 3 _ _ rfl Try.underlying51 rfl rfl rfl rfl rfl rfl c51 (by kernel_rfl) (by kernel_rfl) Try.underlying49 Try.underlying3 wa wb
  rw [← hsz] at hl
  refine ⟨.string (keyBytes [.int .u64 c, .int .i64 s]), ?_⟩
  have hf : Value.formed Try.prog 51 (ky c s) = true := by unfold Value.formed ky; rw [Try.underlying51, c51]; rfl
  have hc : (ky c s).cells.toList = [.int .u64 c, .int .i64 s] := rfl
  unfold keyOf
  rw [Try.underlying51]
  simp only [hkt, hf, hc, Bool.and_self, if_true]
  rw [hl]; rfl

/-- The map g holds just these keys and values. -/
def Mp (w : World) (g : Nat) (kv : List (Value × Value)) : Prop := ∃ es clock, w.heap[g]? = some (.map es clock) ∧ es.toList.map (fun e => (e.key, e.val)) = kv
theorem Mp.lt {w : World} {g : Nat} {kv : List (Value × Value)} (h : Mp w g kv) : g < w.heap.size := let ⟨_, _, h, _⟩ := h; (Array.getElem?_eq_some_iff.1 h).1
theorem Mp.below {N : Nat} {w w' : World} {g : Nat} {kv : List (Value × Value)} (h : Mp w g kv) (hb : Below N w w') (hn : g < N) : Mp w' g kv := by
  obtain ⟨es, c, h1, h2⟩ := h
  exact ⟨es, c, by rw [hb.block g hn]; exact h1, h2⟩
theorem Mp.alloc {w : World} {g : Nat} {kv : List (Value × Value)} (h : Mp w g kv) (o : Obj) : Mp (w.alloc o) g kv := by
  have := h.lt
  obtain ⟨es, c, h1, h2⟩ := h
  exact ⟨es, c, by rw [Below.heap_alloc _ _ _ this]; exact h1, h2⟩
theorem Mp.new (w : World) : Mp (w.alloc (.map #[] 0)) w.heap.size [] := ⟨#[], 0, heap_alloc_last w _, rfl⟩
theorem Mp.setCell {w : World} {g : Nat} {kv : List (Value × Value)} (h : Mp w g kv) (a : Addr) (v : Value) (hb : g ≠ a.block) : Mp (w.setCell a v) g kv := by
  obtain ⟨es, c, h1, h2⟩ := h
  exact ⟨es, c, by rw [Below.heap_setCell _ _ _ _ hb]; exact h1, h2⟩
theorem Mp.drewN {w : World} {g : Nat} {kv : List (Value × Value)} (h : Mp w g kv) (n : Nat) : Mp (w.drewN n) g kv := h

theorem zero3 (w : World) : (zeroValue 3).run Try.prog w = .ok (.int .i64 0) w := by
  obtain ⟨i, h1, h2, h3, _⟩ := Try.info3'
  exact (zero_of_info (n := 1) (by rw [h1]; simp [h2, h3])).1 w

theorem run_lookup_mp {w : World} {g : Nat} {kv : List (Value × Value)} (h : Mp w g kv) (hk : ∀ p ∈ kv, ∃ l, keyOf Try.prog 51 p.1 = some l) {key : Value} {lk : Lit} (hkey : keyOf Try.prog 51 key = some lk) :
    ((Instr.lookup 64 (.map (some g)) key true).run Try.prog w = .ok (.tuple #[.int .i64 0, .bool false]) w ∧ ∀ p ∈ kv, p.1 ≠ key) ∨ ∃ v, (Instr.lookup 64 (.map (some g)) key true).run Try.prog w = .ok (.tuple #[v, .bool true]) w ∧ (key, v) ∈ kv := by
  obtain ⟨es, clock, hb, rfl⟩ := h
  have hks : ∀ e ∈ es.toList, ∃ l, keyOf Try.prog 51 e.key = some l := fun e he => hk (e.key, e.val) (List.mem_map.2 ⟨e, he, rfl⟩)
  rcases keyLaw.find w hkey es.toList hks with ⟨h1, h2⟩ | ⟨j, e, h1, h2, h3⟩
  · refine .inl ⟨?_, fun p hp => ?_⟩
    · simp [Instr.lookup, run_underlying Try.underlying64, MapKept.run_getObj_map hb, keyLaw.check w _ hkey, h1, Result.andThen]
    · obtain ⟨e, he, rfl⟩ := List.mem_map.1 hp
      exact h2 e he
  · refine .inr ⟨e.val, ?_, List.mem_map.2 ⟨e, List.mem_of_getElem? h2, by rw [h3]⟩⟩
    simp [Instr.lookup, run_underlying Try.underlying64, MapKept.run_getObj_map hb, keyLaw.check w _ hkey, h1, Result.andThen]

theorem run_update_mp {w : World} {g : Nat} {kv : List (Value × Value)} (h : Mp w g kv) (hk : ∀ p ∈ kv, ∃ l, keyOf Try.prog 51 p.1 = some l) {key : Value} {lk : Lit} (hkey : keyOf Try.prog 51 key = some lk) (hnew : ∀ p ∈ kv, p.1 ≠ key) (val : Value) :
    ∃ w', (Instr.mapUpdate 64 (.map (some g)) key val).run Try.prog w = .ok () w' ∧ Mp w' g (kv ++ [(key, val)]) ∧ (∀ b, b ≠ g → w'.heap[b]? = w.heap[b]?) ∧ Below g w w' := by
  obtain ⟨es, clock, hb, rfl⟩ := h
  have hks : ∀ e ∈ es.toList, ∃ l, keyOf Try.prog 51 e.key = some l := fun e he => hk (e.key, e.val) (List.mem_map.2 ⟨e, he, rfl⟩)
  rcases keyLaw.find w hkey es.toList hks with ⟨h1, h2⟩ | ⟨j, e, h1, h2, h3⟩
  · have hg := (Array.getElem?_eq_some_iff.1 hb).1
    refine ⟨{ w with heap := w.heap.setIfInBounds g (.map (es.push { key := key, val := val, born := clock }) (clock + 1)) }, ?_, ⟨es.push { key := key, val := val, born := clock }, clock + 1, ?_, ?_⟩, ?_, ⟨rfl, rfl, rfl, ?_, ?_⟩⟩
    · simp [Instr.mapUpdate, run_underlying Try.underlying64, MapKept.run_getObj_map hb, keyLaw.check w _ hkey, h1, Result.andThen, MapKept.run_setObj_map _ hb]
    · simp [hg]
    · simp
    · intro b hbg; simp [Ne.symm hbg]
    · simp
    · intro b hlt; simp [Nat.ne_of_gt hlt]
  · exact absurd h3 (hnew (e.key, e.val) (List.mem_map.2 ⟨e, List.mem_of_getElem? h2, rfl⟩))
end Go.Proofs.Ytcppfoolhkcfaaa
