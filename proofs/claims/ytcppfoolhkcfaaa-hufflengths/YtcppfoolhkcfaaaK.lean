/- The walks of symbolsOf and mayBegin. -/
import Derived.Test.YtcppfoolhkcfaaaJ
import Derived.Test.YtcppfoolhkcfaaaI
namespace Go.Proofs.Ytcppfoolhkcfaaa
open Go.RowKit Go.BigFrame

def ents (l : List Int) (k : Nat) : List (Value × Value) := ((List.range k).filter fun i => decide (Gf.ln l i ≠ 0)).map fun i => (ky (Gf.cod l i) (Gf.ln l i), .int .i64 (i : Int))
theorem ents_zero (l : List Int) : ents l 0 = [] := rfl
theorem ents_on (l : List Int) (k : Nat) (h : Gf.ln l k ≠ 0) : ents l (k + 1) = ents l k ++ [(ky (Gf.cod l k) (Gf.ln l k), .int .i64 (k : Int))] := by
  unfold ents
  rw [List.range_succ, List.filter_append, List.map_append]
  simp [h]
theorem ents_off (l : List Int) (k : Nat) (h : Gf.ln l k = 0) : ents l (k + 1) = ents l k := by
  unfold ents
  rw [List.range_succ, List.filter_append, List.map_append]
  simp [h]
theorem ents_mem {l : List Int} {k : Nat} {p : Value × Value} (h : p ∈ ents l k) : ∃ i, i < k ∧ Gf.ln l i ≠ 0 ∧ p = (ky (Gf.cod l i) (Gf.ln l i), .int .i64 (i : Int)) := by
  unfold ents at h
  obtain ⟨i, hi, rfl⟩ := List.mem_map.1 h
  rw [List.mem_filter] at hi
  exact ⟨i, List.mem_range.1 hi.1, of_decide_eq_true hi.2, rfl⟩
theorem mem_ents {l : List Int} {k i : Nat} (hi : i < k) (h : Gf.ln l i ≠ 0) : (ky (Gf.cod l i) (Gf.ln l i), Value.int .i64 (i : Int)) ∈ ents l k :=
  List.mem_map.2 ⟨i, List.mem_filter.2 ⟨List.mem_range.2 hi, decide_eq_true h⟩, rfl⟩
theorem ents_keys (l : List Int) (hA : l.all Gf.lenB = true) (hW : Gf.wgt l ≤ 32768) (k : Nat) (hk : k ≤ l.length) : ∀ p ∈ ents l k, ∃ q, keyOf Try.prog 51 p.1 = some q := by
  intro p hp
  obtain ⟨i, hi, _, rfl⟩ := ents_mem hp
  exact ky_key _ _ (by have := cod_small l hA hW i (by omega); omega) (by have := (Gf.ln_le l hA i).1; omega)
theorem ents_new (l : List Int) (hA : l.all Gf.lenB = true) (k : Nat) (hk : k < l.length) : ∀ p ∈ ents l k, p.1 ≠ ky (Gf.cod l k) (Gf.ln l k) := by
  intro p hp he
  obtain ⟨i, hi, h0, rfl⟩ := ents_mem hp
  obtain ⟨e1, e2⟩ := ky_inj he
  have := Gf.cod_inj l hA i k (by omega) hk h0 e2 e1
  omega

theorem run_makeMap_some (w : World) (k : IntKind) (n : Int) : (Instr.makeMap 64 (some (.int k n))).run Try.prog w = .ok (.map (some w.heap.size)) (w.alloc (.map #[] 0)) := by
  simp [Instr.makeMap, run_underlying Try.underlying64, Result.andThen, asInt, asIntOf]

section
variable {ops : Array Oper} {rest : List Oper} {op : Oper} {a : Act} {w : World} {Q : Exit → Act → World → Prop}
theorem wpList_make_map (hgd : op.guard = none) (x : Operand) (ho : op.op = .makeMap 64 (some x)) (k : IntKind) (n : Int) (hx : a.eval x = .int k n)
    (h : wpList Try.prog ops Q rest (a.put op.dst (.map (some w.heap.size))) (w.alloc (.map #[] 0))) : wpList Try.prog ops Q (op :: rest) a w := by
  refine wpList_plain hgd fun K hK' => ?_
  have hrun := run_makeMap_some w k n
  unfold Oper.wp
  simp only [execOp, ho, Option.map_some, hx, Sem.run_bind, hrun, Result.andThen_ok]
  exact hK' _ _ h
theorem wpList_update (hgd : op.guard = none) (x y z : Operand) (ho : op.op = .mapUpdate 64 x y z) (w' : World) (hrun : (Instr.mapUpdate 64 (a.eval x) (a.eval y) (a.eval z)).run Try.prog w = .ok () w')
    (h : wpList Try.prog ops Q rest (a.put op.dst undef) w') : wpList Try.prog ops Q (op :: rest) a w := by
  refine wpList_plain hgd fun K hK' => ?_
  unfold Oper.wp
  simp only [execOp, ho, Sem.run_bind, hrun, Result.andThen_ok]
  exact hK' _ _ h
theorem wpList_lookup (hgd : op.guard = none) (x y : Operand) (ho : op.op = .lookup 64 x y true) (v : Value) (hrun : (Instr.lookup 64 (a.eval x) (a.eval y) true).run Try.prog w = .ok v w)
    (h : wpList Try.prog ops Q rest (a.put op.dst v) w) : wpList Try.prog ops Q (op :: rest) a w := by
  refine wpList_plain hgd fun K hK' => ?_
  unfold Oper.wp
  simp only [execOp, ho, Sem.run_bind, hrun, Result.andThen_ok]
  exact hK' _ _ h
end

theorem nbs_full (l : List Int) (k : Nat) (hk : k < l.length) : (nbs l l.length).getD k (0, 0) = (Gf.cod l k, l.getD k 0) := by
  simp [nbs, hk]
theorem Row.same {w w' : World} {b : Nat} {t : TypeId} {c : Array Value} (h : Row w b t c) (e : w'.heap[b]? = w.heap[b]?) : Row w' b t c := by unfold Row; rw [e]; exact h

set_option maxRecDepth 100000 in
set_option maxHeartbeats 1000000 in
theorem symbolsOf_any (v : Value) (l : List Int) (hA : l.all Gf.lenB = true) (hW : Gf.wgt l ≤ 32768) (h512 : l.length ≤ 512) (w : World) (h : Ints w.heap.size w v l) :
    Calls Try.prog 29 #[v] w fun e w' => ∃ g, e = .returned (.map (some g)) ∧ w.heap.size ≤ g ∧ Mp w' g (ents l l.length) ∧ Below w.heap.size w w' := by
  have b1 : Below w.heap.size w (w.alloc (.map #[] 0)) := (Below.refl _ _).alloc (Nat.le_refl _) _
  have hnb := numbers_any v l hA hW h512 _ (h.on b1)
  obtain ⟨a, c, rfl, hc, h3⟩ := h
  have LN : Box' (∀ k, l.getD k 0 = (Gf.ln l k : Int) ∧ Gf.ln l k ≤ 15) := ⟨fun k => ⟨(Gf.ln_le l hA k).2, (Gf.ln_le l hA k).1⟩⟩
  have NF := Box'.mk (nbs_full l)
  have NL := Box'.mk (nbs_len l)
  have EK := Box'.mk (ents_keys l hA hW)
  have EN := Box'.mk (ents_new l hA)
  have EO := Box'.mk (ents_on l)
  have EF := Box'.mk (ents_off l)
  have CS := Box'.mk (cod_small l hA hW)
  have m1 := Mp.new w
  generalize hn : l.length = n at *
  clear h3 hn hA hW
  go_enter Try.func29, Try.ntmps29
  go_wp2_with (refine wpList_make_map rfl _ rfl _ _ rfl ?_)
  refine hnb.mono ?_
  rintro e w2 ⟨g, rfl, hg, r2, b2⟩
  have hg' : w.heap.size < g := by simp at hg; omega
  have m2 : Mp w2 w.heap.size [] := m1.below b2 (by simp)
  have bl2 := b1.trans (b2.mono (by simp))
  clear hnb m1 b1 b2 hg
  go_wp2_with fail
  go_loopw [12] (fun i wr => ∃ k : Nat, k ≤ n ∧ i = .int .i64 (k : Int) ∧ Row wr g 51 (agp (nbs l n)) ∧ Mp wr w.heap.size (ents l k) ∧ Below w.heap.size w wr) (fun i _ => n - (intOf i).toNat)
  case atStart => exact ⟨0, by omega, rfl, r2, m2, bl2⟩
  case round =>
    clear r2 m2 bl2
    obtain ⟨k, hk, rfl, r1, m1, hbl⟩ := hrel
    by_cases hlt : k < n
    · have p0 := r1.pr0 (k := k) (by rw [NL.out]; omega)
      have p1 := r1.pr1 (k := k) (by rw [NL.out]; omega)
      rw [NF.out k hlt] at p0 p1
      obtain ⟨hx, hx15⟩ := LN.out k
      rw [hx] at p1
      simp only at p0 p1
      have hgl := r1.lt
      have hcs := CS.out k hlt
      by_cases h0 : Gf.ln l k = 0
      · have EFk := Box'.mk (EF.out k h0)
        rw [h0] at p1
        generalize Gf.cod l k = x at *
        clear LN NF NL EK EN EO EF CS hx
        go_wp2_with fail
        exact ⟨⟨k + 1, by omega, by go_num, r1.alloc _, by rw [EFk.out]; exact m1.alloc _, hbl.alloc hbl.size _⟩, by simp [intOf]; omega⟩
      · obtain ⟨lk, hkey⟩ := ky_key (Gf.cod l k) (Gf.ln l k) (by omega) (by omega)
        have EOk := Box'.mk (EO.out k h0)
        obtain ⟨w3, hup, m3, hoth, b3⟩ := run_update_mp (m1.alloc (.cells #[.int .u64 (Gf.cod l k : Int), .int .i64 (Gf.ln l k : Int)] 51)) (EK.out k (by omega)) hkey (EN.out k hlt) (.int .i64 (k : Int))
        have r3 : Row w3 g 51 (agp (nbs l n)) := (r1.alloc _).same (hoth g (by omega))
        have bl3 : Below w.heap.size w w3 := (hbl.alloc hbl.size _).trans b3
        have i0 : (0 : Int) < (Gf.ln l k : Int) := by omega
        rw [← EOk.out] at m3
        unfold ky at hup
        generalize Gf.cod l k = x at *
        generalize Gf.ln l k = s at *
        clear LN NF NL EK EN EO EF CS hx hoth b3 hkey EOk
        go_wp2_with (refine wpList_update rfl _ _ _ rfl w3 ?_ ?_; exact hup)
        exact ⟨⟨k + 1, by omega, by go_num, r3, m3, bl3⟩, by simp [intOf]; omega⟩
    · obtain rfl : k = n := by omega
      clear LN NF NL EK EN EO EF CS
      go_wp2_with fail
      go_ret
      exact ⟨w.heap.size, rfl, Nat.le_refl _, m1, hbl⟩

theorem begin_num (c n W : Nat) (hn : n ≤ 15) (hc : c < 32768) : (IntKind.u64.wrap ((c : Int) * 2 ^ (15 - n)) < (W : Int)) ↔ c * 2 ^ (15 - n) < W := by
  have hp : 2 ^ (15 - n) ≤ 2 ^ 15 := Nat.pow_le_pow_right (by decide) (by omega)
  have h2 : c * 2 ^ (15 - n) ≤ 32768 * 32768 := Nat.mul_le_mul (by omega) hp
  have e : (c : Int) * 2 ^ (15 - n) = ((c * 2 ^ (15 - n) : Nat) : Int) := by simp
  rw [e, wrap_nat, Nat.mod_eq_of_lt (by omega)]
  omega
set_option maxHeartbeats 1000000 in
theorem mayBegin_any (c n W : Nat) (hn : n ≤ 15) (hc : c < 32768) (hW : W ≤ 32768) (w : World) :
    Calls Try.prog 30 #[.agg #[.int .u64 (c : Int), .int .i64 (n : Int)], .int .i64 (W : Int)] w fun e w' => e = .returned (.bool (decide (c * 2 ^ (15 - n) < W))) ∧ Below w.heap.size w w' := by
  have E : Box' (decide (IntKind.u64.wrap ((c : Int) * 2 ^ (15 - n)) < (W : Int)) = decide (c * 2 ^ (15 - n) < W)) := ⟨decide_eq_decide.2 (begin_num c n W hn hc)⟩
  go_enter Try.func30, Try.ntmps30
  go_wp2_with fail
  go_ret
  exact ⟨by rw [← E.out]; rfl, (Below.refl _ _).alloc (Nat.le_refl _) _⟩
end Go.Proofs.Ytcppfoolhkcfaaa
