/- The finder's map of starts, exactly: the last place below K with a start. -/
import Derived.Test.YtcjfaahlchbcmaaK11
namespace Go.Proofs.Ytcjfaahlchbcmaa
open Go.RowKit Go.BigFrame
set_option linter.unusedVariables false
abbrev stE (l : List UInt8) (p q : Nat) : Prop := l.getD p 0 = l.getD q 0 ∧ l.getD (p + 1) 0 = l.getD (q + 1) 0 ∧ l.getD (p + 2) 0 = l.getD (q + 2) 0
theorem stE.symm {l : List UInt8} {p q : Nat} (h : stE l p q) : stE l q p := ⟨h.1.symm, h.2.1.symm, h.2.2.symm⟩
theorem stE.trans {l : List UInt8} {p q r : Nat} (h : stE l p q) (k : stE l q r) : stE l p r := ⟨h.1.trans k.1, h.2.1.trans k.2.1, h.2.2.trans k.2.2⟩
theorem stE_iff {l : List UInt8} {p q : Nat} : stA l p = stA l q ↔ stE l p q := by
  constructor
  · intro h
    exact ⟨st_inj h 0 (by omega), st_inj h 1 (by omega), st_inj h 2 (by omega)⟩
  · rintro ⟨h1, h2, h3⟩
    unfold stA
    rw [h1, h2, h3]
def lst (l : List UInt8) : Nat → Nat → Int
  | 0, _ => -1
  | K + 1, q => if stE l K q then (K : Int) else lst l K q
theorem lst_lt (l : List UInt8) (K q : Nat) : -1 ≤ lst l K q ∧ lst l K q < (K : Int) := by
  induction K with
  | zero => exact ⟨Int.le_refl _, by show (-1 : Int) < 0; decide⟩
  | succ K ih =>
    rw [lst]
    split
    · omega
    · omega
theorem lst_same {l : List UInt8} {p q : Nat} (h : stE l p q) (K : Nat) : lst l K p = lst l K q := by
  induction K with
  | zero => rfl
  | succ K ih =>
    rw [lst, lst, ih]
    by_cases h1 : stE l K p
    · rw [if_pos h1, if_pos (h1.trans h)]
    · rw [if_neg h1, if_neg (fun h2 => h1 (h2.trans h.symm))]
theorem lst_some {l : List UInt8} {K q p : Nat} (h : lst l K q = (p : Int)) : p < K ∧ stE l p q := by
  induction K with
  | zero => simp [lst] at h
  | succ K ih =>
    rw [lst] at h
    split at h
    · rename_i h1
      obtain rfl : K = p := by omega
      exact ⟨by omega, h1⟩
    · obtain ⟨h1, h2⟩ := ih h
      exact ⟨by omega, h2⟩
theorem lst_none {l : List UInt8} {K q : Nat} (h : ∀ p, p < K → ¬ stE l p q) : lst l K q = -1 := by
  induction K with
  | zero => rfl
  | succ K ih =>
    rw [lst, if_neg (h K (by omega))]
    exact ih fun p hp => h p (by omega)
theorem lst_self (l : List UInt8) (K : Nat) : lst l (K + 1) K = (K : Int) := by rw [lst, if_pos ⟨rfl, rfl, rfl⟩]
def Mx (w : World) (g : Nat) (l : List UInt8) (K : Nat) : Prop := ∃ es clock, w.heap[g]? = some (.map es clock) ∧ (∀ e ∈ es.toList, ∃ p : Nat, p < K ∧ e.key = stA l p ∧ e.val = .int .i64 (p : Int) ∧ lst l K p = (p : Int)) ∧ (∀ p, p < K → ∃ e ∈ es.toList, e.key = stA l p) ∧ (∀ (i j : Nat) (e e' : MapEntry), es.toList[i]? = some e → es.toList[j]? = some e' → e.key = e'.key → i = j)
theorem Mx.lt {w : World} {g : Nat} {l : List UInt8} {K : Nat} (h : Mx w g l K) : g < w.heap.size := let ⟨_, _, h, _⟩ := h; (Array.getElem?_eq_some_iff.1 h).1
theorem Mx.same {w w' : World} {g : Nat} {l : List UInt8} {K : Nat} (h : Mx w g l K) (e : w'.heap[g]? = w.heap[g]?) : Mx w' g l K := let ⟨es, c, h1, h2⟩ := h; ⟨es, c, by rw [e]; exact h1, h2⟩
theorem Mx.below {N : Nat} {w w' : World} {g : Nat} {l : List UInt8} {K : Nat} (h : Mx w g l K) (hb : Below N w w') (hn : g < N) : Mx w' g l K := h.same (hb.block g hn)
theorem Mx.alloc {w : World} {g : Nat} {l : List UInt8} {K : Nat} (h : Mx w g l K) (o : Obj) : Mx (w.alloc o) g l K := h.same (Below.heap_alloc _ _ _ h.lt)
theorem Mx.new (w : World) (l : List UInt8) : Mx (w.alloc (.map #[] 0)) w.heap.size l 0 := ⟨#[], 0, heap_alloc_last w _, ⟨fun e he => by simp at he, fun p hp => absurd hp (Nat.not_lt_zero _), fun i j e e' h => by simp at h⟩⟩
theorem Mx.setCell {w : World} {g : Nat} {l : List UInt8} {K : Nat} (h : Mx w g l K) (a : Addr) (v : Value) (hb : g ≠ a.block) : Mx (w.setCell a v) g l K := h.same (Below.heap_setCell _ _ _ _ hb)
theorem Mx.drew {w : World} {g : Nat} {l : List UInt8} {K : Nat} (h : Mx w g l K) : Mx w.drew g l K := h
theorem Mx.lookup {w : World} {g : Nat} {l : List UInt8} {K : Nat} (h : Mx w g l K) (q : Nat) :
    (lst l K q = -1 ∧ (Instr.lookup 84 (.map (some g)) (stA l q) true).run Try.prog w = .ok (.tuple #[.int .i64 0, .bool false]) w) ∨ ∃ p : Nat, lst l K q = (p : Int) ∧ (Instr.lookup 84 (.map (some g)) (stA l q) true).run Try.prog w = .ok (.tuple #[.int .i64 (p : Int), .bool true]) w := by
  obtain ⟨es, clock, hb, he, hB, _⟩ := h
  obtain ⟨lk, hkey⟩ := st_key l q
  have hks : ∀ e ∈ es.toList, ∃ l, keyOf Try.prog 89 e.key = some l := fun e h => by obtain ⟨p, _, h2, _⟩ := he e h; rw [h2]; exact st_key l p
  rcases keyLaw.find w hkey es.toList hks with ⟨h1, h2⟩ | ⟨j, e, h1, h2, h3⟩
  · refine .inl ⟨lst_none fun p hp hs => ?_, ?_⟩
    · obtain ⟨e, h4, h5⟩ := hB p hp
      exact h2 e h4 (by rw [h5]; exact stE_iff.2 hs)
    · simp [Instr.lookup, run_underlying Try.underlying84, MapKept.run_getObj_map hb, keyLaw.check w _ hkey, h1, Result.andThen]
  · obtain ⟨p, hp, hk, hv, hl⟩ := he e (List.mem_of_getElem? h2)
    refine .inr ⟨p, ?_, ?_⟩
    · rw [← hl]
      exact (lst_same (stE_iff.1 (by rw [← hk, h3])) K).symm
    · simp [Instr.lookup, run_underlying Try.underlying84, MapKept.run_getObj_map hb, keyLaw.check w _ hkey, h1, hv, Result.andThen]
theorem Mx.update {w : World} {g : Nat} {l : List UInt8} {K : Nat} (h : Mx w g l K) :
    ∃ w', (Instr.mapUpdate 84 (.map (some g)) (stA l K) (.int .i64 (K : Int))).run Try.prog w = .ok () w' ∧ Mx w' g l (K + 1) ∧ (∀ b, b ≠ g → w'.heap[b]? = w.heap[b]?) ∧ Below g w w' := by
  obtain ⟨es, clock, hb, he, hB, hC⟩ := h
  obtain ⟨lk, hkey⟩ := st_key l K
  have hg := (Array.getElem?_eq_some_iff.1 hb).1
  have hks : ∀ e ∈ es.toList, ∃ l, keyOf Try.prog 89 e.key = some l := fun e h => by obtain ⟨p, _, h2, _⟩ := he e h; rw [h2]; exact st_key l p
  rcases keyLaw.find w hkey es.toList hks with ⟨h1, h2⟩ | ⟨j, e, h1, h2, h3⟩
  · refine ⟨{ w with heap := w.heap.setIfInBounds g (.map (es.push { key := stA l K, val := .int .i64 (K : Int), born := clock }) (clock + 1)) }, ?_, ⟨es.push { key := stA l K, val := .int .i64 (K : Int), born := clock }, clock + 1, ?_, ?_, ?_, ?_⟩, ?_, ⟨rfl, rfl, rfl, ?_, ?_⟩⟩
    · simp [Instr.mapUpdate, run_underlying Try.underlying84, MapKept.run_getObj_map hb, keyLaw.check w _ hkey, h1, Result.andThen, MapKept.run_setObj_map _ hb]
    · simp [hg]
    · intro e h
      simp only [Array.toList_push, List.mem_append, List.mem_singleton] at h
      rcases h with h | rfl
      · obtain ⟨p, h4, h5, h6, h7⟩ := he e h
        refine ⟨p, by omega, h5, h6, ?_⟩
        rw [lst, if_neg (fun hs => h2 e h (by rw [h5]; exact stE_iff.2 hs.symm))]
        exact h7
      · exact ⟨K, by omega, rfl, rfl, lst_self l K⟩
    · intro p hp
      by_cases hpK : p < K
      · obtain ⟨e, h4, h5⟩ := hB p hpK
        exact ⟨e, by simp [h4], h5⟩
      · obtain rfl : p = K := by omega
        exact ⟨{ key := stA l p, val := .int .i64 (p : Int), born := clock }, by simp, rfl⟩
    · intro i j e e' hi hj hk
      simp only [Array.toList_push] at hi hj
      have hlen : es.toList.length = es.size := by simp
      by_cases hi' : i < es.toList.length
      · rw [List.getElem?_append_left hi'] at hi
        by_cases hj' : j < es.toList.length
        · rw [List.getElem?_append_left hj'] at hj
          exact hC i j e e' hi hj hk
        · rw [List.getElem?_append_right (by omega)] at hj
          have hj0 : e' = { key := stA l K, val := .int .i64 (K : Int), born := clock } := by
            cases hq : j - es.toList.length with
            | zero => rw [hq] at hj; simpa using hj.symm
            | succ n => rw [hq] at hj; simp at hj
          exact absurd (by rw [hk, hj0]) (h2 e (List.mem_of_getElem? hi))
      · rw [List.getElem?_append_right (by omega)] at hi
        have hi1 : i = es.toList.length := by
          cases hq : i - es.toList.length with
          | zero => omega
          | succ n => rw [hq] at hi; simp at hi
        have hi0 : e = { key := stA l K, val := .int .i64 (K : Int), born := clock } := by
          rw [hi1, Nat.sub_self] at hi; simpa using hi.symm
        by_cases hj' : j < es.toList.length
        · rw [List.getElem?_append_left hj'] at hj
          exact absurd (by rw [← hk, hi0]) (h2 e' (List.mem_of_getElem? hj))
        · rw [List.getElem?_append_right (by omega)] at hj
          have hj1 : j = es.toList.length := by
            cases hq : j - es.toList.length with
            | zero => omega
            | succ n => rw [hq] at hj; simp at hj
          omega
    · intro b hbg; simp [Ne.symm hbg]
    · simp
    · intro b hlt; simp [Nat.ne_of_gt hlt]
  · have h2' : es[j]? = some e := by rw [← Array.getElem?_toList]; exact h2
    have hmod : ∀ (i : Nat) (x : MapEntry), (es.modify j fun x => { x with key := stA l K, val := .int .i64 (K : Int) }).toList[i]? = some x → ∃ y : MapEntry, es.toList[i]? = some y ∧ x.key = y.key ∧ ((i = j ∧ x.val = .int .i64 (K : Int)) ∨ (i ≠ j ∧ x = y)) := by
      intro i x hi
      rw [Array.toList_modify, List.getElem?_modify] at hi
      cases hy : es.toList[i]? with
      | none => rw [hy] at hi; cases hi
      | some y =>
        rw [hy] at hi
        by_cases hij : j = i
        · subst hij
          simp at hi
          subst hi
          rw [h2] at hy
          injection hy with hy
          exact ⟨y, rfl, by rw [← hy, h3], .inl ⟨rfl, rfl⟩⟩
        · simp [hij] at hi
          exact ⟨y, rfl, by rw [hi], .inr ⟨Ne.symm hij, hi.symm⟩⟩
    have hmod2 : ∀ (i : Nat) (y : MapEntry), es.toList[i]? = some y → ∃ x : MapEntry, (es.modify j fun x => { x with key := stA l K, val := .int .i64 (K : Int) }).toList[i]? = some x ∧ x.key = y.key := by
      intro i y hy
      rw [Array.toList_modify, List.getElem?_modify, hy]
      by_cases hij : j = i
      · subst hij
        rw [h2] at hy
        injection hy with hy
        exact ⟨_, by simp; rfl, by rw [← hy, h3]⟩
      · exact ⟨y, by simp [hij], rfl⟩
    refine ⟨{ w with heap := w.heap.setIfInBounds g (.map (es.modify j fun x => { x with key := stA l K, val := .int .i64 (K : Int) }) clock) }, ?_, ⟨es.modify j fun x => { x with key := stA l K, val := .int .i64 (K : Int) }, clock, ?_, ?_, ?_, ?_⟩, ?_, ⟨rfl, rfl, rfl, ?_, ?_⟩⟩
    · simp [Instr.mapUpdate, run_underlying Try.underlying84, MapKept.run_getObj_map hb, keyLaw.check w _ hkey, h1, h2', h3, keyLaw.stays w hkey, Result.andThen, MapKept.run_setObj_map _ hb]
    · simp [hg]
    · intro x hx
      obtain ⟨i, hi⟩ := List.getElem?_of_mem hx
      obtain ⟨y, hy, hk, hv⟩ := hmod i x hi
      obtain ⟨p, h4, h5, h6, h7⟩ := he y (List.mem_of_getElem? hy)
      rcases hv with ⟨rfl, hv⟩ | ⟨hij, rfl⟩
      · rw [h2] at hy
        injection hy with hy
        exact ⟨K, by omega, by rw [hk, ← hy, h3], hv, lst_self l K⟩
      · refine ⟨p, by omega, h5, h6, ?_⟩
        rw [lst, if_neg (fun hs => hij (hC i j x e hy h2 (by rw [h5, h3]; exact stE_iff.2 hs.symm)))]
        exact h7
    · intro p hp
      by_cases hpK : p < K
      · obtain ⟨y, h4, h5⟩ := hB p hpK
        obtain ⟨i, hi⟩ := List.getElem?_of_mem h4
        obtain ⟨x, hx, hk⟩ := hmod2 i y hi
        exact ⟨x, List.mem_of_getElem? hx, by rw [hk, h5]⟩
      · obtain rfl : p = K := by omega
        obtain ⟨x, hx, hk⟩ := hmod2 j e h2
        exact ⟨x, List.mem_of_getElem? hx, by rw [hk, h3]⟩
    · intro i i' x x' hi hi' hk
      obtain ⟨y, hy, hk1, _⟩ := hmod i x hi
      obtain ⟨y', hy', hk2, _⟩ := hmod i' x' hi'
      exact hC i i' y y' hy hy' (by rw [← hk1, ← hk2]; exact hk)
    · intro b hbg; simp [Ne.symm hbg]
    · simp
    · intro b hlt; simp [Nat.ne_of_gt hlt]
set_option maxRecDepth 100000 in
set_option maxHeartbeats 1000000 in
theorem lastOf_is (w : World) (g m K q : Nat) (l : List UInt8) (hg : g < w.heap.size) (h1 : w.cell? ⟨g, 1, none⟩ = some (.map (some m))) (hM : Mx w m l K) :
    Calls Try.prog 44 #[.pointer (some ⟨g, 0, none⟩), stA l q] w fun e w' => e = .returned (.int .i64 (lst l K q)) ∧ Below w.heap.size w w' := by
  have hst : stA l q = .agg #[.int .u8 ((l.getD q 0).toNat : Int), .int .u8 ((l.getD (q + 1) 0).toNat : Int), .int .u8 ((l.getD (q + 2) 0).toNat : Int)] := rfl
  obtain ⟨w0, hw0⟩ : ∃ w0, w0 = w.alloc (.cells #[.int .u8 ((l.getD q 0).toNat : Int), .int .u8 ((l.getD (q + 1) 0).toNat : Int), .int .u8 ((l.getD (q + 2) 0).toNat : Int)] 89) := ⟨_, rfl⟩
  have q1 : Row w0 w.heap.size 89 #[.int .u8 ((l.getD q 0).toNat : Int), .int .u8 ((l.getD (q + 1) 0).toNat : Int), .int .u8 ((l.getD (q + 2) 0).toNat : Int)] := by rw [hw0]; exact Row.new _ _ _
  have bl : Below w.heap.size w w0 := by rw [hw0]; exact (Below.refl _ _).alloc (Nat.le_refl _) _
  have cz : w0.cell? ⟨g, 1, none⟩ = some (.map (some m)) := by rw [← h1]; exact bl.cell (p := ⟨g, 1, none⟩) hg
  have hM0 : Mx w0 m l K := hM.below bl hM.lt
  have k0 : w0.cell? ⟨w.heap.size, 0, none⟩ = some (.int .u8 ((l.getD q 0).toNat : Int)) := by rw [q1.cell]; rfl
  have k1 : w0.cell? ⟨w.heap.size, 1, none⟩ = some (.int .u8 ((l.getD (q + 1) 0).toNat : Int)) := by rw [q1.cell]; rfl
  have k2 : w0.cell? ⟨w.heap.size, 2, none⟩ = some (.int .u8 ((l.getD (q + 2) 0).toNat : Int)) := by rw [q1.cell]; rfl
  have HL : Box' ((lst l K q = -1 ∧ (Instr.lookup 84 (.map (some m)) (stA l q) true).run Try.prog w0.drew = .ok (.tuple #[.int .i64 0, .bool false]) w0.drew) ∨ ∃ p : Nat, lst l K q = (p : Int) ∧ (Instr.lookup 84 (.map (some m)) (stA l q) true).run Try.prog w0.drew = .ok (.tuple #[.int .i64 (p : Int), .bool true]) w0.drew) := ⟨hM0.drew.lookup q⟩
  generalize lst l K q = LL at *
  have BL := Box'.mk bl
  have HW0 := Box'.mk hw0
  have Q1 := Box'.mk q1
  rw [hst] at HL ⊢
  clear hst hw0 bl hM hM0 h1 hg q1
  generalize hx : ((l.getD q 0).toNat : Int) = x at *
  generalize hy : ((l.getD (q + 1) 0).toNat : Int) = y at *
  generalize hz : ((l.getD (q + 2) 0).toNat : Int) = z at *
  clear hx hy hz
  go_enter Try.func44, Try.ntmps44
  go_wp2_with fail
  rw [← HW0.out]
  rcases HL.out with ⟨rfl, hl⟩ | ⟨p, rfl, hl⟩
  · go_region_with (refine wp_lookup _ _ rfl _ hl ?_)
    all_goals (go_wp2_with fail)
    all_goals (go_ret; exact ⟨rfl, BL.out.drew⟩)
  · go_region_with (refine wp_lookup _ _ rfl _ hl ?_)
    all_goals (go_wp2_with fail)
    all_goals (go_ret; exact ⟨rfl, BL.out.drew⟩)
theorem alloc_size2 (w : World) (o : Obj) : (w.alloc o).heap.size = w.heap.size + 1 := by unfold World.alloc; exact Array.size_push _
theorem run_makeMap_none2 (w : World) : (Instr.makeMap 84 none).run Try.prog w = .ok (.map (some w.heap.size)) (w.alloc (.map #[] 0)) := by
  simp [Instr.makeMap, Result.andThen]
set_option maxRecDepth 100000 in
set_option maxHeartbeats 1000000 in
theorem newFinder_is (w : World) (vb : Value) (l : List UInt8) (a : Option Addr) (n c : Nat) (hv : vb = .slice a n c) :
    Calls Try.prog 24 #[vb] w fun e w' => ∃ g m, e = .returned (.pointer (some ⟨g, 0, none⟩)) ∧ w.heap.size ≤ g ∧ w.heap.size ≤ m ∧ g ≠ m ∧ Row w' g 86 #[vb, .map (some m), .slice none 0 0] ∧ Mx w' m l 0 ∧ Below w.heap.size w w' := by
  subst hv
  have hmk := run_makeMap_none2 w
  go_enter Try.func24, Try.ntmps24
  go_wp2_with fail
  go_ret
  have hs : (w.alloc (.map #[] 0)).heap.size = w.heap.size + 1 := alloc_size2 w _
  refine ⟨w.heap.size + 1, w.heap.size, rfl, by omega, Nat.le_refl _, by omega, ?_, (Mx.new w l).alloc _, ((Below.refl _ _).alloc (Nat.le_refl _) _).alloc (by rw [hs]; omega) _⟩
  exact Row.made _ _ _ _ _ rfl hs.symm
end Go.Proofs.Ytcjfaahlchbcmaa
