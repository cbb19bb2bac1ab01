/- A joiner: the walks of New, isThere, turnTo, whole and together. -/
import Derived.Test.YthmcmdojnnbefaaQa
import Derived.Deep.Cut
namespace Go.Proofs.Ythmcmdojnnbefaa
open Go.RowKit Go.BigFrame
set_option linter.unusedSimpArgs false
set_option linter.unusedVariables false

/-- What a joiner has: the Id, whether it came to its end, its parts. -/
structure Jn where
  id : Nat
  ended : Bool
  L : List Pc
/-- The joiner at jb, its map at g. -/
structure JS (w : World) (jb g : Nat) (s : Jn) (ps : List (Pc × Value)) : Prop where
  row : Row w jb 69 #[.int .u64 (s.id : Int), .bool s.ended, .map (some g)]
  map : JM w g s.id ps
  ls : ps.map (·.1) = s.L
  byt : ∀ p ∈ ps, OwnB 0 w p.2 p.1.d
/-- What holds of what it has. -/
structure JOk (s : Jn) : Prop where
  id : s.id < 18446744073709551616
  n : ∀ x ∈ s.L, x.n < 256
  len : ∀ x ∈ s.L, x.d.length ≤ 1024
  nod : (s.L.map (·.n)).Nodup
/-- All blocks but two stay. -/
structure Bt2 (jb g : Nat) (w w' : World) : Prop where
  os : w'.os = w.os
  tape : w'.tape = w.tape
  output : w'.output = w.output
  size : w.heap.size ≤ w'.heap.size
  block : ∀ k, k < w.heap.size → k ≠ jb → k ≠ g → w'.heap[k]? = w.heap[k]?
theorem Bt2.refl (jb g : Nat) (w : World) : Bt2 jb g w w := ⟨rfl, rfl, rfl, Nat.le_refl _, fun _ _ _ _ => rfl⟩
theorem Bt2.trans {jb g : Nat} {a b c : World} (h : Bt2 jb g a b) (k : Bt2 jb g b c) : Bt2 jb g a c :=
  ⟨k.os.trans h.os, k.tape.trans h.tape, k.output.trans h.output, Nat.le_trans h.size k.size, fun i hi h1 h2 => (k.block i (Nat.lt_of_lt_of_le hi h.size) h1 h2).trans (h.block i hi h1 h2)⟩
theorem Bt2.of {jb g : Nat} {w w' : World} (h : Below w.heap.size w w') : Bt2 jb g w w' := ⟨h.os, h.tape, h.output, h.size, fun k hk _ _ => h.block k hk⟩
theorem Bt2.grown {jb g : Nat} {w w' : World} (h : w.grownBy w' (some g)) : Bt2 jb g w w' := ⟨h.os, h.tape, h.output, h.size, fun k hk _ h2 => h.block k hk (fun e => h2 (by injection e))⟩
theorem Bt2.below {jb g N : Nat} {w w' : World} (h : Bt2 jb g w w') (hN : N ≤ w.heap.size) (h1 : N ≤ jb) (h2 : N ≤ g) : Below N w w' := ⟨h.os, h.tape, h.output, h.size, fun k hk => h.block k (by omega) (by omega) (by omega)⟩
theorem Bt2.setCell {jb g : Nat} (w : World) (o : Nat) (v : Value) : Bt2 jb g w (w.setCell ⟨jb, o, none⟩ v) := ⟨rfl, rfl, rfl, by simp [World.setCell], fun k _ h1 _ => Below.heap_setCell _ _ _ _ h1⟩
/-- A block of bytes is neither the joiner nor its map. -/
theorem OwnB.bt2 {N jb g : Nat} {w w' : World} {v : Value} {d : List UInt8} {c : Array Value} {t : TypeId} (h : OwnB N w v d) (hj : Row w jb t c) (ht : t ≠ 5) {es : Array MapEntry} {cl : Nat} (hg : w.heap[g]? = some (.map es cl)) (hb : Bt2 jb g w w') : OwnB N w' v d :=
  h.same fun k hk => by
    obtain ⟨_, cur, r⟩ := h.lt k hk
    refine hb.block k r.lt (own_ne h hj ht k hk) ?_
    rintro rfl
    unfold Row at r
    rw [r] at hg
    cases hg
theorem JS.jl {w : World} {jb g : Nat} {s : Jn} {ps : List (Pc × Value)} (h : JS w jb g s ps) : jb < w.heap.size := h.row.lt
theorem JS.gl {w : World} {jb g : Nat} {s : Jn} {ps : List (Pc × Value)} (h : JS w jb g s ps) : g < w.heap.size := h.map.lt
theorem JS.ne {w : World} {jb g : Nat} {s : Jn} {ps : List (Pc × Value)} (h : JS w jb g s ps) : jb ≠ g := by
  rintro rfl
  obtain ⟨es, c, h1, _⟩ := h.map
  have := h.row
  unfold Row at this
  rw [h1] at this
  cases this
theorem JS.below {w w' : World} {jb g : Nat} {s : Jn} {ps : List (Pc × Value)} (h : JS w jb g s ps) (hb : Below w.heap.size w w') : JS w' jb g s ps :=
  ⟨h.row.below hb h.jl, h.map.same (hb.block g h.gl), h.ls, fun p hp => (h.byt p hp).below hb⟩
theorem JS.c0 {w : World} {jb g : Nat} {s : Jn} {ps : List (Pc × Value)} (h : JS w jb g s ps) : w.cell? ⟨jb, 0, none⟩ = some (.int .u64 (s.id : Int)) := by rw [h.row.cell]; rfl
theorem JS.c1 {w : World} {jb g : Nat} {s : Jn} {ps : List (Pc × Value)} (h : JS w jb g s ps) : w.cell? ⟨jb, 1, none⟩ = some (.bool s.ended) := by rw [h.row.cell]; rfl
theorem JS.c2 {w : World} {jb g : Nat} {s : Jn} {ps : List (Pc × Value)} (h : JS w jb g s ps) : w.cell? ⟨jb, 2, none⟩ = some (.map (some g)) := by rw [h.row.cell]; rfl
/-- What is looked up, whatever has been made since. -/
theorem JS.look {w : World} {jb g : Nat} {s : Jn} {ps : List (Pc × Value)} (h : JS w jb g s ps) (ho : JOk s) (n : Nat) (hn : n ≤ 256) :
    (get s.L n = none ∧ ∀ w1, Below w.heap.size w w1 → (Instr.lookup 67 (.map (some g)) (ky s.id n) true).run Try.prog w1 = .ok (.tuple #[.agg #[.bool false, .slice none 0 0], .bool false]) w1) ∨
    ∃ x v, (x, v) ∈ ps ∧ get s.L n = some x ∧ x ∈ s.L ∧ (∀ w1, Below w.heap.size w w1 → OwnB 0 w1 v x.d) ∧ (∀ w1, Below w.heap.size w w1 → (Instr.lookup 67 (.map (some g)) (ky s.id n) true).run Try.prog w1 = .ok (.tuple #[.agg #[.bool x.last, v], .bool true]) w1) ∧ ∀ w1, Below w.heap.size w w1 → (Instr.lookup 67 (.map (some g)) (ky s.id n) false).run Try.prog w1 = .ok (.agg #[.bool x.last, v]) w1 := by
  have hk : ∀ p ∈ ps, p.1.n < 256 := fun p hp => ho.n _ (by rw [← h.ls]; exact List.mem_map.2 ⟨p, hp, rfl⟩)
  have hnd : ((ps.map (·.1)).map (·.n)).Nodup := by rw [h.ls]; exact ho.nod
  cases hg : get s.L n with
  | none =>
    refine .inl ⟨rfl, fun w1 hb => ?_⟩
    rcases (h.map.same (hb.block g h.gl)).look ho.id hk hnd n hn with ⟨_, h2⟩ | ⟨x, v, _, h2, _⟩
    · exact h2
    · rw [h.ls, hg] at h2; cases h2
  | some x =>
    rcases h.map.look ho.id hk hnd n hn with ⟨h2, _⟩ | ⟨y, v, h1, h2, _⟩
    · rw [h.ls, hg] at h2; cases h2
    · have e : x = y := by rw [h.ls, hg] at h2; injection h2
      subst e
      refine .inr ⟨x, v, h1, rfl, (get_some hg).1, fun w1 hb => (h.byt _ h1).below hb, fun w1 hb => ?_, fun w1 hb => ?_⟩
      · have e3 := h.map
        obtain ⟨es, cl, q1, q2, q3, q4⟩ := h.map
        rcases (h.map.same (hb.block g h.gl)).look ho.id hk hnd n hn with ⟨h3, _⟩ | ⟨y, v', h5, h3, h4, _⟩
        · rw [h.ls, hg] at h3; cases h3
        · have e : x = y := by rw [h.ls, hg] at h3; injection h3
          subst e
          have e2 : v' = v := uniq_n hnd h5 h1
          rw [e2] at h4
          exact h4
      · rcases (h.map.same (hb.block g h.gl)).look ho.id hk hnd n hn with ⟨h3, _⟩ | ⟨y, v', h5, h3, _, h4⟩
        · rw [h.ls, hg] at h3; cases h3
        · have e : x = y := by rw [h.ls, hg] at h3; injection h3
          subst e
          have e2 : v' = v := uniq_n hnd h5 h1
          rw [e2] at h4
          exact h4

set_option maxRecDepth 100000 in
set_option maxHeartbeats 1000000 in
theorem new_any (w : World) : Calls Try.prog 18 #[] w fun e w' => ∃ jb g, e = .returned (.pointer (some ⟨jb, 0, none⟩)) ∧ w.heap.size ≤ jb ∧ w.heap.size ≤ g ∧ JS w' jb g ⟨0, false, []⟩ [] ∧ Below w.heap.size w w' := by
  have b1 : Below w.heap.size w (w.alloc (.map #[] 0)) := (Below.refl _ _).alloc (Nat.le_refl _) _
  have b2 : ∀ c, Below w.heap.size w ((w.alloc (.map #[] 0)).alloc c) := fun c => b1.alloc (by simp) _
  have m1 := JM.new w 0
  have hz : (w.alloc (.map #[] 0)).heap.size = w.heap.size + 1 := by simp
  have J : ∀ V, V = (w.alloc (.map #[] 0)).alloc (.cells #[.int .u64 0, .bool false, .map (some w.heap.size)] 69) → JS V (w.heap.size + 1) w.heap.size ⟨0, false, []⟩ [] ∧ Below w.heap.size w V := by
    rintro V rfl
    refine ⟨⟨?_, m1.same (Below.heap_alloc _ _ _ (by omega)), rfl, fun p hp => by cases hp⟩, b2 _⟩
    have := Row.new (w.alloc (.map #[] 0)) 69 #[.int .u64 0, .bool false, .map (some w.heap.size)]
    rw [hz] at this
    exact this
  clear b1 b2 m1 hz
  have HJ := Box'.mk J
  clear J
  have qK : ∀ w : World, (Instr.makeMap 67 none).run Try.prog w = .ok (.map (some w.heap.size)) (w.alloc (.map #[] 0)) := fun w => by simp [Instr.makeMap, run_underlying Try.underlying67, Result.andThen]
  go_enter Try.func18, Try.ntmps18
  go_wp2
  go_ret
  have j := HJ.out _ rfl
  exact ⟨_, _, rfl, by omega, Nat.le_refl _, j.1, j.2⟩
set_option maxRecDepth 100000 in
set_option maxHeartbeats 1000000 in
theorem isThere_any (w : World) (jb g : Nat) (s : Jn) (ps : List (Pc × Value)) (h : JS w jb g s ps) : Calls Try.prog 31 #[.pointer (some ⟨jb, 0, none⟩)] w fun e w' => e = .returned (.bool true) ∧ w' = w := by
  have c2 := h.c2
  clear h
  have qM : ∀ (w : World) (r : Option Nat), (binOp .neq 67 (.map r) (.map none)).run Try.prog w = .ok (.bool (!r.isNone)) w := fun w r => run_neq_map_nil w 67 72 74 r Try.underlying67
  go_enter Try.func31, Try.ntmps31
  go_wp2
  go_ret
  exact ⟨rfl, rfl⟩
set_option maxRecDepth 100000 in
set_option maxHeartbeats 1000000 in
theorem isThere_nil (w : World) : Calls Try.prog 31 #[.pointer none] w fun e w' => e = .returned (.bool false) ∧ w' = w := by
  go_enter Try.func31, Try.ntmps31
  go_wp2
  go_ret
  exact ⟨rfl, rfl⟩
/-- How many parts there are up to the least Last one, if none is missing. -/
def whG (L : List Pc) : Nat → Nat → Option Nat
  | 0, _ => none
  | f + 1, n => match get L n with
    | none => none
    | some x => if x.last then some (n + 1) else whG L f (n + 1)
def whF (L : List Pc) : Option Nat := whG L 256 0
/-- The bytes of the first parts. -/
def tog (L : List Pc) : Nat → List UInt8
  | 0 => []
  | n + 1 => tog L n ++ ((get L n).map (·.d)).getD []
theorem tog_len {L : List Pc} (h : ∀ x ∈ L, x.d.length ≤ 1024) (n : Nat) : (tog L n).length ≤ n * 1024 := by
  induction n with
  | zero => simp [tog]
  | succ n ih =>
    rw [tog, List.length_append]
    have : (((get L n).map (·.d)).getD []).length ≤ 1024 := by
      cases hg : get L n with
      | none => simp
      | some x => simpa using h x (get_some hg).1
    omega
theorem whG_some {L : List Pc} {f n k : Nat} (h : whG L f n = some k) : n < k ∧ k ≤ n + f ∧ ∀ i, n ≤ i → i < k → ∃ x, get L i = some x := by
  induction f generalizing n with
  | zero => cases h
  | succ f ih =>
    rw [whG] at h
    cases hg : get L n with
    | none => rw [hg] at h; cases h
    | some x =>
      rw [hg] at h
      simp only at h
      split at h
      · injection h with h
        subst h
        exact ⟨by omega, by omega, fun i h1 h2 => ⟨x, by rw [show i = n by omega]; exact hg⟩⟩
      · obtain ⟨h1, h2, h3⟩ := ih h
        refine ⟨by omega, by omega, fun i h4 h5 => ?_⟩
        by_cases e : i = n
        · exact ⟨x, by rw [e]; exact hg⟩
        · exact h3 i (by omega) h5

set_option maxRecDepth 100000 in
set_option maxHeartbeats 1000000 in
theorem turnTo_any (w : World) (jb g : Nat) (s : Jn) (ps : List (Pc × Value)) (h : JS w jb g s ps) (i : Nat) : Calls Try.prog 32 #[.pointer (some ⟨jb, 0, none⟩), .int .u64 (i : Int)] w fun e w' => e = .returned (.tuple #[]) ∧ JS w' jb g ⟨i, false, []⟩ [] ∧ Bt2 jb g w w' := by
  have hne := h.ne
  have r1 : Row (w.setCell ⟨jb, 0, none⟩ (.int .u64 (i : Int))) jb 69 #[.int .u64 (i : Int), .bool s.ended, .map (some g)] := h.row.setCell (k := 0) _
  have r2 := r1.setCell (k := 1) (.bool false)
  have m2 : JM ((w.setCell ⟨jb, 0, none⟩ (.int .u64 (i : Int))).setCell ⟨jb, 1, none⟩ (.bool false)) g s.id ps := (h.map.same (Below.heap_setCell _ _ _ _ (Ne.symm hne))).same (Below.heap_setCell _ _ _ _ (Ne.symm hne))
  have b2 : Bt2 jb g w ((w.setCell ⟨jb, 0, none⟩ (.int .u64 (i : Int))).setCell ⟨jb, 1, none⟩ (.bool false)) := (Bt2.setCell w 0 _).trans (Bt2.setCell _ 1 _)
  have c2 : ((w.setCell ⟨jb, 0, none⟩ (.int .u64 (i : Int))).setCell ⟨jb, 1, none⟩ (.bool false)).cell? ⟨jb, 2, none⟩ = some (.map (some g)) := by rw [r2.cell]; rfl
  have f0 := h.row.frozen
  have c00 := h.c0
  have c01 := h.c1
  have MB := Box'.mk m2
  have RB := Box'.mk r2
  have BB := Box'.mk b2
  clear h m2 r2 b2 r1
  go_enter Try.func32, Try.ntmps32
  go_wp2_with (
    obtain ⟨w3, hrun, hm, hg⟩ := MB.out.clear 0
    refine wpList_clear rfl (.tmp 14) rfl w3 hrun ?_)
  have R3 : Row w3 jb 69 #[.int .u64 (i : Int), .bool false, .map (some g)] := RB.out.same (hg.block jb RB.out.lt (by simp [hne]))
  have B3 := BB.out.trans (Bt2.grown (jb := jb) hg)
  exact bodyPost_end (by simp [results, show Try.f32.results = #[] from rfl]) rfl ⟨rfl, ⟨R3, hm i, rfl, fun p hp => by cases hp⟩, B3⟩
set_option maxRecDepth 100000 in
set_option maxHeartbeats 2000000 in
theorem whole_any (w : World) (jb g : Nat) (s : Jn) (ps : List (Pc × Value)) (h : JS w jb g s ps) (ho : JOk s) :
    Calls Try.prog 33 #[.pointer (some ⟨jb, 0, none⟩)] w fun e w' => e = .returned (.tuple #[.int .i64 (((whF s.L).getD 0 : Nat) : Int), .bool (whF s.L).isSome]) ∧ Below w.heap.size w w' := by
  have HJ := Box'.mk h
  have HO := Box'.mk ho
  have HR : Box' (whF s.L = whG s.L 256 0) := ⟨rfl⟩
  generalize whF s.L = R at *
  clear h ho
  go_enter Try.func33, Try.ntmps33
  go_wp2_with fail
  go_loopw [7] (fun i wr => ∃ k : Nat, i = .int .i64 (k : Int) ∧ k ≤ 256 ∧ Box' (R = whG s.L (256 - k) k) ∧ Box' (Below w.heap.size w wr)) (fun i _ => 256 - (intOf i).toNat)
  case atStart => exact ⟨0, rfl, by omega, HR, ⟨Below.refl _ _⟩⟩
  case round =>
    clear HR
    obtain ⟨k, rfl, hk, HR, HB⟩ := hrel
    by_cases hlt : k < 256
    · have HR2 : Box' (R = match get s.L k with | none => none | some x => if x.last then some (k + 1) else whG s.L (256 - (k + 1)) (k + 1)) := ⟨by
        rw [HR.out, show 256 - k = (256 - (k + 1)) + 1 by omega, whG]⟩
      clear HR
      have js := HJ.out.below HB.out
      go_upto_region 4 with fail
      have hC2 : ∀ w1, Below wr.heap.size wr w1 → w1.cell? ⟨jb, 2, none⟩ = some (.map (some g)) := fun w1 hb => (js.below hb).c2
      have hC0 : ∀ w1, Below wr.heap.size wr w1 → w1.cell? ⟨jb, 0, none⟩ = some (.int .u64 (s.id : Int)) := fun w1 hb => (js.below hb).c0
      rcases js.look HO.out k (by omega) with ⟨hg, hL⟩ | ⟨x, v, hm, hg, hx, hob, hL, _⟩
      · have e := HR2.out
        rw [hg] at e
        simp only at e
        subst e
        refine wp_mono (whReg jb g s.id k false false (.slice none 0 0) ⟨_, _, _, rfl⟩ _ _ _ _ _ _ _ _ _ _ _ _ _ _ _ _ _ _ _ _ _ _ _ _ _ _ _ _ _ _ hC2 hC0 hL) ?_
        rintro r a' w2 ⟨rfl, v5, v6, v10, v11, v12, v13, v14, v15, v16, v17, v18, v19, v20, v21, v22, v23, rfl, q, rfl, hNq, hRow, rfl, b2⟩
        have B2 := HB.out.trans (b2.mono HB.out.size)
        clear hC2 hC0 hL js HR2 hg HJ HO
        go_wp2_with fail
        go_ret2
        exact ⟨rfl, B2⟩
      · have e := HR2.out
        rw [hg] at e
        simp only at e
        obtain ⟨av, cv, rfl⟩ := (hob wr (Below.refl _ _)).slice
        refine wp_mono (whReg jb g s.id k x.last true _ ⟨_, _, _, rfl⟩ _ _ _ _ _ _ _ _ _ _ _ _ _ _ _ _ _ _ _ _ _ _ _ _ _ _ _ _ _ _ hC2 hC0 hL) ?_
        rintro r a' w2 ⟨rfl, v5, v6, v10, v11, v12, v13, v14, v15, v16, v17, v18, v19, v20, v21, v22, v23, rfl, q, rfl, hNq, hRow, rfl, b2⟩
        have B2 := Box'.mk (HB.out.trans (b2.mono HB.out.size))
        have cq : w2.cell? ⟨q, 0, none⟩ = some (.bool x.last) := by rw [hRow.cell]; rfl
        clear hC2 hC0 hL js HR2 hg HJ HO hRow hob hm hx b2 HB
        cases hl : x.last with
        | true =>
          rw [hl] at e cq
          simp only [if_true] at e
          subst e
          clear hl
          go_wp2_with fail
          go_ret2
          exact ⟨rfl, B2.out⟩
        | false =>
          rw [hl] at e cq
          simp only [Bool.false_eq_true, if_false] at e
          have HE := Box'.mk e
          clear hl e
          go_wp2_with fail
          exact ⟨⟨k + 1, by go_num, by omega, HE, B2⟩, by simp [intOf]; omega⟩
    · obtain rfl : k = 256 := by omega
      have e := HR.out
      rw [Nat.sub_self, whG] at e
      subst e
      have B2 := HB.out
      clear HR HJ HO
      go_wp2_with fail
      go_ret2
      exact ⟨rfl, B2⟩
set_option maxRecDepth 100000 in
set_option maxHeartbeats 2000000 in
theorem together_any (w : World) (jb g : Nat) (s : Jn) (ps : List (Pc × Value)) (h : JS w jb g s ps) (ho : JOk s) (n : Nat) (hn : n ≤ 256) (hall : ∀ i, i < n → ∃ x, get s.L i = some x) :
    Calls Try.prog 34 #[.pointer (some ⟨jb, 0, none⟩), .int .i64 (n : Int)] w fun e w' => ∃ v', e = .returned v' ∧ OwnB w.heap.size w' v' (tog s.L n) ∧ Below w.heap.size w w' := by
  have HJ := Box'.mk h
  have HO := Box'.mk ho
  have HA := Box'.mk hall
  have HT : Box' (∀ k, k ≤ 256 → (tog s.L k).length ≤ 262144) := ⟨fun k hk => by have := tog_len ho.len k; omega⟩
  clear h ho hall
  go_enter Try.func34, Try.ntmps34
  go_wp2_with fail
  go_loopw [5, 8] (fun u i wr => ∃ (k : Nat) (d : List UInt8), i = .int .i64 (k : Int) ∧ k ≤ n ∧ Box' (d = tog s.L k) ∧ Box' (OwnB w.heap.size wr u d) ∧ Box' (Below w.heap.size w wr)) (fun _ i _ => n - (intOf i).toNat)
  case atStart => exact ⟨0, [], rfl, by omega, ⟨rfl⟩, ⟨OwnB.nil _ _⟩, ⟨Below.refl _ _⟩⟩
  case round =>
    obtain ⟨k, d, rfl, hk, HD, HW, HB⟩ := hrel
    by_cases hlt : k < n
    · have js := HJ.out.below HB.out
      obtain ⟨au, cu, rfl⟩ := HW.out.slice
      have HDL : Box' (d.length ≤ 262144) := ⟨by rw [HD.out]; exact HT.out k (by omega)⟩
      have HU := Box'.mk (⟨_, _, _, rfl⟩ : ∃ a n c, Value.slice au d.length cu = .slice a n c)
      generalize hdl : d.length = dl at *
      have HE := Box'.mk hdl
      clear hdl
      go_upto_region 5 with fail
      have hC2 : ∀ w1, Below wr.heap.size wr w1 → w1.cell? ⟨jb, 2, none⟩ = some (.map (some g)) := fun w1 hb => (js.below hb).c2
      have hC0 : ∀ w1, Below wr.heap.size wr w1 → w1.cell? ⟨jb, 0, none⟩ = some (.int .u64 (s.id : Int)) := fun w1 hb => (js.below hb).c0
      obtain ⟨y, hy⟩ := HA.out k hlt
      rcases js.look HO.out k (by omega) with ⟨hg, hL⟩ | ⟨x, v, hm, hg, hx, hob, _, hL⟩
      · rw [hg] at hy; cases hy
      · obtain ⟨av, cv, rfl⟩ := (hob wr (Below.refl _ _)).slice
        have hi : ∀ w1, Below wr.heap.size wr w1 → InB w1.heap.size w1 (.slice av x.d.length cv) x.d := fun w1 hb => (hob w1 hb).inB
        have hxl := HO.out.len x hx
        refine wp_mono (tgReg w.heap.size jb g s.id k x.last _ _ d x.d HU.out ⟨_, _, _, rfl⟩ _ _ _ _ _ _ _ _ _ _ _ _ _ _ _ _ _ _ _ _ _ _ _ _ _ hC2 hC0 hL HB.out.size HW.out hi (by have := HDL.out; have := HE.out; omega)) ?_
        rintro r a' w2 ⟨rfl, v5, v11, v12, v13, v14, v15, v16, v17, v18, v19, v20, v21, v22, v23, v24, rfl, o2, f2⟩
        have B2 : Below w.heap.size w w2 := HB.out.trans (f2.below HB.out.size)
        have ED : d ++ x.d = tog s.L (k + 1) := by rw [HD.out, tog, hg]; rfl
        have HO2 := Box'.mk o2
        have HB2 := Box'.mk B2
        have HED := Box'.mk ED
        clear hC2 hC0 hL js hg hob hm hx B2 o2 f2 ED HD HW HB HE HU HDL hxl hi hy
        go_wp2_with fail
        exact ⟨⟨k + 1, _, by go_num, by omega, HED, HO2, HB2⟩, by simp [intOf]; omega⟩
    · obtain rfl : k = n := by omega
      obtain ⟨au, cu, rfl⟩ := HW.out.slice
      have e := HD.out
      have o2 := HW.out
      have B2 := HB.out
      rw [e] at o2
      clear HD HW HB HA HJ HO HT
      rw [← e] at o2
      generalize hdl : d.length = dl at *
      clear hdl
      go_wp2_with fail
      go_ret
      exact ⟨_, rfl, by rw [← e]; exact o2, B2⟩
end Go.Proofs.Ythmcmdojnnbefaa
