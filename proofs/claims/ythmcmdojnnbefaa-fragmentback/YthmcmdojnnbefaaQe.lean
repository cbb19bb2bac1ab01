/- The walk of Holds; a joiner that is not there. -/
import Derived.Test.YthmcmdojnnbefaaQd
import Derived.Maps.RangeRun
namespace Go.Proofs.Ythmcmdojnnbefaa
open Go.RowKit Go.BigFrame
set_option linter.unusedSimpArgs false
set_option linter.unusedVariables false

theorem nodup_le (n : Nat) : ∀ l : List Nat, l.Nodup → (∀ x ∈ l, x < n) → l.length ≤ n := by
  induction n with
  | zero =>
    intro l _ h
    cases l with
    | nil => exact Nat.le_refl _
    | cons x l => exact absurd (h x (List.mem_cons_self ..)) (Nat.not_lt_zero _)
  | succ n ih =>
    intro l hn h
    by_cases hm : n ∈ l
    · have h1 := ih (l.erase n) (hn.erase n) fun x hx => by
        rw [hn.mem_erase_iff] at hx
        have := h x hx.2
        have := hx.1
        omega
      rw [List.length_erase_of_mem hm] at h1
      omega
    · have := ih l hn fun x hx => by
        have h2 := h x hx
        have : x ≠ n := fun e => hm (e ▸ hx)
        omega
      omega
theorem JOk.few {s : Jn} (h : JOk s) : s.L.length ≤ 256 := by
  have := nodup_le 256 (s.L.map (·.n)) h.nod (fun x hx => by obtain ⟨y, hy, rfl⟩ := List.mem_map.1 hx; exact h.n y hy)
  simpa using this
/-- How many bytes parts have. -/
def sumD : List Pc → Nat
  | [] => 0
  | x :: L => x.d.length + sumD L
theorem sumD_le {L : List Pc} (h : ∀ x ∈ L, x.d.length ≤ 1024) : sumD L ≤ L.length * 1024 := by
  induction L with
  | nil => exact Nat.le_refl _
  | cons x L ih =>
    have h1 := h x (List.mem_cons_self ..)
    have h2 := ih fun y hy => h y (List.mem_cons_of_mem _ hy)
    rw [sumD, List.length_cons]
    omega
theorem sumD_append (A B : List Pc) : sumD (A ++ B) = sumD A + sumD B := by
  induction A with
  | nil => simp [sumD]
  | cons x A ih => rw [List.cons_append, sumD, sumD, ih]; omega
/-- The length of the bytes of what the map keeps. -/
def lenV : Value → Nat
  | .agg c => match (c[1]? : Option Value) with
    | some (Value.slice _ n _) => n
    | _ => 0
  | _ => 0
/-- The bytes of those that have been met. -/
def seenS (seen : Array Nat) : List MapEntry → Nat
  | [] => 0
  | e :: l => (if seen.contains e.born then lenV e.val else 0) + seenS seen l
theorem seenS_nil (l : List MapEntry) : seenS #[] l = 0 := by
  induction l with
  | nil => rfl
  | cons e l ih => rw [seenS, ih]; simp
theorem seenS_out {seen : Array Nat} {b : Nat} : ∀ {l : List MapEntry}, (∀ e ∈ l, e.born ≠ b) → seenS (seen.push b) l = seenS seen l
  | [], _ => rfl
  | e :: l, h => by
    have h1 := h e (List.mem_cons_self ..)
    rw [seenS, seenS, seenS_out fun x hx => h x (List.mem_cons_of_mem _ hx)]
    congr 1
    simp [Array.contains_push, h1]
theorem seenS_push {seen : Array Nat} {x : MapEntry} : ∀ {l : List MapEntry}, (l.map (·.born)).Nodup → x ∈ l → seen.contains x.born = false → seenS (seen.push x.born) l = seenS seen l + lenV x.val
  | [], _, h, _ => by cases h
  | e :: l, hn, hx, hs => by
    rw [List.map_cons, List.nodup_cons] at hn
    rcases List.mem_cons.1 hx with rfl | hx
    · rw [seenS, seenS, seenS_out (fun y hy he => hn.1 (List.mem_map.2 ⟨y, hy, he⟩)), hs]
      have h2 : (seen.push x.born).contains x.born = true := by simp
      rw [if_pos h2, if_neg (by simp)]
      omega
    · have h1 : e.born ≠ x.born := fun he => hn.1 (List.mem_map.2 ⟨x, hx, he.symm⟩)
      rw [seenS, seenS, seenS_push hn.2 hx hs]
      have h2 : (seen.push x.born).contains e.born = seen.contains e.born := by simp [Array.contains_push, h1]
      rw [h2]
      omega
theorem seenS_all {seen : Array Nat} : ∀ {l : List MapEntry}, (∀ e ∈ l, seen.contains e.born = true) → seenS seen l = (l.map fun e => lenV e.val).sum
  | [], _ => rfl
  | e :: l, h => by
    rw [seenS, if_pos (h e (List.mem_cons_self ..)), seenS_all fun x hx => h x (List.mem_cons_of_mem _ hx)]
    simp
theorem seenS_le {seen : Array Nat} : ∀ {l : List MapEntry}, seenS seen l ≤ (l.map fun e => lenV e.val).sum
  | [] => Nat.le_refl _
  | e :: l => by
    rw [seenS]
    have := @seenS_le seen l
    simp only [List.map_cons, List.sum_cons]
    split <;> omega
theorem vals_sum {id : Nat} : ∀ {es : List MapEntry} {ps : List (Pc × Value)}, es.map (fun e => (e.key, e.val)) = ps.map (kvOf id) → (∀ p ∈ ps, ∃ a c, p.2 = .slice a p.1.d.length c) → (es.map fun e => lenV e.val).sum = sumD (ps.map (·.1))
  | [], [], _, _ => rfl
  | [], p :: ps, h, _ => by cases h
  | e :: es, [], h, _ => by cases h
  | e :: es, p :: ps, h, hb => by
    rw [List.map_cons, List.map_cons] at h
    injection h with h1 h2
    obtain ⟨a, c, hp⟩ := hb p (List.mem_cons_self ..)
    have ih := vals_sum h2 fun q hq => hb q (List.mem_cons_of_mem _ hq)
    unfold kvOf at h1
    injection h1 with _ h1
    rw [List.map_cons, List.sum_cons, ih, List.map_cons, sumD, h1, hp]
    rfl
theorem left_none {es : Array MapEntry} {seen : Array Nat} (h : (leftOf es seen).size = 0) : ∀ e ∈ es.toList, seen.contains e.born = true := by
  intro e he
  cases hc : seen.contains e.born with
  | true => rfl
  | false =>
    exfalso
    have : e ∈ leftOf es seen := by unfold leftOf; rw [Array.mem_filter]; exact ⟨by simpa using he, by rw [hc]; rfl⟩
    have e0 : leftOf es seen = #[] := Array.eq_empty_of_size_eq_zero h
    rw [e0] at this
    simp at this

set_option maxRecDepth 100000 in
set_option maxHeartbeats 2000000 in
theorem holds_any (w : World) (jb g : Nat) (s : Jn) (ps : List (Pc × Value)) (h : JS w jb g s ps) (ho : JOk s) :
    Calls Try.prog 21 #[.pointer (some ⟨jb, 0, none⟩)] w fun e w' => e = .returned (.tuple #[.int .u64 (s.id : Int), .int .i64 (s.L.length : Int), .int .i64 (sumD s.L : Int)]) ∧ Below w.heap.size w w' := by
  have h1 := isThere_any w jb g s ps h
  have c2 := h.c2
  have hgl := h.gl
  have hjl := h.jl
  obtain ⟨es, clock, hb, hkv, hnd, hlt⟩ := h.map
  have hsum : (es.toList.map fun e => lenV e.val).sum = sumD s.L := by rw [← h.ls]; exact vals_sum hkv fun p hp => (h.byt p hp).slice
  have hlen : es.size = s.L.length := by have := congrArg List.length hkv; rw [← h.ls]; simpa using this
  have hfew := ho.few
  have hmx := sumD_le ho.len
  have HJ := Box'.mk h
  have HO := Box'.mk ho
  have HKV := Box'.mk hkv
  have HND := Box'.mk hnd
  have HLT := Box'.mk hlt
  have HSU := Box'.mk hsum
  have HBE := Box'.mk hb
  have HS2 : Box' (sumD s.L ≤ 262144) := ⟨by omega⟩
  have HLE := Box'.mk hlen
  obtain ⟨w0, hw0⟩ : ∃ w0, w0 = w.alloc (.mapIter (some g) clock #[] clock) := ⟨_, rfl⟩
  have qR : (Instr.range 67 (.map (some g))).run Try.prog w = .ok (.pointer (some ⟨w.heap.size, 0, none⟩)) (w.alloc (.mapIter (some g) clock #[] clock)) := by
    simp [Instr.range, run_underlying Try.underlying67, MapKept.run_getObj_map hb, Result.andThen]
  have b0 : Below w.heap.size w w0 := by rw [hw0]; exact (Below.refl _ _).alloc (Nat.le_refl _) _
  have hi0 : w0.heap[w.heap.size]? = some (.mapIter (some g) clock #[] clock) := by rw [hw0]; exact heap_alloc_last w _
  have HI0 := Box'.mk hi0
  have HB0 := Box'.mk b0
  clear h ho hkv hnd hlt hsum hb hmx hfew hlen b0 hi0
  go_enter Try.func21, Try.ntmps21
  go_wp2_with fail
  refine h1.mono ?_
  rintro e1 w1 ⟨rfl, hww⟩
  rw [hww]
  clear h1 hww w1
  go_wp2_with fail
  rw [← hw0]
  clear hw0 qR
  go_loopw [4] (fun u wr => ∃ (seen : Array Nat) (m : Nat), u = .int .i64 (m : Int) ∧ Box' (m = seenS seen es.toList) ∧ Box' (Below w.heap.size w wr) ∧ Box' (wr.heap[w.heap.size]? = some (.mapIter (some g) clock seen clock)) ∧ True) (fun _ wr => match wr.heap[w.heap.size]? with | some (Obj.mapIter _ _ seen _) => (leftOf es seen).size | _ => 0)
  case atStart => exact ⟨#[], 0, rfl, ⟨(seenS_nil _).symm⟩, HB0, HI0, trivial⟩
  case round =>
    clear HB0 HI0
    obtain ⟨seen, m, rfl, HM, HB, HI, _⟩ := hrel
    have hbw : wr.heap[g]? = some (.map es clock) := (HB.out.block g hgl).trans HBE.out
    have hm : m ≤ 262144 := by rw [HM.out]; exact Nat.le_trans seenS_le (by rw [HSU.out]; exact HS2.out)
    rcases run_next_at (P := Try.prog) wr 0 w.heap.size g clock clock seen es clock HI.out hbw HLT.out (Nat.le_refl _) with ⟨h0, hnx⟩ | ⟨e, he, w1, hw1, hnx⟩
    · have hms : m = sumD s.L := by rw [HM.out, seenS_all (left_none h0), HSU.out]
      have c2' : wr.cell? ⟨jb, 2, none⟩ = some (.map (some g)) := (HJ.out.below HB.out).c2
      have c0' : wr.cell? ⟨jb, 0, none⟩ = some (.int .u64 (s.id : Int)) := (HJ.out.below HB.out).c0
      have HMS := Box'.mk hms
      clear hms h0
      go_wp2_with fail
      have qL : ∀ n, (Builtin.len_ #[67] 3 #[.map (some g)]).run Try.prog (wr.drewN n) = .ok (.int .i64 (s.L.length : Int)) (wr.drewN n) := fun n => by
        rw [← HLE.out]
        simp [Builtin.len_, run_underlying Try.underlying67, MapKept.run_getObj_map (P := Try.prog) (w := wr.drewN n) hbw, Result.andThen]
        rfl
      clear hbw hnx
      go_quiet (fail)
      go_wp2_with fail
      go_ret3
      exact ⟨by rw [← HMS.out]; rfl, Below.drewN HB.out _⟩
    · have hml := mem_left he
      have hsh := left_shrinks es seen e he
      obtain ⟨p, hp, hpe⟩ : ∃ p ∈ ps, kvOf s.id p = (e.key, e.val) := by
        have : (e.key, e.val) ∈ es.toList.map (fun e => (e.key, e.val)) := List.mem_map.2 ⟨e, hml.1, rfl⟩
        rw [HKV.out] at this
        obtain ⟨p, h1, h2⟩ := List.mem_map.1 this
        exact ⟨p, h1, h2⟩
      obtain ⟨av, cv, hps⟩ := (HJ.out.byt p hp).slice
      unfold kvOf at hpe
      simp only [Prod.mk.injEq] at hpe
      have hev : e.val = .agg #[.bool p.1.last, .slice av p.1.d.length cv] := by rw [← hpe.2, hps]
      have hlv : lenV e.val = p.1.d.length := by rw [hev]; rfl
      have HMS : Box' (m + p.1.d.length = seenS (seen.push e.born) es.toList) := ⟨by rw [seenS_push HND.out hml.1 hml.2, hlv, HM.out]⟩
      have hdl : p.1.d.length ≤ 1024 := HO.out.len p.1 (by rw [← HJ.out.ls]; exact List.mem_map.2 ⟨p, hp, rfl⟩)
      obtain ⟨w2, hw2⟩ : ∃ w2, w2 = ChangeMaps.setBlock w1 w.heap.size (.mapIter (some g) clock (seen.push e.born) clock) := ⟨_, rfl⟩
      have hh1 : w1.heap = wr.heap ∧ w1.os = wr.os ∧ w1.tape = wr.tape ∧ w1.output = wr.output := by rcases hw1 with rfl | rfl <;> exact ⟨rfl, rfl, rfl, rfl⟩
      have hir := (Array.getElem?_eq_some_iff.1 HI.out).1
      have b2 : Below w.heap.size w w2 := HB.out.trans (by
        rw [hw2]
        refine ⟨hh1.2.1, hh1.2.2.1, hh1.2.2.2, by simp [ChangeMaps.setBlock, hh1.1], fun k hk => ?_⟩
        simp [ChangeMaps.setBlock, hh1.1, Nat.ne_of_gt hk])
      have i2 : w2.heap[w.heap.size]? = some (.mapIter (some g) clock (seen.push e.born) clock) := by rw [hw2]; simp [ChangeMaps.setBlock, hh1.1, hir]
      have m2 : w2.heap[g]? = some (.map es clock) := (b2.block g hgl).trans HBE.out
      have hen := run_entry_at (P := Try.prog) w2 w.heap.size g clock seen es clock e i2 m2 hml.1 HND.out
      obtain ⟨w3, hw3⟩ : ∃ w3, w3 = (w2.alloc (.cells #[.bool false, .slice none 0 0] 74)).setRow w2.heap.size #[.bool p.1.last, .slice av p.1.d.length cv] := ⟨_, rfl⟩
      have b3 : Below w2.heap.size w2 w3 := by rw [hw3]; exact below_setRow ((Below.refl _ _).alloc (Nat.le_refl _) _) (Nat.le_refl _) _
      have r3 : Row w3 w2.heap.size 74 #[.bool p.1.last, .slice av p.1.d.length cv] := by rw [hw3]; exact (Row.new w2 74 #[.bool false, .slice none 0 0]).setRow _
      have c3 : w3.cell? ⟨w2.heap.size, 1, none⟩ = some (.slice av p.1.d.length cv) := by rw [r3.cell]; rfl
      have HB3 : Box' (Below w.heap.size w w3) := ⟨b2.trans (b3.mono b2.size)⟩
      have hir2 := (Array.getElem?_eq_some_iff.1 i2).1
      have HI3 : Box' (w3.heap[w.heap.size]? = some (.mapIter (some g) clock (seen.push e.born) clock)) := ⟨(b3.block _ hir2).trans i2⟩
      have HSH : Box' ((leftOf es (seen.push e.born)).size < (leftOf es seen).size) := ⟨hsh⟩
      rw [hev] at hen hnx
      rw [← hw2] at hnx
      generalize p.1.d.length = dl at *
      generalize p.1.last = la at *
      clear hml hsh hp hpe hps hev hlv hw2 hh1 hir b2 i2 m2 b3 r3 hir2 hbw HM HB he hw1
      go_wp2_with (refine wpList_store_row rfl 74 _ _ rfl _ rfl _ rfl 74 2 (Room.new _ _ _ _ rfl) Try.size74 rfl (by simp [Value.oneCell']) ?_; rw [← hw3]; clear hw3)
      exact ⟨⟨_, m + dl, by go_num, HMS, HB3, HI3, trivial⟩, by rw [HI3.out, HI.out]; exact HSH.out⟩
set_option maxRecDepth 100000 in
set_option maxHeartbeats 2000000 in
theorem holds_nil (w : World) : Calls Try.prog 21 #[.pointer none] w fun e w' => e = .returned (.tuple #[.int .u64 0, .int .i64 0, .int .i64 0]) ∧ w' = w := by
  have h1 := isThere_nil w
  go_enter Try.func21, Try.ntmps21
  go_wp2_with fail
  refine h1.mono ?_
  rintro e1 w1 ⟨rfl, hww⟩
  rw [hww]
  clear h1 hww w1
  go_wp2_with fail
  go_ret3
  exact ⟨rfl, rfl⟩
set_option maxRecDepth 100000 in
set_option maxHeartbeats 2000000 in
theorem take_nil (w : World) (i : Nat) (n : Int) (l : Bool) (v : Value) : Calls Try.prog 19 #[.pointer none, .agg #[.int .u64 (i : Int), .int .i64 n, .bool l, v]] w fun e w' => e = .returned (.tuple #[.slice none 0 0, .bool false, .int .i64 1]) ∧ Below w.heap.size w w' := by
  have HB := Box'.mk (fun o => (Below.refl w.heap.size w).alloc (Nat.le_refl _) o)
  go_enter Try.func19, Try.ntmps19
  go_wp2_with fail
  refine (isThere_nil _).mono ?_
  rintro e1 w1 ⟨rfl, hww⟩
  rw [hww]
  clear hww w1
  go_wp2_with fail
  go_ret3
  exact ⟨rfl, HB.out _⟩
end Go.Proofs.Ythmcmdojnnbefaa
