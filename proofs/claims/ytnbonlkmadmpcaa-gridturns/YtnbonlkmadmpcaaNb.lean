/- What a call leaves but for one block; rows cut out of a grid. -/
import Derived.Test.YtnbonlkmadmpcaaNa
namespace Go.Proofs.Ytnbonlkmadmpcaa
open Go.RowKit Go.BigFrame
set_option linter.unusedVariables false
set_option linter.unusedSimpArgs false
/-- All that stood in w stands in w', but for the block b. -/
structure Tc (b : Nat) (w w' : World) : Prop where
 os : w'.os = w.os
 tape : w'.tape = w.tape
 output : w'.output = w.output
 size : w.heap.size ≤ w'.heap.size
 block : ∀ k, k < w.heap.size → k ≠ b → w'.heap[k]? = w.heap[k]?
theorem Tc.refl (b : Nat) (w : World) : Tc b w w := ⟨rfl, rfl, rfl, Nat.le_refl _, fun _ _ _ => rfl⟩
theorem Tc.trans {b : Nat} {w w' w'' : World} (h : Tc b w w') (k : Tc b w' w'') : Tc b w w'' :=
 ⟨k.os.trans h.os, k.tape.trans h.tape, k.output.trans h.output, Nat.le_trans h.size k.size, fun i hi hb => (k.block i (Nat.lt_of_lt_of_le hi h.size) hb).trans (h.block i hi hb)⟩
theorem Tc.of {b : Nat} {w w' : World} (h : Below w.heap.size w w') : Tc b w w' := ⟨h.os, h.tape, h.output, h.size, fun k hk _ => h.block k hk⟩
theorem Tc.then {b : Nat} {w w' w'' : World} (h : Tc b w w') (k : Below w'.heap.size w' w'') : Tc b w w'' := h.trans (Tc.of k)
theorem Tc.setRow {b : Nat} {w w' : World} (h : Tc b w w') (c : Array Value) : Tc b w (w'.setRow b c) :=
 ⟨h.os, h.tape, h.output, by rw [setRow_size]; exact h.size, fun k hk hb => by rw [setRow_other _ _ _ _ hb]; exact h.block k hk hb⟩
theorem Tc.row {b : Nat} {w w' : World} (h : Tc b w w') {k : Nat} {t : TypeId} {c : Array Value} (hr : Row w k t c) (hb : k ≠ b) : Row w' k t c := by
 show w'.heap[k]? = _
 rw [h.block k hr.lt hb]; exact hr
theorem Tc.below {b : Nat} {w w' : World} (h : Tc b w w') {N : Nat} (hN : N ≤ b) (hN2 : N ≤ w.heap.size) : Below N w w' :=
 ⟨h.os, h.tape, h.output, h.size, fun k hk => h.block k (by omega) (by omega)⟩
theorem Tc.drew {b : Nat} {w w' : World} (h : Tc b w w') : Tc b w w'.drew := h.then (bR.drew)
/-- The cells of a grid's own value. -/
def gA (co ro : Int) (v : Value) : Array Value := #[.int .i64 co, .int .i64 ro, v]
set_option maxRecDepth 100000 in
theorem s24g : (Try.prog.info? 24).map (·.size) = some 3 := by kernel_rfl
theorem muls {a b c : Nat} : a * (b + c) - a * b = a * c := by rw [Nat.mul_add]; omega
theorem place_b (a b : Nat) (ha : a ≤ 1024) (hb : b ≤ 1024) (w : World) : Calls Try.prog 45 #[.int .i64 (a : Int), .int .i64 (b : Int)] w fun e w' => e = .returned (.int .i64 ((a * b : Nat) : Int)) ∧ Below w.heap.size w w' :=
 (place_any a b ha hb w).mono fun e w' h => ⟨h.1, h.2 ▸ Below.refl _ _⟩
set_option maxHeartbeats 4000000 in
theorem rowsOf_any (cols top count b o n c : Nat) (ro : Int) (h1 : 1 ≤ cols) (h2 : cols ≤ 512) (h3 : 1 ≤ count) (h4 : top + count ≤ 512) (h5 : cols * (top + count) ≤ c) (w : World) :
  Calls Try.prog 44 #[.agg (gA (cols : Int) ro (.slice (some ⟨b, o, none⟩) n c)), .int .i64 (top : Int), .int .i64 (count : Int)] w fun e w' =>
   e = .returned (.slice (some ⟨b, o + cols * top * 15, none⟩) (cols * count) (cols * count)) ∧ Below w.heap.size w w' := by
 have P1 := Box'.mk (place_b cols top (by omega) (by omega))
 have P2 := Box'.mk (place_b cols (top + count) (by omega) (by omega))
 rw [Int.natCast_add] at P2
 have hle : cols * top ≤ cols * (top + count) := Nat.mul_le_mul_left _ (by omega)
 have hlt : cols * top < cols * (top + count) := Nat.mul_lt_mul_of_pos_left (by omega) (by omega)
 have E : Box' (cols * (top + count) - cols * top = cols * count) := ⟨muls⟩
 have CT := Box'.mk (fun w => run_cutC3 b o n c (cols * top) (cols * (top + count)) (cols * (top + count)) hle (Nat.le_refl _) h5 hlt w)
 have R1 := Box'.mk (Row.new w 24 (gA (cols : Int) ro (.slice (some ⟨b, o, none⟩) n c)))
 have B1 := Box'.mk ((Below.refl w.heap.size w).alloc (Nat.le_refl _) (.cells (gA (cols : Int) ro (.slice (some ⟨b, o, none⟩) n c)) 24))
 generalize cols * top = lo at *
 generalize cols * (top + count) = hi at *
 go_enter Try.func44, Try.ntmps44
 go_upto_region 1 with (fail)
 generalize (w.alloc (.cells (gA (cols : Int) ro (.slice (some ⟨b, o, none⟩) n c)) 24)) = w1 at *
 refine wp_region_growg 10 (by kernel_rfl) 25 rfl (by kernel_rfl) (fun wa wb => Below wa.heap.size wa wb) (fun wa => Row wa w.heap.size 24 (gA (cols : Int) ro (.slice (some ⟨b, o, none⟩) n c)) ∧ Below w.heap.size w wa) (fun kc wa v => match kc with
  | 0 => v = .pointer (some ⟨w.heap.size, 0, none⟩)
  | 1 => v = .int .i64 (cols : Int)
  | 2 => v = .int .i64 (top : Int)
  | 3 => v = .int .i64 (lo : Int)
  | 4 => v = .pointer (some ⟨w.heap.size, 0, none⟩)
  | 5 => v = .int .i64 (cols : Int)
  | 6 => v = .int .i64 (top : Int)
  | 7 => v = .int .i64 (count : Int)
  | 8 => v = .int .i64 ((top : Int) + (count : Int))
  | 9 => v = .int .i64 (hi : Int)
  | _ => True) ?_ ?_ ?_ ?_ ?_ ?_
 ·intro i o' j b' hi hg wa v hC hV
  have hlt : i < 10 := by rcases Nat.lt_or_ge i 10 with q | q; exact q; rw [List.getElem?_eq_none (by simpa using q)] at hi; cases hi
  revert hi hg hV
  rcases (show i = 0 ∨ i = 1 ∨ i = 2 ∨ i = 3 ∨ i = 4 ∨ i = 5 ∨ i = 6 ∨ i = 7 ∨ i = 8 ∨ i = 9 by omega) with rfl | rfl | rfl | rfl | rfl | rfl | rfl | rfl | rfl | rfl <;>
   (intro hi hg hV; simp only [tkS, List.getElem?_cons_zero, List.getElem?_cons_succ, Option.some.injEq] at hi; subst hi; first | (cases hg; exact hV) | (cases hg))
 ·rintro wa wb hb ⟨q1, q2⟩; exact ⟨q1.below hb q1.lt, q2.trans (hb.mono q2.size)⟩
 ·intro kc v wa wb hC1 hb h
  match kc, h with
  | 0, h => exact h
  | 1, h => exact h
  | 2, h => exact h
  | 3, h => exact h
  | 4, h => exact h
  | 5, h => exact h
  | 6, h => exact h
  | 7, h => exact h
  | 8, h => exact h
  | 9, h => exact h
  | kc + 10, h => trivial
 ·exact ⟨R1.out.drew, B1.out.drew⟩
 ·refine ⟨?_, ?_, ?_, ?_, ?_, ?_, ?_, ?_, ?_, ?_, trivial⟩
  ·intro f wq hC hd KK hK
   clear hd
   simp only [tkS, tkZ, setAll, siB, stS, stZ, Nat.zero_add, Nat.reduceAdd] at hK ⊢
   refine wp_of_quiet rfl ?_
   go_big_quiet_step (fail)
   exact wpQuiet_nil (hK _ _ (rfl) bR)
  ·intro f wq hC hd KK hK
   have g0 : f 0 = .pointer (some ⟨w.heap.size, 0, none⟩) := hd 0 (by kernel_rfl)
   clear hd
   have c0 : wq.cell? ⟨w.heap.size, 0, none⟩ = some (.int .i64 (cols : Int)) := hC.1.cell 0
   clear hC
   simp only [tkS, tkZ, setAll, siB, stS, stZ, Nat.zero_add, Nat.reduceAdd, g0] at hK ⊢
   refine wp_of_quiet rfl ?_
   go_big_quiet_step (fail)
   exact wpQuiet_nil (hK _ _ (rfl) bR)
  ·intro f wq hC hd KK hK
   clear hd
   simp only [tkS, tkZ, setAll, siB, stS, stZ, Nat.zero_add, Nat.reduceAdd] at hK ⊢
   refine wp_of_quiet rfl ?_
   go_big_quiet_step (fail)
   exact wpQuiet_nil (hK _ _ (rfl) bR)
  ·intro f wq hC hd KK hK
   have g1 : f 1 = .int .i64 (cols : Int) := hd 1 (by kernel_rfl)
   have g2 : f 2 = .int .i64 (top : Int) := hd 2 (by kernel_rfl)
   clear hd
   simp only [tkS, tkZ, setAll, siB, stS, stZ, Nat.zero_add, Nat.reduceAdd, g1, g2] at hK ⊢
   exact wp_call 45 #[.int .i64 (cols : Int), .int .i64 (top : Int)] (by simp [go_sem]) _ _ (P1.out wq) (fun w' hb => hK _ _ rfl hb)
  ·intro f wq hC hd KK hK
   clear hd
   simp only [tkS, tkZ, setAll, siB, stS, stZ, Nat.zero_add, Nat.reduceAdd] at hK ⊢
   refine wp_of_quiet rfl ?_
   go_big_quiet_step (fail)
   exact wpQuiet_nil (hK _ _ (rfl) bR)
  ·intro f wq hC hd KK hK
   have g4 : f 4 = .pointer (some ⟨w.heap.size, 0, none⟩) := hd 4 (by kernel_rfl)
   clear hd
   have c0 : wq.cell? ⟨w.heap.size, 0, none⟩ = some (.int .i64 (cols : Int)) := hC.1.cell 0
   clear hC
   simp only [tkS, tkZ, setAll, siB, stS, stZ, Nat.zero_add, Nat.reduceAdd, g4] at hK ⊢
   refine wp_of_quiet rfl ?_
   go_big_quiet_step (fail)
   exact wpQuiet_nil (hK _ _ (rfl) bR)
  ·intro f wq hC hd KK hK
   clear hd
   simp only [tkS, tkZ, setAll, siB, stS, stZ, Nat.zero_add, Nat.reduceAdd] at hK ⊢
   refine wp_of_quiet rfl ?_
   go_big_quiet_step (fail)
   exact wpQuiet_nil (hK _ _ (rfl) bR)
  ·intro f wq hC hd KK hK
   clear hd
   simp only [tkS, tkZ, setAll, siB, stS, stZ, Nat.zero_add, Nat.reduceAdd] at hK ⊢
   refine wp_of_quiet rfl ?_
   go_big_quiet_step (fail)
   exact wpQuiet_nil (hK _ _ (rfl) bR)
  ·intro f wq hC hd KK hK
   have g6 : f 6 = .int .i64 (top : Int) := hd 6 (by kernel_rfl)
   have g7 : f 7 = .int .i64 (count : Int) := hd 7 (by kernel_rfl)
   clear hd
   simp only [tkS, tkZ, setAll, siB, stS, stZ, Nat.zero_add, Nat.reduceAdd, g6, g7] at hK ⊢
   refine wp_of_quiet rfl ?_
   go_big_quiet_step (fail)
   exact wpQuiet_nil (hK _ _ (rfl) bR)
  ·intro f wq hC hd KK hK
   have g5 : f 5 = .int .i64 (cols : Int) := hd 5 (by kernel_rfl)
   have g8 : f 8 = .int .i64 ((top : Int) + (count : Int)) := hd 8 (by kernel_rfl)
   clear hd
   simp only [tkS, tkZ, setAll, siB, stS, stZ, Nat.zero_add, Nat.reduceAdd, g5, g8] at hK ⊢
   exact wp_call 45 #[.int .i64 (cols : Int), .int .i64 ((top : Int) + (count : Int))] (by simp [go_sem]) _ _ (P2.out wq) (fun w' hb => hK _ _ rfl hb)
 ·intro f wz hC hv
  have p0 : f 0 = .pointer (some ⟨w.heap.size, 0, none⟩) := hv 0 (by decide)
  have p1 : f 1 = .int .i64 (cols : Int) := hv 1 (by decide)
  have p2 : f 2 = .int .i64 (top : Int) := hv 2 (by decide)
  have p3 : f 3 = .int .i64 (lo : Int) := hv 3 (by decide)
  have p4 : f 4 = .pointer (some ⟨w.heap.size, 0, none⟩) := hv 4 (by decide)
  have p5 : f 5 = .int .i64 (cols : Int) := hv 5 (by decide)
  have p6 : f 6 = .int .i64 (top : Int) := hv 6 (by decide)
  have p7 : f 7 = .int .i64 (count : Int) := hv 7 (by decide)
  have p8 : f 8 = .int .i64 ((top : Int) + (count : Int)) := hv 8 (by decide)
  have p9 : f 9 = .int .i64 (hi : Int) := hv 9 (by decide)
  simp only [tkS, tkZ, List.drop_succ_cons, List.drop_zero, setAll, siB, stS, stZ, Nat.zero_add, Nat.reduceAdd, p0, p1, p2, p3, p4, p5, p6, p7, p8, p9]
  clear hv p0 p1 p2 p3 p4 p5 p6 p7 p8 p9
  have c2 : wz.cell? ⟨w.heap.size, 2, none⟩ = some (.slice (some ⟨b, o, none⟩) n c) := hC.1.cell 2
  have B2 := Box'.mk hC.2
  clear hC R1 B1 P1 P2
  go_wp2_with (first
   | (refine wpList_slice rfl 22 (.tmp 20) (some (.tmp 21)) (some (.tmp 22)) (some (.tmp 23)) rfl _ (CT.out _) ?_))
  go_ret
  rw [← E.out]
  exact ⟨rfl, B2.out⟩
set_option maxHeartbeats 4000000 in
theorem rowOf_any (cols top b o n c : Nat) (ro : Int) (h1 : 1 ≤ cols) (h2 : cols ≤ 512) (h4 : top < 512) (h5 : cols * (top + 1) ≤ c) (w : World) :
  Calls Try.prog 35 #[.agg (gA (cols : Int) ro (.slice (some ⟨b, o, none⟩) n c)), .int .i64 (top : Int)] w fun e w' =>
   e = .returned (.slice (some ⟨b, o + cols * top * 15, none⟩) cols cols) ∧ Below w.heap.size w w' := by
 have RW := Box'.mk (rowsOf_any cols top 1 b o n c ro h1 h2 (by omega) (by omega) h5)
 have U24 := Box'.mk Try.underlying24
 have S24 := Box'.mk s24g
 rw [Nat.mul_one] at RW
 have R1 := Box'.mk (Row.new w 24 (gA (cols : Int) ro (.slice (some ⟨b, o, none⟩) n c)))
 have B1 := Box'.mk ((Below.refl w.heap.size w).alloc (Nat.le_refl _) (.cells (gA (cols : Int) ro (.slice (some ⟨b, o, none⟩) n c)) 24))
 go_enter Try.func35, Try.ntmps35
 go_upto_region 1 with (fail)
 generalize (w.alloc (.cells (gA (cols : Int) ro (.slice (some ⟨b, o, none⟩) n c)) 24)) = w1 at *
 go_wp2_with (first
  | (refine wpList_load_row rfl 24 (.tmp 2) rfl w.heap.size rfl 24 (gA (cols : Int) ro (.slice (some ⟨b, o, none⟩) n c)) R1.out _ U24.out rfl 3 S24.out rfl ?_))
 refine (RW.out _).mono ?_
 rintro e w2 ⟨rfl, hb2⟩
 have B2 := Box'.mk (B1.out.trans (hb2.mono B1.out.size))
 clear hb2 RW R1 B1
 go_wp2_with fail
 go_ret
 exact ⟨rfl, B2.out⟩
set_option maxHeartbeats 4000000 in
theorem refRow_any (cols top b o n c : Nat) (ro : Int) (h1 : 1 ≤ cols) (h2 : cols ≤ 512) (h4 : top < 512) (h5 : cols * (top + 1) ≤ c) (w : World) :
  Calls Try.prog 39 #[.agg (gA (cols : Int) ro (.slice (some ⟨b, o, none⟩) n c)), .int .i64 (top : Int)] w fun e w' =>
   e = .returned (.slice (some ⟨b, o + cols * top * 15, none⟩) cols (c - cols * top)) ∧ Below w.heap.size w w' := by
 have hle : cols * top ≤ cols * (top + 1) := Nat.mul_le_mul_left _ (by omega)
 have hlt : cols * top < cols * (top + 1) := Nat.mul_lt_mul_of_pos_left (by omega) (by omega)
 have hm : cols * (top + 1) ≤ 512 * 512 := Nat.mul_le_mul h2 (by omega)
 have E : Box' (cols * (top + 1) - cols * top = cols) := ⟨by rw [muls, Nat.mul_one]⟩
 have CT := Box'.mk (fun w => run_cutC b o n c (cols * top) (cols * (top + 1)) hle h5 (by omega) w)
 have E1 : (top : Int) * (cols : Int) = ((cols * top : Nat) : Int) := by rw [Int.natCast_mul, Int.mul_comm]
 have E2 : ((top : Int) + 1) * (cols : Int) = ((cols * (top + 1) : Nat) : Int) := by rw [Int.natCast_mul, Int.mul_comm, Int.natCast_add]; rfl
 have R1 := Box'.mk (Row.new w 24 (gA (cols : Int) ro (.slice (some ⟨b, o, none⟩) n c)))
 have B1 := Box'.mk ((Below.refl w.heap.size w).alloc (Nat.le_refl _) (.cells (gA (cols : Int) ro (.slice (some ⟨b, o, none⟩) n c)) 24))
 generalize cols * top = lo at *
 generalize cols * (top + 1) = hi at *
 go_enter Try.func39, Try.ntmps39
 go_upto_region 1 with (fail)
 generalize (w.alloc (.cells (gA (cols : Int) ro (.slice (some ⟨b, o, none⟩) n c)) 24)) = w1 at *
 have c0 : w1.cell? ⟨w.heap.size, 0, none⟩ = some (.int .i64 (cols : Int)) := R1.out.cell 0
 have c2 : w1.cell? ⟨w.heap.size, 2, none⟩ = some (.slice (some ⟨b, o, none⟩) n c) := R1.out.cell 2
 have l1 : (top : Int) * (cols : Int) ≤ 262144 := by omega
 have l2 : ((top : Int) + 1) * (cols : Int) ≤ 262144 := by omega
 have l3 : 0 ≤ (top : Int) * (cols : Int) := by omega
 have l4 : 0 ≤ ((top : Int) + 1) * (cols : Int) := by omega
 rw [← E1, ← E2] at CT
 have EE := Box'.mk E1
 clear E1 E2
 go_wp2_with (first
  | (refine wpList_slice rfl 22 (.tmp 6) (some (.tmp 10)) (some (.tmp 15)) none rfl _ (CT.out _) ?_))
 go_ret
 rw [E.out]
 exact ⟨rfl, B1.out⟩
end Go.Proofs.Ytnbonlkmadmpcaa
