/- Cells pushed along. -/
import Derived.Test.YtnbonlkmadmpcaaNc
namespace Go.Proofs.Ytnbonlkmadmpcaa
open Go.RowKit Go.BigFrame
set_option linter.unusedVariables false
set_option linter.unusedSimpArgs false
/-- The cells of a part, moved; blanks where they leave. -/
def puF (r : List Cl) (by' : Int) (s : St) : List Cl :=
 if 0 < by' then List.replicate by'.toNat (bl s) ++ r.take (r.length - by'.toNat) else if by' < 0 then r.drop (-by').toNat ++ List.replicate (-by').toNat (bl s) else r
theorem puF_len (r : List Cl) (k : Int) (s : St) (h1 : -(r.length : Int) ≤ k) (h2 : k ≤ (r.length : Int)) : (puF r k s).length = r.length := by
 unfold puF
 split
 ·simp only [List.length_append, List.length_replicate, List.length_take]; omega
 ·split
  ·simp only [List.length_append, List.length_replicate, List.length_drop]; omega
  ·rfl
/-- A part laid over the cells of a list. -/
def lay (l : List Cl) (o : Nat) (m : List Cl) : List Cl := l.take o ++ m ++ l.drop (o + m.length)
theorem lay_len (l : List Cl) (o : Nat) (m : List Cl) (h : o + m.length ≤ l.length) : (lay l o m).length = l.length := by
 unfold lay
 simp only [List.length_append, List.length_take, List.length_drop]
 omega
theorem lay_self (l : List Cl) (o n : Nat) (h : o + n ≤ l.length) : lay l o ((l.drop o).take n) = l := by
 unfold lay
 rw [List.length_take, List.length_drop, show min n (l.length - o) = n by omega, List.append_assoc, ← List.drop_drop, List.take_append_drop, List.take_append_drop]
theorem push_right (l : List Cl) (o n k : Nat) (s : St) (h : o + n ≤ l.length) (hk : 0 < k) (hk2 : k ≤ n) :
  fiL (lay l (o + k) (((l.drop o).take n).take (n - k))) o k s = lay l o (puF ((l.drop o).take n) (k : Int) s) := by
 have hr : ((l.drop o).take n).length = n := by rw [List.length_take, List.length_drop]; omega
 have hp : puF ((l.drop o).take n) (k : Int) s = List.replicate k (bl s) ++ ((l.drop o).take n).take (n - k) := by
  unfold puF
  rw [if_pos (by omega), hr, Int.toNat_natCast]
 have ht : (((l.drop o).take n).take (n - k)).length = n - k := by rw [List.length_take, hr]; omega
 rw [hp]
 unfold fiL lay
 rw [ht]
 have e1 : (l.take (o + k) ++ ((l.drop o).take n).take (n - k) ++ l.drop (o + k + (n - k))).take o = l.take o := by
  rw [List.append_assoc, List.take_append_of_le_length (by rw [List.length_take]; omega), List.take_take]
  congr 1
  omega
 have e2 : (l.take (o + k) ++ ((l.drop o).take n).take (n - k) ++ l.drop (o + k + (n - k))).drop (o + k) = ((l.drop o).take n).take (n - k) ++ l.drop (o + n) := by
  have hl : (l.take (o + k)).length = o + k := by rw [List.length_take]; omega
  rw [List.append_assoc, List.drop_append, hl, Nat.sub_self, List.drop_zero, List.drop_of_length_le (by omega), List.nil_append]
  congr 2
  omega
 rw [e1, e2, List.length_append, List.length_replicate, ht]
 simp only [List.append_assoc]
 congr 4
 omega
theorem push_left (l : List Cl) (o n k : Nat) (s : St) (h : o + n ≤ l.length) (hk : 0 < k) (hk2 : k ≤ n) :
  fiL (lay l o (((l.drop o).take n).drop k)) (o + (n - k)) k s = lay l o (puF ((l.drop o).take n) (-(k : Int)) s) := by
 have hr : ((l.drop o).take n).length = n := by rw [List.length_take, List.length_drop]; omega
 have hp : puF ((l.drop o).take n) (-(k : Int)) s = ((l.drop o).take n).drop k ++ List.replicate k (bl s) := by
  unfold puF
  rw [if_neg (by omega), if_pos (by omega)]
  simp
 have ht : (((l.drop o).take n).drop k).length = n - k := by rw [List.length_drop, hr]
 rw [hp]
 unfold fiL lay
 rw [ht]
 have hl : (l.take o).length = o := by rw [List.length_take]; omega
 have hla : (l.take o ++ ((l.drop o).take n).drop k).length = o + (n - k) := by rw [List.length_append, hl, ht]
 have e1 : (l.take o ++ ((l.drop o).take n).drop k ++ l.drop (o + (n - k))).take (o + (n - k)) = l.take o ++ ((l.drop o).take n).drop k := by
  rw [List.take_append_of_le_length (by omega), List.take_of_length_le (by omega)]
 have e2 : (l.take o ++ ((l.drop o).take n).drop k ++ l.drop (o + (n - k))).drop (o + (n - k) + k) = l.drop (o + n) := by
  rw [List.drop_append, List.drop_of_length_le (by omega), List.nil_append, hla, List.drop_drop]
  congr 1
  omega
 rw [e1, e2, List.length_append, List.length_replicate, ht]
 simp only [List.append_assoc]
 congr 4
 omega
theorem RC.src {w : World} {g : Nat} {l : List Cl} {sp : List Value} (h : RC w g l sp) (o : Nat) (m : List Cl) (hm : ∀ k, k < m.length → m.getD k (hf pl) = l.getD (o + k) (hf pl)) (hl : o + m.length ≤ l.length) :
  ∀ j v, (cLs m)[j]? = some v → w.cell? ((⟨g, o * 15, none⟩ : Addr).add j) = some v := by
 intro j u hu
 have hj : j < m.length * 15 := by have := (List.getElem?_eq_some_iff.1 hu).1; rwa [cLs_len] at this
 have e1 : j = j / 15 * 15 + j % 15 := by omega
 rw [Addr.add_mid]
 rw [e1] at hu ⊢
 rw [cLs_get m (j / 15) (j % 15) (by omega) (by omega)] at hu
 rw [show o * 15 + (j / 15 * 15 + j % 15) = (o + j / 15) * 15 + j % 15 by rw [Nat.add_mul]; omega, h.cell (o + j / 15) (j % 15) (by omega) (by omega), ← hm (j / 15) (by omega)]
 exact hu
set_option maxRecDepth 100000 in
set_option maxHeartbeats 8000000 in
theorem push_0 (b o n c : Nat) (s : St) (w : World) : Calls Try.prog 42 #[.slice (some ⟨b, o * 15, none⟩) n c, .int .i64 0, .agg (sA s)] w fun e w' => (∃ v, e = .returned v) ∧ Below w.heap.size w w' := by
 have B1 := Box'.mk ((Below.refl w.heap.size w).alloc (Nat.le_refl _) (.cells (sA s) 26))
 go_enter Try.func42, Try.ntmps42
 go_upto_region 1 with (fail)
 generalize (w.alloc (.cells (sA s) 26)) = w1 at *
 go_wp2_with fail
 exact bodyPost_end (results_none rfl _ _) rfl ⟨⟨_, rfl⟩, B1.out⟩
set_option maxRecDepth 100000 in
set_option maxHeartbeats 8000000 in
theorem push_r (b o n c k : Nat) (l : List Cl) (sp : List Value) (s : St) (w : World) (hk : 0 < k) (hk2 : k ≤ n) (hn : n ≤ c) (hl : o + n ≤ l.length) (hr : RC w b l sp) (hcap : n ≤ 1000000) :
  Calls Try.prog 42 #[.slice (some ⟨b, o * 15, none⟩) n c, .int .i64 (k : Int), .agg (sA s)] w fun e w' => (∃ v, e = .returned v) ∧ RC w' b (lay l o (puF ((l.drop o).take n) (k : Int) s)) sp ∧ Tc b w w' := by
 have hrl : ((l.drop o).take n).length = n := by rw [List.length_take, List.length_drop]; omega
 have hml : (((l.drop o).take n).take (n - k)).length = n - k := by rw [List.length_take, hrl]; omega
 have E := Box'.mk (push_right l o n k s hl hk hk2)
 have LL := Box'.mk (lay_len l (o + k) (((l.drop o).take n).take (n - k)) (by omega))
 have SR : Box' (∀ wx, RC wx b l sp → ∀ j v, (cLs (((l.drop o).take n).take (n - k)))[j]? = some v → wx.cell? ((⟨b, o * 15, none⟩ : Addr).add j) = some v) := ⟨fun wx hx => hx.src o _ (fun q hq => by
  rw [hml] at hq
  simp [List.getElem?_take_of_lt (show q < n - k by omega), List.getElem?_take_of_lt (show q < n by omega)]) (by omega)⟩
 have HM : Box' ((((l.drop o).take n).take (n - k)).length = Nat.min n (n - k)) := ⟨by rw [hml]; exact (Nat.min_eq_right (Nat.sub_le _ _)).symm⟩
 have HX : Box' ((((l.drop o).take n).take (n - k)) = [] ∨ cutO (o * 15) c k = (o + k) * 15) := ⟨by
  by_cases hc : c = k
  ·left; exact List.eq_nil_of_length_eq_zero (by omega)
  ·right; rw [cutO_at hc, Nat.add_mul]⟩
 have HF : Box' (o + k + (((l.drop o).take n).take (n - k)).length ≤ l.length) := ⟨by omega⟩
 have CU := Box'.mk (fun w => run_cutL b (o * 15) n c k hk2 hn w)
 have CH := Box'.mk (fun w => run_cutH b (o * 15) n c k (by omega) w)
 have FI : Box' (∀ wx lx, lx.length = l.length → RC wx b lx sp → Calls Try.prog 41 #[.slice (some ⟨b, o * 15, none⟩) k c, .agg (sA s)] wx fun e w' => (∃ v, e = .returned v) ∧ RC w' b (fiL lx o k s) sp ∧ Tc b wx w') := ⟨fun wx lx hlx h => fill_any b (o * 15) o k c lx sp s wx (by omega) (.inr rfl) (by omega) h (by omega)⟩
 have S24 := Box'.mk s24
 have U24 := Box'.mk Try.underlying26
 have hbw := hr.lt
 have R1 := Box'.mk (Row.new w 26 (sA s))
 have C1 : Box' (RC (w.alloc (.cells (sA s) 26)) b l sp) := ⟨Row.alloc hr _⟩
 have T1 : Box' (Tc b w (w.alloc (.cells (sA s) 26))) := ⟨Tc.of (bR.alloc (Nat.le_refl _) _)⟩
 clear hr hml hrl hl
 generalize (((l.drop o).take n).take (n - k)) = m at *
 unfold lay at LL E
 go_enter Try.func42, Try.ntmps42
 go_upto_region 1 with (fail)
 generalize (w.alloc (.cells (sA s) 26)) = w1 at *
 have R2 : Box' (Row (w1.setRow b (cLs (l.take (o + k) ++ m ++ l.drop (o + k + m.length)) ++ sp).toArray) w.heap.size 26 (sA s)) := ⟨Row.setRowOther R1.out _ _ (by omega)⟩
 have C2 : Box' (RC (w1.setRow b (cLs (l.take (o + k) ++ m ++ l.drop (o + k + m.length)) ++ sp).toArray) b (l.take (o + k) ++ m ++ l.drop (o + k + m.length)) sp) := ⟨C1.out.setRow _ _⟩
 have T2 : Box' (Tc b w (w1.setRow b (cLs (l.take (o + k) ++ m ++ l.drop (o + k + m.length)) ++ sp).toArray)) := ⟨T1.out.setRow _⟩
 go_wp2_with (first
  | (refine wpList_slice rfl 22 (.tmp 10) (some (.tmp 11)) none none rfl _ (CU.out _) ?_)
  | (refine wpList_copyG rfl (.tmp 12) (.tmp 13) rfl b (cutO (o * 15) c k) (o + k) (n - k) (c - k) ⟨b, o * 15, none⟩ n c l m sp rfl rfl C1.out HM.out HX.out (SR.out _ C1.out) HF.out ?_))
 generalize (w1.setRow b (cLs (l.take (o + k) ++ m ++ l.drop (o + k + m.length)) ++ sp).toArray) = w2 at *
 generalize (l.take (o + k) ++ m ++ l.drop (o + k + m.length)) = l2 at *
 refine wp_region_growg 4 (by kernel_rfl) 40 rfl (by kernel_rfl) (fun wa wb => Below wa.heap.size wa wb) (fun wa => Row wa w.heap.size 26 (sA s) ∧ RC wa b l2 sp ∧ Tc b w wa) (fun kc wa v => match kc with
  | 0 => v = .slice (some ⟨b, o * 15, none⟩) n c
  | 1 => v = .int .i64 (k : Int)
  | 2 => v = .slice (some ⟨b, o * 15, none⟩) k c
  | 3 => v = .agg (sA s)
  | _ => True) ?_ ?_ ?_ ?_ ?_ ?_
 ·intro i o' j b' hi hg wa v hC hV
  have hlt : i < 4 := by rcases Nat.lt_or_ge i 4 with q | q; exact q; rw [List.getElem?_eq_none (by simpa using q)] at hi; cases hi
  revert hi hg hV
  rcases (show i = 0 ∨ i = 1 ∨ i = 2 ∨ i = 3 by omega) with rfl | rfl | rfl | rfl <;>
   (intro hi hg hV; simp only [tkS, List.getElem?_cons_zero, List.getElem?_cons_succ, Option.some.injEq] at hi; subst hi; first | (cases hg; exact hV) | (cases hg))
 ·rintro wa wb hb ⟨q1, q2, q3⟩; exact ⟨q1.below hb q1.lt, q2.below hb q2.lt, q3.then hb⟩
 ·intro kc v wa wb hC1 hb h
  match kc, h with
  | 0, h => exact h
  | 1, h => exact h
  | 2, h => exact h
  | 3, h => exact h
  | kc + 4, h => trivial
 ·exact ⟨R2.out.drew, C2.out.drew, T2.out.drew⟩
 ·refine ⟨?_, ?_, ?_, ?_, trivial⟩
  ·intro f wq hC hd KK hK
   clear hd
   simp only [tkS, tkZ, setAll, siB, stS, stZ, Nat.zero_add, Nat.reduceAdd] at hK ⊢
   refine wp_of_quiet rfl ?_
   go_big_quiet_step (fail)
   exact wpQuiet_nil (hK _ _ (rfl) bR)
  ·intro f wq hC hd KK hK
   clear hd
   simp only [tkS, tkZ, setAll, siB, stS, stZ, Nat.zero_add, Nat.reduceAdd] at hK ⊢
   refine wp_of_quiet rfl ?_
   go_big_quiet_step (fail)
   exact wpQuiet_nil (hK _ _ (rfl) bR)
  ·intro f wq hC hd KK hK
   have g0 : f 0 = .slice (some ⟨b, o * 15, none⟩) n c := hd 0 (by kernel_rfl)
   have g1 : f 1 = .int .i64 (k : Int) := hd 1 (by kernel_rfl)
   clear hd
   simp only [tkS, tkZ, setAll, siB, stS, stZ, Nat.zero_add, Nat.reduceAdd, g0, g1] at hK ⊢
   exact wp_val _ (slice_op 22 (.tmp 15) none (some (.tmp 16)) none rfl _ _ (CH.out _)) (hK _ _ rfl bR)
  ·intro f wq hC hd KK hK
   clear hd
   have hR : Row wq w.heap.size 26 (sA s) := hC.1
   have c0 : wq.cell? ⟨w.heap.size, 0, none⟩ = some (.int .i64 s.fg) := hR.cell 0
   have c1 : wq.cell? ⟨w.heap.size, 1, none⟩ = some (.int .i64 s.bg) := hR.cell 1
   have c2 : wq.cell? ⟨w.heap.size, 2, none⟩ = some (.bool s.b1) := hR.cell 2
   have c3 : wq.cell? ⟨w.heap.size, 3, none⟩ = some (.bool s.b2) := hR.cell 3
   have c4 : wq.cell? ⟨w.heap.size, 4, none⟩ = some (.bool s.b3) := hR.cell 4
   have c5 : wq.cell? ⟨w.heap.size, 5, none⟩ = some (.bool s.b4) := hR.cell 5
   have c6 : wq.cell? ⟨w.heap.size, 6, none⟩ = some (.bool s.b5) := hR.cell 6
   have c7 : wq.cell? ⟨w.heap.size, 7, none⟩ = some (.bool s.b7) := hR.cell 7
   have c8 : wq.cell? ⟨w.heap.size, 8, none⟩ = some (.bool s.b8) := hR.cell 8
   have c9 : wq.cell? ⟨w.heap.size, 9, none⟩ = some (.bool s.b9) := hR.cell 9
   clear hC hR
   simp only [tkS, tkZ, setAll, siB, stS, stZ, Nat.zero_add, Nat.reduceAdd] at hK ⊢
   refine wp_of_quiet rfl ?_
   go_big_quiet_step (fail)
   exact wpQuiet_nil (hK _ _ (rfl) bR)
 ·intro f wz hC hv
  have p0 : f 0 = .slice (some ⟨b, o * 15, none⟩) n c := hv 0 (by decide)
  have p1 : f 1 = .int .i64 (k : Int) := hv 1 (by decide)
  have p2 : f 2 = .slice (some ⟨b, o * 15, none⟩) k c := hv 2 (by decide)
  have p3 : f 3 = .agg (sA s) := hv 3 (by decide)
  simp only [tkS, tkZ, List.drop_succ_cons, List.drop_zero, setAll, siB, stS, stZ, Nat.zero_add, Nat.reduceAdd, p0, p1, p2, p3]
  clear hv p0 p1 p2 p3
  have C3 := Box'.mk hC.2.1
  have T3 := Box'.mk hC.2.2
  clear hC R2 C2 T2 R1 C1 T1 SR HM HX HF CU CH
  go_wp2_with fail
  refine (FI.out _ l2 LL.out C3.out).mono ?_
  rintro e w4 ⟨⟨v, rfl⟩, hr4, ht4⟩
  have C4 := Box'.mk hr4
  have T4 := Box'.mk (T3.out.trans ht4)
  rw [E.out] at C4
  clear hr4 ht4
  go_wp2_with fail
  exact bodyPost_end (results_none rfl _ _) rfl ⟨⟨_, rfl⟩, C4.out, T4.out⟩
set_option maxRecDepth 100000 in
set_option maxHeartbeats 8000000 in
theorem push_l (b o n c k : Nat) (l : List Cl) (sp : List Value) (s : St) (w : World) (hk : 0 < k) (hk2 : k ≤ n) (hn : n ≤ c) (hl : o + n ≤ l.length) (hr : RC w b l sp) (hcap : n ≤ 1000000) :
  Calls Try.prog 42 #[.slice (some ⟨b, o * 15, none⟩) n c, .int .i64 (-(k : Int)), .agg (sA s)] w fun e w' => (∃ v, e = .returned v) ∧ RC w' b (lay l o (puF ((l.drop o).take n) (-(k : Int)) s)) sp ∧ Tc b w w' := by
 have hrl : ((l.drop o).take n).length = n := by rw [List.length_take, List.length_drop]; omega
 have hml : (((l.drop o).take n).drop k).length = n - k := by rw [List.length_drop, hrl]
 have E := Box'.mk (push_left l o n k s hl hk hk2)
 have LL := Box'.mk (lay_len l o (((l.drop o).take n).drop k) (by omega))
 have SR : Box' (∀ wx, RC wx b l sp → ∀ j v, (cLs (((l.drop o).take n).drop k))[j]? = some v → wx.cell? ((⟨b, cutO (o * 15) c k, none⟩ : Addr).add j) = some v) := ⟨fun wx hx => by
  by_cases hc : c = k
  ·intro j v hv
   have : ((l.drop o).take n).drop k = [] := List.eq_nil_of_length_eq_zero (by omega)
   rw [this] at hv
   simp [cLs] at hv
  ·rw [cutO_at hc, ← Nat.add_mul]
   exact hx.src (o + k) _ (fun q hq => by
    rw [hml] at hq
    simp [List.getElem?_take_of_lt (show k + q < n by omega), Nat.add_assoc]) (by omega)⟩
 have HM : Box' ((((l.drop o).take n).drop k).length = Nat.min (n - k) (n - k)) := ⟨by rw [hml]; exact (Nat.min_self _).symm⟩
 have HF : Box' (o + (((l.drop o).take n).drop k).length ≤ l.length) := ⟨by omega⟩
 have CU := Box'.mk (fun w => run_cutL b (o * 15) n c k hk2 hn w)
 have CH := Box'.mk (fun w => run_cutH b (o * 15) n c (n - k) (by omega) w)
 have CV := Box'.mk (fun w => run_cutL b (o * 15) n c (n - k) (by omega) hn w)
 have hcv : cutO (o * 15) c (n - k) = (o + (n - k)) * 15 := by rw [cutO_at (by omega), Nat.add_mul]
 have hnk : n - (n - k) = k := by omega
 rw [hcv, hnk] at CV
 have FI : Box' (∀ wx lx, lx.length = l.length → RC wx b lx sp → Calls Try.prog 41 #[.slice (some ⟨b, (o + (n - k)) * 15, none⟩) k (c - (n - k)), .agg (sA s)] wx fun e w' => (∃ v, e = .returned v) ∧ RC w' b (fiL lx (o + (n - k)) k s) sp ∧ Tc b wx w') := ⟨fun wx lx hlx h => fill_any b _ (o + (n - k)) k (c - (n - k)) lx sp s wx (by omega) (.inr rfl) (by omega) h (by omega)⟩
 have S24 := Box'.mk s24
 have U24 := Box'.mk Try.underlying26
 have hbw := hr.lt
 have R1 := Box'.mk (Row.new w 26 (sA s))
 have C1 : Box' (RC (w.alloc (.cells (sA s) 26)) b l sp) := ⟨Row.alloc hr _⟩
 have T1 : Box' (Tc b w (w.alloc (.cells (sA s) 26))) := ⟨Tc.of (bR.alloc (Nat.le_refl _) _)⟩
 have hA : (n : Int) + -(k : Int) = ((n - k : Nat) : Int) := by omega
 clear hr hml hrl hl hcv hnk
 generalize (((l.drop o).take n).drop k) = m at *
 unfold lay at LL E
 go_enter Try.func42, Try.ntmps42
 go_upto_region 1 with (fail)
 generalize (w.alloc (.cells (sA s) 26)) = w1 at *
 rw [← hA] at CH CV
 have l1 : 0 ≤ (n : Int) + -(k : Int) := by omega
 have HA := Box'.mk hA
 clear hA
 go_wp2_with fail
 refine wp_region_growg 7 (by kernel_rfl) 40 rfl (by kernel_rfl) (fun wa wb => Below wa.heap.size wa wb) (fun wa => Row wa w.heap.size 26 (sA s) ∧ RC wa b l sp ∧ Tc b w wa) (fun kc wa v => match kc with
  | 0 => v = .slice (some ⟨b, o * 15, none⟩) n c
  | 1 => v = .int .i64 ((n : Int) + -(k : Int))
  | 2 => v = .slice (some ⟨b, o * 15, none⟩) (n - k) c
  | 3 => v = .slice (some ⟨b, o * 15, none⟩) n c
  | 4 => v = .int .i64 (-(k : Int))
  | 5 => v = .int .i64 (k : Int)
  | 6 => v = .slice (some ⟨b, cutO (o * 15) c k, none⟩) (n - k) (c - k)
  | _ => True) ?_ ?_ ?_ ?_ ?_ ?_
 ·intro i o' j b' hi hg wa v hC hV
  have hlt : i < 7 := by rcases Nat.lt_or_ge i 7 with q | q; exact q; rw [List.getElem?_eq_none (by simpa using q)] at hi; cases hi
  revert hi hg hV
  rcases (show i = 0 ∨ i = 1 ∨ i = 2 ∨ i = 3 ∨ i = 4 ∨ i = 5 ∨ i = 6 by omega) with rfl | rfl | rfl | rfl | rfl | rfl | rfl <;>
   (intro hi hg hV; simp only [tkS, List.getElem?_cons_zero, List.getElem?_cons_succ, Option.some.injEq] at hi; subst hi; first | (cases hg; exact hV) | (cases hg))
 ·rintro wa wb hb ⟨q1, q2, q3⟩; exact ⟨q1.below hb q1.lt, q2.below hb q2.lt, q3.then hb⟩
 ·intro kc v wa wb hC1 hb h
  match kc, h with
  | 0, h => exact h
  | 1, h => exact h
  | 2, h => exact h
  | 3, h => exact h
  | 4, h => exact h
  | 5, h => exact h
  | 6, h => exact h
  | kc + 7, h => trivial
 ·exact ⟨R1.out.drew, C1.out.drew, T1.out.drew⟩
 ·refine ⟨?_, ?_, ?_, ?_, ?_, ?_, ?_, trivial⟩
  ·intro f wq hC hd KK hK
   clear hd
   simp only [tkS, tkZ, setAll, siB, stS, stZ, Nat.zero_add, Nat.reduceAdd] at hK ⊢
   refine wp_of_quiet rfl ?_
   go_big_quiet_step (fail)
   exact wpQuiet_nil (hK _ _ (rfl) bR)
  ·intro f wq hC hd KK hK
   clear hd
   simp only [tkS, tkZ, setAll, siB, stS, stZ, Nat.zero_add, Nat.reduceAdd] at hK ⊢
   refine wp_of_quiet rfl ?_
   go_big_quiet_step (fail)
   exact wpQuiet_nil (hK _ _ (rfl) bR)
  ·intro f wq hC hd KK hK
   have g0 : f 0 = .slice (some ⟨b, o * 15, none⟩) n c := hd 0 (by kernel_rfl)
   have g1 : f 1 = .int .i64 ((n : Int) + -(k : Int)) := hd 1 (by kernel_rfl)
   clear hd
   simp only [tkS, tkZ, setAll, siB, stS, stZ, Nat.zero_add, Nat.reduceAdd, g0, g1] at hK ⊢
   exact wp_val _ (slice_op 22 (.tmp 27) none (some (.tmp 28)) none rfl _ _ (CH.out _)) (hK _ _ rfl bR)
  ·intro f wq hC hd KK hK
   clear hd
   simp only [tkS, tkZ, setAll, siB, stS, stZ, Nat.zero_add, Nat.reduceAdd] at hK ⊢
   refine wp_of_quiet rfl ?_
   go_big_quiet_step (fail)
   exact wpQuiet_nil (hK _ _ (rfl) bR)
  ·intro f wq hC hd KK hK
   clear hd
   simp only [tkS, tkZ, setAll, siB, stS, stZ, Nat.zero_add, Nat.reduceAdd] at hK ⊢
   refine wp_of_quiet rfl ?_
   go_big_quiet_step (fail)
   exact wpQuiet_nil (hK _ _ (rfl) bR)
  ·intro f wq hC hd KK hK
   have g4 : f 4 = .int .i64 (-(k : Int)) := hd 4 (by kernel_rfl)
   clear hd
   simp only [tkS, tkZ, setAll, siB, stS, stZ, Nat.zero_add, Nat.reduceAdd, g4] at hK ⊢
   refine wp_of_quiet rfl ?_
   go_big_quiet_step (fail)
   exact wpQuiet_nil (hK _ _ (rfl) bR)
  ·intro f wq hC hd KK hK
   have g3 : f 3 = .slice (some ⟨b, o * 15, none⟩) n c := hd 3 (by kernel_rfl)
   have g5 : f 5 = .int .i64 (k : Int) := hd 5 (by kernel_rfl)
   clear hd
   simp only [tkS, tkZ, setAll, siB, stS, stZ, Nat.zero_add, Nat.reduceAdd, g3, g5] at hK ⊢
   exact wp_val _ (slice_op 22 (.tmp 30) (some (.tmp 32)) none none rfl _ _ (CU.out _)) (hK _ _ rfl bR)
 ·intro f wz hC hv
  have p0 : f 0 = .slice (some ⟨b, o * 15, none⟩) n c := hv 0 (by decide)
  have p1 : f 1 = .int .i64 ((n : Int) + -(k : Int)) := hv 1 (by decide)
  have p2 : f 2 = .slice (some ⟨b, o * 15, none⟩) (n - k) c := hv 2 (by decide)
  have p3 : f 3 = .slice (some ⟨b, o * 15, none⟩) n c := hv 3 (by decide)
  have p4 : f 4 = .int .i64 (-(k : Int)) := hv 4 (by decide)
  have p5 : f 5 = .int .i64 (k : Int) := hv 5 (by decide)
  have p6 : f 6 = .slice (some ⟨b, cutO (o * 15) c k, none⟩) (n - k) (c - k) := hv 6 (by decide)
  simp only [tkS, tkZ, List.drop_succ_cons, List.drop_zero, setAll, siB, stS, stZ, Nat.zero_add, Nat.reduceAdd, p0, p1, p2, p3, p4, p5, p6]
  clear hv p0 p1 p2 p3 p4 p5 p6
  have Ra := Box'.mk hC.1
  have Ca := Box'.mk hC.2.1
  have Ta := Box'.mk hC.2.2
  clear hC R1 C1 T1
  have R2 : Box' (Row (wz.setRow b (cLs (l.take o ++ m ++ l.drop (o + m.length)) ++ sp).toArray) w.heap.size 26 (sA s)) := ⟨Row.setRowOther Ra.out _ _ (by omega)⟩
  have C2 : Box' (RC (wz.setRow b (cLs (l.take o ++ m ++ l.drop (o + m.length)) ++ sp).toArray) b (l.take o ++ m ++ l.drop (o + m.length)) sp) := ⟨Ca.out.setRow _ _⟩
  have T2 : Box' (Tc b w (wz.setRow b (cLs (l.take o ++ m ++ l.drop (o + m.length)) ++ sp).toArray)) := ⟨Ta.out.setRow _⟩
  go_wp2_with (first
   | (refine wpList_copyG rfl (.tmp 29) (.tmp 33) rfl b (o * 15) o (n - k) c ⟨b, cutO (o * 15) c k, none⟩ (n - k) (c - k) l m sp rfl rfl Ca.out HM.out (.inr rfl) (SR.out _ Ca.out) HF.out ?_))
  generalize (wz.setRow b (cLs (l.take o ++ m ++ l.drop (o + m.length)) ++ sp).toArray) = w2 at *
  generalize (l.take o ++ m ++ l.drop (o + m.length)) = l2 at *
  clear Ra Ca Ta SR HM HF CU CH
  refine wp_region_growg 4 (by kernel_rfl) 40 rfl (by kernel_rfl) (fun wa wb => Below wa.heap.size wa wb) (fun wa => Row wa w.heap.size 26 (sA s) ∧ RC wa b l2 sp ∧ Tc b w wa) (fun kc wa v => match kc with
   | 0 => v = .slice (some ⟨b, o * 15, none⟩) n c
   | 1 => v = .int .i64 ((n : Int) + -(k : Int))
   | 2 => v = .slice (some ⟨b, (o + (n - k)) * 15, none⟩) k (c - (n - k))
   | 3 => v = .agg (sA s)
   | _ => True) ?_ ?_ ?_ ?_ ?_ ?_
  ·intro i o' j b' hi hg wa v hC hV
   have hlt : i < 4 := by rcases Nat.lt_or_ge i 4 with q | q; exact q; rw [List.getElem?_eq_none (by simpa using q)] at hi; cases hi
   revert hi hg hV
   rcases (show i = 0 ∨ i = 1 ∨ i = 2 ∨ i = 3 by omega) with rfl | rfl | rfl | rfl <;>
    (intro hi hg hV; simp only [tkS, List.getElem?_cons_zero, List.getElem?_cons_succ, Option.some.injEq] at hi; subst hi; first | (cases hg; exact hV) | (cases hg))
  ·rintro wa wb hb ⟨q1, q2, q3⟩; exact ⟨q1.below hb q1.lt, q2.below hb q2.lt, q3.then hb⟩
  ·intro kc v wa wb hC1 hb h
   match kc, h with
   | 0, h => exact h
   | 1, h => exact h
   | 2, h => exact h
   | 3, h => exact h
   | kc + 4, h => trivial
  ·exact ⟨R2.out.drew, C2.out.drew, T2.out.drew⟩
  ·refine ⟨?_, ?_, ?_, ?_, trivial⟩
   ·intro f wq hC hd KK hK
    clear hd
    simp only [tkS, tkZ, setAll, siB, stS, stZ, Nat.zero_add, Nat.reduceAdd] at hK ⊢
    refine wp_of_quiet rfl ?_
    go_big_quiet_step (fail)
    exact wpQuiet_nil (hK _ _ (rfl) bR)
   ·intro f wq hC hd KK hK
    clear hd
    simp only [tkS, tkZ, setAll, siB, stS, stZ, Nat.zero_add, Nat.reduceAdd] at hK ⊢
    refine wp_of_quiet rfl ?_
    go_big_quiet_step (fail)
    exact wpQuiet_nil (hK _ _ (rfl) bR)
   ·intro f wq hC hd KK hK
    have g0 : f 0 = .slice (some ⟨b, o * 15, none⟩) n c := hd 0 (by kernel_rfl)
    have g1 : f 1 = .int .i64 ((n : Int) + -(k : Int)) := hd 1 (by kernel_rfl)
    clear hd
    simp only [tkS, tkZ, setAll, siB, stS, stZ, Nat.zero_add, Nat.reduceAdd, g0, g1] at hK ⊢
    exact wp_val _ (slice_op 22 (.tmp 35) (some (.tmp 36)) none none rfl _ _ (CV.out _)) (hK _ _ rfl bR)
   ·intro f wq hC hd KK hK
    clear hd
    have hR : Row wq w.heap.size 26 (sA s) := hC.1
    have c0 : wq.cell? ⟨w.heap.size, 0, none⟩ = some (.int .i64 s.fg) := hR.cell 0
    have c1 : wq.cell? ⟨w.heap.size, 1, none⟩ = some (.int .i64 s.bg) := hR.cell 1
    have c2 : wq.cell? ⟨w.heap.size, 2, none⟩ = some (.bool s.b1) := hR.cell 2
    have c3 : wq.cell? ⟨w.heap.size, 3, none⟩ = some (.bool s.b2) := hR.cell 3
    have c4 : wq.cell? ⟨w.heap.size, 4, none⟩ = some (.bool s.b3) := hR.cell 4
    have c5 : wq.cell? ⟨w.heap.size, 5, none⟩ = some (.bool s.b4) := hR.cell 5
    have c6 : wq.cell? ⟨w.heap.size, 6, none⟩ = some (.bool s.b5) := hR.cell 6
    have c7 : wq.cell? ⟨w.heap.size, 7, none⟩ = some (.bool s.b7) := hR.cell 7
    have c8 : wq.cell? ⟨w.heap.size, 8, none⟩ = some (.bool s.b8) := hR.cell 8
    have c9 : wq.cell? ⟨w.heap.size, 9, none⟩ = some (.bool s.b9) := hR.cell 9
    clear hC hR
    simp only [tkS, tkZ, setAll, siB, stS, stZ, Nat.zero_add, Nat.reduceAdd] at hK ⊢
    refine wp_of_quiet rfl ?_
    go_big_quiet_step (fail)
    exact wpQuiet_nil (hK _ _ (rfl) bR)
  ·intro f wz hC hv
   have p0 : f 0 = .slice (some ⟨b, o * 15, none⟩) n c := hv 0 (by decide)
   have p1 : f 1 = .int .i64 ((n : Int) + -(k : Int)) := hv 1 (by decide)
   have p2 : f 2 = .slice (some ⟨b, (o + (n - k)) * 15, none⟩) k (c - (n - k)) := hv 2 (by decide)
   have p3 : f 3 = .agg (sA s) := hv 3 (by decide)
   simp only [tkS, tkZ, List.drop_succ_cons, List.drop_zero, setAll, siB, stS, stZ, Nat.zero_add, Nat.reduceAdd, p0, p1, p2, p3]
   clear hv p0 p1 p2 p3
   have C3 := Box'.mk hC.2.1
   have T3 := Box'.mk hC.2.2
   clear hC R2 C2 T2
   go_wp2_with fail
   refine (FI.out _ l2 LL.out C3.out).mono ?_
   rintro e w4 ⟨⟨v, rfl⟩, hr4, ht4⟩
   have C4 := Box'.mk hr4
   have T4 := Box'.mk (T3.out.trans ht4)
   rw [E.out] at C4
   clear hr4 ht4
   go_wp2_with fail
   exact bodyPost_end (results_none rfl _ _) rfl ⟨⟨_, rfl⟩, C4.out, T4.out⟩
theorem push_any (b o n c : Nat) (k : Int) (l : List Cl) (sp : List Value) (s : St) (w : World) (hk : -(n : Int) ≤ k) (hk2 : k ≤ (n : Int)) (hn : n ≤ c) (hl : o + n ≤ l.length) (hr : RC w b l sp) (hcap : n ≤ 1000000) :
  Calls Try.prog 42 #[.slice (some ⟨b, o * 15, none⟩) n c, .int .i64 k, .agg (sA s)] w fun e w' => (∃ v, e = .returned v) ∧ RC w' b (lay l o (puF ((l.drop o).take n) k s)) sp ∧ Tc b w w' := by
 by_cases h0 : k = 0
 ·subst h0
  refine (push_0 b o n c s w).mono fun e w' h => ⟨h.1, ?_, Tc.of h.2⟩
  rw [show puF ((l.drop o).take n) 0 s = (l.drop o).take n from rfl, lay_self l o n hl]
  exact hr.below h.2 hr.lt
 ·by_cases h1 : 0 < k
  ·obtain ⟨q, rfl⟩ : ∃ q : Nat, k = (q : Int) := ⟨k.toNat, by omega⟩
   exact push_r b o n c q l sp s w (by omega) (by omega) hn hl hr hcap
  ·obtain ⟨q, rfl⟩ : ∃ q : Nat, k = -(q : Int) := ⟨(-k).toNat, by omega⟩
   exact push_l b o n c q l sp s w (by omega) (by omega) hn hl hr hcap
end Go.Proofs.Ytnbonlkmadmpcaa
