/- The receiver's last state; forgetting. -/
import Derived.Test.YtikkekdmahdgaaaUc
import Derived.Test.YtikkekdmahdgaaaTd
import Derived.Test.YtikkekdmahdgaaaTf
namespace Go.Proofs.Ytikkekdmahdgaaa
open Go.RowKit Go.BigFrame
set_option linter.unusedSimpArgs false
set_option linter.unusedVariables false
set_option maxRecDepth 100000
set_option maxHeartbeats 4000000

theorem results_cell {P : Program} {w : World} {fn : Func} {p : Tmp} {ty : TypeId} (hf : fn.results = #[.cell p ty]) (tmps : Array Value) (b : Nat) (hx : tmps.getD p undef = .pointer (some ⟨b, 0, none⟩))
    (t : TypeId) (c : Array Value) (hr : Row w b t c) (d : TypeDesc) (hu : P.underlying ty = some d) (hd : (match d with | .struct _ | .array _ _ => true | _ => false) = true) (n : Nat) (hi : (P.info? ty).map (·.size) = some n) (hn : c.size = n) :
    (results fn tmps).run P w = .ok (.agg c) w := by
  have hrun := run_loadVar_row (P := P) w b t ty c (0, 0) d hr hu hd (by rw [hn]; exact hi)
  have hx' : tmps[p]?.getD undef = .pointer (some ⟨b, 0, none⟩) := by simpa using hx
  simp only [results, hf]
  simp [hx', asAddr, hrun]
theorem cut_rows91 (g n c k : Nat) (hk : k < n) (hc : n ≤ c) (w : World) : (Instr.sliceAt 91 (.slice (some ⟨g, 0, none⟩) n c) (some (.int .i64 (k : Int))) none none).run Try.prog w = .ok (.slice (some ⟨g, k * 2, none⟩) (n - k) (c - k)) w := by
  rw [run_sliceAt_slice w 91 _ _ _ _ (by kernel_rfl), run_slice_l w 91 _ n c (by kernel_rfl) _ _ (by omega) (by omega), elem90, size90]
  simp only [Result.andThen_ok, Int.toNat_natCast, sliced, if_neg (show ¬ c = k by omega), Option.map_some, Addr.add_mid, Nat.zero_add]
theorem last_any (p g n c : Nat) (l : List Rw) (w : World) (hr : Row w p 93 #[.slice (some ⟨g, 0, none⟩) n c]) (hN : NbR w g l) (hn : l.length = n) (h0 : 0 < n) (hc : n ≤ c) (hm : n ≤ 1048576) :
    Calls Try.prog 38 #[.pointer (some ⟨p, 0, none⟩)] w fun e w' => e = .returned (.agg #[.int .u64 ((l.getD (n - 1) Rw.zero).n.toNat : Int), .string ⟨(l.getD (n - 1) Rw.zero).t.toArray⟩]) ∧ Below w.heap.size w w' := by
  obtain ⟨w1, hw1⟩ : ∃ w1, w1 = w.alloc (.cells #[.int .u64 0, .string ⟨#[]⟩] 90) := ⟨_, rfl⟩
  have b1 : Below w.heap.size w w1 := by rw [hw1]; exact (Below.refl _ _).alloc (Nat.le_refl _) _
  have r1 : Row w1 w.heap.size 90 #[.int .u64 0, .string ⟨#[]⟩] := by rw [hw1]; exact Row.new _ _ _
  have hr1 := hr.below b1 hr.lt
  have hN1 := hN.below b1
  have CP := Box'.mk fun (wa : World) (hb : Below w1.heap.size w1 wa) => (hr1.below hb hr1.lt).cell 0
  have CL := Box'.mk fun (wa : World) (hb : Below w1.heap.size w1 wa) => (hN1.below hb).at (n - 1) (by omega)
  have B1 := Box'.mk b1
  have R1 := Box'.mk r1
  clear hr hN hn b1 r1 hr1 hN1
  generalize l.getD (n - 1) Rw.zero = y at *
  obtain ⟨yn, yt, ya⟩ := y
  simp only at *
  generalize yn.toNat = yn at *
  go_enter Try.func38, Try.ntmps38
  go_upto_region 1 with (fail)
  rw [← hw1]
  clear hw1
  refine wp_region_grow 12 (by kernel_rfl) (by kernel_rfl) (fun wa wb => Below wa.heap.size wa wb) (fun wa => Below w1.heap.size w1 wa) (fun kc wa v => match kc with
    | 0 => v = .pointer (some ⟨p, 0, none⟩)
    | 1 => v = .pointer (some ⟨p, 0, none⟩)
    | 2 => v = .pointer (some ⟨p, 0, none⟩)
    | 3 => v = .slice (some ⟨g, 0, none⟩) n c
    | 4 => v = .pointer (some ⟨p, 0, none⟩)
    | 5 => v = .pointer (some ⟨p, 0, none⟩)
    | 6 => v = .pointer (some ⟨p, 0, none⟩)
    | 7 => v = .slice (some ⟨g, 0, none⟩) n c
    | 8 => v = .int .i64 (n : Int)
    | 9 => v = .int .i64 ((n : Int) - 1)
    | 10 => v = .pointer (some ⟨g, (n - 1) * 2, none⟩)
    | 11 => v = .agg #[.int .u64 (yn : Int), .string ⟨yt.toArray⟩]
    | _ => True) ?_ ?_ ?_ ?_ ?_
  · intro wa wb hb q; exact q.trans (hb.mono q.size)
  · intro kc v wa wb hC1 hb h
    match kc, h with
    | 0, h => exact h
    | 1, h => exact h
    | 2, h => exact h
    | 3, h => exact h
    | 4, h => exact h
    | 5, h => exact h
    | 6, h => exact h
    | 7, h => exact h
    | 8, h => exact h
    | 9, h => exact h
    | 10, h => exact h
    | 11, h => exact h
    | kc + 12, h => trivial
  · exact (Below.refl _ _).drew
  · refine ⟨?_, ?_, ?_, ?_, ?_, ?_, ?_, ?_, ?_, ?_, ?_, ?_, trivial⟩
    · intro f wq hC hd KK hK
      simp only [List.take_succ_cons, List.take_zero, setAll, List.setIfInBounds_toArray, List.set_cons_succ, List.set_cons_zero, Nat.zero_add, Nat.reduceAdd] at hK ⊢
      refine wp_of_quiet rfl ?_
      go_big_quiet_step (fail)
      exact wpQuiet_nil (hK _ _ rfl (Below.refl _ _))
    · intro f wq hC hd KK hK
      have g0 : f 0 = .pointer (some ⟨p, 0, none⟩) := hd 0 (by kernel_rfl)
      simp only [List.take_succ_cons, List.take_zero, setAll, List.setIfInBounds_toArray, List.set_cons_succ, List.set_cons_zero, Nat.zero_add, Nat.reduceAdd, g0] at hK ⊢
      refine wp_of_quiet rfl ?_
      go_big_quiet_step (fail)
      exact wpQuiet_nil (hK _ _ rfl (Below.refl _ _))
    · intro f wq hC hd KK hK
      have g1 : f 1 = .pointer (some ⟨p, 0, none⟩) := hd 1 (by kernel_rfl)
      simp only [List.take_succ_cons, List.take_zero, setAll, List.setIfInBounds_toArray, List.set_cons_succ, List.set_cons_zero, Nat.zero_add, Nat.reduceAdd, g1] at hK ⊢
      refine wp_of_quiet rfl ?_
      go_big_quiet_step (fail)
      exact wpQuiet_nil (hK _ _ rfl (Below.refl _ _))
    · intro f wq hC hd KK hK
      have g2 : f 2 = .pointer (some ⟨p, 0, none⟩) := hd 2 (by kernel_rfl)
      have cx := CP.out wq hC
      simp only [List.take_succ_cons, List.take_zero, setAll, List.setIfInBounds_toArray, List.set_cons_succ, List.set_cons_zero, Nat.zero_add, Nat.reduceAdd, g2] at hK ⊢
      refine wp_of_quiet rfl ?_
      go_big_quiet_step (fail)
      exact wpQuiet_nil (hK _ _ rfl (Below.refl _ _))
    · intro f wq hC hd KK hK
      simp only [List.take_succ_cons, List.take_zero, setAll, List.setIfInBounds_toArray, List.set_cons_succ, List.set_cons_zero, Nat.zero_add, Nat.reduceAdd] at hK ⊢
      refine wp_of_quiet rfl ?_
      go_big_quiet_step (fail)
      exact wpQuiet_nil (hK _ _ rfl (Below.refl _ _))
    · intro f wq hC hd KK hK
      have g4 : f 4 = .pointer (some ⟨p, 0, none⟩) := hd 4 (by kernel_rfl)
      simp only [List.take_succ_cons, List.take_zero, setAll, List.setIfInBounds_toArray, List.set_cons_succ, List.set_cons_zero, Nat.zero_add, Nat.reduceAdd, g4] at hK ⊢
      refine wp_of_quiet rfl ?_
      go_big_quiet_step (fail)
      exact wpQuiet_nil (hK _ _ rfl (Below.refl _ _))
    · intro f wq hC hd KK hK
      have g5 : f 5 = .pointer (some ⟨p, 0, none⟩) := hd 5 (by kernel_rfl)
      simp only [List.take_succ_cons, List.take_zero, setAll, List.setIfInBounds_toArray, List.set_cons_succ, List.set_cons_zero, Nat.zero_add, Nat.reduceAdd, g5] at hK ⊢
      refine wp_of_quiet rfl ?_
      go_big_quiet_step (fail)
      exact wpQuiet_nil (hK _ _ rfl (Below.refl _ _))
    · intro f wq hC hd KK hK
      have g6 : f 6 = .pointer (some ⟨p, 0, none⟩) := hd 6 (by kernel_rfl)
      have cx := CP.out wq hC
      simp only [List.take_succ_cons, List.take_zero, setAll, List.setIfInBounds_toArray, List.set_cons_succ, List.set_cons_zero, Nat.zero_add, Nat.reduceAdd, g6] at hK ⊢
      refine wp_of_quiet rfl ?_
      go_big_quiet_step (fail)
      exact wpQuiet_nil (hK _ _ rfl (Below.refl _ _))
    · intro f wq hC hd KK hK
      have g7 : f 7 = .slice (some ⟨g, 0, none⟩) n c := hd 7 (by kernel_rfl)
      simp only [List.take_succ_cons, List.take_zero, setAll, List.setIfInBounds_toArray, List.set_cons_succ, List.set_cons_zero, Nat.zero_add, Nat.reduceAdd, g7] at hK ⊢
      refine wp_of_quiet rfl ?_
      go_big_quiet_step (fail)
      exact wpQuiet_nil (hK _ _ rfl (Below.refl _ _))
    · intro f wq hC hd KK hK
      have g8 : f 8 = .int .i64 (n : Int) := hd 8 (by kernel_rfl)
      simp only [List.take_succ_cons, List.take_zero, setAll, List.setIfInBounds_toArray, List.set_cons_succ, List.set_cons_zero, Nat.zero_add, Nat.reduceAdd, g8] at hK ⊢
      refine wp_of_quiet rfl ?_
      go_big_quiet_step (fail)
      exact wpQuiet_nil (hK _ _ rfl (Below.refl _ _))
    · intro f wq hC hd KK hK
      have g3 : f 3 = .slice (some ⟨g, 0, none⟩) n c := hd 3 (by kernel_rfl)
      have g9 : f 9 = .int .i64 ((n : Int) - 1) := hd 9 (by kernel_rfl)
      simp only [List.take_succ_cons, List.take_zero, setAll, List.setIfInBounds_toArray, List.set_cons_succ, List.set_cons_zero, Nat.zero_add, Nat.reduceAdd, g3, g9] at hK ⊢
      refine wp_of_quiet rfl ?_
      go_big_quiet_step (fail)
      exact wpQuiet_nil (hK _ _ rfl (Below.refl _ _))
    · intro f wq hC hd KK hK
      have g10 : f 10 = .pointer (some ⟨g, (n - 1) * 2, none⟩) := hd 10 (by kernel_rfl)
      have cx0 := (CL.out wq hC).1
      have cx1 := (CL.out wq hC).2
      simp only [List.take_succ_cons, List.take_zero, setAll, List.setIfInBounds_toArray, List.set_cons_succ, List.set_cons_zero, Nat.zero_add, Nat.reduceAdd, g10] at hK ⊢
      refine wp_of_quiet rfl ?_
      go_big_quiet_step (fail)
      exact wpQuiet_nil (hK _ _ rfl (Below.refl _ _))
  intro f wq hC hv
  have g0 : f 0 = .pointer (some ⟨p, 0, none⟩) := hv 0 (by decide)
  have g1 : f 1 = .pointer (some ⟨p, 0, none⟩) := hv 1 (by decide)
  have g2 : f 2 = .pointer (some ⟨p, 0, none⟩) := hv 2 (by decide)
  have g3 : f 3 = .slice (some ⟨g, 0, none⟩) n c := hv 3 (by decide)
  have g4 : f 4 = .pointer (some ⟨p, 0, none⟩) := hv 4 (by decide)
  have g5 : f 5 = .pointer (some ⟨p, 0, none⟩) := hv 5 (by decide)
  have g6 : f 6 = .pointer (some ⟨p, 0, none⟩) := hv 6 (by decide)
  have g7 : f 7 = .slice (some ⟨g, 0, none⟩) n c := hv 7 (by decide)
  have g8 : f 8 = .int .i64 (n : Int) := hv 8 (by decide)
  have g9 : f 9 = .int .i64 ((n : Int) - 1) := hv 9 (by decide)
  have g10 : f 10 = .pointer (some ⟨g, (n - 1) * 2, none⟩) := hv 10 (by decide)
  have g11 : f 11 = .agg #[.int .u64 (yn : Int), .string ⟨yt.toArray⟩] := hv 11 (by decide)
  simp only [List.take_succ_cons, List.take_zero, List.drop_succ_cons, List.drop_zero, setAll, List.setIfInBounds_toArray, List.set_cons_succ, List.set_cons_zero, Nat.zero_add, Nat.reduceAdd, g0, g1, g2, g3, g4, g5, g6, g7, g8, g9, g10, g11]
  clear g0 g1 g2 g3 g4 g5 g6 g7 g8 g9 g10 g11 hv
  obtain ⟨w4, hw4⟩ : ∃ w4, w4 = wq.setRow w.heap.size #[.int .u64 (yn : Int), .string ⟨yt.toArray⟩] := ⟨_, rfl⟩
  have rm : Room wq w.heap.size 90 2 := (R1.out.below hC R1.out.lt).room rfl
  have R4 : Box' (Row w4 w.heap.size 90 #[.int .u64 (yn : Int), .string ⟨yt.toArray⟩]) := ⟨by rw [hw4]; exact rm.setRow _⟩
  have B4 : Box' (Below w.heap.size w w4) := ⟨by rw [hw4]; exact below_setRow (B1.out.trans (hC.mono B1.out.size)) _ _ (Nat.le_refl _)⟩
  clear hC B1 R1 CP CL
  go_wp2_with (refine wpList_store_row rfl 90 (.tmp 2) (.tmp 14) rfl w.heap.size rfl _ rfl 90 2 rm (by kernel_rfl) rfl (by simp [Value.oneCell']) ?_; rw [← hw4]; clear hw4 rm)
  refine bodyPost_ret (results_cell rfl _ w.heap.size rfl 90 _ R4.out _ Try.underlying90 rfl 2 (by kernel_rfl) rfl) rfl ?_
  exact ⟨rfl, B4.out⟩
theorem forget_any (p g n c : Nat) (m : UInt64) (l : List Rw) (w : World) (hr : Row w p 93 #[.slice (some ⟨g, 0, none⟩) n c]) (hN : NbR w g l) (hn : l.length = n) (h0 : 0 < n) (hc : n ≤ c) (hm : n ≤ 1048576) (hR : Rise l) :
    Calls Try.prog 39 #[.pointer (some ⟨p, 0, none⟩), .int .u64 (m.toNat : Int)] w fun e w' => ∃ g' c', e = .returned (.tuple #[]) ∧ Row w' p 93 #[.slice (some ⟨g', 0, none⟩) (n - min (lwN m.toNat l) (n - 1)) c'] ∧ n - min (lwN m.toNat l) (n - 1) ≤ c' ∧ w.heap.size ≤ g' ∧ NbR w' g' (l.drop (min (lwN m.toNat l) (n - 1))) ∧ Tch (fun k => k = p) w w' := by
  have fd := find_any g n c m l w hN hn hc hm hR
  have hle : lwN m.toNat l ≤ n := hn ▸ lwN_le m.toNat l
  have cp := hr.cell 0
  have HRB := Box'.mk fun (w1 : World) (hb : Below w.heap.size w w1) => hr.below hb hr.lt
  have HP : Box' (p < w.heap.size) := ⟨hr.lt⟩
  have CL := Box'.mk fun (k : Nat) (hk : k < n) (wa : World) (hb : Below w.heap.size w wa) => clone51_any g (k * 2) (n - k) (c - k) (rows2 (l.drop k)) wa (by rw [rows2_len, List.length_drop, hn]) (fun j u hu => (hN.below hb).2 (k * 2 + j) u (by rw [← rows2_drop, List.getElem?_drop] at hu; exact hu)) (Nat.lt_of_lt_of_le hN.1 hb.size) (by omega) (by omega)
  clear hr hN hn hR
  generalize lwN m.toNat l = q at *
  generalize hasN m.toNat l = hs at *
  generalize m.toNat = mm at *
  obtain ⟨k, hk⟩ : ∃ k, k = min q (n - 1) := ⟨_, rfl⟩
  have hkn : k < n := by omega
  have HK := Box'.mk hk
  rw [← hk]
  clear hk
  go_enter Try.func39, Try.ntmps39
  go_wp2_with fail
  refine fd.mono ?_
  rintro e w1 ⟨rfl, hb⟩
  have B1 := Box'.mk hb
  have r1 := HRB.out w1 hb
  have R1 := Box'.mk r1
  have CP := Box'.mk fun (wa : World) (hb : Below w1.heap.size w1 wa) => (r1.below hb r1.lt).cell 0
  clear fd cp HRB hb r1
  go_upto_region 1 with (fail)
  refine wp_region_grow 17 (by kernel_rfl) (by kernel_rfl) (fun wa wb => Below wa.heap.size wa wb) (fun wa => Below w1.heap.size w1 wa) (fun kc wa v => match kc with
    | 0 => v = .pointer (some ⟨p, 0, none⟩)
    | 1 => v = .pointer (some ⟨p, 0, none⟩)
    | 2 => v = .pointer (some ⟨p, 0, none⟩)
    | 3 => v = .pointer (some ⟨p, 0, none⟩)
    | 4 => v = .slice (some ⟨g, 0, none⟩) n c
    | 5 => v = .int .i64 (q : Int)
    | 6 => v = .pointer (some ⟨p, 0, none⟩)
    | 7 => v = .pointer (some ⟨p, 0, none⟩)
    | 8 => v = .pointer (some ⟨p, 0, none⟩)
    | 9 => v = .slice (some ⟨g, 0, none⟩) n c
    | 10 => v = .int .i64 (n : Int)
    | 11 => v = .int .i64 ((n : Int) - 1)
    | 12 => v = .int .i64 (k : Int)
    | 13 => v = .slice (some ⟨g, k * 2, none⟩) (n - k) (c - k)
    | 14 => ∃ g' c', v = .slice (some ⟨g', 0, none⟩) (n - k) c' ∧ n - k ≤ c' ∧ w1.heap.size ≤ g' ∧ g' < wa.heap.size ∧ ∀ j u, (rows2 (l.drop k))[j]? = some u → wa.cell? ⟨g', j, none⟩ = some u
    | 15 => v = .pointer (some ⟨p, 0, none⟩)
    | 16 => v = .pointer (some ⟨p, 0, none⟩)
    | _ => True) ?_ ?_ ?_ ?_ ?_
  · intro wa wb hb q; exact q.trans (hb.mono q.size)
  · intro kc v wa wb hC1 hb h
    match kc, h with
    | 0, h => exact h
    | 1, h => exact h
    | 2, h => exact h
    | 3, h => exact h
    | 4, h => exact h
    | 5, h => exact h
    | 6, h => exact h
    | 7, h => exact h
    | 8, h => exact h
    | 9, h => exact h
    | 10, h => exact h
    | 11, h => exact h
    | 12, h => exact h
    | 13, h => exact h
    | 14, h => exact let ⟨g', c', e1, e2, e3, e4, e5⟩ := h; ⟨g', c', e1, e2, e3, Nat.lt_of_lt_of_le e4 hb.size, fun j u hu => (hb.cell (p := ⟨g', j, none⟩) e4).trans (e5 j u hu)⟩
    | 15, h => exact h
    | 16, h => exact h
    | kc + 17, h => trivial
  · exact (Below.refl _ _).drew
  · refine ⟨?_, ?_, ?_, ?_, ?_, ?_, ?_, ?_, ?_, ?_, ?_, ?_, ?_, ?_, ?_, ?_, ?_, trivial⟩
    · intro f wq hC hd KK hK
      simp only [List.take_succ_cons, List.take_zero, setAll, List.setIfInBounds_toArray, List.set_cons_succ, List.set_cons_zero, Nat.zero_add, Nat.reduceAdd] at hK ⊢
      refine wp_of_quiet rfl ?_
      go_big_quiet_step (fail)
      exact wpQuiet_nil (hK _ _ rfl (Below.refl _ _))
    · intro f wq hC hd KK hK
      simp only [List.take_succ_cons, List.take_zero, setAll, List.setIfInBounds_toArray, List.set_cons_succ, List.set_cons_zero, Nat.zero_add, Nat.reduceAdd] at hK ⊢
      refine wp_of_quiet rfl ?_
      go_big_quiet_step (fail)
      exact wpQuiet_nil (hK _ _ rfl (Below.refl _ _))
    · intro f wq hC hd KK hK
      have g1 : f 1 = .pointer (some ⟨p, 0, none⟩) := hd 1 (by kernel_rfl)
      simp only [List.take_succ_cons, List.take_zero, setAll, List.setIfInBounds_toArray, List.set_cons_succ, List.set_cons_zero, Nat.zero_add, Nat.reduceAdd, g1] at hK ⊢
      refine wp_of_quiet rfl ?_
      go_big_quiet_step (fail)
      exact wpQuiet_nil (hK _ _ rfl (Below.refl _ _))
    · intro f wq hC hd KK hK
      have g2 : f 2 = .pointer (some ⟨p, 0, none⟩) := hd 2 (by kernel_rfl)
      simp only [List.take_succ_cons, List.take_zero, setAll, List.setIfInBounds_toArray, List.set_cons_succ, List.set_cons_zero, Nat.zero_add, Nat.reduceAdd, g2] at hK ⊢
      refine wp_of_quiet rfl ?_
      go_big_quiet_step (fail)
      exact wpQuiet_nil (hK _ _ rfl (Below.refl _ _))
    · intro f wq hC hd KK hK
      have g3 : f 3 = .pointer (some ⟨p, 0, none⟩) := hd 3 (by kernel_rfl)
      have cx := CP.out wq hC
      simp only [List.take_succ_cons, List.take_zero, setAll, List.setIfInBounds_toArray, List.set_cons_succ, List.set_cons_zero, Nat.zero_add, Nat.reduceAdd, g3] at hK ⊢
      refine wp_of_quiet rfl ?_
      go_big_quiet_step (fail)
      exact wpQuiet_nil (hK _ _ rfl (Below.refl _ _))
    · intro f wq hC hd KK hK
      simp only [List.take_succ_cons, List.take_zero, setAll, List.setIfInBounds_toArray, List.set_cons_succ, List.set_cons_zero, Nat.zero_add, Nat.reduceAdd] at hK ⊢
      refine wp_of_quiet rfl ?_
      go_big_quiet_step (fail)
      exact wpQuiet_nil (hK _ _ rfl (Below.refl _ _))
    · intro f wq hC hd KK hK
      simp only [List.take_succ_cons, List.take_zero, setAll, List.setIfInBounds_toArray, List.set_cons_succ, List.set_cons_zero, Nat.zero_add, Nat.reduceAdd] at hK ⊢
      refine wp_of_quiet rfl ?_
      go_big_quiet_step (fail)
      exact wpQuiet_nil (hK _ _ rfl (Below.refl _ _))
    · intro f wq hC hd KK hK
      have g6 : f 6 = .pointer (some ⟨p, 0, none⟩) := hd 6 (by kernel_rfl)
      simp only [List.take_succ_cons, List.take_zero, setAll, List.setIfInBounds_toArray, List.set_cons_succ, List.set_cons_zero, Nat.zero_add, Nat.reduceAdd, g6] at hK ⊢
      refine wp_of_quiet rfl ?_
      go_big_quiet_step (fail)
      exact wpQuiet_nil (hK _ _ rfl (Below.refl _ _))
    · intro f wq hC hd KK hK
      have g7 : f 7 = .pointer (some ⟨p, 0, none⟩) := hd 7 (by kernel_rfl)
      simp only [List.take_succ_cons, List.take_zero, setAll, List.setIfInBounds_toArray, List.set_cons_succ, List.set_cons_zero, Nat.zero_add, Nat.reduceAdd, g7] at hK ⊢
      refine wp_of_quiet rfl ?_
      go_big_quiet_step (fail)
      exact wpQuiet_nil (hK _ _ rfl (Below.refl _ _))
    · intro f wq hC hd KK hK
      have g8 : f 8 = .pointer (some ⟨p, 0, none⟩) := hd 8 (by kernel_rfl)
      have cx := CP.out wq hC
      simp only [List.take_succ_cons, List.take_zero, setAll, List.setIfInBounds_toArray, List.set_cons_succ, List.set_cons_zero, Nat.zero_add, Nat.reduceAdd, g8] at hK ⊢
      refine wp_of_quiet rfl ?_
      go_big_quiet_step (fail)
      exact wpQuiet_nil (hK _ _ rfl (Below.refl _ _))
    · intro f wq hC hd KK hK
      have g9 : f 9 = .slice (some ⟨g, 0, none⟩) n c := hd 9 (by kernel_rfl)
      simp only [List.take_succ_cons, List.take_zero, setAll, List.setIfInBounds_toArray, List.set_cons_succ, List.set_cons_zero, Nat.zero_add, Nat.reduceAdd, g9] at hK ⊢
      refine wp_of_quiet rfl ?_
      go_big_quiet_step (fail)
      exact wpQuiet_nil (hK _ _ rfl (Below.refl _ _))
    · intro f wq hC hd KK hK
      have g10 : f 10 = .int .i64 (n : Int) := hd 10 (by kernel_rfl)
      simp only [List.take_succ_cons, List.take_zero, setAll, List.setIfInBounds_toArray, List.set_cons_succ, List.set_cons_zero, Nat.zero_add, Nat.reduceAdd, g10] at hK ⊢
      refine wp_of_quiet rfl ?_
      go_big_quiet_step (fail)
      exact wpQuiet_nil (hK _ _ rfl (Below.refl _ _))
    · intro f wq hC hd KK hK
      have g5 : f 5 = .int .i64 (q : Int) := hd 5 (by kernel_rfl)
      have g11 : f 11 = .int .i64 ((n : Int) - 1) := hd 11 (by kernel_rfl)
      simp only [List.take_succ_cons, List.take_zero, setAll, List.setIfInBounds_toArray, List.set_cons_succ, List.set_cons_zero, Nat.zero_add, Nat.reduceAdd, g5, g11] at hK ⊢
      refine wp_valE (.int .i64 (k : Int)) (by have hkk := HK.out; unfold execOp; simp [go_sem]; omega) (hK _ _ rfl (Below.refl _ _))
    · intro f wq hC hd KK hK
      have g4 : f 4 = .slice (some ⟨g, 0, none⟩) n c := hd 4 (by kernel_rfl)
      have g12 : f 12 = .int .i64 (k : Int) := hd 12 (by kernel_rfl)
      simp only [List.take_succ_cons, List.take_zero, setAll, List.setIfInBounds_toArray, List.set_cons_succ, List.set_cons_zero, Nat.zero_add, Nat.reduceAdd, g4, g12] at hK ⊢
      refine wp_valE (.slice (some ⟨g, k * 2, none⟩) (n - k) (c - k)) (by have hcu := cut_rows91 g n c k hkn hc wq; unfold execOp; simp [Act.eval, hcu]) (hK _ _ rfl (Below.refl _ _))
    · intro f wq hC hd KK hK
      have g13 : f 13 = .slice (some ⟨g, k * 2, none⟩) (n - k) (c - k) := hd 13 (by kernel_rfl)
      simp only [List.take_succ_cons, List.take_zero, setAll, List.setIfInBounds_toArray, List.set_cons_succ, List.set_cons_zero, Nat.zero_add, Nat.reduceAdd, g13] at hK ⊢
      have cl := CL.out k hkn wq (B1.out.trans (hC.mono B1.out.size))
      refine wp_callE 51 #[.slice (some ⟨g, k * 2, none⟩) (n - k) (c - k)] (by simp [go_sem]) (fun v wb => ∃ g' c', v = .slice (some ⟨g', 0, none⟩) (n - k) c' ∧ n - k ≤ c' ∧ wq.heap.size ≤ g' ∧ g' < wb.heap.size ∧ Below wq.heap.size wq wb ∧ ∀ j u, (rows2 (l.drop k))[j]? = some u → wb.cell? ⟨g', j, none⟩ = some u) (cl.mono ?_) ?_
      · rintro e wb ⟨g', c', rfl, q⟩
        exact ⟨_, rfl, g', c', rfl, q⟩
      · rintro v wb ⟨g', c', rfl, q1, q2, q3, q4, q5⟩
        exact hK _ _ ⟨g', c', rfl, q1, by have := hC.size; omega, q3, q5⟩ q4
    · intro f wq hC hd KK hK
      have g0 : f 0 = .pointer (some ⟨p, 0, none⟩) := hd 0 (by kernel_rfl)
      simp only [List.take_succ_cons, List.take_zero, setAll, List.setIfInBounds_toArray, List.set_cons_succ, List.set_cons_zero, Nat.zero_add, Nat.reduceAdd, g0] at hK ⊢
      refine wp_of_quiet rfl ?_
      go_big_quiet_step (fail)
      exact wpQuiet_nil (hK _ _ rfl (Below.refl _ _))
    · intro f wq hC hd KK hK
      have g15 : f 15 = .pointer (some ⟨p, 0, none⟩) := hd 15 (by kernel_rfl)
      simp only [List.take_succ_cons, List.take_zero, setAll, List.setIfInBounds_toArray, List.set_cons_succ, List.set_cons_zero, Nat.zero_add, Nat.reduceAdd, g15] at hK ⊢
      refine wp_of_quiet rfl ?_
      go_big_quiet_step (fail)
      exact wpQuiet_nil (hK _ _ rfl (Below.refl _ _))
  intro f wq hC hv
  have g0 : f 0 = .pointer (some ⟨p, 0, none⟩) := hv 0 (by decide)
  have g1 : f 1 = .pointer (some ⟨p, 0, none⟩) := hv 1 (by decide)
  have g2 : f 2 = .pointer (some ⟨p, 0, none⟩) := hv 2 (by decide)
  have g3 : f 3 = .pointer (some ⟨p, 0, none⟩) := hv 3 (by decide)
  have g4 : f 4 = .slice (some ⟨g, 0, none⟩) n c := hv 4 (by decide)
  have g5 : f 5 = .int .i64 (q : Int) := hv 5 (by decide)
  have g6 : f 6 = .pointer (some ⟨p, 0, none⟩) := hv 6 (by decide)
  have g7 : f 7 = .pointer (some ⟨p, 0, none⟩) := hv 7 (by decide)
  have g8 : f 8 = .pointer (some ⟨p, 0, none⟩) := hv 8 (by decide)
  have g9 : f 9 = .slice (some ⟨g, 0, none⟩) n c := hv 9 (by decide)
  have g10 : f 10 = .int .i64 (n : Int) := hv 10 (by decide)
  have g11 : f 11 = .int .i64 ((n : Int) - 1) := hv 11 (by decide)
  have g12 : f 12 = .int .i64 (k : Int) := hv 12 (by decide)
  have g13 : f 13 = .slice (some ⟨g, k * 2, none⟩) (n - k) (c - k) := hv 13 (by decide)
  have g15 : f 15 = .pointer (some ⟨p, 0, none⟩) := hv 15 (by decide)
  have g16 : f 16 = .pointer (some ⟨p, 0, none⟩) := hv 16 (by decide)
  have e14 := hv 14 (by decide)
  simp only at e14
  simp only [List.take_succ_cons, List.take_zero, List.drop_succ_cons, List.drop_zero, setAll, List.setIfInBounds_toArray, List.set_cons_succ, List.set_cons_zero, Nat.zero_add, Nat.reduceAdd, g0, g1, g2, g3, g4, g5, g6, g7, g8, g9, g10, g11, g12, g13, g15, g16]
  obtain ⟨g', c', e14, k1, k2, k3, k4⟩ := e14
  simp only [e14]
  clear g0 g1 g2 g3 g4 g5 g6 g7 g8 g9 g10 g11 g12 g13 g15 g16 hv e14
  have bq := B1.out.trans (hC.mono B1.out.size)
  have rq := R1.out.below hC R1.out.lt
  have c5 := rq.cell 0
  have f5 := rq.frozen 0
  have hz := bq.size
  have hp := HP.out
  have zB := B1.out.size
  have R9 : Box' (Row (wq.setCell ⟨p, 0, none⟩ (.slice (some ⟨g', 0, none⟩) (n - k) c')) p 93 #[.slice (some ⟨g', 0, none⟩) (n - k) c']) := ⟨rq.setCell 0 _⟩
  have N9 : Box' (NbR (wq.setCell ⟨p, 0, none⟩ (.slice (some ⟨g', 0, none⟩) (n - k) c')) g' (l.drop k)) := ⟨NbR.same (w := wq) ⟨k3, k4⟩ (Below.heap_setCell _ _ _ _ (by show g' ≠ p; omega))⟩
  have T9 : Box' (Tch (fun k => k = p) w (wq.setCell ⟨p, 0, none⟩ (.slice (some ⟨g', 0, none⟩) (n - k) c'))) := ⟨(Tch.of bq).set ⟨p, 0, none⟩ _ (.inl rfl)⟩
  have G9 : Box' (w.heap.size ≤ g' ∧ n - k ≤ c') := ⟨by omega, k1⟩
  clear bq rq hz k1 k2 k3 k4 hC B1 R1 CP CL HK HP hp zB
  go_wp2_with fail
  exact bodyPost_end (results_none rfl _ _ _) rfl ⟨g', c', rfl, R9.out, G9.out.2, G9.out.1, N9.out, T9.out⟩
theorem newRecv_C : NewRC 18 RecR := by
  intro t w
  have b0 : Below w.heap.size w (w.alloc (.cells #[sT t] 26)) := (Below.refl _ _).alloc (Nat.le_refl _) _
  have cp := copied_any t (w.alloc (.cells #[sT t] 26))
  have B0 := Box'.mk b0
  have S0 : Box' (∀ w2 : World, Below w.heap.size w w2 → ∃ F, RecR (((w2.alloc (.cells #[sT t] 26)).alloc (.cells #[.int .u64 0, sT t] 90)).alloc (.cells #[.slice (some ⟨w2.heap.size + 1, 0, none⟩) 1 1] 93)) F (w2.heap.size + 1 + 1) [⟨0, t, 0⟩] ∧ Below w.heap.size w (((w2.alloc (.cells #[sT t] 26)).alloc (.cells #[.int .u64 0, sT t] 90)).alloc (.cells #[.slice (some ⟨w2.heap.size + 1, 0, none⟩) 1 1] 93)) ∧ ∀ k, F k → w.heap.size ≤ k) := ⟨fun w2 b2 => by
    have z2 := b2.size
    have b3 := b2.alloc b2.size (.cells #[sT t] 26)
    have b4 := b3.alloc b3.size (.cells #[.int .u64 0, sT t] 90)
    have b5 := b4.alloc b4.size (.cells #[.slice (some ⟨w2.heap.size + 1, 0, none⟩) 1 1] 93)
    have r4 : Row ((w2.alloc (.cells #[sT t] 26)).alloc (.cells #[.int .u64 0, sT t] 90)) (w2.heap.size + 1) 90 #[.int .u64 0, sT t] := Row.made _ _ _ _ _ rfl (by simp)
    refine ⟨_, ⟨w2.heap.size + 1, 1, rfl, by omega, by simp, Row.made _ _ _ _ _ rfl (by simp), ?_, Rise.one _, by simp, by simp⟩, b5, ?_⟩
    · have r5 := r4.alloc (.cells #[.slice (some ⟨w2.heap.size + 1, 0, none⟩) 1 1] 93)
      refine ⟨r5.lt, fun j u hu => ?_⟩
      rw [r5.cell]
      simpa [rows2, r2, uV] using hu
    · rintro k (rfl | rfl) <;> omega⟩
  clear b0
  unfold sT at *
  go_enter Try.func18, Try.ntmps18
  go_wp2_with fail
  refine cp.mono ?_
  rintro e w2 ⟨rfl, hw⟩
  obtain ⟨F, q1, q2, q3⟩ := S0.out w2 (B0.out.trans (hw.mono B0.out.size))
  have Q1 := Box'.mk q1
  have Q2 := Box'.mk q2
  have Q3 := Box'.mk q3
  clear cp S0 B0 hw q1 q2 q3
  go_wp2_with fail
  go_ret
  exact ⟨_, F, rfl, Q1.out, Q2.out, Q3.out⟩
theorem results_tmpcell {P : Program} {w : World} {fn : Func} {p q : Tmp} (hf : fn.results = #[.tmp q, .cell p 26]) (tmps : Array Value) (b : Nat) (hx : tmps.getD p undef = .pointer (some ⟨b, 0, none⟩)) (v : Value) (hq : tmps.getD q undef = v) (u : Value) (hc : (loadVar 26 (⟨b, 0, none⟩ : Addr)).run P w = .ok u w) :
    (results fn tmps).run P w = .ok (.tuple #[v, u]) w := by
  have hx' : tmps[p]?.getD undef = .pointer (some ⟨b, 0, none⟩) := by simpa using hx
  have hq' : tmps[q]?.getD undef = v := by simpa using hq
  simp only [results, hf]
  simp [hx', hq', asAddr, hc]
theorem late_C : LateRC 22 RecR := by
  intro w F p l h h0 h32
  obtain ⟨g, c, rfl, hne, hc, hr, hN, hR, _, _⟩ := h
  obtain ⟨w1, hw1⟩ : ∃ w1, w1 = w.alloc (.cells #[.string ⟨#[]⟩] 26) := ⟨_, rfl⟩
  have b1 : Below w.heap.size w w1 := by rw [hw1]; exact (Below.refl _ _).alloc (Nat.le_refl _) _
  have r1 : Row w1 w.heap.size 26 #[.string ⟨#[]⟩] := by rw [hw1]; exact Row.new _ _ _
  have th := rthere_any p l.length c _ w1 ((hr.below b1 hr.lt).cell 0) h0
  have ls := last_any p g l.length c l w1 (hr.below b1 hr.lt) (hN.below b1) rfl h0 hc (by omega)
  have B1 := Box'.mk b1
  have R1 := Box'.mk r1
  have CPY := Box'.mk fun (wa : World) => copied_any (l.getD (l.length - 1) Rw.zero).t wa
  clear hr hN hR b1 r1
  unfold uV
  unfold sT at *
  generalize l.getD (l.length - 1) Rw.zero = y at *
  obtain ⟨yn, yt, ya⟩ := y
  simp only at *
  generalize yn.toNat = yn at *
  go_enter Try.func22, Try.ntmps22
  go_upto_region 1 with (fail)
  rw [← hw1]
  clear hw1
  go_wp2_with fail
  refine th.mono ?_
  rintro e w2 ⟨rfl, ew⟩
  obtain rfl : w1 = w2 := ew.symm
  clear th ew
  go_wp2_with fail
  refine ls.mono ?_
  rintro e w2 ⟨rfl, hb⟩
  have B2 := Box'.mk hb
  clear ls hb
  obtain ⟨w3, hw3⟩ : ∃ w3, w3 = w2.alloc (.cells #[.int .u64 (yn : Int), .string ⟨yt.toArray⟩] 90) := ⟨_, rfl⟩
  have R3 : Box' (Row w3 w2.heap.size 90 #[.int .u64 (yn : Int), .string ⟨yt.toArray⟩]) := ⟨by rw [hw3]; exact Row.new _ _ _⟩
  have B3 : Box' (Below w1.heap.size w1 w3) := ⟨by rw [hw3]; exact B2.out.alloc B2.out.size _⟩
  have c3 := R3.out.cell 1
  go_upto_region 4 with (fail)
  rw [← hw3]
  clear hw3
  go_wp2_with fail
  refine (CPY.out w3).mono ?_
  rintro e w4 ⟨rfl, hb4⟩
  have hB4 := B3.out.trans (hb4.mono B3.out.size)
  obtain ⟨w5, hw5⟩ : ∃ w5, w5 = w4.alloc (.cells #[.string ⟨yt.toArray⟩] 26) := ⟨_, rfl⟩
  have b5 : Below w1.heap.size w1 w5 := by rw [hw5]; exact hB4.alloc hB4.size _
  have r3 : Row w5 w2.heap.size 90 #[.int .u64 (yn : Int), .string ⟨yt.toArray⟩] := by rw [hw5]; exact (R3.out.below hb4 R3.out.lt).alloc _
  have r5 : Row w5 w4.heap.size 26 #[.string ⟨yt.toArray⟩] := by rw [hw5]; exact Row.new _ _ _
  have B5 := Box'.mk b5
  have R5 := Box'.mk r5
  have R6 := Box'.mk r3
  clear c3 R3 B3 B2 hb4 hB4 r3 r5 b5 CPY
  go_upto_region 7 with (fail)
  rw [← hw5]
  clear hw5
  have C3 := Box'.mk fun (wa : World) (hb : Below w5.heap.size w5 wa) => (R6.out.below hb R6.out.lt).cell 0
  have C5 := Box'.mk fun (wa : World) (hb : Below w5.heap.size w5 wa) => (R5.out.below hb R5.out.lt).cell 0
  refine wp_region_grow 4 (by kernel_rfl) (by kernel_rfl) (fun wa wb => Below wa.heap.size wa wb) (fun wa => Below w5.heap.size w5 wa) (fun kc wa v => match kc with
    | 0 => v = .pointer (some ⟨w2.heap.size, 0, none⟩)
    | 1 => v = .int .u64 (yn : Int)
    | 2 => v = .agg #[.string ⟨yt.toArray⟩]
    | 3 => v = .int .u64 (yn : Int)
    | _ => True) ?_ ?_ ?_ ?_ ?_
  · intro wa wb hb q; exact q.trans (hb.mono q.size)
  · intro kc v wa wb hC1 hb h
    match kc, h with
    | 0, h => exact h
    | 1, h => exact h
    | 2, h => exact h
    | 3, h => exact h
    | kc + 4, h => trivial
  · exact (Below.refl _ _).drew
  · refine ⟨?_, ?_, ?_, ?_, trivial⟩
    · intro f wq hC hd KK hK
      simp only [List.take_succ_cons, List.take_zero, setAll, List.setIfInBounds_toArray, List.set_cons_succ, List.set_cons_zero, Nat.zero_add, Nat.reduceAdd] at hK ⊢
      refine wp_of_quiet rfl ?_
      go_big_quiet_step (fail)
      exact wpQuiet_nil (hK _ _ rfl (Below.refl _ _))
    · intro f wq hC hd KK hK
      have g0 : f 0 = .pointer (some ⟨w2.heap.size, 0, none⟩) := hd 0 (by kernel_rfl)
      have cx := C3.out wq hC
      simp only [List.take_succ_cons, List.take_zero, setAll, List.setIfInBounds_toArray, List.set_cons_succ, List.set_cons_zero, Nat.zero_add, Nat.reduceAdd, g0] at hK ⊢
      refine wp_of_quiet rfl ?_
      go_big_quiet_step (fail)
      exact wpQuiet_nil (hK _ _ rfl (Below.refl _ _))
    · intro f wq hC hd KK hK
      have cx := C5.out wq hC
      simp only [List.take_succ_cons, List.take_zero, setAll, List.setIfInBounds_toArray, List.set_cons_succ, List.set_cons_zero, Nat.zero_add, Nat.reduceAdd] at hK ⊢
      refine wp_of_quiet rfl ?_
      go_big_quiet_step (fail)
      exact wpQuiet_nil (hK _ _ rfl (Below.refl _ _))
    · intro f wq hC hd KK hK
      have g1 : f 1 = .int .u64 (yn : Int) := hd 1 (by kernel_rfl)
      simp only [List.take_succ_cons, List.take_zero, setAll, List.setIfInBounds_toArray, List.set_cons_succ, List.set_cons_zero, Nat.zero_add, Nat.reduceAdd, g1] at hK ⊢
      refine wp_of_quiet rfl ?_
      go_big_quiet_step (fail)
      exact wpQuiet_nil (hK _ _ rfl (Below.refl _ _))
  intro f wq hC hv
  have g0 : f 0 = .pointer (some ⟨w2.heap.size, 0, none⟩) := hv 0 (by decide)
  have g1 : f 1 = .int .u64 (yn : Int) := hv 1 (by decide)
  have g2 : f 2 = .agg #[.string ⟨yt.toArray⟩] := hv 2 (by decide)
  have g3 : f 3 = .int .u64 (yn : Int) := hv 3 (by decide)
  simp only [List.take_succ_cons, List.take_zero, List.drop_succ_cons, List.drop_zero, setAll, List.setIfInBounds_toArray, List.set_cons_succ, List.set_cons_zero, Nat.zero_add, Nat.reduceAdd, g0, g1, g2, g3]
  clear g0 g1 g2 g3 hv
  have b9 := B1.out.trans ((B5.out.trans (hC.mono B5.out.size)).mono B1.out.size)
  have r9 := (R1.out.below (B5.out.trans (hC.mono B5.out.size)) R1.out.lt)
  have c9 := r9.cell 0
  have f9 := r9.frozen 0
  have B9 : Box' (Below w.heap.size w (wq.setCell ⟨w.heap.size, 0, none⟩ (.string ⟨yt.toArray⟩))) := ⟨b9.setCell (p := ⟨w.heap.size, 0, none⟩) (Nat.le_refl _) _⟩
  have C9 := Box'.mk ((r9.setCell 0 (.string ⟨yt.toArray⟩)).cell 0)
  clear hC b9 r9 C3 C5 R5 R6 B5 B1 R1
  go_wp2_with fail
  refine bodyPost_ret (results_tmpcell rfl _ w.heap.size rfl (.int .u64 (yn : Int)) rfl _ (ld26 C9.out)) rfl ?_
  exact ⟨rfl, B9.out⟩
end Go.Proofs.Ytikkekdmahdgaaa
