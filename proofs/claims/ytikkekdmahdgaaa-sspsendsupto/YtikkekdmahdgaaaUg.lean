/- The state that an instruction tells: the program's Apply, asked. -/
import Derived.Test.YtikkekdmahdgaaaUf
namespace Go.Proofs.Ytikkekdmahdgaaa
open Go.RowKit Go.BigFrame
set_option linter.unusedSimpArgs false
set_option linter.unusedVariables false
set_option maxRecDepth 100000
set_option maxHeartbeats 4000000

theorem apply_any {N : Nat} (t d : List UInt8) (v : Value) (w : World) (h : OwnB N w v d) (hl : t.length + d.length ≤ 140737488351232) :
    Calls Try.prog 69 #[.agg #[sT t], v] w fun e w' => e = .returned (.tuple #[.agg #[sT (t ++ d)], .int .i64 0]) ∧ Below w.heap.size w w' := by
  obtain ⟨w1, hw1⟩ : ∃ w1, w1 = (w.alloc (.cells #[sT t] 26)).alloc (.cells #[.string ⟨#[]⟩] 26) := ⟨_, rfl⟩
  have b1 : Below w.heap.size w w1 := by rw [hw1]; exact ((Below.refl _ _).alloc (Nat.le_refl _) _).alloc (by simp) _
  have r1 : Row w1 w.heap.size 26 #[sT t] := by rw [hw1]; exact (Row.new _ _ _).alloc _
  have r2 : Row w1 (w.heap.size + 1) 26 #[.string ⟨#[]⟩] := by rw [hw1]; exact Row.made _ _ _ _ _ rfl (by simp)
  have b1' : Below w.heap.size w w1 := b1
  have CV := Box'.mk (conv_bts (h.below b1').bts)
  obtain ⟨av, cv, rfl, _⟩ := h.inB.slice
  have c1 := r1.cell 0
  have c2 := r2.cell 0
  have f2 := r2.frozen 0
  have HB : Box' (Below w.heap.size w (w1.setCell ⟨w.heap.size + 1, 0, none⟩ (sT (t ++ d)))) := ⟨b1.setCell (p := ⟨w.heap.size + 1, 0, none⟩) (Nat.le_succ _) _⟩
  have HC := Box'.mk ((r2.setCell 0 (sT (t ++ d))).cell 0)
  clear b1 b1' r1 r2 h
  unfold sT at *
  go_enter Try.func69, Try.ntmps69
  go_upto_region 1 with (fail)
  rw [← hw1]
  clear hw1
  go_wp2_with (refine wpList_val rfl (.string ⟨d.toArray⟩) (convert_op 39 9 (.tmp 8) rfl _ _ CV.out) ?_)
  simp only [str_app]
  refine bodyPost_ret (v := .tuple #[.agg #[.string ⟨(t ++ d).toArray⟩], .int .i64 0]) ?_ rfl ⟨rfl, HB.out⟩
  simp [results, Try.results69, asAddr, ld26 HC.out]
theorem made1_any (p g n c k b2 b6 b3 : Nat) (x : Ins) (vb : Value) (l : List Rw) (w : World) (r2 : Row w b2 54 #[.pointer (some ⟨p, 0, none⟩)]) (r6 : Row w b6 3 #[.int .i64 (k : Int)]) (r3 : Row w b3 41 (insA x vb)) (hr : Row w p 93 #[.slice (some ⟨g, 0, none⟩) n c]) (hN : NbR w g l) (hn : l.length = n) (hk : k < n) (hc : n ≤ c) (hm : n ≤ 1048576) (hv : InG w vb x.dif) (hl : (l.getD k Rw.zero).t.length + x.dif.length ≤ 140737488351232) :
    Calls Try.prog 50 #[.pointer (some ⟨b2, 0, none⟩), .pointer (some ⟨b6, 0, none⟩), .pointer (some ⟨b3, 0, none⟩)] w fun e w' => e = .returned (.tuple #[.agg #[sT ((l.getD k Rw.zero).t ++ x.dif)], .int .i64 0]) ∧ Below w.heap.size w w' := by
  have hmC : ∀ v w, (method 232 26 v "Copy").run Try.prog w = .ok (70, v) w := fun _ _ => by kernel_rfl
  have hmA : ∀ v w, (method 232 26 v "Apply").run Try.prog w = .ok (69, v) w := fun _ _ => by kernel_rfl
  obtain ⟨w1, hw1⟩ : ∃ w1, w1 = w.alloc (.cells #[.string ⟨#[]⟩] 26) := ⟨_, rfl⟩
  have b1 : Below w.heap.size w w1 := by rw [hw1]; exact (Below.refl _ _).alloc (Nat.le_refl _) _
  have r1 : Row w1 w.heap.size 26 #[.string ⟨#[]⟩] := by rw [hw1]; exact Row.new _ _ _
  have hN1 := hN.below b1
  have q2 := r2.below b1 r2.lt
  have q6 := r6.below b1 r6.lt
  have q3 := r3.below b1 r3.lt
  have qp := hr.below b1 hr.lt
  have C2 := Box'.mk fun (wa : World) (hb : Below w1.heap.size w1 wa) => (q2.below hb q2.lt).cell 0
  have C6 := Box'.mk fun (wa : World) (hb : Below w1.heap.size w1 wa) => (q6.below hb q6.lt).cell 0
  have C3 := Box'.mk fun (wa : World) (hb : Below w1.heap.size w1 wa) => (q3.below hb q3.lt).cell 4
  have CP := Box'.mk fun (wa : World) (hb : Below w1.heap.size w1 wa) => (qp.below hb qp.lt).cell 0
  have CL := Box'.mk fun (wa : World) (hb : Below w1.heap.size w1 wa) => ((hN1.below hb).at k (by omega)).2
  have IG := Box'.mk fun (wa : World) (hb : Below w1.heap.size w1 wa) => (hv.below b1).below hb
  have B1 := Box'.mk b1
  have R1 := Box'.mk r1
  have HD : Box' (x.dif.length ≤ 140737488351232) := ⟨by omega⟩
  have HL := Box'.mk hl
  clear r2 r6 r3 hr hN hn hv hl b1 r1 hN1 q2 q6 q3 qp
  unfold insA at C3
  obtain ⟨av, cv, ev⟩ : ∃ av cv, vb = .slice av x.dif.length cv := by obtain ⟨a, c, h, _⟩ := IG.out w1 (Below.refl _ _); exact ⟨a, c, h⟩
  subst ev
  generalize (l.getD k Rw.zero).t = t at *
  generalize x.dif = d at *
  unfold sT at *
  go_enter Try.func50, Try.ntmps50
  go_upto_region 1 with (fail)
  rw [← hw1]
  clear hw1
  refine wp_region_grow 17 (by kernel_rfl) (by kernel_rfl) (fun wa wb => Below wa.heap.size wa wb) (fun wa => Below w1.heap.size w1 wa) (fun kc wa v => match kc with
    | 0 => v = .pointer (some ⟨p, 0, none⟩)
    | 1 => v = .pointer (some ⟨p, 0, none⟩)
    | 2 => v = .pointer (some ⟨p, 0, none⟩)
    | 3 => v = .slice (some ⟨g, 0, none⟩) n c
    | 4 => v = .int .i64 (k : Int)
    | 5 => v = .pointer (some ⟨g, k * 2, none⟩)
    | 6 => v = .pointer (some ⟨g, k * 2 + 1, none⟩)
    | 7 => v = .agg #[.string ⟨t.toArray⟩]
    | 8 => v = .iface 26 (.agg #[.string ⟨t.toArray⟩])
    | 9 => v = .agg #[.string ⟨t.toArray⟩]
    | 10 => v = .iface 26 (.agg #[.string ⟨t.toArray⟩])
    | 11 => v = .pointer (some ⟨b3, 4, none⟩)
    | 12 => v = .slice av d.length cv
    | 13 => OwnB w1.heap.size wa v d
    | 14 => v = .tuple #[.agg #[.string ⟨(t ++ d).toArray⟩], .int .i64 0]
    | 15 => v = .agg #[.string ⟨(t ++ d).toArray⟩]
    | 16 => v = .int .i64 0
    | _ => True) ?_ ?_ ?_ ?_ ?_
  · intro wa wb hb q; exact q.trans (hb.mono q.size)
  · intro kc v wa wb hC1 hb h
    match kc, h with
    | 0, h => exact h
    | 1, h => exact h
    | 2, h => exact h
    | 3, h => exact h
    | 4, h => exact h
    | 5, h => exact h
    | 6, h => exact h
    | 7, h => exact h
    | 8, h => exact h
    | 9, h => exact h
    | 10, h => exact h
    | 11, h => exact h
    | 12, h => exact h
    | 13, h => exact OwnB.below h hb
    | 14, h => exact h
    | 15, h => exact h
    | 16, h => exact h
    | kc + 17, h => trivial
  · exact (Below.refl _ _).drew
  · refine ⟨?_, ?_, ?_, ?_, ?_, ?_, ?_, ?_, ?_, ?_, ?_, ?_, ?_, ?_, ?_, ?_, ?_, trivial⟩
    · intro f wq hC hd KK hK
      have cx := C2.out wq hC
      simp only [List.take_succ_cons, List.take_zero, setAll, List.setIfInBounds_toArray, List.set_cons_succ, List.set_cons_zero, Nat.zero_add, Nat.reduceAdd] at hK ⊢
      refine wp_of_quiet rfl ?_
      go_big_quiet_step (fail)
      exact wpQuiet_nil (hK _ _ rfl (Below.refl _ _))
    · intro f wq hC hd KK hK
      have g0 : f 0 = .pointer (some ⟨p, 0, none⟩) := hd 0 (by kernel_rfl)
      simp only [List.take_succ_cons, List.take_zero, setAll, List.setIfInBounds_toArray, List.set_cons_succ, List.set_cons_zero, Nat.zero_add, Nat.reduceAdd, g0] at hK ⊢
      refine wp_of_quiet rfl ?_
      go_big_quiet_step (fail)
      exact wpQuiet_nil (hK _ _ rfl (Below.refl _ _))
    · intro f wq hC hd KK hK
      have g1 : f 1 = .pointer (some ⟨p, 0, none⟩) := hd 1 (by kernel_rfl)
      simp only [List.take_succ_cons, List.take_zero, setAll, List.setIfInBounds_toArray, List.set_cons_succ, List.set_cons_zero, Nat.zero_add, Nat.reduceAdd, g1] at hK ⊢
      refine wp_of_quiet rfl ?_
      go_big_quiet_step (fail)
      exact wpQuiet_nil (hK _ _ rfl (Below.refl _ _))
    · intro f wq hC hd KK hK
      have g2 : f 2 = .pointer (some ⟨p, 0, none⟩) := hd 2 (by kernel_rfl)
      have cx := CP.out wq hC
      simp only [List.take_succ_cons, List.take_zero, setAll, List.setIfInBounds_toArray, List.set_cons_succ, List.set_cons_zero, Nat.zero_add, Nat.reduceAdd, g2] at hK ⊢
      refine wp_of_quiet rfl ?_
      go_big_quiet_step (fail)
      exact wpQuiet_nil (hK _ _ rfl (Below.refl _ _))
    · intro f wq hC hd KK hK
      have cx := C6.out wq hC
      simp only [List.take_succ_cons, List.take_zero, setAll, List.setIfInBounds_toArray, List.set_cons_succ, List.set_cons_zero, Nat.zero_add, Nat.reduceAdd] at hK ⊢
      refine wp_of_quiet rfl ?_
      go_big_quiet_step (fail)
      exact wpQuiet_nil (hK _ _ rfl (Below.refl _ _))
    · intro f wq hC hd KK hK
      have g3 : f 3 = .slice (some ⟨g, 0, none⟩) n c := hd 3 (by kernel_rfl)
      have g4 : f 4 = .int .i64 (k : Int) := hd 4 (by kernel_rfl)
      simp only [List.take_succ_cons, List.take_zero, setAll, List.setIfInBounds_toArray, List.set_cons_succ, List.set_cons_zero, Nat.zero_add, Nat.reduceAdd, g3, g4] at hK ⊢
      refine wp_of_quiet rfl ?_
      go_big_quiet_step (fail)
      exact wpQuiet_nil (hK _ _ rfl (Below.refl _ _))
    · intro f wq hC hd KK hK
      have g5 : f 5 = .pointer (some ⟨g, k * 2, none⟩) := hd 5 (by kernel_rfl)
      simp only [List.take_succ_cons, List.take_zero, setAll, List.setIfInBounds_toArray, List.set_cons_succ, List.set_cons_zero, Nat.zero_add, Nat.reduceAdd, g5] at hK ⊢
      refine wp_of_quiet rfl ?_
      go_big_quiet_step (fail)
      exact wpQuiet_nil (hK _ _ rfl (Below.refl _ _))
    · intro f wq hC hd KK hK
      have g6 : f 6 = .pointer (some ⟨g, k * 2 + 1, none⟩) := hd 6 (by kernel_rfl)
      have cx := CL.out wq hC
      simp only [List.take_succ_cons, List.take_zero, setAll, List.setIfInBounds_toArray, List.set_cons_succ, List.set_cons_zero, Nat.zero_add, Nat.reduceAdd, g6] at hK ⊢
      refine wp_of_quiet rfl ?_
      go_big_quiet_step (fail)
      exact wpQuiet_nil (hK _ _ rfl (Below.refl _ _))
    · intro f wq hC hd KK hK
      have g7 : f 7 = .agg #[.string ⟨t.toArray⟩] := hd 7 (by kernel_rfl)
      simp only [List.take_succ_cons, List.take_zero, setAll, List.setIfInBounds_toArray, List.set_cons_succ, List.set_cons_zero, Nat.zero_add, Nat.reduceAdd, g7] at hK ⊢
      refine wp_of_quiet rfl ?_
      go_big_quiet_step (fail)
      exact wpQuiet_nil (hK _ _ rfl (Below.refl _ _))
    · intro f wq hC hd KK hK
      have g8 : f 8 = .iface 26 (.agg #[.string ⟨t.toArray⟩]) := hd 8 (by kernel_rfl)
      simp only [List.take_succ_cons, List.take_zero, setAll, List.setIfInBounds_toArray, List.set_cons_succ, List.set_cons_zero, Nat.zero_add, Nat.reduceAdd, g8] at hK ⊢
      refine wp_callE 70 #[.agg #[.string ⟨t.toArray⟩]] (by simp [go_sem, hmC]) (fun v wb => v = .agg #[.string ⟨t.toArray⟩] ∧ Below wq.heap.size wq wb) ((copy_any t wq).mono ?_) ?_
      · rintro e wb ⟨rfl, q2⟩
        exact ⟨_, rfl, rfl, q2⟩
      · rintro v wb ⟨rfl, q2⟩
        exact hK _ _ rfl q2
    · intro f wq hC hd KK hK
      have g9 : f 9 = .agg #[.string ⟨t.toArray⟩] := hd 9 (by kernel_rfl)
      simp only [List.take_succ_cons, List.take_zero, setAll, List.setIfInBounds_toArray, List.set_cons_succ, List.set_cons_zero, Nat.zero_add, Nat.reduceAdd, g9] at hK ⊢
      refine wp_of_quiet rfl ?_
      go_big_quiet_step (fail)
      exact wpQuiet_nil (hK _ _ rfl (Below.refl _ _))
    · intro f wq hC hd KK hK
      simp only [List.take_succ_cons, List.take_zero, setAll, List.setIfInBounds_toArray, List.set_cons_succ, List.set_cons_zero, Nat.zero_add, Nat.reduceAdd] at hK ⊢
      refine wp_of_quiet rfl ?_
      go_big_quiet_step (fail)
      exact wpQuiet_nil (hK _ _ rfl (Below.refl _ _))
    · intro f wq hC hd KK hK
      have g11 : f 11 = .pointer (some ⟨b3, 4, none⟩) := hd 11 (by kernel_rfl)
      have cx := C3.out wq hC
      simp only [List.take_succ_cons, List.take_zero, setAll, List.setIfInBounds_toArray, List.set_cons_succ, List.set_cons_zero, Nat.zero_add, Nat.reduceAdd, g11] at hK ⊢
      refine wp_of_quiet rfl ?_
      go_big_quiet_step (fail)
      exact wpQuiet_nil (hK _ _ rfl (Below.refl _ _))
    · intro f wq hC hd KK hK
      have g12 : f 12 = .slice av d.length cv := hd 12 (by kernel_rfl)
      simp only [List.take_succ_cons, List.take_zero, setAll, List.setIfInBounds_toArray, List.set_cons_succ, List.set_cons_zero, Nat.zero_add, Nat.reduceAdd, g12] at hK ⊢
      refine wp_callE 46 #[.slice av d.length cv] (by simp [go_sem]) (fun v wb => OwnB wq.heap.size wb v d ∧ Below wq.heap.size wq wb) ((clone46_any _ d wq (IG.out wq hC) HD.out).mono ?_) ?_
      · rintro e wb ⟨v', rfl, q1, q2⟩
        exact ⟨_, rfl, q1, q2⟩
      · rintro v wb ⟨q1, q2⟩
        exact hK _ _ (q1.less hC.size) q2
    · intro f wq hC hd KK hK
      have g10 : f 10 = .iface 26 (.agg #[.string ⟨t.toArray⟩]) := hd 10 (by kernel_rfl)
      have q13 := hd 13 (by kernel_rfl)
      simp only at q13
      simp only [List.take_succ_cons, List.take_zero, setAll, List.setIfInBounds_toArray, List.set_cons_succ, List.set_cons_zero, Nat.zero_add, Nat.reduceAdd, g10] at hK ⊢
      refine wp_callE 69 #[.agg #[.string ⟨t.toArray⟩], f 13] (by simp [go_sem, hmA]) (fun v wb => v = .tuple #[.agg #[.string ⟨(t ++ d).toArray⟩], .int .i64 0] ∧ Below wq.heap.size wq wb) ((apply_any t d (f 13) wq q13 HL.out).mono ?_) ?_
      · rintro e wb ⟨rfl, q2⟩
        exact ⟨_, rfl, rfl, q2⟩
      · rintro v wb ⟨rfl, q2⟩
        exact hK _ _ rfl q2
    · intro f wq hC hd KK hK
      have g14 : f 14 = .tuple #[.agg #[.string ⟨(t ++ d).toArray⟩], .int .i64 0] := hd 14 (by kernel_rfl)
      simp only [List.take_succ_cons, List.take_zero, setAll, List.setIfInBounds_toArray, List.set_cons_succ, List.set_cons_zero, Nat.zero_add, Nat.reduceAdd, g14] at hK ⊢
      refine wp_of_quiet rfl ?_
      go_big_quiet_step (fail)
      exact wpQuiet_nil (hK _ _ rfl (Below.refl _ _))
    · intro f wq hC hd KK hK
      have g14 : f 14 = .tuple #[.agg #[.string ⟨(t ++ d).toArray⟩], .int .i64 0] := hd 14 (by kernel_rfl)
      simp only [List.take_succ_cons, List.take_zero, setAll, List.setIfInBounds_toArray, List.set_cons_succ, List.set_cons_zero, Nat.zero_add, Nat.reduceAdd, g14] at hK ⊢
      refine wp_of_quiet rfl ?_
      go_big_quiet_step (fail)
      exact wpQuiet_nil (hK _ _ rfl (Below.refl _ _))
  intro f wq hC hv
  have g0 : f 0 = .pointer (some ⟨p, 0, none⟩) := hv 0 (by decide)
  have g1 : f 1 = .pointer (some ⟨p, 0, none⟩) := hv 1 (by decide)
  have g2 : f 2 = .pointer (some ⟨p, 0, none⟩) := hv 2 (by decide)
  have g3 : f 3 = .slice (some ⟨g, 0, none⟩) n c := hv 3 (by decide)
  have g4 : f 4 = .int .i64 (k : Int) := hv 4 (by decide)
  have g5 : f 5 = .pointer (some ⟨g, k * 2, none⟩) := hv 5 (by decide)
  have g6 : f 6 = .pointer (some ⟨g, k * 2 + 1, none⟩) := hv 6 (by decide)
  have g7 : f 7 = .agg #[.string ⟨t.toArray⟩] := hv 7 (by decide)
  have g8 : f 8 = .iface 26 (.agg #[.string ⟨t.toArray⟩]) := hv 8 (by decide)
  have g9 : f 9 = .agg #[.string ⟨t.toArray⟩] := hv 9 (by decide)
  have g10 : f 10 = .iface 26 (.agg #[.string ⟨t.toArray⟩]) := hv 10 (by decide)
  have g11 : f 11 = .pointer (some ⟨b3, 4, none⟩) := hv 11 (by decide)
  have g12 : f 12 = .slice av d.length cv := hv 12 (by decide)
  have g14 : f 14 = .tuple #[.agg #[.string ⟨(t ++ d).toArray⟩], .int .i64 0] := hv 14 (by decide)
  have g15 : f 15 = .agg #[.string ⟨(t ++ d).toArray⟩] := hv 15 (by decide)
  have g16 : f 16 = .int .i64 0 := hv 16 (by decide)
  simp only [List.take_succ_cons, List.take_zero, List.drop_succ_cons, List.drop_zero, setAll, List.setIfInBounds_toArray, List.set_cons_succ, List.set_cons_zero, Nat.zero_add, Nat.reduceAdd, g0, g1, g2, g3, g4, g5, g6, g7, g8, g9, g10, g11, g12, g14, g15, g16]
  generalize f 13 = x13 at *
  clear g0 g1 g2 g3 g4 g5 g6 g7 g8 g9 g10 g11 g12 g14 g15 g16 hv
  have b9 := B1.out.trans (hC.mono B1.out.size)
  have r9 := R1.out.below hC R1.out.lt
  have c9 := r9.cell 0
  have f9 := r9.frozen 0
  have B9 : Box' (Below w.heap.size w (wq.setCell ⟨w.heap.size, 0, none⟩ (.string ⟨(t ++ d).toArray⟩))) := ⟨b9.setCell (p := ⟨w.heap.size, 0, none⟩) (Nat.le_refl _) _⟩
  have C9 := Box'.mk ((r9.setCell 0 (.string ⟨(t ++ d).toArray⟩)).cell 0)
  clear hC b9 r9 C2 C6 C3 CP CL IG B1 R1 HD HL hmC hmA
  go_wp2_with fail
  refine bodyPost_ret (v := .tuple #[.agg #[.string ⟨(t ++ d).toArray⟩], .int .i64 0]) ?_ rfl ⟨rfl, B9.out⟩
  simp [results, Try.results50, asAddr, ld26 C9.out]
end Go.Proofs.Ytikkekdmahdgaaa
