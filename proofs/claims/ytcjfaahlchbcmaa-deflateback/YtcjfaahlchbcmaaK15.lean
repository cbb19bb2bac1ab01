/- The finder: the walk of longest. -/
import Derived.Test.YtcjfaahlchbcmaaK14
import Derived.Laws.Small
namespace Go.Proofs.Ytcjfaahlchbcmaa
open Go.RowKit Go.BigFrame
set_option linter.unusedVariables false
set_option linter.unusedSimpArgs false
theorem Try.size44 : (Try.prog.info? 44).map (·.size) = some 3 := by kernel_rfl
set_option maxRecDepth 100000 in
set_option maxHeartbeats 4000000 in
theorem longest_short (N : Nat) (w : World) (g m : Nat) (sa : Option Addr) (n c a : Nat) (va : Value) (l : List UInt8) (K : Nat) (hn : n ≤ 65536) (ha2 : a ≤ 65537) (ha : n < a + 3)
    (h : Fnd N w g m (.slice sa n c) va l K) :
    Calls Try.prog 25 #[.pointer (some ⟨g, 0, none⟩), .int .i64 (a : Int)] w fun e w' => e = .returned (.agg #[.int .u8 0, .int .i64 0, .int .i64 0]) ∧ Below w.heap.size w w' := by
  obtain ⟨w0, hw0⟩ : ∃ w0, w.alloc (.cells #[.int .u8 0, .int .i64 0, .int .i64 0] 44) = w0 := ⟨_, rfl⟩
  have b0 : Below w.heap.size w w0 := by rw [← hw0]; exact (Below.refl _ _).alloc (Nat.le_refl _) _
  have r0 : Row w0 w.heap.size 44 #[.int .u8 0, .int .i64 0, .int .i64 0] := by rw [← hw0]; exact Row.new _ _ _
  have c0 : w0.cell? ⟨g, 0, none⟩ = some (.slice sa n c) := by rw [(h.row.below b0 h.row.lt).cell]; rfl
  have k0 : w0.cell? ⟨w.heap.size, 0, none⟩ = some (.int .u8 0) := r0.cell 0
  have k1 : w0.cell? ⟨w.heap.size, 1, none⟩ = some (.int .i64 0) := r0.cell 1
  have k2 : w0.cell? ⟨w.heap.size, 2, none⟩ = some (.int .i64 0) := r0.cell 2
  have f0 := r0.frozen 0
  have f1 := r0.frozen 1
  have f2 := r0.frozen 2
  have R0 := Box'.mk r0
  have B0 := Box'.mk b0
  have HW := Box'.mk hw0
  clear h r0 b0 hw0
  go_enter Try.func25, Try.ntmps25
  go_upto_region 1 with (fail)
  rw [HW.out]
  clear HW
  go_wp2_with fail
  exact bodyPost_ret (results_row rfl _ _ rfl _ _ (((R0.out.setCell 0 _).setCell 1 _).setCell 2 _) _ Try.underlying44 rfl 3 Try.size44 rfl) rfl ⟨rfl, ((B0.out.setCell (by simp) _).setCell (by simp) _).setCell (by simp) _⟩
theorem Fnd.set {N : Nat} {w : World} {g m : Nat} {vb va : Value} {l : List UInt8} {K : Nat} (h : Fnd N w g m vb va l K) {B : Nat} {c : Array Value} (hr : Row w B 44 c) {x0 x1 x2 : Value} : Fnd N (((w.setCell ⟨B, 0, none⟩ x0).setCell ⟨B, 1, none⟩ x1).setCell ⟨B, 2, none⟩ x2) g m vb va l K := by
  have hg : g ≠ B := fun e => by subst e; exact row_type_ne h.row hr (by decide)
  have hm : m ≠ B := fun e => by subst e; exact row_map_ne hr h.mp
  have r1 := hr.setCell 0 x0
  have r2 := r1.setCell 1 x1
  exact ⟨((h.row.setOther _ _ hg).setOther _ _ hg).setOther _ _ hg, ((h.mp.setCell _ _ hm).setCell _ _ hm).setCell _ _ hm, ((h.own.setRow hr (by decide) 0 x0).setRow r1 (by decide) 1 x1).setRow r2 (by decide) 2 x2, h.hg, h.hm⟩
theorem F5.set1 {N g m : Nat} {w w' : World} (h : F5 N g m w w') {B k : Nat} {x : Value} (hB : w.heap.size ≤ B) : F5 N g m w (w'.setCell ⟨B, k, none⟩ x) := by
  have hb : Below B w' (w'.setCell ⟨B, k, none⟩ x) := (Below.refl B w').setCell (p := ⟨B, k, none⟩) (Nat.le_refl B) x
  exact ⟨hb.os.trans h.os, hb.tape.trans h.tape, hb.output.trans h.output, Nat.le_trans h.size hb.size, fun i hi hg hm hc => (hb.block i (by omega)).trans (h.block i hi hg hm hc)⟩
theorem F5.set {N g m : Nat} {w w' : World} (h : F5 N g m w w') {B : Nat} {c : Array Value} (hr : Row w' B 44 c) (hB : w.heap.size ≤ B) {x0 x1 x2 : Value} : F5 N g m w (((w'.setCell ⟨B, 0, none⟩ x0).setCell ⟨B, 1, none⟩ x1).setCell ⟨B, 2, none⟩ x2) := ((h.set1 hB).set1 hB).set1 hB
set_option maxRecDepth 100000 in
set_option maxHeartbeats 8000000 in
theorem longest_long (N : Nat) (w : World) (g m bb o n c a K : Nat) (va : Value) (l : List UInt8) (hl : l.length = n) (hn : n ≤ 65536) (hK : K ≤ a) (ha : a + 3 ≤ n) (hNw : N ≤ w.heap.size) (hbb : bb < N) (hb : ∀ k, k < n → w.cell? ⟨bb, o + k, none⟩ = some (.int .u8 ((l.getD k 0).toNat : Int)))
    (h : Fnd N w g m (.slice (some ⟨bb, o, none⟩) n c) va l K) (M : Nat) (hM : lngM n a = M) (RES : Nat × Nat) (hRES : lngS l a M 128 (lst l a a) (0, 0) = RES) :
    Calls Try.prog 25 #[.pointer (some ⟨g, 0, none⟩), .int .i64 (a : Int)] w fun e w' => e = .returned (.agg #[.int .u8 0, .int .i64 ((lngC RES).1 : Int), .int .i64 ((lngC RES).2 : Int)]) ∧ (∃ va', Fnd N w' g m (.slice (some ⟨bb, o, none⟩) n c) va' l a) ∧ F5 N g m w w' := by
  obtain ⟨w0, hw0⟩ : ∃ w0, w.alloc (.cells #[.int .u8 0, .int .i64 0, .int .i64 0] 44) = w0 := ⟨_, rfl⟩
  have b0 : Below w.heap.size w w0 := by rw [← hw0]; exact (Below.refl _ _).alloc (Nat.le_refl _) _
  have r0 : Row w0 w.heap.size 44 #[.int .u8 0, .int .i64 0, .int .i64 0] := by rw [← hw0]; exact Row.new _ _ _
  have c0 : w0.cell? ⟨g, 0, none⟩ = some (.slice (some ⟨bb, o, none⟩) n c) := by rw [(h.row.below b0 h.row.lt).cell]; rfl
  have hgl := h.row.lt
  have hml := h.mp.lt
  have hgR : w.heap.size ≠ g := by omega
  have hmR : w.heap.size ≠ m := by omega
  have HK := Box'.mk (know_any N w0 g m bb o n c a K va l hl hn hK ha (Nat.le_trans hNw b0.size) hbb (fun k hk => (b0.cell (p := ⟨bb, o + k, none⟩) (by show bb < _; omega)).trans (hb k hk)) (h.below b0))
  have HBy : Box' (∀ wq, F5 N g m w wq → ∀ k, k < n → wq.cell? ⟨bb, o + k, none⟩ = some (.int .u8 ((l.getD k 0).toNat : Int))) := ⟨fun wq h5 k hk => ((h5.below h.hg h.hm hNw).cell (p := ⟨bb, o + k, none⟩) hbb).trans (hb k hk)⟩
  have hM1 : M ≤ n - a := by unfold lngM at hM; omega
  have hM2 : M ≤ 258 := by unfold lngM at hM; omega
  have hM3 : 3 ≤ M := by unfold lngM at hM; omega
  have HM := Box'.mk hM
  have HRES := Box'.mk hRES
  have HLn := Box'.mk hl
  have R0 := Box'.mk r0
  have B0 := Box'.mk b0
  have HW := Box'.mk hw0
  clear h r0 b0 hw0 hM hl hb hRES
  go_enter Try.func25, Try.ntmps25
  go_upto_region 1 with (fail)
  rw [HW.out]
  clear HW
  go_wp2_with fail
  refine HK.out.mono ?_
  rintro e w1 ⟨rfl, va1, fn1, f51⟩
  have R1 := Box'.mk (f51.row R0.out (by decide) hgR hmR)
  obtain ⟨w2, hw2⟩ : ∃ w2, w1.alloc (.cells #[.int .u8 0, .int .i64 0, .int .i64 0] 44) = w2 := ⟨_, rfl⟩
  have b2 : Below w1.heap.size w1 w2 := by rw [← hw2]; exact (Below.refl _ _).alloc (Nat.le_refl _) _
  have r2 : Row w2 w1.heap.size 44 #[.int .u8 0, .int .i64 0, .int .i64 0] := by rw [← hw2]; exact Row.new _ _ _
  have fn2 := Box'.mk (fn1.below b2)
  have f52 := Box'.mk (((F5.of (N := N) (g := g) (m := m) B0.out).trans f51).trans (F5.of b2))
  have hBn : w.heap.size ≤ w1.heap.size := Nat.le_trans B0.out.size f51.size
  have hRB : w.heap.size ≠ w1.heap.size := Nat.ne_of_lt R1.out.lt
  have R2 := Box'.mk (R1.out.below b2 R1.out.lt)
  have HB5 := Box'.mk r2
  have HW2 := Box'.mk hw2
  clear HK fn1 f51 R1 R0 B0 c0 hw2 b2 r2
  go_upto_region 5 with (fail)
  rw [HW2.out]
  clear HW2
  generalize hBB : w1.heap.size = B at *
  clear hBB
  have c0 : w2.cell? ⟨g, 0, none⟩ = some (.slice (some ⟨bb, o, none⟩) n c) := by rw [fn2.out.row.cell]; rfl
  have HS0 := Box'.mk (startAt_any w2 g bb o n c a l fn2.out.row.lt (Nat.lt_of_lt_of_le hbb (Nat.le_trans hNw f52.out.size)) ha hn c0 (HBy.out w2 f52.out))
  have HMc : (n - a < 258 ∧ M = n - a) ∨ (258 ≤ n - a ∧ M = 258) := by have := HM.out; unfold lngM at this; omega
  have HST : Box' (stA l a = .agg #[.int .u8 ((l.getD a 0).toNat : Int), .int .u8 ((l.getD (a + 1) 0).toNat : Int), .int .u8 ((l.getD (a + 2) 0).toNat : Int)]) := ⟨rfl⟩
  have hmin : (if (n : Int) - (a : Int) < 258 then (n : Int) - (a : Int) else 258) = (M : Int) := by
    rcases HMc with ⟨h1, h2⟩ | ⟨h1, h2⟩
    · rw [if_pos (by omega)]; omega
    · rw [if_neg (by omega)]; omega
  clear HMc
  go_upto_region 6 with (fail)
  clear hmin
  go_wp2_with fail
  refine HS0.out.mono ?_
  rintro e w3 ⟨rfl, b3⟩
  have fn3 := Box'.mk (fn2.out.below b3)
  have f53 := Box'.mk (f52.out.trans (F5.of b3))
  have R3 := Box'.mk (R2.out.below b3 R2.out.lt)
  have HB53 := Box'.mk (HB5.out.below b3 HB5.out.lt)
  have HLo := Box'.mk (lastOf_is w3 g m a a l fn3.out.row.lt (by rw [fn3.out.row.cell]; rfl) fn3.out.mp)
  rw [HST.out] at HLo ⊢
  clear HS0 fn2 f52 R2 HB5 b3 c0 HST
  generalize ((l.getD a 0).toNat : Int) = x at *
  generalize ((l.getD (a + 1) 0).toNat : Int) = y at *
  generalize ((l.getD (a + 2) 0).toNat : Int) = z at *
  go_wp2_with fail
  refine HLo.out.mono ?_
  rintro e w4 ⟨rfl, b4⟩
  have fn4 := Box'.mk (fn3.out.below b4)
  have f54 := Box'.mk (f53.out.trans (F5.of b4))
  have R4 := Box'.mk (R3.out.below b4 R3.out.lt)
  have HB54 := Box'.mk (HB53.out.below b4 HB53.out.lt)
  have HP0 := Box'.mk (Pl.first l a)
  clear HLo fn3 f53 R3 HB53 b4
  obtain ⟨p0, hp0⟩ : ∃ p0, lst l a a = p0 := ⟨_, rfl⟩
  rw [hp0] at HRES HP0 ⊢
  clear hp0
  go_wp2_with fail
  go_loopw [7, 8] (fun i7 i8 wr => ∃ (t : Nat) (pl : Int) (r1 r2 : Nat), t ≤ 128 ∧ i8 = .int .i64 (t : Int) ∧ i7 = .int .i64 pl ∧ Box' (Pl l a pl) ∧ r1 ≤ 258 ∧ r2 ≤ 65536 ∧ Box' (lngS l a M (128 - t) pl (r1, r2) = RES) ∧ Box' (Row wr B 44 #[.int .u8 0, .int .i64 (r1 : Int), .int .i64 (r2 : Int)]) ∧ Box' (Row wr w.heap.size 44 #[.int .u8 0, .int .i64 0, .int .i64 0]) ∧ Box' (Fnd N wr g m (.slice (some ⟨bb, o, none⟩) n c) va1 l a) ∧ Box' (F5 N g m w wr)) (fun _ i8 _ => 128 - (intOf i8).toNat)
  case atStart => exact ⟨0, p0, 0, 0, by omega, rfl, rfl, HP0, by omega, by omega, HRES, HB54, R4, fn4, f54⟩
  case round =>
    clear HP0 HRES HB54 R4 fn4 f54
    obtain ⟨t, pl, r1, r2, ht, rfl, rfl, HPl, hr1, hr2, HS, HB5, HR, HFn, HF5⟩ := hrel
    have hRn : w.heap.size ≤ w.heap.size := Nat.le_refl _
    by_cases h1 : t < 128
    · by_cases h2 : pl = -1
      · have hres : lngS l a M (128 - t) pl (r1, r2) = (r1, r2) := lngS_stop (.inr (.inl h2))
        rw [hres] at HS
        obtain rfl := HS.out
        have q0 : wr.cell? ⟨B, 0, none⟩ = some (.int .u8 0) := HB5.out.cell 0
        have q1 : wr.cell? ⟨B, 1, none⟩ = some (.int .i64 (r1 : Int)) := HB5.out.cell 1
        have q2 : wr.cell? ⟨B, 2, none⟩ = some (.int .i64 (r2 : Int)) := HB5.out.cell 2
        have s0 : wr.cell? ⟨w.heap.size, 0, none⟩ = some (.int .u8 0) := HR.out.cell 0
        have s1 : wr.cell? ⟨w.heap.size, 1, none⟩ = some (.int .i64 0) := HR.out.cell 1
        have s2 : wr.cell? ⟨w.heap.size, 2, none⟩ = some (.int .i64 0) := HR.out.cell 2
        have z0 := HR.out.frozen 0
        have z1 := HR.out.frozen 1
        have z2 := HR.out.frozen 2
        by_cases e1 : r1 = 3
        · by_cases e2 : 4096 < r2
          · have HCC : Box' (lngC (r1, r2) = (0, 0)) := ⟨if_pos ⟨e1, e2⟩⟩
            subst e1
            go_wp2_with (first | fail)
            exact bodyPost_ret (results_row rfl _ _ rfl _ _ (((HR.out.setCell 0 _).setCell 1 _).setCell 2 _) _ Try.underlying44 rfl 3 Try.size44 rfl) rfl ⟨by rw [HCC.out]; rfl, ⟨va1, HFn.out.set HR.out⟩, HF5.out.set HR.out hRn⟩
          · have HCC : Box' (lngC (r1, r2) = (r1, r2)) := ⟨if_neg (fun h => e2 h.2)⟩
            subst e1
            go_wp2_with (first | (refine wpList_load_row rfl 44 (.tmp 5) rfl _ rfl _ _ HB5.out _ Try.underlying44 rfl 3 Try.size44 rfl ?_) | fail)
            exact bodyPost_ret (results_row rfl _ _ rfl _ _ (((HR.out.setCell 0 _).setCell 1 _).setCell 2 _) _ Try.underlying44 rfl 3 Try.size44 rfl) rfl ⟨by rw [HCC.out]; rfl, ⟨va1, HFn.out.set HR.out⟩, HF5.out.set HR.out hRn⟩
        · have HCC : Box' (lngC (r1, r2) = (r1, r2)) := ⟨if_neg (fun h => e1 h.1)⟩
          have d1 : ((r1 : Int) == 3) = false := by rw [beq_eq_false_iff_ne]; omega
          go_wp2_with (first | (refine wpList_load_row rfl 44 (.tmp 5) rfl _ rfl _ _ HB5.out _ Try.underlying44 rfl 3 Try.size44 rfl ?_) | fail)
          exact bodyPost_ret (results_row rfl _ _ rfl _ _ (((HR.out.setCell 0 _).setCell 1 _).setCell 2 _) _ Try.underlying44 rfl 3 Try.size44 rfl) rfl ⟨by rw [HCC.out]; rfl, ⟨va1, HFn.out.set HR.out⟩, HF5.out.set HR.out hRn⟩
      · obtain ⟨p, rfl, hpa, hps⟩ : ∃ p : Nat, pl = (p : Int) ∧ p < a ∧ stE l p a := HPl.out.resolve_left h2
        by_cases h3 : a - p ≤ 32768
        · by_cases h4 : r1 < M
          · have HA := Box'.mk (alike_any wr g bb o n c p a M l hM3 (by omega) hpa hn (by rw [HFn.out.row.cell]; rfl) (HBy.out wr HF5.out))
            have hst := lngS_step (l := l) (a := a) (M := M) (t := 128 - (t + 1)) (p := p) (r := (r1, r2)) (by omega) hpa h4
            rw [show 128 - (t + 1) + 1 = 128 - t by omega] at hst
            rw [hst] at HS
            clear hst
            have hpl2 := Box'.mk (Pl.next hpa hps)
            have hal := alk_ge l p a (M - 3) 3
            have q1 : wr.cell? ⟨B, 1, none⟩ = some (.int .i64 (r1 : Int)) := HB5.out.cell 1
            have d2 : ((p : Int) == -1) = false := by rw [beq_eq_false_iff_ne]; omega
            have d3 : (a : Int) - (p : Int) ≤ 32768 := by omega
            have d4 : (r1 : Int) < (M : Int) := by omega
            clear h3 h4
            go_wp2_with fail
            refine HA.out.mono ?_
            rintro e w5 ⟨rfl, b5⟩
            have HB6 := Box'.mk (HB5.out.below b5 HB5.out.lt)
            have HR6 := Box'.mk (HR.out.below b5 HR.out.lt)
            have HFn6 := Box'.mk (HFn.out.below b5)
            have HF56 := Box'.mk (HF5.out.trans (F5.of b5))
            clear HA q1 HB5 HR HFn HF5 b5
            obtain ⟨A, hA⟩ : ∃ A, alkF l p a (M - 3) 3 = A := ⟨_, rfl⟩
            rw [hA] at HS hal ⊢
            clear hA
            obtain ⟨qa, cap, hqa, _, hcap, sg⟩ := HFn6.out.own.seg (by rw [ahd_len]; omega)
            rw [ahd_len] at hqa hcap
            have hcell : w5.cell? ⟨qa, p, none⟩ = some (.int .i64 (lst l p p)) := by rw [sg.cell (by rw [ahd_len]; exact hpa), ahd_get l a p hpa]
            have hgc : w5.cell? ⟨g, 2, none⟩ = some (.slice (some ⟨qa, 0, none⟩) a cap) := by rw [HFn6.out.row.cell, hqa]; rfl
            have hqB : qa ≠ B := fun e => by subst e; obtain ⟨cur, hcur, _⟩ := sg; exact row_type_ne hcur HB6.out (by decide)
            have hgB : g ≠ B := fun e => by subst e; exact row_type_ne HFn6.out.row HB6.out (by decide)
            have q1 : w5.cell? ⟨B, 1, none⟩ = some (.int .i64 (r1 : Int)) := HB6.out.cell 1
            have j1 : (0 : Int) ≤ (p : Int) := by omega
            have j2 : (p : Int) < (a : Int) := by omega
            clear sg hqa
            by_cases hgt : r1 < A
            · rw [if_pos hgt] at HS
              have q0 : w5.cell? ⟨B, 0, none⟩ = some (.int .u8 0) := HB6.out.cell 0
              have q2 : w5.cell? ⟨B, 2, none⟩ = some (.int .i64 (r2 : Int)) := HB6.out.cell 2
              have y0 := HB6.out.frozen 0
              have y1 := HB6.out.frozen 1
              have y2 := HB6.out.frozen 2
              have ead : (a : Int) - (p : Int) = ((a - p : Nat) : Int) := by omega
              have EAD := Box'.mk ead
              clear ead
              go_wp2_with fail
              go_roundw
              case rel =>
                rw [EAD.out]
                exact ⟨t + 1, lst l p p, A, a - p, by omega, by go_num, rfl, hpl2, by omega, by omega, HS, ⟨((HB6.out.setCell 0 _).setCell 1 _).setCell 2 _⟩, ⟨((HR6.out.setOther _ _ hRB).setOther _ _ hRB).setOther _ _ hRB⟩, ⟨HFn6.out.set HB6.out⟩, ⟨HF56.out.set HB6.out hBn⟩⟩
              case measure => simp [intOf]; omega
            · rw [if_neg hgt] at HS
              go_wp2_with fail
              go_roundw
              case rel => exact ⟨t + 1, lst l p p, r1, r2, by omega, by go_num, rfl, hpl2, hr1, hr2, HS, HB6, HR6, HFn6, HF56⟩
              case measure => simp [intOf]; omega
          · have hres : lngS l a M (128 - t) (p : Int) (r1, r2) = (r1, r2) := lngS_stop (.inr (.inr (.inr (by show M ≤ r1; omega))))
            rw [hres] at HS
            obtain rfl := HS.out
            have q0 : wr.cell? ⟨B, 0, none⟩ = some (.int .u8 0) := HB5.out.cell 0
            have q1 : wr.cell? ⟨B, 1, none⟩ = some (.int .i64 (r1 : Int)) := HB5.out.cell 1
            have q2 : wr.cell? ⟨B, 2, none⟩ = some (.int .i64 (r2 : Int)) := HB5.out.cell 2
            have s0 : wr.cell? ⟨w.heap.size, 0, none⟩ = some (.int .u8 0) := HR.out.cell 0
            have s1 : wr.cell? ⟨w.heap.size, 1, none⟩ = some (.int .i64 0) := HR.out.cell 1
            have s2 : wr.cell? ⟨w.heap.size, 2, none⟩ = some (.int .i64 0) := HR.out.cell 2
            have z0 := HR.out.frozen 0
            have z1 := HR.out.frozen 1
            have z2 := HR.out.frozen 2
            by_cases e1 : r1 = 3
            · by_cases e2 : 4096 < r2
              · have HCC : Box' (lngC (r1, r2) = (0, 0)) := ⟨if_pos ⟨e1, e2⟩⟩
                subst e1
                go_wp2_with (first | fail)
                exact bodyPost_ret (results_row rfl _ _ rfl _ _ (((HR.out.setCell 0 _).setCell 1 _).setCell 2 _) _ Try.underlying44 rfl 3 Try.size44 rfl) rfl ⟨by rw [HCC.out]; rfl, ⟨va1, HFn.out.set HR.out⟩, HF5.out.set HR.out hRn⟩
              · have HCC : Box' (lngC (r1, r2) = (r1, r2)) := ⟨if_neg (fun h => e2 h.2)⟩
                subst e1
                go_wp2_with (first | (refine wpList_load_row rfl 44 (.tmp 5) rfl _ rfl _ _ HB5.out _ Try.underlying44 rfl 3 Try.size44 rfl ?_) | fail)
                exact bodyPost_ret (results_row rfl _ _ rfl _ _ (((HR.out.setCell 0 _).setCell 1 _).setCell 2 _) _ Try.underlying44 rfl 3 Try.size44 rfl) rfl ⟨by rw [HCC.out]; rfl, ⟨va1, HFn.out.set HR.out⟩, HF5.out.set HR.out hRn⟩
            · have HCC : Box' (lngC (r1, r2) = (r1, r2)) := ⟨if_neg (fun h => e1 h.1)⟩
              have d1 : ((r1 : Int) == 3) = false := by rw [beq_eq_false_iff_ne]; omega
              go_wp2_with (first | (refine wpList_load_row rfl 44 (.tmp 5) rfl _ rfl _ _ HB5.out _ Try.underlying44 rfl 3 Try.size44 rfl ?_) | fail)
              exact bodyPost_ret (results_row rfl _ _ rfl _ _ (((HR.out.setCell 0 _).setCell 1 _).setCell 2 _) _ Try.underlying44 rfl 3 Try.size44 rfl) rfl ⟨by rw [HCC.out]; rfl, ⟨va1, HFn.out.set HR.out⟩, HF5.out.set HR.out hRn⟩
        · have hres : lngS l a M (128 - t) (p : Int) (r1, r2) = (r1, r2) := lngS_stop (.inr (.inr (.inl (by omega))))
          rw [hres] at HS
          obtain rfl := HS.out
          have q0 : wr.cell? ⟨B, 0, none⟩ = some (.int .u8 0) := HB5.out.cell 0
          have q1 : wr.cell? ⟨B, 1, none⟩ = some (.int .i64 (r1 : Int)) := HB5.out.cell 1
          have q2 : wr.cell? ⟨B, 2, none⟩ = some (.int .i64 (r2 : Int)) := HB5.out.cell 2
          have s0 : wr.cell? ⟨w.heap.size, 0, none⟩ = some (.int .u8 0) := HR.out.cell 0
          have s1 : wr.cell? ⟨w.heap.size, 1, none⟩ = some (.int .i64 0) := HR.out.cell 1
          have s2 : wr.cell? ⟨w.heap.size, 2, none⟩ = some (.int .i64 0) := HR.out.cell 2
          have z0 := HR.out.frozen 0
          have z1 := HR.out.frozen 1
          have z2 := HR.out.frozen 2
          by_cases e1 : r1 = 3
          · by_cases e2 : 4096 < r2
            · have HCC : Box' (lngC (r1, r2) = (0, 0)) := ⟨if_pos ⟨e1, e2⟩⟩
              subst e1
              go_wp2_with (first | fail)
              exact bodyPost_ret (results_row rfl _ _ rfl _ _ (((HR.out.setCell 0 _).setCell 1 _).setCell 2 _) _ Try.underlying44 rfl 3 Try.size44 rfl) rfl ⟨by rw [HCC.out]; rfl, ⟨va1, HFn.out.set HR.out⟩, HF5.out.set HR.out hRn⟩
            · have HCC : Box' (lngC (r1, r2) = (r1, r2)) := ⟨if_neg (fun h => e2 h.2)⟩
              subst e1
              go_wp2_with (first | (refine wpList_load_row rfl 44 (.tmp 5) rfl _ rfl _ _ HB5.out _ Try.underlying44 rfl 3 Try.size44 rfl ?_) | fail)
              exact bodyPost_ret (results_row rfl _ _ rfl _ _ (((HR.out.setCell 0 _).setCell 1 _).setCell 2 _) _ Try.underlying44 rfl 3 Try.size44 rfl) rfl ⟨by rw [HCC.out]; rfl, ⟨va1, HFn.out.set HR.out⟩, HF5.out.set HR.out hRn⟩
          · have HCC : Box' (lngC (r1, r2) = (r1, r2)) := ⟨if_neg (fun h => e1 h.1)⟩
            have d1 : ((r1 : Int) == 3) = false := by rw [beq_eq_false_iff_ne]; omega
            go_wp2_with (first | (refine wpList_load_row rfl 44 (.tmp 5) rfl _ rfl _ _ HB5.out _ Try.underlying44 rfl 3 Try.size44 rfl ?_) | fail)
            exact bodyPost_ret (results_row rfl _ _ rfl _ _ (((HR.out.setCell 0 _).setCell 1 _).setCell 2 _) _ Try.underlying44 rfl 3 Try.size44 rfl) rfl ⟨by rw [HCC.out]; rfl, ⟨va1, HFn.out.set HR.out⟩, HF5.out.set HR.out hRn⟩
    · have hres : lngS l a M (128 - t) pl (r1, r2) = (r1, r2) := lngS_stop (.inl (by omega))
      rw [hres] at HS
      obtain rfl := HS.out
      have q0 : wr.cell? ⟨B, 0, none⟩ = some (.int .u8 0) := HB5.out.cell 0
      have q1 : wr.cell? ⟨B, 1, none⟩ = some (.int .i64 (r1 : Int)) := HB5.out.cell 1
      have q2 : wr.cell? ⟨B, 2, none⟩ = some (.int .i64 (r2 : Int)) := HB5.out.cell 2
      have s0 : wr.cell? ⟨w.heap.size, 0, none⟩ = some (.int .u8 0) := HR.out.cell 0
      have s1 : wr.cell? ⟨w.heap.size, 1, none⟩ = some (.int .i64 0) := HR.out.cell 1
      have s2 : wr.cell? ⟨w.heap.size, 2, none⟩ = some (.int .i64 0) := HR.out.cell 2
      have z0 := HR.out.frozen 0
      have z1 := HR.out.frozen 1
      have z2 := HR.out.frozen 2
      by_cases e1 : r1 = 3
      · by_cases e2 : 4096 < r2
        · have HCC : Box' (lngC (r1, r2) = (0, 0)) := ⟨if_pos ⟨e1, e2⟩⟩
          subst e1
          go_wp2_with (first | fail)
          exact bodyPost_ret (results_row rfl _ _ rfl _ _ (((HR.out.setCell 0 _).setCell 1 _).setCell 2 _) _ Try.underlying44 rfl 3 Try.size44 rfl) rfl ⟨by rw [HCC.out]; rfl, ⟨va1, HFn.out.set HR.out⟩, HF5.out.set HR.out hRn⟩
        · have HCC : Box' (lngC (r1, r2) = (r1, r2)) := ⟨if_neg (fun h => e2 h.2)⟩
          subst e1
          go_wp2_with (first | (refine wpList_load_row rfl 44 (.tmp 5) rfl _ rfl _ _ HB5.out _ Try.underlying44 rfl 3 Try.size44 rfl ?_) | fail)
          exact bodyPost_ret (results_row rfl _ _ rfl _ _ (((HR.out.setCell 0 _).setCell 1 _).setCell 2 _) _ Try.underlying44 rfl 3 Try.size44 rfl) rfl ⟨by rw [HCC.out]; rfl, ⟨va1, HFn.out.set HR.out⟩, HF5.out.set HR.out hRn⟩
      · have HCC : Box' (lngC (r1, r2) = (r1, r2)) := ⟨if_neg (fun h => e1 h.1)⟩
        have d1 : ((r1 : Int) == 3) = false := by rw [beq_eq_false_iff_ne]; omega
        go_wp2_with (first | (refine wpList_load_row rfl 44 (.tmp 5) rfl _ rfl _ _ HB5.out _ Try.underlying44 rfl 3 Try.size44 rfl ?_) | fail)
        exact bodyPost_ret (results_row rfl _ _ rfl _ _ (((HR.out.setCell 0 _).setCell 1 _).setCell 2 _) _ Try.underlying44 rfl 3 Try.size44 rfl) rfl ⟨by rw [HCC.out]; rfl, ⟨va1, HFn.out.set HR.out⟩, HF5.out.set HR.out hRn⟩
end Go.Proofs.Ytcjfaahlchbcmaa
