/- The walk of the reference's Take. -/
import Derived.Test.YthcokaffbgbanaaDoorYq
import Derived.Deep.QuietTactic
import Derived.BigQuiet
namespace Go.Proofs.YthcokaffbgbanaaDoor
open Go.RowKit Go.BigFrame
set_option linter.unusedVariables false

set_option maxRecDepth 100000 in
set_option maxHeartbeats 4000000 in
theorem rtake_any (p : Nat) (key : List UInt8) (hk : key.length = 16) (f n t o b : Nat) (hf : f = 1 ∨ f = 2) (hcnt : t + o + b < 4611686018427387904) (hinv : t = 0 → n = 0) (vb : Value) (l : List UInt8) (hl : l.length ≤ maxLen) (w : World) (hp : Row w p 69 (opO key f n t o b)) (hb : Bts (· < w.heap.size) w vb l) :
    Calls Tryd.prog 24 #[.pointer (some ⟨p, 0, none⟩), vb] w fun r w' => ∃ q s e u L, r = .returned (.tuple #[.agg (dgv q s e u), .int .i64 (Gf.tkE key f n l)]) ∧ In5 w' u L ∧ Row w' p 69 (tkO key f n t o b l) ∧ Bt p w w' ∧ (Gf.tkE key f n l = 0 → q = Gf.dgQ key f l ∧ s = Gf.dgS key f l ∧ e = Gf.dgO key f l ∧ L = Gf.dgL key f l) ∧ (Gf.tkE key f n l ≠ 0 → q = 0 ∧ s = 0 ∧ e = 0 ∧ L = []) := by
  have hplt := hp.lt
  have hb0 : Below w.heap.size w (w.alloc (.cells #[.int .u64 0, .int .u16 0, .int .u16 0, .slice none 0 0] 28)) := (Below.refl _ _).alloc (Nat.le_refl _) _
  have HR := Box'.mk (hp.below hb0 hplt)
  have HB0 := Box'.mk hb0
  have hz0 : (w.alloc (.cells #[.int .u64 0, .int .u16 0, .int .u16 0, .slice none 0 0] 28)).heap.size = w.heap.size + 1 := by simp
  have HRR : Box' (Row (w.alloc (.cells #[.int .u64 0, .int .u16 0, .int .u16 0, .slice none 0 0] 28)) w.heap.size 28 #[.int .u64 0, .int .u16 0, .int .u16 0, .slice none 0 0]) := ⟨Row.new _ _ _⟩
  have hDG := fun (w1 : World) (h1 : Below (w.heap.size + 1) (w.alloc (.cells #[.int .u64 0, .int .u16 0, .int .u16 0, .slice none 0 0] 28)) w1) => refDgram_any key hk f vb l hl w1 (hb.keep fun b hbb => ⟨Nat.lt_of_lt_of_le hbb (Nat.le_trans hb0.size h1.size), (hb0.trans (h1.mono (by omega))).block b hbb⟩)
  have HDG := Box'.mk hDG
  have HQ := Gf.dgQ_lt key f l
  have HE : Box' (Gf.tkE key f n l = if Gf.dgE key f l = 0 then (if Gf.dgQ key f l < n then 81 else 0) else Gf.dgE key f l) := ⟨rfl⟩
  have HO : Box' (tkO key f n t o b l = if Gf.dgE key f l = 0 then (if Gf.dgQ key f l < n then opO key f n t (o + 1) b else opO key f (Gf.dgQ key f l + 1) (t + 1) o b) else opO key f n t o (b + 1)) := ⟨rfl⟩
  clear hDG hb0 hp
  obtain ⟨va, vc, rfl, hvc, _⟩ := hb
  clear hvc
  generalize Gf.tkE key f n l = TE at *
  generalize tkO key f n t o b l = TO at *
  generalize Gf.dgE key f l = E at *
  generalize Gf.dgQ key f l = DQ at *
  generalize Gf.dgS key f l = DS at *
  generalize Gf.dgO key f l = DO at *
  generalize Gf.dgL key f l = DL at *
  generalize l.length = ln at *
  unfold dgv
  have HI := Box'.mk hinv
  clear hinv
  go_enter Tryd.func24, Tryd.ntmps24
  go_upto_region 1 with fail
  obtain ⟨V0, hV0⟩ : ∃ V0, (w.alloc (.cells #[.int .u64 0, .int .u16 0, .int .u16 0, .slice none 0 0] 28)) = V0 := ⟨_, rfl⟩
  rw [hV0] at HB0 HR HRR HDG hz0 ⊢
  clear hV0
  refine wp_mono (rtakeReg key DL E hk p f n t o b DQ DS DO (w.heap.size + 1) va ln vc V0 _ _ _ _ _ _ _ _ _ _ _ _ _ _ _ _ _ _ _ _ _ _ _ _ _ _ _ _ _ _ _ _ _ _ _ _ _ _ _ _ _ _ _ _ _ _ _ _ _ _ _ _ _ _ _ _ _ _ _ _ _ _ _ _ _ _ _ (by omega) (Below.refl _ _) HR.out HDG.out) ?_
  rintro r a' w2 ⟨rfl, v6, v7, v8, v9, v10, v11, v12, v13, v14, v15, v16, v17, v18, v19, v20, rfl, q, u, rfl, hNq, hI, hq, rfl, b2⟩
  have hB2 : Below w.heap.size w w2 := HB0.out.trans (b2.mono (by omega))
  have r2 := HR.out.below b2 (by omega)
  have rr2 := HRR.out.below b2 (by omega)
  have hpq : p ≠ q := by omega
  have hpr : p ≠ w.heap.size := by omega
  have hqr : q ≠ w.heap.size := by omega
  clear HDG HR HRR b2
  have hrm : Room w2 w.heap.size 28 4 := ⟨_, rr2, rfl⟩
  have h1c : (#[.int .u64 0, .int .u16 0, .int .u16 0, .slice none 0 0] : Array Value).all (·.oneCell') = true := by simp [Value.oneCell']
  by_cases hE : E = 0
  · subst hE
    rw [if_pos rfl] at HE HO
    have c17 : w2.cell? ⟨p, 17, none⟩ = some (.int .u64 (n : Int)) := by rw [r2.cell]; exact opO_at hk f n t o b 17 (by omega)
    have c18 : w2.cell? ⟨p, 18, none⟩ = some (.int .i64 (t : Int)) := by rw [r2.cell]; exact opO_at hk f n t o b 18 (by omega)
    have cq : w2.cell? ⟨q, 0, none⟩ = some (.int .u64 (DQ : Int)) := hq.cell 0
    by_cases hlt2 : DQ < n
    · rw [if_pos hlt2] at HE HO
      have ht0 : 0 < t := by
        rcases Nat.eq_zero_or_pos t with h | h
        · have := HI.out h; omega
        · exact h
      have d0 : decide (0 < t) = true := decide_eq_true (by omega)
      have d1 : decide (DQ < n) = true := decide_eq_true hlt2
      have c19 : w2.cell? ⟨p, 19, none⟩ = some (.int .i64 (o : Int)) := by rw [r2.cell]; exact opO_at hk f n t o b 19 (by omega)
      have f19 := r2.frozen 19
      have hrmA : Room (w2.drew.setCell ⟨p, 19, none⟩ (.int .i64 ((o : Int) + 1))) w.heap.size 28 4 := hrm.drew.setOther _ _ (fun e => hpr e.symm)
      have rP : Row (w2.drew.setCell ⟨p, 19, none⟩ (.int .i64 ((o : Int) + 1))) p 69 (opO key f n t (o + 1) b) := by
        rw [← (opO_set hk f n t o b (o + 1)).2.2.1]
        exact r2.drew.setCell 19 _
      have bP : Bt p w (w2.drew.setCell ⟨p, 19, none⟩ (.int .i64 ((o : Int) + 1))) := (Bt.of (hB2.drew)).setCell 19 _
      clear hlt2 ht0
      go_upto_region 5 with (fail)
      go_region
      clear c17 c18 cq
      go_wp2_with (first | (refine wpList_store_row rfl 28 (.tmp 4) (.tmp 53) rfl _ rfl _ rfl _ _ hrmA Tryd.size28 rfl h1c ?_) | fail)
      refine bodyPost_ret (results_row_slot Tryd.results24 _ w.heap.size rfl _ rfl _ _ (hrmA.setRow _) _ Tryd.underlying28 rfl 4 Tryd.size28 rfl) rfl ?_
      rw [HE.out, HO.out]
      exact ⟨0, 0, 0, _, rfl, [], .inl ⟨rfl, rfl⟩, rP.setRowOther _ _ hpr, bP.setRow (Nat.le_refl _) _, fun h => absurd h (by decide), fun _ => ⟨rfl, rfl, rfl, rfl⟩⟩
    · rw [if_neg hlt2] at HE HO
      have d1 : decide (DQ < n) = false := decide_eq_false hlt2
      have f17 := r2.frozen 17
      have f18 := r2.frozen 18
      have e1 : ((DQ : Int) + 1) = ((DQ + 1 : Nat) : Int) := by omega
      have e2 : ((t : Int) + 1) = ((t + 1 : Nat) : Int) := by omega
      have rP : Row ((w2.drew.setCell ⟨p, 18, none⟩ (.int .i64 ((t : Int) + 1))).setCell ⟨p, 17, none⟩ (.int .u64 ((DQ : Int) + 1))) p 69 (opO key f (DQ + 1) (t + 1) o b) := by
        have h1 := r2.drew.setCell 18 (.int .i64 ((t : Int) + 1))
        rw [e2, (opO_set hk f n t o b (t + 1)).2.1] at h1
        have h2 := h1.setCell 17 (.int .u64 ((DQ : Int) + 1))
        rw [e1, (opO_set hk f n (t + 1) o b (DQ + 1)).1] at h2
        rw [e1, e2]
        exact h2
      have hqB : Row ((w2.drew.setCell ⟨p, 18, none⟩ (.int .i64 ((t : Int) + 1))).setCell ⟨p, 17, none⟩ (.int .u64 ((DQ : Int) + 1))) q 28 (dgv DQ DS DO u) := (hq.drew.setOther _ _ (fun e => hpq e.symm)).setOther _ _ (fun e => hpq e.symm)
      have hrmB : Room ((w2.drew.setCell ⟨p, 18, none⟩ (.int .i64 ((t : Int) + 1))).setCell ⟨p, 17, none⟩ (.int .u64 ((DQ : Int) + 1))) w.heap.size 28 4 := (hrm.drew.setOther _ _ (fun e => hpr e.symm)).setOther _ _ (fun e => hpr e.symm)
      have bP : Bt p w ((w2.drew.setCell ⟨p, 18, none⟩ (.int .i64 ((t : Int) + 1))).setCell ⟨p, 17, none⟩ (.int .u64 ((DQ : Int) + 1))) := ((Bt.of (hB2.drew)).setCell 18 _).setCell 17 _
      have hI2 : In5 ((w2.drew.setCell ⟨p, 18, none⟩ (.int .i64 ((t : Int) + 1))).setCell ⟨p, 17, none⟩ (.int .u64 ((DQ : Int) + 1))) u DL := hI.same fun b' _ hr => (hr.drew.setOther _ _ (row_ne hr r2 (by decide))).setOther _ _ (row_ne hr r2 (by decide))
      obtain ⟨ua, uc, rfl⟩ := hI.slice
      have h1d := dgv_one DQ DS DO (.slice ua DL.length uc) rfl
      clear hlt2 e1 e2
      unfold dgv at h1d hqB
      by_cases ht0 : 0 < t
      · have d0 : decide (0 < t) = true := decide_eq_true ht0
        clear ht0
        go_upto_region 5 with (fail)
        go_region
        go_wp2_with (first | (refine wpList_load_row rfl 28 (.tmp 6) rfl _ rfl _ _ hqB _ Tryd.underlying28 rfl 4 Tryd.size28 rfl ?_) | (refine wpList_store_row rfl 28 (.tmp 4) (.tmp 67) rfl _ rfl _ rfl _ _ hrmB Tryd.size28 rfl h1d ?_) | fail)
        refine bodyPost_ret (results_row_slot Tryd.results24 _ w.heap.size rfl _ rfl _ _ (hrmB.setRow _) _ Tryd.underlying28 rfl 4 Tryd.size28 rfl) rfl ?_
        rw [HE.out, HO.out]
        exact ⟨DQ, DS, DO, _, rfl, DL, hI2.same (fun b' _ hr => hr.setRowOther _ _ (row_ne hr hrmB.choose_spec.1 (by decide))), rP.setRowOther _ _ hpr, bP.setRow (Nat.le_refl _) _, fun _ => ⟨rfl, rfl, rfl, rfl⟩, fun h => absurd rfl h⟩
      · have d0 : decide (0 < t) = false := decide_eq_false ht0
        clear ht0
        go_upto_region 5 with (fail)
        go_region
        go_wp2_with (first | (refine wpList_load_row rfl 28 (.tmp 6) rfl _ rfl _ _ hqB _ Tryd.underlying28 rfl 4 Tryd.size28 rfl ?_) | (refine wpList_store_row rfl 28 (.tmp 4) (.tmp 67) rfl _ rfl _ rfl _ _ hrmB Tryd.size28 rfl h1d ?_) | fail)
        refine bodyPost_ret (results_row_slot Tryd.results24 _ w.heap.size rfl _ rfl _ _ (hrmB.setRow _) _ Tryd.underlying28 rfl 4 Tryd.size28 rfl) rfl ?_
        rw [HE.out, HO.out]
        exact ⟨DQ, DS, DO, _, rfl, DL, hI2.same (fun b' _ hr => hr.setRowOther _ _ (row_ne hr hrmB.choose_spec.1 (by decide))), rP.setRowOther _ _ hpr, bP.setRow (Nat.le_refl _) _, fun _ => ⟨rfl, rfl, rfl, rfl⟩, fun h => absurd rfl h⟩
  · rw [if_neg hE] at HE HO
    have dE : (E != 0) = true := by rw [bne_iff_ne]; exact hE
    have c20 : w2.cell? ⟨p, 20, none⟩ = some (.int .i64 (b : Int)) := by rw [r2.cell]; exact opO_at hk f n t o b 20 (by omega)
    have f20 := r2.frozen 20
    have hrmA : Room (w2.setCell ⟨p, 20, none⟩ (.int .i64 ((b : Int) + 1))) w.heap.size 28 4 := hrm.setOther _ _ (fun e => hpr e.symm)
    have rP : Row (w2.setCell ⟨p, 20, none⟩ (.int .i64 ((b : Int) + 1))) p 69 (opO key f n t o (b + 1)) := by
      rw [← (opO_set hk f n t o b (b + 1)).2.2.2]
      exact r2.setCell 20 _
    have bP : Bt p w (w2.setCell ⟨p, 20, none⟩ (.int .i64 ((b : Int) + 1))) := (Bt.of hB2).setCell 20 _
    have HE2 := Box'.mk hE
    clear hE
    go_wp2_with (first | (refine wpList_store_row rfl 28 (.tmp 4) (.tmp 30) rfl _ rfl _ rfl _ _ hrmA Tryd.size28 rfl h1c ?_) | fail)
    refine bodyPost_ret (results_row_slot Tryd.results24 _ w.heap.size rfl _ rfl _ _ (hrmA.setRow _) _ Tryd.underlying28 rfl 4 Tryd.size28 rfl) rfl ?_
    rw [HE.out, HO.out]
    exact ⟨0, 0, 0, _, rfl, [], .inl ⟨rfl, rfl⟩, rP.setRowOther _ _ hpr, bP.setRow (Nat.le_refl _) _, fun h => absurd h HE2.out, fun _ => ⟨rfl, rfl, rfl, rfl⟩⟩
end Go.Proofs.YthcokaffbgbanaaDoor
