/- The walk of SealPlays. -/
import Derived.Test.YthcokaffbgbanaaDoorYw
namespace Go.Proofs.YthcokaffbgbanaaDoor
open Go.RowKit Go.BigFrame
set_option linter.unusedVariables false

set_option maxRecDepth 100000 in
set_option maxHeartbeats 16000000 in
theorem plays_any (key : List UInt8) (hk : key.length = 16) (f : Nat) (hf8 : f < 256) (aa : Option Addr) (an ac : Nat) (han : an ≤ 9223372036854775807) (la : Option Addr) (ln lc : Nat) (ls : List Ply) (w : World) (ht : Tab w) (hln : ln * 32 ≤ 140737488355328) (hls : ls.length = ln) (hl : Plys w.heap.size w la ls) :
    Calls Tryd.prog 4 #[.agg (ag key), .agg #[.int .u8 (f : Int), .slice aa an ac], .slice la ln lc] w fun r w' => r = .returned (.bool true) ∧ Below w.heap.size w w' := by
  have hlt := ht.lt
  have HLL := Box'.mk hl
  have HLS := Box'.mk hls
  have HA := Box'.mk (fun (w1 : World) (hb : Below w.heap.size w w1) => anch_any w1 (ht.below hb hlt))
  clear hl hls
  have b0 : Below w.heap.size w ((w.alloc (.cells (ag key) 23)).alloc (.cells #[.int .u8 (f : Int), .slice aa an ac] 31)) := ((Below.refl _ _).alloc (Nat.le_refl _) _).alloc (by simp) _
  have r0 : Row ((w.alloc (.cells (ag key) 23)).alloc (.cells #[.int .u8 (f : Int), .slice aa an ac] 31)) w.heap.size 23 (ag key) := (Row.new _ _ _).alloc _
  have q0 : Row ((w.alloc (.cells (ag key) 23)).alloc (.cells #[.int .u8 (f : Int), .slice aa an ac] 31)) (w.heap.size + 1) 31 #[.int .u8 (f : Int), .slice aa an ac] := Row.made _ _ _ _ _ rfl (by simp)
  have hz0 : ((w.alloc (.cells (ag key) 23)).alloc (.cells #[.int .u8 (f : Int), .slice aa an ac] 31)).heap.size = w.heap.size + 2 := by simp
  obtain ⟨V0, hV0⟩ : ∃ V0, ((w.alloc (.cells (ag key) 23)).alloc (.cells #[.int .u8 (f : Int), .slice aa an ac] 31)) = V0 := ⟨_, rfl⟩
  have HV0 := Box'.mk hV0
  rw [hV0] at b0 r0 q0 hz0
  clear hV0
  have e0 : Box' (((if 3 < an then 4611686018427387902 else an : Nat) : Int) = ((nx0 an : Nat) : Int)) := ⟨rfl⟩
  have hq0 : V0.cell? ⟨w.heap.size + 1, 0, none⟩ = some (.int .u8 (f : Int)) := q0.cell 0
  have hq1 : V0.cell? ⟨w.heap.size + 1, 1, none⟩ = some (.slice aa an ac) := q0.cell 1
  have HB0 := Box'.mk b0
  have Q0 := Box'.mk q0
  clear q0 b0
  by_cases hf : f = 1 ∨ f = 2
  · have hnx := nx0_le an
    have N1 := Box'.mk (fun w => sNew_any key hk f (nx0 an) hf (nx0_le an) w)
    have N2 := Box'.mk (fun w => rsNew_any key hk f (nx0 an) hf (nx0_le an) w)
    have N3 := Box'.mk (fun w => oNew_any key hk f hf w)
    have N4 := Box'.mk (fun w => roNew_any key hk f hf w)
    have HF := Box'.mk hf
    clear hf
    go_enter Tryd.func4, Tryd.ntmps4
    by_cases h3 : 3 < an
    · have e1 : nx0 an = 4611686018427387902 := if_pos h3
      have d3 : decide ((3 : Int) < (an : Int)) = true := decide_eq_true (by omega)
      rw [e1] at N1 N2 hnx
      clear h3
      have E1 := Box'.mk e1
      clear e1
      go_upto_region 1 with (fail)
      rw [HV0.out]
      clear HV0
      go_wp2_with (first | (refine wpList_load_row rfl 23 (.tmp 3) rfl _ rfl _ _ r0 _ Tryd.underlying23 rfl 16 Tryd.info23 (by rw [ag_size]; exact hk) ?_) | fail)
      refine (N1.out _).mono ?_
      rintro r w1 ⟨p1, rfl, s1, hp1, b1⟩
      have r1 := r0.below b1 r0.lt
      have Q1 := Box'.mk (Q0.out.below b1 Q0.out.lt)
      have HB1 := Box'.mk (HB0.out.trans (b1.mono HB0.out.size))
      clear hq0 hq1 r0 N1
      have hq0 : w1.cell? ⟨w.heap.size + 1, 0, none⟩ = some (.int .u8 (f : Int)) := Q1.out.cell 0
      have hq1 : w1.cell? ⟨w.heap.size + 1, 1, none⟩ = some (.slice aa an ac) := Q1.out.cell 1
      clear b1
      go_wp2_with (first | (refine wpList_load_row rfl 23 (.tmp 3) rfl _ rfl _ _ r1 _ Tryd.underlying23 rfl 16 Tryd.info23 (by rw [ag_size]; exact hk) ?_) | fail)
      refine (N2.out _).mono ?_
      rintro r w2 ⟨p2, rfl, s2, hp2, b2⟩
      have r2 := r1.below b2 r1.lt
      have Q2 := Box'.mk (Q1.out.below b2 Q1.out.lt)
      have HB2 := Box'.mk (HB1.out.trans (b2.mono HB1.out.size))
      clear hq0 hq1 r1 N2
      have hq0 : w2.cell? ⟨w.heap.size + 1, 0, none⟩ = some (.int .u8 (f : Int)) := Q2.out.cell 0
      have hq1 : w2.cell? ⟨w.heap.size + 1, 1, none⟩ = some (.slice aa an ac) := Q2.out.cell 1
      have s1 := s1.below b2 s1.lt
      have hpp2 : w1.heap.size ≤ p2 := hp2
      clear b2
      go_wp2_with (first | (refine wpList_load_row rfl 23 (.tmp 3) rfl _ rfl _ _ r2 _ Tryd.underlying23 rfl 16 Tryd.info23 (by rw [ag_size]; exact hk) ?_) | fail)
      refine (N3.out _).mono ?_
      rintro r w3 ⟨p3, rfl, s3, hp3, b3⟩
      have r3 := r2.below b3 r2.lt
      have Q3 := Box'.mk (Q2.out.below b3 Q2.out.lt)
      have HB3 := Box'.mk (HB2.out.trans (b3.mono HB2.out.size))
      clear hq0 hq1 r2 N3
      have hq0 : w3.cell? ⟨w.heap.size + 1, 0, none⟩ = some (.int .u8 (f : Int)) := Q3.out.cell 0
      have hq1 : w3.cell? ⟨w.heap.size + 1, 1, none⟩ = some (.slice aa an ac) := Q3.out.cell 1
      have s1 := s1.below b3 s1.lt
      have s2 := s2.below b3 s2.lt
      have hpp3 : w2.heap.size ≤ p3 := hp3
      clear b3
      go_wp2_with (first | (refine wpList_load_row rfl 23 (.tmp 3) rfl _ rfl _ _ r3 _ Tryd.underlying23 rfl 16 Tryd.info23 (by rw [ag_size]; exact hk) ?_) | fail)
      refine (N4.out _).mono ?_
      rintro r w4 ⟨p4, rfl, s4, hp4, b4⟩
      have r4 := r3.below b4 r3.lt
      have Q4 := Box'.mk (Q3.out.below b4 Q3.out.lt)
      have HB4 := Box'.mk (HB3.out.trans (b4.mono HB3.out.size))
      clear hq0 hq1 r3 N4
      have hq0 : w4.cell? ⟨w.heap.size + 1, 0, none⟩ = some (.int .u8 (f : Int)) := Q4.out.cell 0
      have hq1 : w4.cell? ⟨w.heap.size + 1, 1, none⟩ = some (.slice aa an ac) := Q4.out.cell 1
      have s1 := s1.below b4 s1.lt
      have s2 := s2.below b4 s2.lt
      have s3 := s3.below b4 s3.lt
      have hpp4 : w3.heap.size ≤ p4 := hp4
      clear b4
      have P0 : PS key f w p1 p2 p3 p4 0 w4 (.slice none 0 0) [] [] (4611686018427387902) 0 0 0 0 := ⟨SR.nil _ _, s1, s2, s3, s4, Nat.le_refl _, hnx, Nat.le_refl _, fun _ => rfl, fun j hj => by simp at hj, by omega, by have := HB1.out.size; omega, by have := HB2.out.size; omega, by have := HB3.out.size; omega, HB4.out⟩
      have HP0 := Box'.mk P0
      clear P0 s1 s2 s3 s4 r4 hq0 hq1 Q0 Q1 Q2 Q3 Q4 HB0 HB1 HB2 HB3 HB4 hp1 hp2 hp3 hp4 hnx
      go_wp2_with fail
      refine plLoop key f w p1 p2 p3 p4 w.heap.size (w.heap.size + 1) aa an ac la ln lc hk HF ht hlt hln ls HLS.out HLL.out _ _ _ _ _ _ _ _ _ _ _ _ _ _ _ _ _ _ _ _ _ _ _ _ _ _ _ _ _ _ _ _ _ _ _ _ _ _ _ _ _ _ _ _ _ _ _ _ _ _ _ _ _ _ _ _ _ _ _ _ _ _ _ _ _ _ _ _ _ _ _ _ _ _ _ _ _ _ _ _ _ _ _ _ _ _ _ _ _ _ _ _ _ _ _ _ _ _ _ _ _ _ _ _ _ _ _ _ _ _ _ _ _ _ _ _ _ _ _ _ _ _ _ _ _ _ _ _ _ _ _ _ _ _ _ _ _ _ _ _ _ _ _ _ _ _ _ _ _ _ _ _ _ _ _ _ _ _ _ _ _ _ _ _ _ _ _ _ _ _ _ _ _ _ _ _ _ _ _ _ _ _ _ _ _ _ _ _ _ _ _ _ _ _ _ _ _ _ _ _ _ _ _ (4611686018427387902) w4 HP0 _ (Box'.mk ?_)
      rintro a' w5 hX
      unfold plWX at hX
      obtain ⟨u6, hX⟩ := hX
      obtain ⟨u18, hX⟩ := hX
      obtain ⟨u19, hX⟩ := hX
      obtain ⟨u20, hX⟩ := hX
      obtain ⟨u21, hX⟩ := hX
      obtain ⟨u22, hX⟩ := hX
      obtain ⟨u23, hX⟩ := hX
      obtain ⟨u24, hX⟩ := hX
      obtain ⟨u25, hX⟩ := hX
      obtain ⟨u26, hX⟩ := hX
      obtain ⟨u27, hX⟩ := hX
      obtain ⟨u28, hX⟩ := hX
      obtain ⟨u29, hX⟩ := hX
      obtain ⟨u30, hX⟩ := hX
      obtain ⟨u82, hX⟩ := hX
      obtain ⟨u83, hX⟩ := hX
      obtain ⟨u84, hX⟩ := hX
      obtain ⟨u85, hX⟩ := hX
      obtain ⟨u86, hX⟩ := hX
      obtain ⟨u87, hX⟩ := hX
      obtain ⟨u88, hX⟩ := hX
      obtain ⟨u89, hX⟩ := hX
      obtain ⟨u90, hX⟩ := hX
      obtain ⟨u91, hX⟩ := hX
      obtain ⟨u92, hX⟩ := hX
      obtain ⟨u93, hX⟩ := hX
      obtain ⟨u94, hX⟩ := hX
      obtain ⟨u95, hX⟩ := hX
      obtain ⟨u96, hX⟩ := hX
      obtain ⟨u97, hX⟩ := hX
      obtain ⟨u98, hX⟩ := hX
      obtain ⟨u99, hX⟩ := hX
      obtain ⟨u100, hX⟩ := hX
      obtain ⟨u101, hX⟩ := hX
      obtain ⟨u102, hX⟩ := hX
      obtain ⟨u103, hX⟩ := hX
      obtain ⟨u104, hX⟩ := hX
      obtain ⟨u105, hX⟩ := hX
      obtain ⟨u106, hX⟩ := hX
      obtain ⟨u107, hX⟩ := hX
      obtain ⟨u108, hX⟩ := hX
      obtain ⟨u109, hX⟩ := hX
      obtain ⟨u110, hX⟩ := hX
      obtain ⟨u111, hX⟩ := hX
      obtain ⟨u112, hX⟩ := hX
      obtain ⟨u113, hX⟩ := hX
      obtain ⟨u114, hX⟩ := hX
      obtain ⟨u115, hX⟩ := hX
      obtain ⟨u116, hX⟩ := hX
      obtain ⟨u117, hX⟩ := hX
      obtain ⟨u118, hX⟩ := hX
      obtain ⟨u119, hX⟩ := hX
      obtain ⟨u120, hX⟩ := hX
      obtain ⟨u121, hX⟩ := hX
      obtain ⟨u122, hX⟩ := hX
      obtain ⟨u123, hX⟩ := hX
      obtain ⟨u124, hX⟩ := hX
      obtain ⟨u125, hX⟩ := hX
      obtain ⟨u126, hX⟩ := hX
      obtain ⟨u127, hX⟩ := hX
      obtain ⟨u128, hX⟩ := hX
      obtain ⟨u129, hX⟩ := hX
      obtain ⟨u130, hX⟩ := hX
      obtain ⟨u131, hX⟩ := hX
      obtain ⟨u132, hX⟩ := hX
      obtain ⟨u133, hX⟩ := hX
      obtain ⟨u134, hX⟩ := hX
      obtain ⟨u135, hX⟩ := hX
      obtain ⟨u136, hX⟩ := hX
      obtain ⟨u137, hX⟩ := hX
      obtain ⟨u138, hX⟩ := hX
      obtain ⟨u139, hX⟩ := hX
      obtain ⟨u140, hX⟩ := hX
      obtain ⟨u141, hX⟩ := hX
      obtain ⟨u142, hX⟩ := hX
      obtain ⟨u143, hX⟩ := hX
      obtain ⟨u144, hX⟩ := hX
      obtain ⟨u145, hX⟩ := hX
      obtain ⟨u146, hX⟩ := hX
      obtain ⟨u147, hX⟩ := hX
      obtain ⟨u148, hX⟩ := hX
      obtain ⟨u149, hX⟩ := hX
      obtain ⟨u150, hX⟩ := hX
      obtain ⟨u151, hX⟩ := hX
      obtain ⟨u152, hX⟩ := hX
      obtain ⟨u153, hX⟩ := hX
      obtain ⟨u154, hX⟩ := hX
      obtain ⟨u155, hX⟩ := hX
      obtain ⟨u156, hX⟩ := hX
      obtain ⟨u157, hX⟩ := hX
      obtain ⟨u158, hX⟩ := hX
      obtain ⟨u159, hX⟩ := hX
      obtain ⟨u160, hX⟩ := hX
      obtain ⟨u161, hX⟩ := hX
      obtain ⟨u162, hX⟩ := hX
      obtain ⟨u163, hX⟩ := hX
      obtain ⟨u164, hX⟩ := hX
      obtain ⟨u165, hX⟩ := hX
      obtain ⟨u166, hX⟩ := hX
      obtain ⟨u167, hX⟩ := hX
      obtain ⟨u168, hX⟩ := hX
      obtain ⟨u169, hX⟩ := hX
      obtain ⟨u170, hX⟩ := hX
      obtain ⟨u171, hX⟩ := hX
      obtain ⟨u172, hX⟩ := hX
      obtain ⟨u173, hX⟩ := hX
      obtain ⟨u174, hX⟩ := hX
      obtain ⟨u175, hX⟩ := hX
      obtain ⟨u176, hX⟩ := hX
      obtain ⟨u177, hX⟩ := hX
      obtain ⟨u178, hX⟩ := hX
      obtain ⟨u179, hX⟩ := hX
      obtain ⟨u180, hX⟩ := hX
      obtain ⟨u181, hX⟩ := hX
      obtain ⟨u182, hX⟩ := hX
      obtain ⟨u183, hX⟩ := hX
      obtain ⟨u184, hX⟩ := hX
      obtain ⟨u185, hX⟩ := hX
      obtain ⟨u186, hX⟩ := hX
      obtain ⟨u187, hX⟩ := hX
      obtain ⟨u188, hX⟩ := hX
      obtain ⟨u189, hX⟩ := hX
      obtain ⟨u190, hX⟩ := hX
      obtain ⟨u191, hX⟩ := hX
      obtain ⟨u192, hX⟩ := hX
      obtain ⟨u193, hX⟩ := hX
      obtain ⟨u194, hX⟩ := hX
      obtain ⟨u195, hX⟩ := hX
      obtain ⟨u196, hX⟩ := hX
      obtain ⟨u197, hX⟩ := hX
      obtain ⟨u198, hX⟩ := hX
      obtain ⟨u199, hX⟩ := hX
      obtain ⟨u200, hX⟩ := hX
      obtain ⟨u201, hX⟩ := hX
      obtain ⟨u202, hX⟩ := hX
      obtain ⟨u203, hX⟩ := hX
      obtain ⟨u204, hX⟩ := hX
      obtain ⟨u205, hX⟩ := hX
      obtain ⟨u206, hX⟩ := hX
      obtain ⟨u207, hX⟩ := hX
      obtain ⟨u208, hX⟩ := hX
      obtain ⟨u209, hX⟩ := hX
      obtain ⟨u210, hX⟩ := hX
      obtain ⟨u211, hX⟩ := hX
      obtain ⟨u212, hX⟩ := hX
      obtain ⟨u213, hX⟩ := hX
      obtain ⟨u214, hX⟩ := hX
      obtain ⟨u215, hX⟩ := hX
      obtain ⟨u216, hX⟩ := hX
      obtain ⟨s16, hX⟩ := hX
      obtain ⟨s17, hX⟩ := hX
      have B := hX.1
      have ea := hX.2
      clear hX
      subst ea
      go_wp2_with fail
      refine (HA.out _ B).mono ?_
      rintro r w6 ⟨rfl, b6⟩
      go_wp2_with fail
      go_ret
      exact ⟨rfl, B.trans (b6.mono B.size)⟩
    · have e1 : nx0 an = an := if_neg h3
      have d3 : decide ((3 : Int) < (an : Int)) = false := decide_eq_false (by omega)
      rw [e1] at N1 N2 hnx
      clear h3
      have E1 := Box'.mk e1
      clear e1
      go_upto_region 1 with (fail)
      rw [HV0.out]
      clear HV0
      go_wp2_with (first | (refine wpList_load_row rfl 23 (.tmp 3) rfl _ rfl _ _ r0 _ Tryd.underlying23 rfl 16 Tryd.info23 (by rw [ag_size]; exact hk) ?_) | fail)
      refine (N1.out _).mono ?_
      rintro r w1 ⟨p1, rfl, s1, hp1, b1⟩
      have r1 := r0.below b1 r0.lt
      have Q1 := Box'.mk (Q0.out.below b1 Q0.out.lt)
      have HB1 := Box'.mk (HB0.out.trans (b1.mono HB0.out.size))
      clear hq0 hq1 r0 N1
      have hq0 : w1.cell? ⟨w.heap.size + 1, 0, none⟩ = some (.int .u8 (f : Int)) := Q1.out.cell 0
      have hq1 : w1.cell? ⟨w.heap.size + 1, 1, none⟩ = some (.slice aa an ac) := Q1.out.cell 1
      clear b1
      go_wp2_with (first | (refine wpList_load_row rfl 23 (.tmp 3) rfl _ rfl _ _ r1 _ Tryd.underlying23 rfl 16 Tryd.info23 (by rw [ag_size]; exact hk) ?_) | fail)
      refine (N2.out _).mono ?_
      rintro r w2 ⟨p2, rfl, s2, hp2, b2⟩
      have r2 := r1.below b2 r1.lt
      have Q2 := Box'.mk (Q1.out.below b2 Q1.out.lt)
      have HB2 := Box'.mk (HB1.out.trans (b2.mono HB1.out.size))
      clear hq0 hq1 r1 N2
      have hq0 : w2.cell? ⟨w.heap.size + 1, 0, none⟩ = some (.int .u8 (f : Int)) := Q2.out.cell 0
      have hq1 : w2.cell? ⟨w.heap.size + 1, 1, none⟩ = some (.slice aa an ac) := Q2.out.cell 1
      have s1 := s1.below b2 s1.lt
      have hpp2 : w1.heap.size ≤ p2 := hp2
      clear b2
      go_wp2_with (first | (refine wpList_load_row rfl 23 (.tmp 3) rfl _ rfl _ _ r2 _ Tryd.underlying23 rfl 16 Tryd.info23 (by rw [ag_size]; exact hk) ?_) | fail)
      refine (N3.out _).mono ?_
      rintro r w3 ⟨p3, rfl, s3, hp3, b3⟩
      have r3 := r2.below b3 r2.lt
      have Q3 := Box'.mk (Q2.out.below b3 Q2.out.lt)
      have HB3 := Box'.mk (HB2.out.trans (b3.mono HB2.out.size))
      clear hq0 hq1 r2 N3
      have hq0 : w3.cell? ⟨w.heap.size + 1, 0, none⟩ = some (.int .u8 (f : Int)) := Q3.out.cell 0
      have hq1 : w3.cell? ⟨w.heap.size + 1, 1, none⟩ = some (.slice aa an ac) := Q3.out.cell 1
      have s1 := s1.below b3 s1.lt
      have s2 := s2.below b3 s2.lt
      have hpp3 : w2.heap.size ≤ p3 := hp3
      clear b3
      go_wp2_with (first | (refine wpList_load_row rfl 23 (.tmp 3) rfl _ rfl _ _ r3 _ Tryd.underlying23 rfl 16 Tryd.info23 (by rw [ag_size]; exact hk) ?_) | fail)
      refine (N4.out _).mono ?_
      rintro r w4 ⟨p4, rfl, s4, hp4, b4⟩
      have r4 := r3.below b4 r3.lt
      have Q4 := Box'.mk (Q3.out.below b4 Q3.out.lt)
      have HB4 := Box'.mk (HB3.out.trans (b4.mono HB3.out.size))
      clear hq0 hq1 r3 N4
      have hq0 : w4.cell? ⟨w.heap.size + 1, 0, none⟩ = some (.int .u8 (f : Int)) := Q4.out.cell 0
      have hq1 : w4.cell? ⟨w.heap.size + 1, 1, none⟩ = some (.slice aa an ac) := Q4.out.cell 1
      have s1 := s1.below b4 s1.lt
      have s2 := s2.below b4 s2.lt
      have s3 := s3.below b4 s3.lt
      have hpp4 : w3.heap.size ≤ p4 := hp4
      clear b4
      have P0 : PS key f w p1 p2 p3 p4 0 w4 (.slice none 0 0) [] [] (an) 0 0 0 0 := ⟨SR.nil _ _, s1, s2, s3, s4, Nat.le_refl _, hnx, Nat.le_refl _, fun _ => rfl, fun j hj => by simp at hj, by omega, by have := HB1.out.size; omega, by have := HB2.out.size; omega, by have := HB3.out.size; omega, HB4.out⟩
      have HP0 := Box'.mk P0
      clear P0 s1 s2 s3 s4 r4 hq0 hq1 Q0 Q1 Q2 Q3 Q4 HB0 HB1 HB2 HB3 HB4 hp1 hp2 hp3 hp4 hnx
      go_wp2_with fail
      refine plLoop key f w p1 p2 p3 p4 w.heap.size (w.heap.size + 1) aa an ac la ln lc hk HF ht hlt hln ls HLS.out HLL.out _ _ _ _ _ _ _ _ _ _ _ _ _ _ _ _ _ _ _ _ _ _ _ _ _ _ _ _ _ _ _ _ _ _ _ _ _ _ _ _ _ _ _ _ _ _ _ _ _ _ _ _ _ _ _ _ _ _ _ _ _ _ _ _ _ _ _ _ _ _ _ _ _ _ _ _ _ _ _ _ _ _ _ _ _ _ _ _ _ _ _ _ _ _ _ _ _ _ _ _ _ _ _ _ _ _ _ _ _ _ _ _ _ _ _ _ _ _ _ _ _ _ _ _ _ _ _ _ _ _ _ _ _ _ _ _ _ _ _ _ _ _ _ _ _ _ _ _ _ _ _ _ _ _ _ _ _ _ _ _ _ _ _ _ _ _ _ _ _ _ _ _ _ _ _ _ _ _ _ _ _ _ _ _ _ _ _ _ _ _ _ _ _ _ _ _ _ _ _ _ _ _ _ (an) w4 HP0 _ (Box'.mk ?_)
      rintro a' w5 hX
      unfold plWX at hX
      obtain ⟨u6, hX⟩ := hX
      obtain ⟨u18, hX⟩ := hX
      obtain ⟨u19, hX⟩ := hX
      obtain ⟨u20, hX⟩ := hX
      obtain ⟨u21, hX⟩ := hX
      obtain ⟨u22, hX⟩ := hX
      obtain ⟨u23, hX⟩ := hX
      obtain ⟨u24, hX⟩ := hX
      obtain ⟨u25, hX⟩ := hX
      obtain ⟨u26, hX⟩ := hX
      obtain ⟨u27, hX⟩ := hX
      obtain ⟨u28, hX⟩ := hX
      obtain ⟨u29, hX⟩ := hX
      obtain ⟨u30, hX⟩ := hX
      obtain ⟨u82, hX⟩ := hX
      obtain ⟨u83, hX⟩ := hX
      obtain ⟨u84, hX⟩ := hX
      obtain ⟨u85, hX⟩ := hX
      obtain ⟨u86, hX⟩ := hX
      obtain ⟨u87, hX⟩ := hX
      obtain ⟨u88, hX⟩ := hX
      obtain ⟨u89, hX⟩ := hX
      obtain ⟨u90, hX⟩ := hX
      obtain ⟨u91, hX⟩ := hX
      obtain ⟨u92, hX⟩ := hX
      obtain ⟨u93, hX⟩ := hX
      obtain ⟨u94, hX⟩ := hX
      obtain ⟨u95, hX⟩ := hX
      obtain ⟨u96, hX⟩ := hX
      obtain ⟨u97, hX⟩ := hX
      obtain ⟨u98, hX⟩ := hX
      obtain ⟨u99, hX⟩ := hX
      obtain ⟨u100, hX⟩ := hX
      obtain ⟨u101, hX⟩ := hX
      obtain ⟨u102, hX⟩ := hX
      obtain ⟨u103, hX⟩ := hX
      obtain ⟨u104, hX⟩ := hX
      obtain ⟨u105, hX⟩ := hX
      obtain ⟨u106, hX⟩ := hX
      obtain ⟨u107, hX⟩ := hX
      obtain ⟨u108, hX⟩ := hX
      obtain ⟨u109, hX⟩ := hX
      obtain ⟨u110, hX⟩ := hX
      obtain ⟨u111, hX⟩ := hX
      obtain ⟨u112, hX⟩ := hX
      obtain ⟨u113, hX⟩ := hX
      obtain ⟨u114, hX⟩ := hX
      obtain ⟨u115, hX⟩ := hX
      obtain ⟨u116, hX⟩ := hX
      obtain ⟨u117, hX⟩ := hX
      obtain ⟨u118, hX⟩ := hX
      obtain ⟨u119, hX⟩ := hX
      obtain ⟨u120, hX⟩ := hX
      obtain ⟨u121, hX⟩ := hX
      obtain ⟨u122, hX⟩ := hX
      obtain ⟨u123, hX⟩ := hX
      obtain ⟨u124, hX⟩ := hX
      obtain ⟨u125, hX⟩ := hX
      obtain ⟨u126, hX⟩ := hX
      obtain ⟨u127, hX⟩ := hX
      obtain ⟨u128, hX⟩ := hX
      obtain ⟨u129, hX⟩ := hX
      obtain ⟨u130, hX⟩ := hX
      obtain ⟨u131, hX⟩ := hX
      obtain ⟨u132, hX⟩ := hX
      obtain ⟨u133, hX⟩ := hX
      obtain ⟨u134, hX⟩ := hX
      obtain ⟨u135, hX⟩ := hX
      obtain ⟨u136, hX⟩ := hX
      obtain ⟨u137, hX⟩ := hX
      obtain ⟨u138, hX⟩ := hX
      obtain ⟨u139, hX⟩ := hX
      obtain ⟨u140, hX⟩ := hX
      obtain ⟨u141, hX⟩ := hX
      obtain ⟨u142, hX⟩ := hX
      obtain ⟨u143, hX⟩ := hX
      obtain ⟨u144, hX⟩ := hX
      obtain ⟨u145, hX⟩ := hX
      obtain ⟨u146, hX⟩ := hX
      obtain ⟨u147, hX⟩ := hX
      obtain ⟨u148, hX⟩ := hX
      obtain ⟨u149, hX⟩ := hX
      obtain ⟨u150, hX⟩ := hX
      obtain ⟨u151, hX⟩ := hX
      obtain ⟨u152, hX⟩ := hX
      obtain ⟨u153, hX⟩ := hX
      obtain ⟨u154, hX⟩ := hX
      obtain ⟨u155, hX⟩ := hX
      obtain ⟨u156, hX⟩ := hX
      obtain ⟨u157, hX⟩ := hX
      obtain ⟨u158, hX⟩ := hX
      obtain ⟨u159, hX⟩ := hX
      obtain ⟨u160, hX⟩ := hX
      obtain ⟨u161, hX⟩ := hX
      obtain ⟨u162, hX⟩ := hX
      obtain ⟨u163, hX⟩ := hX
      obtain ⟨u164, hX⟩ := hX
      obtain ⟨u165, hX⟩ := hX
      obtain ⟨u166, hX⟩ := hX
      obtain ⟨u167, hX⟩ := hX
      obtain ⟨u168, hX⟩ := hX
      obtain ⟨u169, hX⟩ := hX
      obtain ⟨u170, hX⟩ := hX
      obtain ⟨u171, hX⟩ := hX
      obtain ⟨u172, hX⟩ := hX
      obtain ⟨u173, hX⟩ := hX
      obtain ⟨u174, hX⟩ := hX
      obtain ⟨u175, hX⟩ := hX
      obtain ⟨u176, hX⟩ := hX
      obtain ⟨u177, hX⟩ := hX
      obtain ⟨u178, hX⟩ := hX
      obtain ⟨u179, hX⟩ := hX
      obtain ⟨u180, hX⟩ := hX
      obtain ⟨u181, hX⟩ := hX
      obtain ⟨u182, hX⟩ := hX
      obtain ⟨u183, hX⟩ := hX
      obtain ⟨u184, hX⟩ := hX
      obtain ⟨u185, hX⟩ := hX
      obtain ⟨u186, hX⟩ := hX
      obtain ⟨u187, hX⟩ := hX
      obtain ⟨u188, hX⟩ := hX
      obtain ⟨u189, hX⟩ := hX
      obtain ⟨u190, hX⟩ := hX
      obtain ⟨u191, hX⟩ := hX
      obtain ⟨u192, hX⟩ := hX
      obtain ⟨u193, hX⟩ := hX
      obtain ⟨u194, hX⟩ := hX
      obtain ⟨u195, hX⟩ := hX
      obtain ⟨u196, hX⟩ := hX
      obtain ⟨u197, hX⟩ := hX
      obtain ⟨u198, hX⟩ := hX
      obtain ⟨u199, hX⟩ := hX
      obtain ⟨u200, hX⟩ := hX
      obtain ⟨u201, hX⟩ := hX
      obtain ⟨u202, hX⟩ := hX
      obtain ⟨u203, hX⟩ := hX
      obtain ⟨u204, hX⟩ := hX
      obtain ⟨u205, hX⟩ := hX
      obtain ⟨u206, hX⟩ := hX
      obtain ⟨u207, hX⟩ := hX
      obtain ⟨u208, hX⟩ := hX
      obtain ⟨u209, hX⟩ := hX
      obtain ⟨u210, hX⟩ := hX
      obtain ⟨u211, hX⟩ := hX
      obtain ⟨u212, hX⟩ := hX
      obtain ⟨u213, hX⟩ := hX
      obtain ⟨u214, hX⟩ := hX
      obtain ⟨u215, hX⟩ := hX
      obtain ⟨u216, hX⟩ := hX
      obtain ⟨s16, hX⟩ := hX
      obtain ⟨s17, hX⟩ := hX
      have B := hX.1
      have ea := hX.2
      clear hX
      subst ea
      go_wp2_with fail
      refine (HA.out _ B).mono ?_
      rintro r w6 ⟨rfl, b6⟩
      go_wp2_with fail
      go_ret
      exact ⟨rfl, B.trans (b6.mono B.size)⟩
  · have hnx := nx0_le an
    have N1 := Box'.mk (fun w => sNew_bad key f (nx0 an) hf w)
    have N2 := Box'.mk (fun w => rsNew_bad key f (nx0 an) hf w)
    have N3 := Box'.mk (fun w => oNew_bad key f hf w)
    have N4 := Box'.mk (fun w => roNew_bad key f hf w)
    clear hf
    go_enter Tryd.func4, Tryd.ntmps4
    by_cases h3 : 3 < an
    · have e1 : nx0 an = 4611686018427387902 := if_pos h3
      have d3 : decide ((3 : Int) < (an : Int)) = true := decide_eq_true (by omega)
      rw [e1] at N1 N2
      clear h3
      have E1 := Box'.mk e1
      clear e1
      go_upto_region 1 with (fail)
      rw [HV0.out]
      clear HV0
      go_wp2_with (first | (refine wpList_load_row rfl 23 (.tmp 3) rfl _ rfl _ _ r0 _ Tryd.underlying23 rfl 16 Tryd.info23 (by rw [ag_size]; exact hk) ?_) | fail)
      refine (N1.out _).mono ?_
      rintro r w1 ⟨rfl, b1⟩
      have r1 := r0.below b1 r0.lt
      have Q1 := Box'.mk (Q0.out.below b1 Q0.out.lt)
      have HB1 := Box'.mk (HB0.out.trans (b1.mono HB0.out.size))
      clear hq0 hq1 r0 N1
      have hq0 : w1.cell? ⟨w.heap.size + 1, 0, none⟩ = some (.int .u8 (f : Int)) := Q1.out.cell 0
      have hq1 : w1.cell? ⟨w.heap.size + 1, 1, none⟩ = some (.slice aa an ac) := Q1.out.cell 1
      clear b1
      go_wp2_with (first | (refine wpList_load_row rfl 23 (.tmp 3) rfl _ rfl _ _ r1 _ Tryd.underlying23 rfl 16 Tryd.info23 (by rw [ag_size]; exact hk) ?_) | fail)
      refine (N2.out _).mono ?_
      rintro r w2 ⟨rfl, b2⟩
      have r2 := r1.below b2 r1.lt
      have Q2 := Box'.mk (Q1.out.below b2 Q1.out.lt)
      have HB2 := Box'.mk (HB1.out.trans (b2.mono HB1.out.size))
      clear hq0 hq1 r1 N2
      have hq0 : w2.cell? ⟨w.heap.size + 1, 0, none⟩ = some (.int .u8 (f : Int)) := Q2.out.cell 0
      have hq1 : w2.cell? ⟨w.heap.size + 1, 1, none⟩ = some (.slice aa an ac) := Q2.out.cell 1
      clear b2
      go_wp2_with (first | (refine wpList_load_row rfl 23 (.tmp 3) rfl _ rfl _ _ r2 _ Tryd.underlying23 rfl 16 Tryd.info23 (by rw [ag_size]; exact hk) ?_) | fail)
      refine (N3.out _).mono ?_
      rintro r w3 ⟨rfl, b3⟩
      have r3 := r2.below b3 r2.lt
      have Q3 := Box'.mk (Q2.out.below b3 Q2.out.lt)
      have HB3 := Box'.mk (HB2.out.trans (b3.mono HB2.out.size))
      clear hq0 hq1 r2 N3
      have hq0 : w3.cell? ⟨w.heap.size + 1, 0, none⟩ = some (.int .u8 (f : Int)) := Q3.out.cell 0
      have hq1 : w3.cell? ⟨w.heap.size + 1, 1, none⟩ = some (.slice aa an ac) := Q3.out.cell 1
      clear b3
      go_wp2_with (first | (refine wpList_load_row rfl 23 (.tmp 3) rfl _ rfl _ _ r3 _ Tryd.underlying23 rfl 16 Tryd.info23 (by rw [ag_size]; exact hk) ?_) | fail)
      refine (N4.out _).mono ?_
      rintro r w4 ⟨rfl, b4⟩
      have r4 := r3.below b4 r3.lt
      have Q4 := Box'.mk (Q3.out.below b4 Q3.out.lt)
      have HB4 := Box'.mk (HB3.out.trans (b4.mono HB3.out.size))
      clear hq0 hq1 r3 N4
      have hq0 : w4.cell? ⟨w.heap.size + 1, 0, none⟩ = some (.int .u8 (f : Int)) := Q4.out.cell 0
      have hq1 : w4.cell? ⟨w.heap.size + 1, 1, none⟩ = some (.slice aa an ac) := Q4.out.cell 1
      clear b4
      clear hq0 hq1 r4 Q0 Q1 Q2 Q3 Q4
      have B4 := HB4.out
      clear HB0 HB1 HB2 HB3 HB4
      go_wp2_with fail
      go_loopw [16, 17] (fun u i wr => i = .int .i64 0 ∧ Below w.heap.size w wr) (fun _ _ _ => 0)
      case atStart => exact ⟨rfl, B4⟩
      case round =>
        obtain ⟨rfl, B5⟩ := hrel
        clear B4
        by_cases hl0 : 0 < ln
        · go_wp2_with fail
          refine (HA.out _ B5).mono ?_
          rintro r w5 ⟨rfl, b5⟩
          go_wp2_with fail
          go_ret
          exact ⟨rfl, B5.trans (b5.mono B5.size)⟩
        · go_wp2_with fail
          refine (HA.out _ B5).mono ?_
          rintro r w5 ⟨rfl, b5⟩
          go_wp2_with fail
          go_ret
          exact ⟨rfl, B5.trans (b5.mono B5.size)⟩
    · have e1 : nx0 an = an := if_neg h3
      have d3 : decide ((3 : Int) < (an : Int)) = false := decide_eq_false (by omega)
      rw [e1] at N1 N2
      clear h3
      have E1 := Box'.mk e1
      clear e1
      go_upto_region 1 with (fail)
      rw [HV0.out]
      clear HV0
      go_wp2_with (first | (refine wpList_load_row rfl 23 (.tmp 3) rfl _ rfl _ _ r0 _ Tryd.underlying23 rfl 16 Tryd.info23 (by rw [ag_size]; exact hk) ?_) | fail)
      refine (N1.out _).mono ?_
      rintro r w1 ⟨rfl, b1⟩
      have r1 := r0.below b1 r0.lt
      have Q1 := Box'.mk (Q0.out.below b1 Q0.out.lt)
      have HB1 := Box'.mk (HB0.out.trans (b1.mono HB0.out.size))
      clear hq0 hq1 r0 N1
      have hq0 : w1.cell? ⟨w.heap.size + 1, 0, none⟩ = some (.int .u8 (f : Int)) := Q1.out.cell 0
      have hq1 : w1.cell? ⟨w.heap.size + 1, 1, none⟩ = some (.slice aa an ac) := Q1.out.cell 1
      clear b1
      go_wp2_with (first | (refine wpList_load_row rfl 23 (.tmp 3) rfl _ rfl _ _ r1 _ Tryd.underlying23 rfl 16 Tryd.info23 (by rw [ag_size]; exact hk) ?_) | fail)
      refine (N2.out _).mono ?_
      rintro r w2 ⟨rfl, b2⟩
      have r2 := r1.below b2 r1.lt
      have Q2 := Box'.mk (Q1.out.below b2 Q1.out.lt)
      have HB2 := Box'.mk (HB1.out.trans (b2.mono HB1.out.size))
      clear hq0 hq1 r1 N2
      have hq0 : w2.cell? ⟨w.heap.size + 1, 0, none⟩ = some (.int .u8 (f : Int)) := Q2.out.cell 0
      have hq1 : w2.cell? ⟨w.heap.size + 1, 1, none⟩ = some (.slice aa an ac) := Q2.out.cell 1
      clear b2
      go_wp2_with (first | (refine wpList_load_row rfl 23 (.tmp 3) rfl _ rfl _ _ r2 _ Tryd.underlying23 rfl 16 Tryd.info23 (by rw [ag_size]; exact hk) ?_) | fail)
      refine (N3.out _).mono ?_
      rintro r w3 ⟨rfl, b3⟩
      have r3 := r2.below b3 r2.lt
      have Q3 := Box'.mk (Q2.out.below b3 Q2.out.lt)
      have HB3 := Box'.mk (HB2.out.trans (b3.mono HB2.out.size))
      clear hq0 hq1 r2 N3
      have hq0 : w3.cell? ⟨w.heap.size + 1, 0, none⟩ = some (.int .u8 (f : Int)) := Q3.out.cell 0
      have hq1 : w3.cell? ⟨w.heap.size + 1, 1, none⟩ = some (.slice aa an ac) := Q3.out.cell 1
      clear b3
      go_wp2_with (first | (refine wpList_load_row rfl 23 (.tmp 3) rfl _ rfl _ _ r3 _ Tryd.underlying23 rfl 16 Tryd.info23 (by rw [ag_size]; exact hk) ?_) | fail)
      refine (N4.out _).mono ?_
      rintro r w4 ⟨rfl, b4⟩
      have r4 := r3.below b4 r3.lt
      have Q4 := Box'.mk (Q3.out.below b4 Q3.out.lt)
      have HB4 := Box'.mk (HB3.out.trans (b4.mono HB3.out.size))
      clear hq0 hq1 r3 N4
      have hq0 : w4.cell? ⟨w.heap.size + 1, 0, none⟩ = some (.int .u8 (f : Int)) := Q4.out.cell 0
      have hq1 : w4.cell? ⟨w.heap.size + 1, 1, none⟩ = some (.slice aa an ac) := Q4.out.cell 1
      clear b4
      clear hq0 hq1 r4 Q0 Q1 Q2 Q3 Q4
      have B4 := HB4.out
      clear HB0 HB1 HB2 HB3 HB4
      go_wp2_with fail
      go_loopw [16, 17] (fun u i wr => i = .int .i64 0 ∧ Below w.heap.size w wr) (fun _ _ _ => 0)
      case atStart => exact ⟨rfl, B4⟩
      case round =>
        obtain ⟨rfl, B5⟩ := hrel
        clear B4
        by_cases hl0 : 0 < ln
        · go_wp2_with fail
          refine (HA.out _ B5).mono ?_
          rintro r w5 ⟨rfl, b5⟩
          go_wp2_with fail
          go_ret
          exact ⟨rfl, B5.trans (b5.mono B5.size)⟩
        · go_wp2_with fail
          refine (HA.out _ B5).mono ?_
          rintro r w5 ⟨rfl, b5⟩
          go_wp2_with fail
          go_ret
          exact ⟨rfl, B5.trans (b5.mono B5.size)⟩
end Go.Proofs.YthcokaffbgbanaaDoor
