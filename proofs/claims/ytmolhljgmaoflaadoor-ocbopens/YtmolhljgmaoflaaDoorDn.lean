/- The mixing loops of the reference's Decrypt, walked by themselves. -/
import Derived.Test.YtmolhljgmaoflaaDoorCn
namespace Go.Proofs.YtmolhljgmaoflaaDoor
open Go.RowKit Go.BigFrame
theorem refTimes_fourteen (x : UInt8) (w : World) : Calls Tryd.prog 52 #[.int .u8 (x.toNat : Int), .int .u8 14] w fun e w' => e = .returned (.int .u8 ((Gf.times x 14).toNat : Int)) ∧ w' = w := refTimes_any x 14 w
theorem refTimes_eleven (x : UInt8) (w : World) : Calls Tryd.prog 52 #[.int .u8 (x.toNat : Int), .int .u8 11] w fun e w' => e = .returned (.int .u8 ((Gf.times x 11).toNat : Int)) ∧ w' = w := refTimes_any x 11 w
theorem refTimes_thirteen (x : UInt8) (w : World) : Calls Tryd.prog 52 #[.int .u8 (x.toNat : Int), .int .u8 13] w fun e w' => e = .returned (.int .u8 ((Gf.times x 13).toNat : Int)) ∧ w' = w := refTimes_any x 13 w
theorem refTimes_nine (x : UInt8) (w : World) : Calls Tryd.prog 52 #[.int .u8 (x.toNat : Int), .int .u8 9] w fun e w' => e = .returned (.int .u8 ((Gf.times x 9).toNat : Int)) ∧ w' = w := refTimes_any x 9 w
set_option maxRecDepth 1000000 in
set_option maxHeartbeats 4000000 in
theorem nest19_any (s1 : List UInt8) (lt : s1.length = 16) (p q : Nat) (hpq : p < q) (u0 u1 u2 u3 u4 u5 u6 u7 u8 u12 u13 u14 u15 u16 u17 u18 u19 u20 u21 u22 u23 u24 u25 u26 u27 u28 u29 u30 u31 u32 u33 u34 u35 u36 u37 u38 u39 u40 u41 u42 u43 u44 u45 u46 u47 u48 u49 u50 u51 u52 u53 u54 u55 u56 u57 u58 u59 u60 u61 u62 u63 u64 u65 u66 u67 u68 u69 u70 u71 u72 u73 u74 u75 u76 u77 u78 u79 u80 u81 u82 u83 u84 u85 u86 u87 u88 u89 u90 u91 u92 u93 u94 u95 u96 u97 u98 u99 u100 u101 u102 u103 u104 u105 u106 u107 u108 u109 u110 u111 u112 u113 u114 u115 u116 u117 u118 u119 : Value) (w : World) (gp : Row w p 23 (ag s1)) (gq : Row w q 23 (ag (Gf.zeros 16))) :
    Code.wp Tryd.prog ((Tryd.f37.body.bind (inBlock 4)).getD .skip) (fun e a' w' => e = .exit 4 ∧ (∃ v11 v12 v43 v44 v45 v46 v47 v48 v49 v50 v51 v52 v53 v54 v55 v56 v57 v58 v59 v60 v61 v62 v63 v64 v65 v66 v67 v68 v69 v70 v71 v72 v73 v74 v75 v76 v77 v78 v79 v80 v81 v82 v83 v84 v85 v86 v87 v88 v89 v90 v91 v92 : Value, a' = ⟨List.toArray (u0 :: u1 :: u2 :: u3 :: u4 :: u5 :: u6 :: u7 :: u8 :: .pointer (some ⟨p, 0, none⟩) :: .pointer (some ⟨q, 0, none⟩) :: v11 :: v12 :: u13 :: u14 :: u15 :: u16 :: u17 :: u18 :: u19 :: u20 :: u21 :: u22 :: u23 :: u24 :: u25 :: u26 :: u27 :: u28 :: u29 :: u30 :: u31 :: u32 :: u33 :: u34 :: u35 :: u36 :: u37 :: u38 :: u39 :: u40 :: u41 :: u42 :: v43 :: v44 :: v45 :: v46 :: v47 :: v48 :: v49 :: v50 :: v51 :: v52 :: v53 :: v54 :: v55 :: v56 :: v57 :: v58 :: v59 :: v60 :: v61 :: v62 :: v63 :: v64 :: v65 :: v66 :: v67 :: v68 :: v69 :: v70 :: v71 :: v72 :: v73 :: v74 :: v75 :: v76 :: v77 :: v78 :: v79 :: v80 :: v81 :: v82 :: v83 :: v84 :: v85 :: v86 :: v87 :: v88 :: v89 :: v90 :: v91 :: v92 :: u93 :: u94 :: u95 :: u96 :: u97 :: u98 :: u99 :: u100 :: u101 :: u102 :: u103 :: u104 :: u105 :: u106 :: u107 :: u108 :: u109 :: u110 :: u111 :: u112 :: u113 :: u114 :: u115 :: u116 :: u117 :: u118 :: u119 :: []), []⟩) ∧ Row w' q 23 (ag ((List.range 16).map (Gf.umix s1))) ∧ Below q w w') ⟨List.toArray (u0 :: u1 :: u2 :: u3 :: u4 :: u5 :: u6 :: u7 :: u8 :: .pointer (some ⟨p, 0, none⟩) :: .pointer (some ⟨q, 0, none⟩) :: .int .i64 0 :: u12 :: u13 :: u14 :: u15 :: u16 :: u17 :: u18 :: u19 :: u20 :: u21 :: u22 :: u23 :: u24 :: u25 :: u26 :: u27 :: u28 :: u29 :: u30 :: u31 :: u32 :: u33 :: u34 :: u35 :: u36 :: u37 :: u38 :: u39 :: u40 :: u41 :: u42 :: u43 :: u44 :: u45 :: u46 :: u47 :: u48 :: u49 :: u50 :: u51 :: u52 :: u53 :: u54 :: u55 :: u56 :: u57 :: u58 :: u59 :: u60 :: u61 :: u62 :: u63 :: u64 :: u65 :: u66 :: u67 :: u68 :: u69 :: u70 :: u71 :: u72 :: u73 :: u74 :: u75 :: u76 :: u77 :: u78 :: u79 :: u80 :: u81 :: u82 :: u83 :: u84 :: u85 :: u86 :: u87 :: u88 :: u89 :: u90 :: u91 :: u92 :: u93 :: u94 :: u95 :: u96 :: u97 :: u98 :: u99 :: u100 :: u101 :: u102 :: u103 :: u104 :: u105 :: u106 :: u107 :: u108 :: u109 :: u110 :: u111 :: u112 :: u113 :: u114 :: u115 :: u116 :: u117 :: u118 :: u119 :: []), []⟩ w := by
  conv => arg 2; whnf
  have HM : Hid (Gf.fill (Gf.zeros 16) (Gf.umix s1) 16 = (List.range 16).map (Gf.umix s1)) := Gf.fill_full (Gf.zeros 16) _ 16 rfl
  generalize (List.range 16).map (Gf.umix s1) = res at *
  go_loopw [11] (fun i wr' => ∃ c : Nat, c ≤ 4 ∧ i = .int .i64 c ∧ Row wr' p 23 (ag s1) ∧ Row wr' q 23 (ag (Gf.fill (Gf.zeros 16) (Gf.umix s1) (4 * c))) ∧ Below q w wr') (fun i _ => 4 - (intOf i).toNat)
  case atStart => exact ⟨0, by omega, rfl, gp, gq, Below.refl _ _⟩
  case round =>
    clear gp gq
    obtain ⟨c, hc, rfl, gp, gq, gv⟩ := hrel
    by_cases hc4 : c < 4
    · go_wp2
      go_loopw [12] (fun i wr' => ∃ r : Nat, r ≤ 4 ∧ i = .int .i64 r ∧ Row wr' p 23 (ag s1) ∧ Row wr' q 23 (ag (Gf.fill (Gf.zeros 16) (Gf.umix s1) (4 * c + r))) ∧ Below q w wr') (fun i _ => 4 - (intOf i).toNat)
      case atStart => exact ⟨0, by omega, rfl, gp, gq, gv⟩
      case round =>
        clear gp gq gv
        obtain ⟨r, hr, rfl, gp, gq, gv⟩ := hrel
        by_cases hr4 : r < 4
        · obtain ⟨c4, hc4e⟩ : ∃ c4, 4 * c = c4 := ⟨_, rfl⟩
          have n0 : (4 : Int) * (c : Int) = (c4 : Int) := by omega
          obtain ⟨r1, hr1⟩ : ∃ r1, (r + 1) % 4 = r1 := ⟨_, rfl⟩
          obtain ⟨r2, hr2⟩ : ∃ r2, (r + 2) % 4 = r2 := ⟨_, rfl⟩
          obtain ⟨r3, hr3⟩ : ∃ r3, (r + 3) % 4 = r3 := ⟨_, rfl⟩
          have n1 : ((r : Int) + 1) % 4 = (r1 : Int) := by omega
          have n2 : ((r : Int) + 2) % 4 = (r2 : Int) := by omega
          have n3 : ((r : Int) + 3) % 4 = (r3 : Int) := by omega
          have b0 : c4 ≤ 12 := by omega
          have b1 : r1 < 4 := by omega
          have b2 : r2 < 4 := by omega
          have b3 : r3 < 4 := by omega
          have d0 := gp.byte (k := c4 + r) (by rw [lt]; omega)
          have d1 := gp.byte (k := c4 + r1) (by rw [lt]; omega)
          have d2 := gp.byte (k := c4 + r2) (by rw [lt]; omega)
          have d3 := gp.byte (k := c4 + r3) (by rw [lt]; omega)
          have dq := gq.byte (k := c4 + r) (by rw [Gf.fill_len]; show _ < (List.replicate 16 (0 : UInt8)).length; rw [List.length_replicate]; omega)
          have fq := gq.frozen (c4 + r)
          have HE : Hid (Gf.fill (Gf.zeros 16) (Gf.umix s1) (4 * c + r + 1) = (Gf.fill (Gf.zeros 16) (Gf.umix s1) (4 * c + r)).set (c4 + r) (Gf.bx (Gf.bx (Gf.bx (Gf.times (s1.getD (c4 + r) 0) 14) (Gf.times (s1.getD (c4 + r1) 0) 11)) (Gf.times (s1.getD (c4 + r2) 0) 13)) (Gf.times (s1.getD (c4 + r3) 0) 9))) := by
            show _ = _
            have e1 : (4 * c + r) / 4 = c := by omega
            have e2 : (4 * c + r) % 4 = r := by omega
            rw [Gf.fill]
            unfold Gf.umix Gf.r0
            rw [e1, e2, hr1, hr2, hr3, hc4e]
          generalize s1.getD (c4 + r) 0 = x0 at *
          generalize s1.getD (c4 + r1) 0 = x1 at *
          generalize s1.getD (c4 + r2) 0 = x2 at *
          generalize s1.getD (c4 + r3) 0 = x3 at *
          generalize (Gf.fill (Gf.zeros 16) (Gf.umix s1) (4 * c + r)).getD (c4 + r) 0 = zz at *
          clear hr1 hr2 hr3 hc4e HM
          have hxx : ∀ x y : UInt8, bits .xor .u8 (x.toNat : Int) (y.toNat : Int) = ((Gf.bx x y).toNat : Int) := xor_bx
          go_wp2
          refine wp_region_tail 41 (by kernel_rfl) (by kernel_rfl) ?_
          simp only [List.take_succ_cons, List.take_zero, List.drop_succ_cons, List.drop_zero]
          repeat (go_big_quiet_step (fail))
          go_big_quiet_want
          go_big_quiet_op
          refine ⟨_, refTimes_fourteen _ _, ?_⟩
          go_big_quiet_on
          repeat (go_big_quiet_step (fail))
          go_big_quiet_want
          go_big_quiet_op
          refine ⟨_, refTimes_eleven _ _, ?_⟩
          go_big_quiet_on
          repeat (go_big_quiet_step (fail))
          go_big_quiet_want
          go_big_quiet_op
          refine ⟨_, refTimes_thirteen _ _, ?_⟩
          go_big_quiet_on
          repeat (go_big_quiet_step (fail))
          go_big_quiet_want
          go_big_quiet_op
          refine ⟨_, refTimes_nine _ _, ?_⟩
          go_big_quiet_on
          repeat (go_big_quiet_step (fail))
          refine wpQuiet_nil ?_
          go_wp2
          refine ⟨⟨r + 1, by omega, by go_num, ?_, ?_, ?_⟩, by simp [intOf]; omega⟩
          · exact (gp.setOther _ _ (by simp; omega)).drew
          · rw [← Nat.add_assoc, HE.out]; exact (gq.setByte (c4 + r) _).drew
          · exact (gv.setCell (Nat.le_refl _) _).drew
        · have hr' : r = 4 := by omega
          subst hr'
          go_wp2
          go_roundw
          case rel => exact ⟨c + 1, by omega, by go_num, gp, gq, gv⟩
          case measure => simp [intOf]; omega
    · have hc' : c = 4 := by omega
      subst hc'
      rw [show 4 * 4 = 16 from rfl, HM.out] at gq
      go_wp2
      exact ⟨trivial, ⟨_, _, _, _, _, _, _, _, _, _, _, _, _, _, _, _, _, _, _, _, _, _, _, _, _, _, _, _, _, _, _, _, _, _, _, _, _, _, _, _, _, _, _, _, _, _, _, _, _, _, _, _, rfl⟩, gq, gv⟩
end Go.Proofs.YtmolhljgmaoflaaDoor
