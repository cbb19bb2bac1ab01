/- The mixing loops of the reference's Cipher.Encrypt, walked by themselves. -/
import Derived.Test.YtmolhljgmaoflaaDoorRe
import Derived.Test.YtmolhljgmaoflaaDoorBm
namespace Go.Proofs.YtmolhljgmaoflaaDoor
open Go.RowKit Go.BigFrame

/-- What lies in the block of a number. -/
def inBlock (n : Nat) : Code → Option Code
  | .block m c => if m = n then some c else inBlock n c
  | .seq a b => match inBlock n a with
    | some c => some c
    | none => inBlock n b
  | .loop c => inBlock n c
  | .scope c => inBlock n c
  | .cond _ a b => match inBlock n a with
    | some c => some c
    | none => inBlock n b
  | _ => none
theorem refTimes_three (x : UInt8) (w : World) : Calls Tryd.prog 52 #[.int .u8 (x.toNat : Int), .int .u8 3] w fun e w' => e = .returned (.int .u8 ((Gf.times x 3).toNat : Int)) ∧ w' = w := refTimes_any x 3 w
def rmix (s : List UInt8) (m : Nat) : UInt8 :=
  Gf.bx (Gf.bx (Gf.bx (Gf.dbl (s.getD (4 * (m / 4) + m % 4) 0)) (Gf.times (s.getD (4 * (m / 4) + (m % 4 + 1) % 4) 0) 3)) (s.getD (4 * (m / 4) + (m % 4 + 2) % 4) 0)) (s.getD (4 * (m / 4) + (m % 4 + 3) % 4) 0)
theorem three : ∀ n, n < 256 → Gf.timesN n 3 = n ^^^ Gf.dblN n := by decide +kernel
theorem times3 (x : UInt8) : Gf.times x 3 = Gf.bx x (Gf.dbl x) := by
  apply UInt8.toNat_inj.1
  unfold Gf.bx
  rw [UInt8.toNat_xor, Gf.times_toNat, Gf.dbl_toNat]
  exact three x.toNat x.toNat_lt
theorem m0_ref (a b c d : UInt8) : Gf.bx (Gf.bx (Gf.bx (Gf.dbl a) (Gf.times b 3)) c) d = Gf.m0 a b c d := by
  rw [times3]
  simp only [Gf.m0, Gf.all4, Gf.dbl_bx, Gf.bx_assoc]
  simp only [Gf.bx_comm, Gf.bx_left, Gf.bx_self_left]
  simp only [Gf.bx_assoc]
theorem rmix_mix (s : List UInt8) (h : s.length = 16) : (List.range 16).map (rmix s) = Gf.mixL s := by
  obtain ⟨a0, a1, a2, a3, a4, a5, a6, a7, a8, a9, a10, a11, a12, a13, a14, a15, rfl⟩ := Gf.list16 s h
  rw [Gf.mixL_lit]
  have e : (List.range 16).map (rmix [a0, a1, a2, a3, a4, a5, a6, a7, a8, a9, a10, a11, a12, a13, a14, a15]) = [
    Gf.bx (Gf.bx (Gf.bx (Gf.dbl a0) (Gf.times a1 3)) a2) a3, Gf.bx (Gf.bx (Gf.bx (Gf.dbl a1) (Gf.times a2 3)) a3) a0, Gf.bx (Gf.bx (Gf.bx (Gf.dbl a2) (Gf.times a3 3)) a0) a1, Gf.bx (Gf.bx (Gf.bx (Gf.dbl a3) (Gf.times a0 3)) a1) a2,
    Gf.bx (Gf.bx (Gf.bx (Gf.dbl a4) (Gf.times a5 3)) a6) a7, Gf.bx (Gf.bx (Gf.bx (Gf.dbl a5) (Gf.times a6 3)) a7) a4, Gf.bx (Gf.bx (Gf.bx (Gf.dbl a6) (Gf.times a7 3)) a4) a5, Gf.bx (Gf.bx (Gf.bx (Gf.dbl a7) (Gf.times a4 3)) a5) a6,
    Gf.bx (Gf.bx (Gf.bx (Gf.dbl a8) (Gf.times a9 3)) a10) a11, Gf.bx (Gf.bx (Gf.bx (Gf.dbl a9) (Gf.times a10 3)) a11) a8, Gf.bx (Gf.bx (Gf.bx (Gf.dbl a10) (Gf.times a11 3)) a8) a9, Gf.bx (Gf.bx (Gf.bx (Gf.dbl a11) (Gf.times a8 3)) a9) a10,
    Gf.bx (Gf.bx (Gf.bx (Gf.dbl a12) (Gf.times a13 3)) a14) a15, Gf.bx (Gf.bx (Gf.bx (Gf.dbl a13) (Gf.times a14 3)) a15) a12, Gf.bx (Gf.bx (Gf.bx (Gf.dbl a14) (Gf.times a15 3)) a12) a13, Gf.bx (Gf.bx (Gf.bx (Gf.dbl a15) (Gf.times a12 3)) a13) a14] := by kernel_rfl
  rw [e]
  simp only [m0_ref]

set_option maxRecDepth 1000000 in
set_option maxHeartbeats 4000000 in
theorem nest30_any (s1 : List UInt8) (lt : s1.length = 16) (p q : Nat) (hpq : p < q) (u0 u1 u2 u3 u4 u5 u7 u8 u9 u12 u13 u14 u15 u16 u17 u18 u19 u20 u21 u22 u23 u24 u25 u26 u27 u28 u29 u30 u31 u32 u33 u34 u35 u36 u37 u38 u39 u40 u41 u42 u43 u44 u45 u46 u47 u48 u49 u50 u51 u52 u53 u54 u55 u56 u57 u58 u59 u60 u61 u62 u63 u64 u65 u66 u67 u68 u69 u70 u71 u72 u73 u74 u75 u76 u77 u78 u79 u80 u81 u82 u83 u84 u85 u86 u87 u88 u89 u90 u91 u92 u93 u94 u95 u96 u97 u98 u99 u100 u101 u102 u103 : Value) (w : World) (gp : Row w p 23 (ag s1)) (gq : Row w q 23 (ag (Gf.zeros 16))) :
    Code.wp Tryd.prog ((Tryd.f31.body.bind (inBlock 4)).getD .skip) (fun e a' w' => e = .exit 4 ∧ (∃ v11 v12 v48 v49 v50 v51 v52 v53 v54 v55 v56 v57 v58 v59 v60 v61 v62 v63 v64 v65 v66 v67 v68 v69 v70 v71 v72 v73 v74 v75 v76 v77 v78 v79 v80 v81 v82 v83 v84 v85 v86 v87 v88 v89 v90 v91 v92 v93 v94 v95 : Value, a' = ⟨List.toArray (u0 :: u1 :: u2 :: u3 :: u4 :: u5 :: .pointer (some ⟨p, 0, none⟩) :: u7 :: u8 :: u9 :: .pointer (some ⟨q, 0, none⟩) :: v11 :: v12 :: u13 :: u14 :: u15 :: u16 :: u17 :: u18 :: u19 :: u20 :: u21 :: u22 :: u23 :: u24 :: u25 :: u26 :: u27 :: u28 :: u29 :: u30 :: u31 :: u32 :: u33 :: u34 :: u35 :: u36 :: u37 :: u38 :: u39 :: u40 :: u41 :: u42 :: u43 :: u44 :: u45 :: u46 :: u47 :: v48 :: v49 :: v50 :: v51 :: v52 :: v53 :: v54 :: v55 :: v56 :: v57 :: v58 :: v59 :: v60 :: v61 :: v62 :: v63 :: v64 :: v65 :: v66 :: v67 :: v68 :: v69 :: v70 :: v71 :: v72 :: v73 :: v74 :: v75 :: v76 :: v77 :: v78 :: v79 :: v80 :: v81 :: v82 :: v83 :: v84 :: v85 :: v86 :: v87 :: v88 :: v89 :: v90 :: v91 :: v92 :: v93 :: v94 :: v95 :: u96 :: u97 :: u98 :: u99 :: u100 :: u101 :: u102 :: u103 :: []), []⟩) ∧ Row w' q 23 (ag ((List.range 16).map (rmix s1))) ∧ Below q w w') ⟨List.toArray (u0 :: u1 :: u2 :: u3 :: u4 :: u5 :: .pointer (some ⟨p, 0, none⟩) :: u7 :: u8 :: u9 :: .pointer (some ⟨q, 0, none⟩) :: .int .i64 0 :: u12 :: u13 :: u14 :: u15 :: u16 :: u17 :: u18 :: u19 :: u20 :: u21 :: u22 :: u23 :: u24 :: u25 :: u26 :: u27 :: u28 :: u29 :: u30 :: u31 :: u32 :: u33 :: u34 :: u35 :: u36 :: u37 :: u38 :: u39 :: u40 :: u41 :: u42 :: u43 :: u44 :: u45 :: u46 :: u47 :: u48 :: u49 :: u50 :: u51 :: u52 :: u53 :: u54 :: u55 :: u56 :: u57 :: u58 :: u59 :: u60 :: u61 :: u62 :: u63 :: u64 :: u65 :: u66 :: u67 :: u68 :: u69 :: u70 :: u71 :: u72 :: u73 :: u74 :: u75 :: u76 :: u77 :: u78 :: u79 :: u80 :: u81 :: u82 :: u83 :: u84 :: u85 :: u86 :: u87 :: u88 :: u89 :: u90 :: u91 :: u92 :: u93 :: u94 :: u95 :: u96 :: u97 :: u98 :: u99 :: u100 :: u101 :: u102 :: u103 :: []), []⟩ w := by
  conv => arg 2; whnf
  have HM : Hid (Gf.fill (Gf.zeros 16) (rmix s1) 16 = (List.range 16).map (rmix s1)) := Gf.fill_full (Gf.zeros 16) _ 16 rfl
  generalize (List.range 16).map (rmix s1) = res at *
  go_loopw [11] (fun i wr' => ∃ c : Nat, c ≤ 4 ∧ i = .int .i64 c ∧ Row wr' p 23 (ag s1) ∧ Row wr' q 23 (ag (Gf.fill (Gf.zeros 16) (rmix s1) (4 * c))) ∧ Below q w wr') (fun i _ => 4 - (intOf i).toNat)
  case atStart => exact ⟨0, by omega, rfl, gp, gq, Below.refl _ _⟩
  case round =>
    clear gp gq
    obtain ⟨c, hc, rfl, gp, gq, gv⟩ := hrel
    by_cases hc4 : c < 4
    · go_wp2
      go_loopw [12] (fun i wr' => ∃ r : Nat, r ≤ 4 ∧ i = .int .i64 r ∧ Row wr' p 23 (ag s1) ∧ Row wr' q 23 (ag (Gf.fill (Gf.zeros 16) (rmix s1) (4 * c + r))) ∧ Below q w wr') (fun i _ => 4 - (intOf i).toNat)
      case atStart => exact ⟨0, by omega, rfl, gp, gq, gv⟩
      case round =>
        clear gp gq gv
        obtain ⟨r, hr, rfl, gp, gq, gv⟩ := hrel
        by_cases hr4 : r < 4
        · obtain ⟨c4, hc4e⟩ : ∃ c4, 4 * c = c4 := ⟨_, rfl⟩
          have n0 : (4 : Int) * (c : Int) = (c4 : Int) := by omega
          obtain ⟨r1, hr1⟩ : ∃ r1, (r + 1) % 4 = r1 := ⟨_, rfl⟩
          obtain ⟨r2, hr2⟩ : ∃ r2, (r + 2) % 4 = r2 := ⟨_, rfl⟩
          obtain ⟨r3, hr3⟩ : ∃ r3, (r + 3) % 4 = r3 := ⟨_, rfl⟩
          have n1 : ((r : Int) + 1) % 4 = (r1 : Int) := by omega
          have n2 : ((r : Int) + 2) % 4 = (r2 : Int) := by omega
          have n3 : ((r : Int) + 3) % 4 = (r3 : Int) := by omega
          have b0 : c4 ≤ 12 := by omega
          have b1 : r1 < 4 := by omega
          have b2 : r2 < 4 := by omega
          have b3 : r3 < 4 := by omega
          have d0 := gp.byte (k := c4 + r) (by rw [lt]; omega)
          have d1 := gp.byte (k := c4 + r1) (by rw [lt]; omega)
          have d2 := gp.byte (k := c4 + r2) (by rw [lt]; omega)
          have d3 := gp.byte (k := c4 + r3) (by rw [lt]; omega)
          have dq := gq.byte (k := c4 + r) (by rw [Gf.fill_len]; show _ < (List.replicate 16 (0 : UInt8)).length; rw [List.length_replicate]; omega)
          have fq := gq.frozen (c4 + r)
          have HE : Hid (Gf.fill (Gf.zeros 16) (rmix s1) (4 * c + r + 1) = (Gf.fill (Gf.zeros 16) (rmix s1) (4 * c + r)).set (c4 + r) (Gf.bx (Gf.bx (Gf.bx (Gf.dbl (s1.getD (c4 + r) 0)) (Gf.times (s1.getD (c4 + r1) 0) 3)) (s1.getD (c4 + r2) 0)) (s1.getD (c4 + r3) 0))) := by
            show _ = _
            have e1 : (4 * c + r) / 4 = c := by omega
            have e2 : (4 * c + r) % 4 = r := by omega
            rw [Gf.fill]
            unfold rmix
            rw [e1, e2, hr1, hr2, hr3, hc4e]
          generalize s1.getD (c4 + r) 0 = x0 at *
          generalize s1.getD (c4 + r1) 0 = x1 at *
          generalize s1.getD (c4 + r2) 0 = x2 at *
          generalize s1.getD (c4 + r3) 0 = x3 at *
          generalize (Gf.fill (Gf.zeros 16) (rmix s1) (4 * c + r)).getD (c4 + r) 0 = zz at *
          clear hr1 hr2 hr3 hc4e HM
          have hxx : ∀ x y : UInt8, bits .xor .u8 (x.toNat : Int) (y.toNat : Int) = ((Gf.bx x y).toNat : Int) := xor_bx
          go_wp2
          refine wp_region_tail 39 (by kernel_rfl) (by kernel_rfl) ?_
          simp only [List.take_succ_cons, List.take_zero, List.drop_succ_cons, List.drop_zero]
          repeat (go_big_quiet_step (fail))
          go_big_quiet_want
          go_big_quiet_op
          refine ⟨_, refTimes_two _ _, ?_⟩
          go_big_quiet_on
          repeat (go_big_quiet_step (fail))
          go_big_quiet_want
          go_big_quiet_op
          refine ⟨_, refTimes_three _ _, ?_⟩
          go_big_quiet_on
          repeat (go_big_quiet_step (fail))
          refine wpQuiet_nil ?_
          go_wp2
          refine ⟨⟨r + 1, by omega, by go_num, ?_, ?_, ?_⟩, by simp [intOf]; omega⟩
          · exact (gp.setOther _ _ (by simp; omega)).drew
          · rw [← Nat.add_assoc, HE.out]; exact (gq.setByte (c4 + r) _).drew
          · exact (gv.setCell (Nat.le_refl _) _).drew
        · have hr' : r = 4 := by omega
          subst hr'
          go_wp2
          go_roundw
          case rel => exact ⟨c + 1, by omega, by go_num, gp, gq, gv⟩
          case measure => simp [intOf]; omega
    · have hc' : c = 4 := by omega
      subst hc'
      rw [show 4 * 4 = 16 from rfl, HM.out] at gq
      go_wp2
      exact ⟨trivial, ⟨_, _, _, _, _, _, _, _, _, _, _, _, _, _, _, _, _, _, _, _, _, _, _, _, _, _, _, _, _, _, _, _, _, _, _, _, _, _, _, _, _, _, _, _, _, _, _, _, _, _, rfl⟩, gq, gv⟩
end Go.Proofs.YtmolhljgmaoflaaDoor
