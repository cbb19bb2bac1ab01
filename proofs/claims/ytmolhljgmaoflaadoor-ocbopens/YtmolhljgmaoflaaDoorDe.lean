/- The walk of the reference's Decrypt. -/
import Derived.Test.YtmolhljgmaoflaaDoorCe
import Derived.Test.YtmolhljgmaoflaaDoorDn
import Derived.Test.YtmolhljgmaoflaaDoorGw
namespace Go.Proofs.YtmolhljgmaoflaaDoor
open Go.RowKit Go.BigFrame

theorem Tryd.zero23' : (Tryd.prog.info? 23).map (fun i => (i.zero, i.size)) = some (some (.agg (ag (Gf.zeros 16))), 16) := by kernel_rfl
theorem wp_load_cip {P : Program} {op : Oper} {a : Act} {w : World} {Q : Exit → Act → World → Prop} {KK : Act → World → Prop} (ty : TypeId) (x : Operand) (ho : op.op = .load ty x) (b o : Nat) (hx : a.eval x = .pointer (some ⟨b, 1 + o, none⟩))
    (t : TypeId) (v : Value) (l : List UInt8) (hr : Row w b t (cip v l)) (d : TypeDesc) (hu : P.underlying ty = some d) (hd : d.isRow = true) (n : Nat) (hi : (P.info? ty).map (·.size) = some n) (hn : o + n ≤ l.length)
    (h : KK (a.put op.dst (.agg (ag ((l.drop o).take n)))) w) : op.wp P a w KK Q := by
  have hrun := run_loadAt_mid (P := P) w b (1 + o) ty _ d (cip_range hr o n) hu hd (by rw [hi]; simp; omega)
  unfold Oper.wp execOp
  simp only [ho, hx, Sem.run_bind, hrun, Result.andThen_ok]
  exact h
/-- A fact put away. -/
structure Box (p : Prop) : Prop where
  out : p
theorem Gf.decStep_lt (T U K b : List UInt8) (j n : Nat) (h : j + n = 10) (h9 : n < 10) : Gf.subst U (Gf.turn (Gf.unmixL (Gf.bxor (Gf.decTo T U K b j) (Gf.rk K n))) 3) = Gf.decTo T U K b (j + 1) := by
  have e : 10 - j = n := by omega
  simp only [Gf.decTo, e, if_pos h9]
theorem Gf.decStep_ge (T U K b : List UInt8) (j n : Nat) (h : j + n = 10) (h9 : ¬ n < 10) : Gf.subst U (Gf.turn (Gf.bxor (Gf.decTo T U K b j) (Gf.rk K n)) 3) = Gf.decTo T U K b (j + 1) := by
  have e : 10 - j = n := by omega
  simp only [Gf.decTo, e, if_neg h9]
/-- What stands while a block goes back through the reference's rounds. -/
structure EnvR (N cb pb : Nat) (a : Value) (U K : List UInt8) (w0 w : World) : Prop where
  cph : Row w cb 52 (cip a K)
  bck : Row w pb 66 (ag U)
  res : Room w (N + 1 + 1) 23 16
  bel : Below N w0 w
theorem EnvR.below {N cb pb q : Nat} {a : Value} {U K : List UInt8} {w0 w w' : World} (h : EnvR N cb pb a U K w0 w) (h1 : N + 1 + 1 < q) (h2 : cb < q) (h3 : pb < q) (hb : Below q w w') : EnvR N cb pb a U K w0 w' :=
  ⟨h.cph.below hb h2, h.bck.below hb h3, h.res.below hb h1, h.bel.trans (hb.mono (by omega))⟩
theorem EnvR.store {N cb pb : Nat} {a : Value} {U K : List UInt8} {w0 w : World} (h : EnvR N cb pb a U K w0 w) (p : Nat) (c : Array Value) (h1 : N ≤ p) (h2 : p ≠ cb) (h3 : p ≠ N + 1 + 1) (h4 : p ≠ pb) : EnvR N cb pb a U K w0 (w.setRow p c) :=
  ⟨h.cph.setRowOther _ _ (Ne.symm h2), h.bck.setRowOther _ _ (Ne.symm h4), h.res.setRowOther _ _ (Ne.symm h3), below_setRow h.bel h1 _⟩
theorem EnvR.setCell {N cb pb : Nat} {a : Value} {U K : List UInt8} {w0 w : World} (h : EnvR N cb pb a U K w0 w) (p : Nat) (k : Nat) (v : Value) (h1 : N ≤ p) (h2 : p ≠ cb) (h3 : p ≠ N + 1 + 1) (h4 : p ≠ pb) : EnvR N cb pb a U K w0 (w.setCell ⟨p, k, none⟩ v) :=
  ⟨h.cph.setOther _ _ (Ne.symm h2), h.bck.setOther _ _ (Ne.symm h4), h.res.setOther _ _ (Ne.symm h3), h.bel.setCell h1 _⟩
theorem EnvR.alloc {N cb pb : Nat} {a : Value} {U K : List UInt8} {w0 w : World} (h : EnvR N cb pb a U K w0 w) (ho : N ≤ w.heap.size) (o : Obj) : EnvR N cb pb a U K w0 (w.alloc o) := ⟨h.cph.alloc _, h.bck.alloc _, h.res.alloc _, h.bel.alloc ho _⟩
set_option maxRecDepth 1000000 in
set_option maxHeartbeats 4000000 in
theorem back19_any (T K : List UInt8) (hT : T.length = 256) (cb pb sb : Nat) (u0 u1 u2 u3 u4 u8 u9 u10 u11 u12 u13 u14 u15 u16 u17 u18 u19 u20 u21 u22 u23 u24 u25 u26 u27 u28 u29 u30 u31 u32 u33 u34 u35 u36 u37 u38 u39 u40 u41 u42 u43 u44 u45 u46 u47 u48 u49 u50 u51 u52 u53 u54 u55 u56 u57 u58 u59 u60 u61 u62 u63 u64 u65 u66 u67 u68 u69 u70 u71 u72 u73 u74 u75 u76 u77 u78 u79 u80 u81 u82 u83 u84 u85 u86 u87 u88 u89 u90 u91 u92 u93 u94 u95 u96 u97 u98 u99 u100 u101 u102 u103 u104 u105 u106 u107 u108 u109 u110 u111 u112 u113 u114 u115 u116 u117 u118 u119 : Value) (w : World) (r0 : Row w cb 52 (cip (.pointer (some ⟨sb, 0, none⟩)) K)) (rt : Row w sb 66 (ag T)) (hcp : cb < pb) (hsp : sb < pb) (gp : Row w pb 66 (ag (Gf.zeros 256))) :
    Code.wp Tryd.prog ((Tryd.f37.body.bind (inBlock 0)).getD .skip) (fun e a' w' => e = .exit 0 ∧ (∃ v7 v18 v19 v20 v21 v22 v23 v24 v25 v26 v27 v28 v29 v30 : Value, a' = ⟨List.toArray (u0 :: u1 :: u2 :: u3 :: u4 :: .pointer (some ⟨cb, 0, none⟩) :: .pointer (some ⟨pb, 0, none⟩) :: v7 :: u8 :: u9 :: u10 :: u11 :: u12 :: u13 :: u14 :: u15 :: u16 :: u17 :: v18 :: v19 :: v20 :: v21 :: v22 :: v23 :: v24 :: v25 :: v26 :: v27 :: v28 :: v29 :: v30 :: u31 :: u32 :: u33 :: u34 :: u35 :: u36 :: u37 :: u38 :: u39 :: u40 :: u41 :: u42 :: u43 :: u44 :: u45 :: u46 :: u47 :: u48 :: u49 :: u50 :: u51 :: u52 :: u53 :: u54 :: u55 :: u56 :: u57 :: u58 :: u59 :: u60 :: u61 :: u62 :: u63 :: u64 :: u65 :: u66 :: u67 :: u68 :: u69 :: u70 :: u71 :: u72 :: u73 :: u74 :: u75 :: u76 :: u77 :: u78 :: u79 :: u80 :: u81 :: u82 :: u83 :: u84 :: u85 :: u86 :: u87 :: u88 :: u89 :: u90 :: u91 :: u92 :: u93 :: u94 :: u95 :: u96 :: u97 :: u98 :: u99 :: u100 :: u101 :: u102 :: u103 :: u104 :: u105 :: u106 :: u107 :: u108 :: u109 :: u110 :: u111 :: u112 :: u113 :: u114 :: u115 :: u116 :: u117 :: u118 :: u119 :: []), []⟩) ∧ Row w' pb 66 (ag (Gf.orig T)) ∧ Below pb w w') ⟨List.toArray (u0 :: u1 :: u2 :: u3 :: u4 :: .pointer (some ⟨cb, 0, none⟩) :: .pointer (some ⟨pb, 0, none⟩) :: .int .i64 0 :: u8 :: u9 :: u10 :: u11 :: u12 :: u13 :: u14 :: u15 :: u16 :: u17 :: u18 :: u19 :: u20 :: u21 :: u22 :: u23 :: u24 :: u25 :: u26 :: u27 :: u28 :: u29 :: u30 :: u31 :: u32 :: u33 :: u34 :: u35 :: u36 :: u37 :: u38 :: u39 :: u40 :: u41 :: u42 :: u43 :: u44 :: u45 :: u46 :: u47 :: u48 :: u49 :: u50 :: u51 :: u52 :: u53 :: u54 :: u55 :: u56 :: u57 :: u58 :: u59 :: u60 :: u61 :: u62 :: u63 :: u64 :: u65 :: u66 :: u67 :: u68 :: u69 :: u70 :: u71 :: u72 :: u73 :: u74 :: u75 :: u76 :: u77 :: u78 :: u79 :: u80 :: u81 :: u82 :: u83 :: u84 :: u85 :: u86 :: u87 :: u88 :: u89 :: u90 :: u91 :: u92 :: u93 :: u94 :: u95 :: u96 :: u97 :: u98 :: u99 :: u100 :: u101 :: u102 :: u103 :: u104 :: u105 :: u106 :: u107 :: u108 :: u109 :: u110 :: u111 :: u112 :: u113 :: u114 :: u115 :: u116 :: u117 :: u118 :: u119 :: []), []⟩ w := by
  conv => arg 2; whnf
  go_loopw [7] (fun i wr' => ∃ k : Nat, k ≤ 256 ∧ i = .int .i64 k ∧ Row wr' pb 66 (ag (Gf.origTo T k)) ∧ Below pb w wr') (fun i _ => 256 - (intOf i).toNat)
  case atStart => exact ⟨0, by omega, rfl, gp, Below.refl _ _⟩
  case round =>
    obtain ⟨k, hk, rfl, h1, hbl⟩ := hrel
    have f0 := r0.below hbl hcp
    have ft := rt.below hbl hsp
    clear r0 rt gp
    by_cases hlt : k < 256
    · have c0 := ft.byte (k := k) (by rw [hT]; exact hlt)
      have hE : Hid (Gf.origTo T (k + 1) = (Gf.origTo T k).set (T.getD k 0).toNat (UInt8.ofNat k)) := rfl
      generalize T.getD k 0 = x at *
      have hxl : x.toNat < 256 := x.toNat_lt
      have c1 := h1.byte (k := x.toNat) (by rw [Gf.origTo_len]; exact hxl)
      have f1 := h1.frozen x.toNat
      have cc : wr.cell? ⟨cb, 0, none⟩ = some (.pointer (some ⟨sb, 0, none⟩)) := by rw [f0.cell]; exact cip_cell0 _ _
      have hu : Hid ((UInt8.ofNat k).toNat = k) := UInt8.toNat_ofNat_of_lt' hlt
      go_wp2
      refine ⟨⟨k + 1, by omega, by go_num, ?_, hbl.setCell (by simp) _⟩, by simp [intOf]; omega⟩
      have := h1.setByte x.toNat (UInt8.ofNat k)
      rw [hu.out] at this
      rw [hE.out]; exact this
    · have hk' : k = 256 := by omega
      subst hk'
      have hs : Row wr pb 66 (ag (Gf.orig T)) := h1
      clear h1
      generalize Gf.orig T = U at *
      go_wp2
      exact ⟨trivial, ⟨_, _, _, _, _, _, _, _, _, _, _, _, _, _, rfl⟩, hs, hbl⟩
set_option maxRecDepth 1000000 in
set_option maxHeartbeats 4000000 in
theorem perm19_any (U K s b : List UInt8) (a : Value) (hU : U.length = 256) (hl : s.length = 16) (hb : b.length = 16) (N cb pb p : Nat) (w0 : World) (h1 : N + 1 + 1 < cb) (h2 : cb < pb) (h3 : pb < p) (u0 u1 u2 u4 u5 u7 u8 u10 u11 u12 u14 u15 u16 u17 u18 u19 u20 u21 u22 u23 u24 u25 u26 u27 u28 u29 u30 u31 u32 u33 u34 u35 u36 u37 u38 u39 u40 u41 u42 u43 u44 u45 u46 u47 u48 u49 u50 u51 u52 u53 u54 u55 u56 u57 u58 u59 u60 u61 u62 u63 u64 u65 u66 u67 u68 u69 u70 u71 u72 u73 u74 u75 u76 u77 u78 u79 u80 u81 u82 u83 u84 u85 u86 u87 u88 u89 u90 u91 u92 u93 u94 u95 u96 u97 u98 u99 u100 u101 u102 u103 u104 u105 u106 u107 u108 u109 u110 u111 u112 u113 u114 u115 u116 u117 u118 u119 : Value) (w : World) (r1 : Row w (N + 1) 23 (ag b)) (rp : Row w p 23 (ag s)) (rv : EnvR N cb pb a U K w0 w) :
    Code.wp Tryd.prog ((Tryd.f37.body.bind (inBlock 8)).getD .skip) (fun e a' w' => e = .exit 8 ∧ (∃ v13 v14 v15 v94 v95 v96 v97 v98 v99 v100 v101 v102 v103 v104 v105 v106 v107 v108 v109 v110 v111 v112 v113 v114 : Value, a' = ⟨List.toArray (u0 :: u1 :: u2 :: .pointer (some ⟨N + 1, 0, none⟩) :: u4 :: u5 :: .pointer (some ⟨pb, 0, none⟩) :: u7 :: u8 :: .pointer (some ⟨p, 0, none⟩) :: u10 :: u11 :: u12 :: v13 :: v14 :: v15 :: u16 :: u17 :: u18 :: u19 :: u20 :: u21 :: u22 :: u23 :: u24 :: u25 :: u26 :: u27 :: u28 :: u29 :: u30 :: u31 :: u32 :: u33 :: u34 :: u35 :: u36 :: u37 :: u38 :: u39 :: u40 :: u41 :: u42 :: u43 :: u44 :: u45 :: u46 :: u47 :: u48 :: u49 :: u50 :: u51 :: u52 :: u53 :: u54 :: u55 :: u56 :: u57 :: u58 :: u59 :: u60 :: u61 :: u62 :: u63 :: u64 :: u65 :: u66 :: u67 :: u68 :: u69 :: u70 :: u71 :: u72 :: u73 :: u74 :: u75 :: u76 :: u77 :: u78 :: u79 :: u80 :: u81 :: u82 :: u83 :: u84 :: u85 :: u86 :: u87 :: u88 :: u89 :: u90 :: u91 :: u92 :: u93 :: v94 :: v95 :: v96 :: v97 :: v98 :: v99 :: v100 :: v101 :: v102 :: v103 :: v104 :: v105 :: v106 :: v107 :: v108 :: v109 :: v110 :: v111 :: v112 :: v113 :: v114 :: u115 :: u116 :: u117 :: u118 :: u119 :: []), []⟩) ∧ Row w' (N + 1) 23 (ag (Gf.subst U (Gf.turn s 3))) ∧ EnvR N cb pb a U K w0 w') ⟨List.toArray (u0 :: u1 :: u2 :: .pointer (some ⟨N + 1, 0, none⟩) :: u4 :: u5 :: .pointer (some ⟨pb, 0, none⟩) :: u7 :: u8 :: .pointer (some ⟨p, 0, none⟩) :: u10 :: u11 :: u12 :: .int .i64 0 :: u14 :: u15 :: u16 :: u17 :: u18 :: u19 :: u20 :: u21 :: u22 :: u23 :: u24 :: u25 :: u26 :: u27 :: u28 :: u29 :: u30 :: u31 :: u32 :: u33 :: u34 :: u35 :: u36 :: u37 :: u38 :: u39 :: u40 :: u41 :: u42 :: u43 :: u44 :: u45 :: u46 :: u47 :: u48 :: u49 :: u50 :: u51 :: u52 :: u53 :: u54 :: u55 :: u56 :: u57 :: u58 :: u59 :: u60 :: u61 :: u62 :: u63 :: u64 :: u65 :: u66 :: u67 :: u68 :: u69 :: u70 :: u71 :: u72 :: u73 :: u74 :: u75 :: u76 :: u77 :: u78 :: u79 :: u80 :: u81 :: u82 :: u83 :: u84 :: u85 :: u86 :: u87 :: u88 :: u89 :: u90 :: u91 :: u92 :: u93 :: u94 :: u95 :: u96 :: u97 :: u98 :: u99 :: u100 :: u101 :: u102 :: u103 :: u104 :: u105 :: u106 :: u107 :: u108 :: u109 :: u110 :: u111 :: u112 :: u113 :: u114 :: u115 :: u116 :: u117 :: u118 :: u119 :: []), []⟩ w := by
  conv => arg 2; whnf
  have HF : Hid (Gf.plc b s U 16 = Gf.subst U (Gf.turn s 3)) := Gf.plc_full b s U hb hl
  generalize Gf.subst U (Gf.turn s 3) = res at *
  go_loopw [13] (fun i wr' => ∃ k : Nat, k ≤ 16 ∧ i = .int .i64 k ∧ Row wr' (N + 1) 23 (ag (Gf.plc b s U k)) ∧ Row wr' p 23 (ag s) ∧ EnvR N cb pb a U K w0 wr') (fun i _ => 16 - (intOf i).toNat)
  case atStart => exact ⟨0, by omega, rfl, r1, rp, rv⟩
  case round =>
    clear r1 rp rv
    obtain ⟨k, hk, rfl, f1, fp, fv⟩ := hrel
    by_cases hk16 : k < 16
    · obtain ⟨x, hx⟩ : ∃ x, s.getD k 0 = x := ⟨_, rfl⟩
      have HE : Hid (Gf.plc b s U (k + 1) = (Gf.plc b s U k).set ((k + 4 * (k % 4)) % 16) (U.getD x.toNat 0)) := by
        show _ = _
        rw [← hx]; rfl
      obtain ⟨r, hr⟩ : ∃ r, k % 4 = r := ⟨_, rfl⟩
      obtain ⟨c, hc⟩ : ∃ c, k / 4 = c := ⟨_, rfl⟩
      obtain ⟨c', hc'⟩ : ∃ c', (c + r) % 4 = c' := ⟨_, rfl⟩
      obtain ⟨m, hm⟩ : ∃ m, 4 * c' + r = m := ⟨_, rfl⟩
      have i1 : (k : Int) % 4 = (r : Int) := by omega
      have i2 : (k : Int) / 4 = (c : Int) := by omega
      have i3 : ((c : Int) + (r : Int)) % 4 = (c' : Int) := by omega
      have i4 : r < 4 := by omega
      have i5 : c < 4 := by omega
      have i6 : c' < 4 := by omega
      have i7 : (4 : Int) * (c' : Int) + (r : Int) = (m : Int) := by omega
      have i8 : m < 16 := by omega
      have em : Hid ((k + 4 * (k % 4)) % 16 = m) := (by omega : (k + 4 * (k % 4)) % 16 = m)
      have cx := cell_form (fp.byte (k := k) (by rw [hl]; exact hk16)) hx
      have hxl : x.toNat < 256 := x.toNat_lt
      have ct := fv.bck.byte (k := x.toNat) (by rw [hU]; exact hxl)
      have cp := f1.byte (k := m) (by rw [Gf.plc_len, hb]; exact i8)
      have fz := f1.frozen m
      clear hx hr hc hc' hm HF
      generalize U.getD x.toNat 0 = y at *
      go_wp2
      refine ⟨⟨k + 1, by omega, by go_num, ?_, ?_, ?_⟩, by simp [intOf]; omega⟩
      · rw [HE.out, em.out]; exact f1.setByte m _
      · exact fp.setOther _ _ (by simp; omega)
      · exact fv.setCell (N + 1) m _ (by omega) (by omega) (by omega) (by omega)
    · have hk' : k = 16 := by omega
      subst hk'
      rw [HF.out] at f1
      go_wp2
      exact ⟨trivial, ⟨_, _, _, _, _, _, _, _, _, _, _, _, _, _, _, _, _, _, _, _, _, _, _, _, rfl⟩, f1, fv⟩
set_option maxRecDepth 1000000 in
set_option maxHeartbeats 4000000 in
theorem against19_any (U K s : List UInt8) (a : Value) (hK0 : K.length = 176) (hl : s.length = 16) (N cb pb n : Nat) (hn : n ≤ 10) (w0 : World) (h1 : N + 1 + 1 < cb) (h2 : cb < pb) (u0 u1 u2 u4 u6 u7 u9 u10 u11 u12 u13 u14 u15 u16 u17 u18 u19 u20 u21 u22 u23 u24 u25 u26 u27 u28 u29 u30 u31 u32 u33 u34 u35 u36 u37 u38 u39 u40 u41 u42 u43 u44 u45 u46 u47 u48 u49 u50 u51 u52 u53 u54 u55 u56 u57 u58 u59 u60 u61 u62 u63 u64 u65 u66 u67 u68 u69 u70 u71 u72 u73 u74 u75 u76 u77 u78 u79 u80 u81 u82 u83 u84 u85 u86 u87 u88 u89 u90 u91 u92 u93 u94 u95 u96 u97 u98 u99 u100 u101 u102 u103 u104 u105 u106 u107 u108 u109 u110 u111 u112 u113 u114 u115 u116 u117 u118 u119 : Value) (w : World) (r1 : Row w (N + 1) 23 (ag s)) (rv : EnvR N cb pb a U K w0 w) :
    Code.wp Tryd.prog ((Tryd.f37.body.bind (regOf 10)).getD .skip) (fun e a' w' => e = .normal ∧ (∃ p : Nat, ∃ v35 v36 v37 v38 v39 v40 : Value, pb < p ∧ Row w' p 23 (ag (Gf.bxor s (Gf.rk K n))) ∧ Row w' (N + 1) 23 (ag s) ∧ EnvR N cb pb a U K w0 w' ∧ a' = ⟨List.toArray (u0 :: u1 :: u2 :: .pointer (some ⟨N + 1, 0, none⟩) :: u4 :: .pointer (some ⟨cb, 0, none⟩) :: u6 :: u7 :: .int .i64 (n : Int) :: .pointer (some ⟨p, 0, none⟩) :: u10 :: u11 :: u12 :: u13 :: u14 :: u15 :: u16 :: u17 :: u18 :: u19 :: u20 :: u21 :: u22 :: u23 :: u24 :: u25 :: u26 :: u27 :: u28 :: u29 :: u30 :: u31 :: u32 :: u33 :: u34 :: v35 :: v36 :: v37 :: v38 :: v39 :: v40 :: u41 :: u42 :: u43 :: u44 :: u45 :: u46 :: u47 :: u48 :: u49 :: u50 :: u51 :: u52 :: u53 :: u54 :: u55 :: u56 :: u57 :: u58 :: u59 :: u60 :: u61 :: u62 :: u63 :: u64 :: u65 :: u66 :: u67 :: u68 :: u69 :: u70 :: u71 :: u72 :: u73 :: u74 :: u75 :: u76 :: u77 :: u78 :: u79 :: u80 :: u81 :: u82 :: u83 :: u84 :: u85 :: u86 :: u87 :: u88 :: u89 :: u90 :: u91 :: u92 :: u93 :: u94 :: u95 :: u96 :: u97 :: u98 :: u99 :: u100 :: u101 :: u102 :: u103 :: u104 :: u105 :: u106 :: u107 :: u108 :: u109 :: u110 :: u111 :: u112 :: u113 :: u114 :: u115 :: u116 :: u117 :: u118 :: u119 :: []), []⟩)) ⟨List.toArray (u0 :: u1 :: u2 :: .pointer (some ⟨N + 1, 0, none⟩) :: u4 :: .pointer (some ⟨cb, 0, none⟩) :: u6 :: u7 :: .int .i64 (n : Int) :: u9 :: u10 :: u11 :: u12 :: u13 :: u14 :: u15 :: u16 :: u17 :: u18 :: u19 :: u20 :: u21 :: u22 :: u23 :: u24 :: u25 :: u26 :: u27 :: u28 :: u29 :: u30 :: u31 :: u32 :: u33 :: u34 :: u35 :: u36 :: u37 :: u38 :: u39 :: u40 :: u41 :: u42 :: u43 :: u44 :: u45 :: u46 :: u47 :: u48 :: u49 :: u50 :: u51 :: u52 :: u53 :: u54 :: u55 :: u56 :: u57 :: u58 :: u59 :: u60 :: u61 :: u62 :: u63 :: u64 :: u65 :: u66 :: u67 :: u68 :: u69 :: u70 :: u71 :: u72 :: u73 :: u74 :: u75 :: u76 :: u77 :: u78 :: u79 :: u80 :: u81 :: u82 :: u83 :: u84 :: u85 :: u86 :: u87 :: u88 :: u89 :: u90 :: u91 :: u92 :: u93 :: u94 :: u95 :: u96 :: u97 :: u98 :: u99 :: u100 :: u101 :: u102 :: u103 :: u104 :: u105 :: u106 :: u107 :: u108 :: u109 :: u110 :: u111 :: u112 :: u113 :: u114 :: u115 :: u116 :: u117 :: u118 :: u119 :: []), []⟩ w := by
  conv => arg 2; whnf
  refine wp_region_grow 7 (by kernel_rfl) (by kernel_rfl) (fun a b => Below a.heap.size a b) (fun w => Row w (N + 1) 23 (ag s) ∧ EnvR N cb pb a U K w0 w) (fun k w v => match k with
    | 0 => v = .agg (ag s)
    | 1 => v = .int .i64 (n : Int)
    | 2 => v = .pointer (some ⟨cb, 1, none⟩)
    | 3 => v = .pointer (some ⟨cb, 1 + n * 16, none⟩)
    | 4 => v = .agg (ag (Gf.rk K n))
    | 5 => v = .agg (ag (Gf.bxor s (Gf.rk K n)))
    | 6 => ∃ p, v = .pointer (some ⟨p, 0, none⟩) ∧ pb < p ∧ p ≠ N + 1 ∧ Room w p 23 16
    | _ => True) ?_ ?_ ?_ ?_ ?_
  · rintro w w' hb ⟨c1, c2⟩
    have hp := c2.bck.lt
    exact ⟨c1.below hb c1.lt, c2.below (q := w.heap.size) (by omega) (by omega) hp hb⟩
  · intro k v w w' _ hb h
    match k, h with
    | 0, h => exact h
    | 1, h => exact h
    | 2, h => exact h
    | 3, h => exact h
    | 4, h => exact h
    | 5, h => exact h
    | 6, ⟨p, e1, e2, e3, e4⟩ => exact ⟨p, e1, e2, e3, e4.below hb (e4.elim fun _ h => h.1.lt)⟩
    | k + 7, h => trivial
  · exact ⟨r1.drew, ⟨rv.cph, rv.bck, rv.res, rv.bel.drew⟩⟩
  · refine ⟨?_, ?_, ?_, ?_, ?_, ?_, ?_, trivial⟩
    · intro f w1 hC hd KK hK
      simp only [List.take_succ_cons, List.take_zero, setAll, List.setIfInBounds_toArray, List.set_cons_succ, List.set_cons_zero, Nat.zero_add, Nat.reduceAdd] at hK ⊢
      refine wp_load_row 23 _ rfl _ rfl _ _ hC.1 _ Tryd.underlying23 rfl 16 Tryd.info23 (by rw [ag_size]; exact hl) ?_
      exact hK _ _ rfl (Below.refl _ _)
    · intro f w1 hC hd KK hK
      simp only [List.take_succ_cons, List.take_zero, setAll, List.setIfInBounds_toArray, List.set_cons_succ, List.set_cons_zero, Nat.zero_add, Nat.reduceAdd] at hK ⊢
      refine wp_of_quiet rfl ?_
      go_big_quiet_step (fail)
      exact wpQuiet_nil (hK _ _ rfl (Below.refl _ _))
    · intro f w1 hC hd KK hK
      simp only [List.take_succ_cons, List.take_zero, setAll, List.setIfInBounds_toArray, List.set_cons_succ, List.set_cons_zero, Nat.zero_add, Nat.reduceAdd] at hK ⊢
      refine wp_of_quiet rfl ?_
      go_big_quiet_step (fail)
      exact wpQuiet_nil (hK _ _ rfl (Below.refl _ _))
    · intro f w1 hC hd KK hK
      simp only [List.take_succ_cons, List.take_zero, setAll, List.setIfInBounds_toArray, List.set_cons_succ, List.set_cons_zero, Nat.zero_add, Nat.reduceAdd] at hK ⊢
      have g1 : f 1 = _ := hd 1 rfl
      have g2 : f 2 = _ := hd 2 rfl
      simp only [g1, g2] at hK ⊢
      refine wp_of_quiet rfl ?_
      go_big_quiet_step (fail)
      exact wpQuiet_nil (hK _ _ rfl (Below.refl _ _))
    · intro f w1 hC hd KK hK
      simp only [List.take_succ_cons, List.take_zero, setAll, List.setIfInBounds_toArray, List.set_cons_succ, List.set_cons_zero, Nat.zero_add, Nat.reduceAdd] at hK ⊢
      have g3 : f 3 = _ := hd 3 rfl
      simp only [g3] at hK ⊢
      refine wp_load_cip 23 _ rfl _ (n * 16) rfl _ _ _ hC.2.cph _ Tryd.underlying23 rfl 16 Tryd.info23 (by rw [hK0]; omega) ?_
      exact hK _ _ rfl (Below.refl _ _)
    · intro f w1 hC hd KK hK
      simp only [List.take_succ_cons, List.take_zero, setAll, List.setIfInBounds_toArray, List.set_cons_succ, List.set_cons_zero, Nat.zero_add, Nat.reduceAdd] at hK ⊢
      have g0 : f 0 = _ := hd 0 rfl
      have g4 : f 4 = _ := hd 4 rfl
      simp only [g0, g4] at hK ⊢
      exact wp_call 51 #[.agg (ag s), .agg (ag (Gf.rk K n))] (by simp [go_sem]) _ _ (refAgainst_any s (Gf.rk K n) hl (Gf.rk_len _ _ hK0 hn) w1) (fun w' hb => hK _ _ rfl hb)
    · intro f w1 hC hd KK hK
      simp only [List.take_succ_cons, List.take_zero, setAll, List.setIfInBounds_toArray, List.set_cons_succ, List.set_cons_zero, Nat.zero_add, Nat.reduceAdd] at hK ⊢
      have hp := hC.2.bck.lt
      refine wp_alloc_row 23 rfl _ _ Tryd.zero23' ?_
      exact hK _ _ ⟨_, rfl, hp, by omega, Room.new _ _ _ _ (by rw [ag_size]; rfl)⟩ ((Below.refl _ _).alloc (Nat.le_refl _) _)
  · intro f w1 hC hv
    have g0 : f 0 = _ := hv 0 (by decide)
    have g1 : f 1 = _ := hv 1 (by decide)
    have g2 : f 2 = _ := hv 2 (by decide)
    have g3 : f 3 = _ := hv 3 (by decide)
    have g4 : f 4 = _ := hv 4 (by decide)
    have g5 : f 5 = _ := hv 5 (by decide)
    obtain ⟨p, g6, hp1, hp2, hp3⟩ := hv 6 (by decide)
    simp only [List.take_succ_cons, List.take_zero, List.drop_succ_cons, List.drop_zero, setAll, List.setIfInBounds_toArray, List.set_cons_succ, List.set_cons_zero, Nat.zero_add, Nat.reduceAdd, g0, g1, g2, g3, g4, g5, g6]
    clear g0 g1 g2 g3 g4 g5 g6 hv
    have l9 := Gf.bxor_len s (Gf.rk K n)
    have z1 := hC.1.setRowOther p (ag (Gf.bxor s (Gf.rk K n))) (Ne.symm hp2)
    have zv := hC.2.store p (ag (Gf.bxor s (Gf.rk K n))) (by omega) (by omega) (by omega) (by omega)
    have zp := hp3.setRow (ag (Gf.bxor s (Gf.rk K n)))
    go_wp2_with (refine wpList_store_row rfl 23 _ _ rfl _ rfl _ rfl _ _ hp3 Tryd.info23 (by rw [ag_size]; exact l9) (ag_one _) ?_)

end Go.Proofs.YtmolhljgmaoflaaDoor
