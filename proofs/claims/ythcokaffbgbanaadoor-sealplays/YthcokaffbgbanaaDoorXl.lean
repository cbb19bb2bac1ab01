/- The walk of the reference's Decrypt. -/
import Derived.Test.YthcokaffbgbanaaDoorXh
import Derived.Test.YthcokaffbgbanaaDoorXk
import Derived.Test.YthcokaffbgbanaaDoorXa
import Derived.Test.YthcokaffbgbanaaDoorXf
namespace Go.Proofs.YthcokaffbgbanaaDoor
open Go.RowKit Go.BigFrame

theorem Tryd.zero23' : (Tryd.prog.info? 23).map (fun i => (i.zero, i.size)) = some (some (.agg (ag (Gf.zeros 16))), 16) := by kernel_rfl
theorem wp_load_cip {P : Program} {op : Oper} {a : Act} {w : World} {Q : Exit → Act → World → Prop} {KK : Act → World → Prop} (ty : TypeId) (x : Operand) (ho : op.op = .load ty x) (b o : Nat) (hx : a.eval x = .pointer (some ⟨b, 1 + o, none⟩))
    (t : TypeId) (v : Value) (l : List UInt8) (hr : Row w b t (cip v l)) (d : TypeDesc) (hu : P.underlying ty = some d) (hd : d.isRow = true) (n : Nat) (hi : (P.info? ty).map (·.size) = some n) (hn : o + n ≤ l.length)
    (h : KK (a.put op.dst (.agg (ag ((l.drop o).take n)))) w) : op.wp P a w KK Q := by
  have hrun := run_loadAt_mid (P := P) w b (1 + o) ty _ d (cip_range hr o n) hu hd (by rw [hi]; simp; omega)
  unfold Oper.wp execOp
  simp only [ho, hx, Sem.run_bind, hrun, Result.andThen_ok]
  exact h
/-- A fact put away. -/
structure Box (p : Prop) : Prop where
  out : p
theorem Gf.decStep_lt (T U K b : List UInt8) (j n : Nat) (h : j + n = 10) (h9 : n < 10) : Gf.subst U (Gf.turn (Gf.unmixL (Gf.bxor (Gf.decTo T U K b j) (Gf.rk K n))) 3) = Gf.decTo T U K b (j + 1) := by
  have e : 10 - j = n := by omega
  simp only [Gf.decTo, e, if_pos h9]
theorem Gf.decStep_ge (T U K b : List UInt8) (j n : Nat) (h : j + n = 10) (h9 : ¬ n < 10) : Gf.subst U (Gf.turn (Gf.bxor (Gf.decTo T U K b j) (Gf.rk K n)) 3) = Gf.decTo T U K b (j + 1) := by
  have e : 10 - j = n := by omega
  simp only [Gf.decTo, e, if_neg h9]
/-- What stands while a block goes back through the reference's rounds. -/
structure EnvR (N cb pb : Nat) (a : Value) (U K : List UInt8) (w0 w : World) : Prop where
  cph : Row w cb 108 (cip a K)
  bck : Row w pb 118 (ag U)
  res : Room w (N + 1 + 1) 23 16
  bel : Below N w0 w
theorem EnvR.below {N cb pb q : Nat} {a : Value} {U K : List UInt8} {w0 w w' : World} (h : EnvR N cb pb a U K w0 w) (h1 : N + 1 + 1 < q) (h2 : cb < q) (h3 : pb < q) (hb : Below q w w') : EnvR N cb pb a U K w0 w' :=
  ⟨h.cph.below hb h2, h.bck.below hb h3, h.res.below hb h1, h.bel.trans (hb.mono (by omega))⟩
theorem EnvR.store {N cb pb : Nat} {a : Value} {U K : List UInt8} {w0 w : World} (h : EnvR N cb pb a U K w0 w) (p : Nat) (c : Array Value) (h1 : N ≤ p) (h2 : p ≠ cb) (h3 : p ≠ N + 1 + 1) (h4 : p ≠ pb) : EnvR N cb pb a U K w0 (w.setRow p c) :=
  ⟨h.cph.setRowOther _ _ (Ne.symm h2), h.bck.setRowOther _ _ (Ne.symm h4), h.res.setRowOther _ _ (Ne.symm h3), below_setRow h.bel h1 _⟩
theorem EnvR.setCell {N cb pb : Nat} {a : Value} {U K : List UInt8} {w0 w : World} (h : EnvR N cb pb a U K w0 w) (p : Nat) (k : Nat) (v : Value) (h1 : N ≤ p) (h2 : p ≠ cb) (h3 : p ≠ N + 1 + 1) (h4 : p ≠ pb) : EnvR N cb pb a U K w0 (w.setCell ⟨p, k, none⟩ v) :=
  ⟨h.cph.setOther _ _ (Ne.symm h2), h.bck.setOther _ _ (Ne.symm h4), h.res.setOther _ _ (Ne.symm h3), h.bel.setCell h1 _⟩
theorem EnvR.alloc {N cb pb : Nat} {a : Value} {U K : List UInt8} {w0 w : World} (h : EnvR N cb pb a U K w0 w) (ho : N ≤ w.heap.size) (o : Obj) : EnvR N cb pb a U K w0 (w.alloc o) := ⟨h.cph.alloc _, h.bck.alloc _, h.res.alloc _, h.bel.alloc ho _⟩
set_option maxRecDepth 1000000 in
set_option maxHeartbeats 4000000 in
theorem back19_any (T K : List UInt8) (hT : T.length = 256) (cb pb sb : Nat) (u0 u1 u2 u3 u4 u8 u9 u10 u11 u12 u13 u14 u15 u16 u17 u18 u19 u20 u21 u22 u23 u24 u25 u26 u27 u28 u29 u30 u31 u32 u33 u34 u35 u36 u37 u38 u39 u40 u41 u42 u43 u44 u45 u46 u47 u48 u49 u50 u51 u52 u53 u54 u55 u56 u57 u58 u59 u60 u61 u62 u63 u64 u65 u66 u67 u68 u69 u70 u71 u72 u73 u74 u75 u76 u77 u78 u79 u80 u81 u82 u83 u84 u85 u86 u87 u88 u89 u90 u91 u92 u93 u94 u95 u96 u97 u98 u99 u100 u101 u102 u103 u104 u105 u106 u107 u108 u109 u110 u111 u112 u113 u114 u115 u116 u117 u118 u119 : Value) (w : World) (r0 : Row w cb 108 (cip (.pointer (some ⟨sb, 0, none⟩)) K)) (rt : Row w sb 118 (ag T)) (hcp : cb < pb) (hsp : sb < pb) (gp : Row w pb 118 (ag (Gf.zeros 256))) :
    Code.wp Tryd.prog ((Tryd.f62.body.bind (inBlock 0)).getD .skip) (fun e a' w' => e = .exit 0 ∧ (∃ v7 v18 v19 v20 v21 v22 v23 v24 v25 v26 v27 v28 v29 v30 : Value, a' = ⟨List.toArray (u0 :: u1 :: u2 :: u3 :: u4 :: .pointer (some ⟨cb, 0, none⟩) :: .pointer (some ⟨pb, 0, none⟩) :: v7 :: u8 :: u9 :: u10 :: u11 :: u12 :: u13 :: u14 :: u15 :: u16 :: u17 :: v18 :: v19 :: v20 :: v21 :: v22 :: v23 :: v24 :: v25 :: v26 :: v27 :: v28 :: v29 :: v30 :: u31 :: u32 :: u33 :: u34 :: u35 :: u36 :: u37 :: u38 :: u39 :: u40 :: u41 :: u42 :: u43 :: u44 :: u45 :: u46 :: u47 :: u48 :: u49 :: u50 :: u51 :: u52 :: u53 :: u54 :: u55 :: u56 :: u57 :: u58 :: u59 :: u60 :: u61 :: u62 :: u63 :: u64 :: u65 :: u66 :: u67 :: u68 :: u69 :: u70 :: u71 :: u72 :: u73 :: u74 :: u75 :: u76 :: u77 :: u78 :: u79 :: u80 :: u81 :: u82 :: u83 :: u84 :: u85 :: u86 :: u87 :: u88 :: u89 :: u90 :: u91 :: u92 :: u93 :: u94 :: u95 :: u96 :: u97 :: u98 :: u99 :: u100 :: u101 :: u102 :: u103 :: u104 :: u105 :: u106 :: u107 :: u108 :: u109 :: u110 :: u111 :: u112 :: u113 :: u114 :: u115 :: u116 :: u117 :: u118 :: u119 :: []), []⟩) ∧ Row w' pb 118 (ag (Gf.orig T)) ∧ Below pb w w') ⟨List.toArray (u0 :: u1 :: u2 :: u3 :: u4 :: .pointer (some ⟨cb, 0, none⟩) :: .pointer (some ⟨pb, 0, none⟩) :: .int .i64 0 :: u8 :: u9 :: u10 :: u11 :: u12 :: u13 :: u14 :: u15 :: u16 :: u17 :: u18 :: u19 :: u20 :: u21 :: u22 :: u23 :: u24 :: u25 :: u26 :: u27 :: u28 :: u29 :: u30 :: u31 :: u32 :: u33 :: u34 :: u35 :: u36 :: u37 :: u38 :: u39 :: u40 :: u41 :: u42 :: u43 :: u44 :: u45 :: u46 :: u47 :: u48 :: u49 :: u50 :: u51 :: u52 :: u53 :: u54 :: u55 :: u56 :: u57 :: u58 :: u59 :: u60 :: u61 :: u62 :: u63 :: u64 :: u65 :: u66 :: u67 :: u68 :: u69 :: u70 :: u71 :: u72 :: u73 :: u74 :: u75 :: u76 :: u77 :: u78 :: u79 :: u80 :: u81 :: u82 :: u83 :: u84 :: u85 :: u86 :: u87 :: u88 :: u89 :: u90 :: u91 :: u92 :: u93 :: u94 :: u95 :: u96 :: u97 :: u98 :: u99 :: u100 :: u101 :: u102 :: u103 :: u104 :: u105 :: u106 :: u107 :: u108 :: u109 :: u110 :: u111 :: u112 :: u113 :: u114 :: u115 :: u116 :: u117 :: u118 :: u119 :: []), []⟩ w := by
  conv => arg 2; whnf
  go_loopw [7] (fun i wr' => ∃ k : Nat, k ≤ 256 ∧ i = .int .i64 k ∧ Row wr' pb 118 (ag (Gf.origTo T k)) ∧ Below pb w wr') (fun i _ => 256 - (intOf i).toNat)
  case atStart => exact ⟨0, by omega, rfl, gp, Below.refl _ _⟩
  case round =>
    obtain ⟨k, hk, rfl, h1, hbl⟩ := hrel
    have f0 := r0.below hbl hcp
    have ft := rt.below hbl hsp
    clear r0 rt gp
    by_cases hlt : k < 256
    · have c0 := ft.byte (k := k) (by rw [hT]; exact hlt)
      have hE : Hid (Gf.origTo T (k + 1) = (Gf.origTo T k).set (T.getD k 0).toNat (UInt8.ofNat k)) := rfl
      generalize T.getD k 0 = x at *
      have hxl : x.toNat < 256 := x.toNat_lt
      have c1 := h1.byte (k := x.toNat) (by rw [Gf.origTo_len]; exact hxl)
      have f1 := h1.frozen x.toNat
      have cc : wr.cell? ⟨cb, 0, none⟩ = some (.pointer (some ⟨sb, 0, none⟩)) := by rw [f0.cell]; exact cip_cell0 _ _
      have hu : Hid ((UInt8.ofNat k).toNat = k) := UInt8.toNat_ofNat_of_lt' hlt
      go_wp2
      refine ⟨⟨k + 1, by omega, by go_num, ?_, hbl.setCell (by simp) _⟩, by simp [intOf]; omega⟩
      have := h1.setByte x.toNat (UInt8.ofNat k)
      rw [hu.out] at this
      rw [hE.out]; exact this
    · have hk' : k = 256 := by omega
      subst hk'
      have hs : Row wr pb 118 (ag (Gf.orig T)) := h1
      clear h1
      generalize Gf.orig T = U at *
      go_wp2
      exact ⟨trivial, ⟨_, _, _, _, _, _, _, _, _, _, _, _, _, _, rfl⟩, hs, hbl⟩
set_option maxRecDepth 1000000 in
set_option maxHeartbeats 4000000 in
theorem perm19_any (U K s b : List UInt8) (a : Value) (hU : U.length = 256) (hl : s.length = 16) (hb : b.length = 16) (N cb pb p : Nat) (w0 : World) (h1 : N + 1 + 1 < cb) (h2 : cb < pb) (h3 : pb < p) (u0 u1 u2 u4 u5 u7 u8 u10 u11 u12 u14 u15 u16 u17 u18 u19 u20 u21 u22 u23 u24 u25 u26 u27 u28 u29 u30 u31 u32 u33 u34 u35 u36 u37 u38 u39 u40 u41 u42 u43 u44 u45 u46 u47 u48 u49 u50 u51 u52 u53 u54 u55 u56 u57 u58 u59 u60 u61 u62 u63 u64 u65 u66 u67 u68 u69 u70 u71 u72 u73 u74 u75 u76 u77 u78 u79 u80 u81 u82 u83 u84 u85 u86 u87 u88 u89 u90 u91 u92 u93 u94 u95 u96 u97 u98 u99 u100 u101 u102 u103 u104 u105 u106 u107 u108 u109 u110 u111 u112 u113 u114 u115 u116 u117 u118 u119 : Value) (w : World) (r1 : Row w (N + 1) 23 (ag b)) (rp : Row w p 23 (ag s)) (rv : EnvR N cb pb a U K w0 w) :
    Code.wp Tryd.prog ((Tryd.f62.body.bind (inBlock 8)).getD .skip) (fun e a' w' => e = .exit 8 ∧ (∃ v13 v14 v15 v94 v95 v96 v97 v98 v99 v100 v101 v102 v103 v104 v105 v106 v107 v108 v109 v110 v111 v112 v113 v114 : Value, a' = ⟨List.toArray (u0 :: u1 :: u2 :: .pointer (some ⟨N + 1, 0, none⟩) :: u4 :: u5 :: .pointer (some ⟨pb, 0, none⟩) :: u7 :: u8 :: .pointer (some ⟨p, 0, none⟩) :: u10 :: u11 :: u12 :: v13 :: v14 :: v15 :: u16 :: u17 :: u18 :: u19 :: u20 :: u21 :: u22 :: u23 :: u24 :: u25 :: u26 :: u27 :: u28 :: u29 :: u30 :: u31 :: u32 :: u33 :: u34 :: u35 :: u36 :: u37 :: u38 :: u39 :: u40 :: u41 :: u42 :: u43 :: u44 :: u45 :: u46 :: u47 :: u48 :: u49 :: u50 :: u51 :: u52 :: u53 :: u54 :: u55 :: u56 :: u57 :: u58 :: u59 :: u60 :: u61 :: u62 :: u63 :: u64 :: u65 :: u66 :: u67 :: u68 :: u69 :: u70 :: u71 :: u72 :: u73 :: u74 :: u75 :: u76 :: u77 :: u78 :: u79 :: u80 :: u81 :: u82 :: u83 :: u84 :: u85 :: u86 :: u87 :: u88 :: u89 :: u90 :: u91 :: u92 :: u93 :: v94 :: v95 :: v96 :: v97 :: v98 :: v99 :: v100 :: v101 :: v102 :: v103 :: v104 :: v105 :: v106 :: v107 :: v108 :: v109 :: v110 :: v111 :: v112 :: v113 :: v114 :: u115 :: u116 :: u117 :: u118 :: u119 :: []), []⟩) ∧ Row w' (N + 1) 23 (ag (Gf.subst U (Gf.turn s 3))) ∧ EnvR N cb pb a U K w0 w') ⟨List.toArray (u0 :: u1 :: u2 :: .pointer (some ⟨N + 1, 0, none⟩) :: u4 :: u5 :: .pointer (some ⟨pb, 0, none⟩) :: u7 :: u8 :: .pointer (some ⟨p, 0, none⟩) :: u10 :: u11 :: u12 :: .int .i64 0 :: u14 :: u15 :: u16 :: u17 :: u18 :: u19 :: u20 :: u21 :: u22 :: u23 :: u24 :: u25 :: u26 :: u27 :: u28 :: u29 :: u30 :: u31 :: u32 :: u33 :: u34 :: u35 :: u36 :: u37 :: u38 :: u39 :: u40 :: u41 :: u42 :: u43 :: u44 :: u45 :: u46 :: u47 :: u48 :: u49 :: u50 :: u51 :: u52 :: u53 :: u54 :: u55 :: u56 :: u57 :: u58 :: u59 :: u60 :: u61 :: u62 :: u63 :: u64 :: u65 :: u66 :: u67 :: u68 :: u69 :: u70 :: u71 :: u72 :: u73 :: u74 :: u75 :: u76 :: u77 :: u78 :: u79 :: u80 :: u81 :: u82 :: u83 :: u84 :: u85 :: u86 :: u87 :: u88 :: u89 :: u90 :: u91 :: u92 :: u93 :: u94 :: u95 :: u96 :: u97 :: u98 :: u99 :: u100 :: u101 :: u102 :: u103 :: u104 :: u105 :: u106 :: u107 :: u108 :: u109 :: u110 :: u111 :: u112 :: u113 :: u114 :: u115 :: u116 :: u117 :: u118 :: u119 :: []), []⟩ w := by
  conv => arg 2; whnf
  have HF : Hid (Gf.plc b s U 16 = Gf.subst U (Gf.turn s 3)) := Gf.plc_full b s U hb hl
  generalize Gf.subst U (Gf.turn s 3) = res at *
  go_loopw [13] (fun i wr' => ∃ k : Nat, k ≤ 16 ∧ i = .int .i64 k ∧ Row wr' (N + 1) 23 (ag (Gf.plc b s U k)) ∧ Row wr' p 23 (ag s) ∧ EnvR N cb pb a U K w0 wr') (fun i _ => 16 - (intOf i).toNat)
  case atStart => exact ⟨0, by omega, rfl, r1, rp, rv⟩
  case round =>
    clear r1 rp rv
    obtain ⟨k, hk, rfl, f1, fp, fv⟩ := hrel
    by_cases hk16 : k < 16
    · obtain ⟨x, hx⟩ : ∃ x, s.getD k 0 = x := ⟨_, rfl⟩
      have HE : Hid (Gf.plc b s U (k + 1) = (Gf.plc b s U k).set ((k + 4 * (k % 4)) % 16) (U.getD x.toNat 0)) := by
        show _ = _
        rw [← hx]; rfl
      obtain ⟨r, hr⟩ : ∃ r, k % 4 = r := ⟨_, rfl⟩
      obtain ⟨c, hc⟩ : ∃ c, k / 4 = c := ⟨_, rfl⟩
      obtain ⟨c', hc'⟩ : ∃ c', (c + r) % 4 = c' := ⟨_, rfl⟩
      obtain ⟨m, hm⟩ : ∃ m, 4 * c' + r = m := ⟨_, rfl⟩
      have i1 : (k : Int) % 4 = (r : Int) := by omega
      have i2 : (k : Int) / 4 = (c : Int) := by omega
      have i3 : ((c : Int) + (r : Int)) % 4 = (c' : Int) := by omega
      have i4 : r < 4 := by omega
      have i5 : c < 4 := by omega
      have i6 : c' < 4 := by omega
      have i7 : (4 : Int) * (c' : Int) + (r : Int) = (m : Int) := by omega
      have i8 : m < 16 := by omega
      have em : Hid ((k + 4 * (k % 4)) % 16 = m) := (by omega : (k + 4 * (k % 4)) % 16 = m)
      have cx := cell_form (fp.byte (k := k) (by rw [hl]; exact hk16)) hx
      have hxl : x.toNat < 256 := x.toNat_lt
      have ct := fv.bck.byte (k := x.toNat) (by rw [hU]; exact hxl)
      have cp := f1.byte (k := m) (by rw [Gf.plc_len, hb]; exact i8)
      have fz := f1.frozen m
      clear hx hr hc hc' hm HF
      generalize U.getD x.toNat 0 = y at *
      go_wp2
      refine ⟨⟨k + 1, by omega, by go_num, ?_, ?_, ?_⟩, by simp [intOf]; omega⟩
      · rw [HE.out, em.out]; exact f1.setByte m _
      · exact fp.setOther _ _ (by simp; omega)
      · exact fv.setCell (N + 1) m _ (by omega) (by omega) (by omega) (by omega)
    · have hk' : k = 16 := by omega
      subst hk'
      rw [HF.out] at f1
      go_wp2
      exact ⟨trivial, ⟨_, _, _, _, _, _, _, _, _, _, _, _, _, _, _, _, _, _, _, _, _, _, _, _, rfl⟩, f1, fv⟩
set_option maxRecDepth 1000000 in
set_option maxHeartbeats 4000000 in
theorem against19_any (U K s : List UInt8) (a : Value) (hK0 : K.length = 176) (hl : s.length = 16) (N cb pb n : Nat) (hn : n ≤ 10) (w0 : World) (h1 : N + 1 + 1 < cb) (h2 : cb < pb) (u0 u1 u2 u4 u6 u7 u9 u10 u11 u12 u13 u14 u15 u16 u17 u18 u19 u20 u21 u22 u23 u24 u25 u26 u27 u28 u29 u30 u31 u32 u33 u34 u35 u36 u37 u38 u39 u40 u41 u42 u43 u44 u45 u46 u47 u48 u49 u50 u51 u52 u53 u54 u55 u56 u57 u58 u59 u60 u61 u62 u63 u64 u65 u66 u67 u68 u69 u70 u71 u72 u73 u74 u75 u76 u77 u78 u79 u80 u81 u82 u83 u84 u85 u86 u87 u88 u89 u90 u91 u92 u93 u94 u95 u96 u97 u98 u99 u100 u101 u102 u103 u104 u105 u106 u107 u108 u109 u110 u111 u112 u113 u114 u115 u116 u117 u118 u119 : Value) (w : World) (r1 : Row w (N + 1) 23 (ag s)) (rv : EnvR N cb pb a U K w0 w) :
    Code.wp Tryd.prog ((Tryd.f62.body.bind (regOf 10)).getD .skip) (fun e a' w' => e = .normal ∧ (∃ p : Nat, ∃ v35 v36 v37 v38 v39 v40 : Value, pb < p ∧ Row w' p 23 (ag (Gf.bxor s (Gf.rk K n))) ∧ Row w' (N + 1) 23 (ag s) ∧ EnvR N cb pb a U K w0 w' ∧ a' = ⟨List.toArray (u0 :: u1 :: u2 :: .pointer (some ⟨N + 1, 0, none⟩) :: u4 :: .pointer (some ⟨cb, 0, none⟩) :: u6 :: u7 :: .int .i64 (n : Int) :: .pointer (some ⟨p, 0, none⟩) :: u10 :: u11 :: u12 :: u13 :: u14 :: u15 :: u16 :: u17 :: u18 :: u19 :: u20 :: u21 :: u22 :: u23 :: u24 :: u25 :: u26 :: u27 :: u28 :: u29 :: u30 :: u31 :: u32 :: u33 :: u34 :: v35 :: v36 :: v37 :: v38 :: v39 :: v40 :: u41 :: u42 :: u43 :: u44 :: u45 :: u46 :: u47 :: u48 :: u49 :: u50 :: u51 :: u52 :: u53 :: u54 :: u55 :: u56 :: u57 :: u58 :: u59 :: u60 :: u61 :: u62 :: u63 :: u64 :: u65 :: u66 :: u67 :: u68 :: u69 :: u70 :: u71 :: u72 :: u73 :: u74 :: u75 :: u76 :: u77 :: u78 :: u79 :: u80 :: u81 :: u82 :: u83 :: u84 :: u85 :: u86 :: u87 :: u88 :: u89 :: u90 :: u91 :: u92 :: u93 :: u94 :: u95 :: u96 :: u97 :: u98 :: u99 :: u100 :: u101 :: u102 :: u103 :: u104 :: u105 :: u106 :: u107 :: u108 :: u109 :: u110 :: u111 :: u112 :: u113 :: u114 :: u115 :: u116 :: u117 :: u118 :: u119 :: []), []⟩)) ⟨List.toArray (u0 :: u1 :: u2 :: .pointer (some ⟨N + 1, 0, none⟩) :: u4 :: .pointer (some ⟨cb, 0, none⟩) :: u6 :: u7 :: .int .i64 (n : Int) :: u9 :: u10 :: u11 :: u12 :: u13 :: u14 :: u15 :: u16 :: u17 :: u18 :: u19 :: u20 :: u21 :: u22 :: u23 :: u24 :: u25 :: u26 :: u27 :: u28 :: u29 :: u30 :: u31 :: u32 :: u33 :: u34 :: u35 :: u36 :: u37 :: u38 :: u39 :: u40 :: u41 :: u42 :: u43 :: u44 :: u45 :: u46 :: u47 :: u48 :: u49 :: u50 :: u51 :: u52 :: u53 :: u54 :: u55 :: u56 :: u57 :: u58 :: u59 :: u60 :: u61 :: u62 :: u63 :: u64 :: u65 :: u66 :: u67 :: u68 :: u69 :: u70 :: u71 :: u72 :: u73 :: u74 :: u75 :: u76 :: u77 :: u78 :: u79 :: u80 :: u81 :: u82 :: u83 :: u84 :: u85 :: u86 :: u87 :: u88 :: u89 :: u90 :: u91 :: u92 :: u93 :: u94 :: u95 :: u96 :: u97 :: u98 :: u99 :: u100 :: u101 :: u102 :: u103 :: u104 :: u105 :: u106 :: u107 :: u108 :: u109 :: u110 :: u111 :: u112 :: u113 :: u114 :: u115 :: u116 :: u117 :: u118 :: u119 :: []), []⟩ w := by
  conv => arg 2; whnf
  refine wp_region_grow 7 (by kernel_rfl) (by kernel_rfl) (fun a b => Below a.heap.size a b) (fun w => Row w (N + 1) 23 (ag s) ∧ EnvR N cb pb a U K w0 w) (fun k w v => match k with
    | 0 => v = .agg (ag s)
    | 1 => v = .int .i64 (n : Int)
    | 2 => v = .pointer (some ⟨cb, 1, none⟩)
    | 3 => v = .pointer (some ⟨cb, 1 + n * 16, none⟩)
    | 4 => v = .agg (ag (Gf.rk K n))
    | 5 => v = .agg (ag (Gf.bxor s (Gf.rk K n)))
    | 6 => ∃ p, v = .pointer (some ⟨p, 0, none⟩) ∧ pb < p ∧ p ≠ N + 1 ∧ Room w p 23 16
    | _ => True) ?_ ?_ ?_ ?_ ?_
  · rintro w w' hb ⟨c1, c2⟩
    have hp := c2.bck.lt
    exact ⟨c1.below hb c1.lt, c2.below (q := w.heap.size) (by omega) (by omega) hp hb⟩
  · intro k v w w' _ hb h
    match k, h with
    | 0, h => exact h
    | 1, h => exact h
    | 2, h => exact h
    | 3, h => exact h
    | 4, h => exact h
    | 5, h => exact h
    | 6, ⟨p, e1, e2, e3, e4⟩ => exact ⟨p, e1, e2, e3, e4.below hb (e4.elim fun _ h => h.1.lt)⟩
    | k + 7, h => trivial
  · exact ⟨r1.drew, ⟨rv.cph, rv.bck, rv.res, rv.bel.drew⟩⟩
  · refine ⟨?_, ?_, ?_, ?_, ?_, ?_, ?_, trivial⟩
    · intro f w1 hC hd KK hK
      simp only [List.take_succ_cons, List.take_zero, setAll, List.setIfInBounds_toArray, List.set_cons_succ, List.set_cons_zero, Nat.zero_add, Nat.reduceAdd] at hK ⊢
      refine wp_load_row 23 _ rfl _ rfl _ _ hC.1 _ Tryd.underlying23 rfl 16 Tryd.info23 (by rw [ag_size]; exact hl) ?_
      exact hK _ _ rfl (Below.refl _ _)
    · intro f w1 hC hd KK hK
      simp only [List.take_succ_cons, List.take_zero, setAll, List.setIfInBounds_toArray, List.set_cons_succ, List.set_cons_zero, Nat.zero_add, Nat.reduceAdd] at hK ⊢
      refine wp_of_quiet rfl ?_
      go_big_quiet_step (fail)
      exact wpQuiet_nil (hK _ _ rfl (Below.refl _ _))
    · intro f w1 hC hd KK hK
      simp only [List.take_succ_cons, List.take_zero, setAll, List.setIfInBounds_toArray, List.set_cons_succ, List.set_cons_zero, Nat.zero_add, Nat.reduceAdd] at hK ⊢
      refine wp_of_quiet rfl ?_
      go_big_quiet_step (fail)
      exact wpQuiet_nil (hK _ _ rfl (Below.refl _ _))
    · intro f w1 hC hd KK hK
      simp only [List.take_succ_cons, List.take_zero, setAll, List.setIfInBounds_toArray, List.set_cons_succ, List.set_cons_zero, Nat.zero_add, Nat.reduceAdd] at hK ⊢
      have g1 : f 1 = _ := hd 1 rfl
      have g2 : f 2 = _ := hd 2 rfl
      simp only [g1, g2] at hK ⊢
      refine wp_of_quiet rfl ?_
      go_big_quiet_step (fail)
      exact wpQuiet_nil (hK _ _ rfl (Below.refl _ _))
    · intro f w1 hC hd KK hK
      simp only [List.take_succ_cons, List.take_zero, setAll, List.setIfInBounds_toArray, List.set_cons_succ, List.set_cons_zero, Nat.zero_add, Nat.reduceAdd] at hK ⊢
      have g3 : f 3 = _ := hd 3 rfl
      simp only [g3] at hK ⊢
      refine wp_load_cip 23 _ rfl _ (n * 16) rfl _ _ _ hC.2.cph _ Tryd.underlying23 rfl 16 Tryd.info23 (by rw [hK0]; omega) ?_
      exact hK _ _ rfl (Below.refl _ _)
    · intro f w1 hC hd KK hK
      simp only [List.take_succ_cons, List.take_zero, setAll, List.setIfInBounds_toArray, List.set_cons_succ, List.set_cons_zero, Nat.zero_add, Nat.reduceAdd] at hK ⊢
      have g0 : f 0 = _ := hd 0 rfl
      have g4 : f 4 = _ := hd 4 rfl
      simp only [g0, g4] at hK ⊢
      exact wp_call 80 #[.agg (ag s), .agg (ag (Gf.rk K n))] (by simp [go_sem]) _ _ (refAgainst_any s (Gf.rk K n) hl (Gf.rk_len _ _ hK0 hn) w1) (fun w' hb => hK _ _ rfl hb)
    · intro f w1 hC hd KK hK
      simp only [List.take_succ_cons, List.take_zero, setAll, List.setIfInBounds_toArray, List.set_cons_succ, List.set_cons_zero, Nat.zero_add, Nat.reduceAdd] at hK ⊢
      have hp := hC.2.bck.lt
      refine wp_alloc_row 23 rfl _ _ Tryd.zero23' ?_
      exact hK _ _ ⟨_, rfl, hp, by omega, Room.new _ _ _ _ (by rw [ag_size]; rfl)⟩ ((Below.refl _ _).alloc (Nat.le_refl _) _)
  · intro f w1 hC hv
    have g0 : f 0 = _ := hv 0 (by decide)
    have g1 : f 1 = _ := hv 1 (by decide)
    have g2 : f 2 = _ := hv 2 (by decide)
    have g3 : f 3 = _ := hv 3 (by decide)
    have g4 : f 4 = _ := hv 4 (by decide)
    have g5 : f 5 = _ := hv 5 (by decide)
    obtain ⟨p, g6, hp1, hp2, hp3⟩ := hv 6 (by decide)
    simp only [List.take_succ_cons, List.take_zero, List.drop_succ_cons, List.drop_zero, setAll, List.setIfInBounds_toArray, List.set_cons_succ, List.set_cons_zero, Nat.zero_add, Nat.reduceAdd, g0, g1, g2, g3, g4, g5, g6]
    clear g0 g1 g2 g3 g4 g5 g6 hv
    have l9 := Gf.bxor_len s (Gf.rk K n)
    have z1 := hC.1.setRowOther p (ag (Gf.bxor s (Gf.rk K n))) (Ne.symm hp2)
    have zv := hC.2.store p (ag (Gf.bxor s (Gf.rk K n))) (by omega) (by omega) (by omega) (by omega)
    have zp := hp3.setRow (ag (Gf.bxor s (Gf.rk K n)))
    go_wp2_with (refine wpList_store_row rfl 23 _ _ rfl _ rfl _ rfl _ _ hp3 Tryd.info23 (by rw [ag_size]; exact l9) (ag_one _) ?_)

end Go.Proofs.YthcokaffbgbanaaDoor

/- The walk of the reference's Decrypt: the whole. -/
namespace Go.Proofs.YthcokaffbgbanaaDoor
open Go.RowKit Go.BigFrame

set_option maxRecDepth 100000 in
set_option maxHeartbeats 8000000 in
theorem refDecrypt_any (key b : List UInt8) (hkey : key.length = 16) (hb : b.length = 16) (w : World) :
    Calls Tryd.prog 62 #[.agg (ag key), .agg (ag b)] w fun e w' => e = .returned (.agg (ag (Gf.decrypt key b))) ∧ Below w.heap.size w w' := by
  have HS : Box (Gf.sbox.length = 256) := ⟨Gf.sbox_len⟩
  have HK : Box ((Gf.keys Gf.sbox key).length = 176) := ⟨Gf.keys_len Gf.sbox key⟩
  have HU : Box ((Gf.orig Gf.sbox).length = 256) := ⟨Gf.origTo_len _ 256⟩
  obtain ⟨res, hres⟩ : ∃ res, Gf.decrypt key b = res := ⟨_, rfl⟩
  have HR : Box (Gf.bxor (Gf.decTo Gf.sbox (Gf.orig Gf.sbox) (Gf.keys Gf.sbox key) b 10) (Gf.rk (Gf.keys Gf.sbox key) 0) = res) := ⟨hres⟩
  rw [hres]
  clear hres
  go_enter Tryd.func62, Tryd.ntmps62
  go_wp2_with (first
    | (refine wpList_load_row rfl 23 _ rfl _ rfl _ _ (((Row.new _ _ _).alloc _).alloc _) _ Tryd.underlying23 rfl 16 Tryd.info23 (by rw [ag_size]; exact hkey) ?_)
    | fail)
  refine (new_any key hkey _).mono ?_
  rintro e w1 ⟨sb, rfl, rt, hb1⟩
  have r2 : Row w1 (w.heap.size + 1) 23 (ag b) := Row.below ((Row.made _ _ _ _ _ rfl (by simp)).alloc _) hb1 (by simp)
  have r3 : Room w1 (w.heap.size + 1 + 1) 23 16 := Room.below (Room.made _ _ _ _ _ rfl (by simp)) hb1 (by simp)
  have hbl : Below w.heap.size w w1 := ((((Below.refl _ _).alloc (Nat.le_refl _) _).alloc (by simp) _).alloc (by simp; omega) _).trans (hb1.mono (by simp; omega))
  have hz1 : w.heap.size + 1 + 1 < w1.heap.size := r3.elim fun _ h => h.1.lt
  have hst := rt.lt
  clear hb1
  generalize Gf.keys Gf.sbox key = KK at *
  generalize Gf.sbox = T at *
  go_wp2_with (first
    | (refine wpList_alloc_row rfl 108 rfl _ _ Tryd.zero108 ?_)
    | (refine wpList_store_row rfl 108 _ _ rfl _ rfl _ rfl _ _ (Room.new _ _ _ _ (by rw [cip_size]; show (List.replicate 176 (0 : UInt8)).length + 1 = 177; rw [List.length_replicate])) Tryd.info108 (by rw [cip_size, HK.out]) (cip_one _ _) ?_; rw [World.setRow_alloc_new])
    | (refine wpList_alloc_row rfl 118 rfl _ _ Tryd.zero118 ?_)
    | fail)
  have g0 : Row ((w1.alloc (.cells (cip (.pointer (some ⟨sb, 0, none⟩)) KK) 108)).alloc (.cells (ag (Gf.zeros 256)) 118)) w1.heap.size 108 (cip (.pointer (some ⟨sb, 0, none⟩)) KK) := (Row.new _ _ _).alloc _
  have g1 : Row ((w1.alloc (.cells (cip (.pointer (some ⟨sb, 0, none⟩)) KK) 108)).alloc (.cells (ag (Gf.zeros 256)) 118)) (w1.heap.size + 1) 118 (ag (Gf.zeros 256)) := Row.made _ _ _ _ _ rfl (by simp)
  have g2 := (rt.alloc (.cells (cip (.pointer (some ⟨sb, 0, none⟩)) KK) 108)).alloc (.cells (ag (Gf.zeros 256)) 118)
  have g3 := (r2.alloc (.cells (cip (.pointer (some ⟨sb, 0, none⟩)) KK) 108)).alloc (.cells (ag (Gf.zeros 256)) 118)
  have g4 := (r3.alloc (.cells (cip (.pointer (some ⟨sb, 0, none⟩)) KK) 108)).alloc (.cells (ag (Gf.zeros 256)) 118)
  have g5 := (hbl.alloc (by omega) (.cells (cip (.pointer (some ⟨sb, 0, none⟩)) KK) 108)).alloc (by simp; omega) (.cells (ag (Gf.zeros 256)) 118)
  clear rt r2 r3 hbl
  generalize w1.heap.size = cb at *
  refine wp_mono (back19_any T KK HS.out cb (cb + 1) sb _ _ _ _ _ _ _ _ _ _ _ _ _ _ _ _ _ _ _ _ _ _ _ _ _ _ _ _ _ _ _ _ _ _ _ _ _ _ _ _ _ _ _ _ _ _ _ _ _ _ _ _ _ _ _ _ _ _ _ _ _ _ _ _ _ _ _ _ _ _ _ _ _ _ _ _ _ _ _ _ _ _ _ _ _ _ _ _ _ _ _ _ _ _ _ _ _ _ _ _ _ _ _ _ _ _ _ _ _ _ _ _ _ _ _ _ _ _ g0 g2 (by omega) (by omega) g1) ?_
  rintro e a' w2 ⟨rfl, ⟨v7, v18, v19, v20, v21, v22, v23, v24, v25, v26, v27, v28, v29, v30, rfl⟩, fb, hb2⟩
  have f3 := g3.below hb2 (by omega)
  have fv : EnvR w.heap.size cb (cb + 1) (.pointer (some ⟨sb, 0, none⟩)) (Gf.orig T) KK w w2 := ⟨g0.below hb2 (by omega), fb, g4.below hb2 (by omega), g5.trans (hb2.mono (by omega))⟩
  clear g0 g1 g2 g3 g4 g5 hb2 fb
  generalize Gf.orig T = UU at *
  simp only [Exit.inBlock, if_true, Exit.then]
  go_wp2
  go_loopw [8] (fun i wr => ∃ (n j : Nat) (s : List UInt8), j + n = 10 ∧ Box (s = Gf.decTo T UU KK b j) ∧ s.length = 16 ∧ i = .int .i64 (n : Int) ∧ Row wr (w.heap.size + 1) 23 (ag s) ∧ EnvR w.heap.size cb (cb + 1) (.pointer (some ⟨sb, 0, none⟩)) UU KK w wr) (fun i _ => (intOf i).toNat)
  case atStart => exact ⟨10, 0, b, by omega, ⟨rfl⟩, hb, rfl, f3, fv⟩
  case round =>
    clear f3 fv
    obtain ⟨n, j, s, hn, hs, hl, rfl, h1, hv⟩ := hrel
    by_cases hlt : 1 ≤ n
    · go_wp2
      refine wp_mono (against19_any UU KK s _ HK.out hl w.heap.size cb (cb + 1) n (by omega) w (by omega) (by omega) _ _ _ _ _ _ _ _ _ _ _ _ _ _ _ _ _ _ _ _ _ _ _ _ _ _ _ _ _ _ _ _ _ _ _ _ _ _ _ _ _ _ _ _ _ _ _ _ _ _ _ _ _ _ _ _ _ _ _ _ _ _ _ _ _ _ _ _ _ _ _ _ _ _ _ _ _ _ _ _ _ _ _ _ _ _ _ _ _ _ _ _ _ _ _ _ _ _ _ _ _ _ _ _ _ _ _ _ _ _ _ _ _ _ _ _ _ _ h1 hv) ?_
      rintro e a' w3 ⟨rfl, p, v35, v36, v37, v38, v39, v40, hp, fp, f1, fv, rfl⟩
      clear h1 hv
      have ls := Gf.bxor_len s (Gf.rk KK n)
      obtain ⟨s1, hs1⟩ : ∃ s1, Gf.bxor s (Gf.rk KK n) = s1 := ⟨_, rfl⟩
      rw [hs1] at ls fp
      have H1 : Box (Gf.bxor s (Gf.rk KK n) = s1) := ⟨hs1⟩
      clear hs1
      simp only [Exit.then]
      by_cases h9 : n < 10
      · have hq : p < w3.heap.size := fp.lt
        go_wp2
        have gq : Row (w3.alloc (.cells (ag (Gf.zeros 16)) 23)) w3.heap.size 23 (ag (Gf.zeros 16)) := Row.new _ _ _
        have g1 := f1.alloc (.cells (ag (Gf.zeros 16)) 23)
        have gp := fp.alloc (.cells (ag (Gf.zeros 16)) 23)
        have gv := fv.alloc (by omega) (.cells (ag (Gf.zeros 16)) 23)
        clear f1 fp fv
        generalize w3.heap.size = q at *
        refine wp_mono (nest19_any s1 ls p q hq _ _ _ _ _ _ _ _ _ _ _ _ _ _ _ _ _ _ _ _ _ _ _ _ _ _ _ _ _ _ _ _ _ _ _ _ _ _ _ _ _ _ _ _ _ _ _ _ _ _ _ _ _ _ _ _ _ _ _ _ _ _ _ _ _ _ _ _ _ _ _ _ _ _ _ _ _ _ _ _ _ _ _ _ _ _ _ _ _ _ _ _ _ _ _ _ _ _ _ _ _ _ _ _ _ _ _ _ _ _ _ _ _ _ _ _ _ _ gp gq) ?_
        rintro e a' wb ⟨rfl, ⟨v11, v12, v43, v44, v45, v46, v47, v48, v49, v50, v51, v52, v53, v54, v55, v56, v57, v58, v59, v60, v61, v62, v63, v64, v65, v66, v67, v68, v69, v70, v71, v72, v73, v74, v75, v76, v77, v78, v79, v80, v81, v82, v83, v84, v85, v86, v87, v88, v89, v90, v91, v92, rfl⟩, bq, bb⟩
        have b1 := g1.below bb (by omega)
        have bp := gp.below bb hq
        have bv := gv.below (by omega) (by omega) (by omega) bb
        obtain ⟨s2, hs2⟩ : ∃ s2, Gf.unmixL s1 = s2 := ⟨_, rfl⟩
        have lm : s2.length = 16 := by rw [← hs2, Gf.unmixL_len]; exact ls
        rw [Gf.umix_unmix s1 ls, hs2] at bq
        have H2 : Box (Gf.unmixL s1 = s2) := ⟨hs2⟩
        clear g1 gp gq gv bb hs2
        have y1 := b1.setRowOther p (ag s2) (by omega)
        have y2 := bp.setRow (ag s2)
        have yv := bv.store p (ag s2) (by omega) (by omega) (by omega) (by omega)
        simp only [Exit.inBlock, if_true, Exit.then]
        go_wp2_with (first
          | (refine wpList_load_row rfl 23 _ rfl _ rfl _ _ bq _ Tryd.underlying23 rfl 16 Tryd.info23 (by rw [ag_size]; exact lm) ?_)
          | (refine wpList_store_row rfl 23 _ _ rfl _ rfl _ rfl _ _ (bp.room (by rw [ag_size]; exact ls)) Tryd.info23 (by rw [ag_size]; exact lm) (ag_one _) ?_)
          | fail)
        refine wp_mono (perm19_any UU KK s2 s _ HU.out lm hl w.heap.size cb (cb + 1) p w (by omega) (by omega) hp _ _ _ _ _ _ _ _ _ _ _ _ _ _ _ _ _ _ _ _ _ _ _ _ _ _ _ _ _ _ _ _ _ _ _ _ _ _ _ _ _ _ _ _ _ _ _ _ _ _ _ _ _ _ _ _ _ _ _ _ _ _ _ _ _ _ _ _ _ _ _ _ _ _ _ _ _ _ _ _ _ _ _ _ _ _ _ _ _ _ _ _ _ _ _ _ _ _ _ _ _ _ _ _ _ _ _ _ _ _ _ _ _ _ _ _ _ y1 y2 yv) ?_
        rintro e a' wc ⟨rfl, ⟨v13, v14, v15, v94, v95, v96, v97, v98, v99, v100, v101, v102, v103, v104, v105, v106, v107, v108, v109, v110, v111, v112, v113, v114, rfl⟩, z1, zv⟩
        have l9 := Gf.subst_len UU (Gf.turn s2 3)
        obtain ⟨s3, hs3⟩ : ∃ s3, Gf.subst UU (Gf.turn s2 3) = s3 := ⟨_, rfl⟩
        have hE : Box (s3 = Gf.decTo T UU KK b (j + 1)) := ⟨by rw [← hs3, ← H2.out, ← H1.out, hs.out]; exact Gf.decStep_lt T UU KK b j n hn h9⟩
        rw [hs3] at l9 z1
        clear b1 bp bq bv y1 y2 yv hs3 H1 H2 hs
        simp only [Exit.inBlock, if_true, Exit.then]
        go_wp2
        go_roundw
        case rel => exact ⟨n - 1, j + 1, s3, by omega, hE, l9, by congr 1; omega, z1, zv⟩
        case measure => simp [intOf]; omega
      · go_wp2
        refine wp_mono (perm19_any UU KK s1 s _ HU.out ls hl w.heap.size cb (cb + 1) p w (by omega) (by omega) hp _ _ _ _ _ _ _ _ _ _ _ _ _ _ _ _ _ _ _ _ _ _ _ _ _ _ _ _ _ _ _ _ _ _ _ _ _ _ _ _ _ _ _ _ _ _ _ _ _ _ _ _ _ _ _ _ _ _ _ _ _ _ _ _ _ _ _ _ _ _ _ _ _ _ _ _ _ _ _ _ _ _ _ _ _ _ _ _ _ _ _ _ _ _ _ _ _ _ _ _ _ _ _ _ _ _ _ _ _ _ _ _ _ _ _ _ _ f1 fp fv) ?_
        rintro e a' wc ⟨rfl, ⟨v13, v14, v15, v94, v95, v96, v97, v98, v99, v100, v101, v102, v103, v104, v105, v106, v107, v108, v109, v110, v111, v112, v113, v114, rfl⟩, z1, zv⟩
        have l9 := Gf.subst_len UU (Gf.turn s1 3)
        obtain ⟨s3, hs3⟩ : ∃ s3, Gf.subst UU (Gf.turn s1 3) = s3 := ⟨_, rfl⟩
        have hE : Box (s3 = Gf.decTo T UU KK b (j + 1)) := ⟨by rw [← hs3, ← H1.out, hs.out]; exact Gf.decStep_ge T UU KK b j n hn h9⟩
        rw [hs3] at l9 z1
        clear f1 fp fv hs3 H1 hs
        simp only [Exit.inBlock, if_true, Exit.then]
        go_wp2
        go_roundw
        case rel => exact ⟨n - 1, j + 1, s3, by omega, hE, l9, by congr 1; omega, z1, zv⟩
        case measure => simp [intOf]; omega
    · have hn0 : n = 0 := by omega
      have hj : j = 10 := by omega
      subst hn0
      have hR : Box (Gf.bxor s (List.take 16 KK) = res) := ⟨by rw [← HR.out, hs.out, hj]; rfl⟩
      clear hj
      clear hs HR
      go_wp2_with (first
        | (refine wpList_load_row rfl 23 (.tmp 3) rfl _ rfl _ _ h1 _ Tryd.underlying23 rfl 16 Tryd.info23 (by rw [ag_size]; exact hl) ?_)
        | (refine wpList_load_cip rfl 23 (.tmp 117) rfl _ 0 rfl _ _ _ hv.cph _ Tryd.underlying23 rfl 16 Tryd.info23 (by rw [HK.out]; omega) ?_)
        | fail)
      refine (refAgainst_any s (List.take 16 KK) hl (by rw [List.length_take, HK.out]; rfl) _).mono ?_
      rintro e w4 ⟨rfl, hb4⟩
      have hsz : cb + 1 < wr.heap.size := hv.bck.lt
      have hv4 := hv.below (q := wr.heap.size) (by omega) (by omega) (by omega) hb4
      rw [hR.out]
      have hlm : res.length = 16 := by rw [← hR.out]; exact Gf.bxor_len _ _
      clear hb4 hv h1
      go_wp2_with (refine wpList_store_row rfl 23 _ _ rfl _ rfl _ rfl _ _ hv4.res Tryd.info23 (by rw [ag_size]; exact hlm) (ag_one _) ?_)
      exact bodyPost_ret (results_row rfl _ _ rfl _ _ (hv4.res.setRow _) _ Tryd.underlying23 rfl 16 Tryd.info23 (by rw [ag_size]; exact hlm)) rfl ⟨rfl, below_setRow hv4.bel (by omega) _⟩
end Go.Proofs.YthcokaffbgbanaaDoor

/- The walk of the reference's Open. -/
namespace Go.Proofs.YthcokaffbgbanaaDoor
open Go.RowKit Go.BigFrame

set_option maxRecDepth 100000 in
set_option maxHeartbeats 16000000 in
theorem refOpen_ok (key : List UInt8) (hkey : key.length = 16) (vn vb vs : Value) (ln lb ls : List UInt8) (hn1 : 0 < ln.length) (hn2 : ln.length ≤ 15) (hlb : lb.length ≤ 65536) (hls1 : 16 ≤ ls.length) (hls : ls.length ≤ 65552) (w : World)
    (hn : Bts (· < w.heap.size) w vn ln) (hb : Bts (· < w.heap.size) w vb lb) (hp : Bts (· < w.heap.size) w vs ls) :
    Calls Tryd.prog 42 #[.agg (ag key), vn, vb, vs] w fun e w' => Below w.heap.size w w' ∧
      ((Gf.sealed key ln lb (Gf.unturned key ln ls).1 = ls ∧ ∃ v', e = .returned (.tuple #[v', .int .i64 0]) ∧ Own w.heap.size w' v' (Gf.unturned key ln ls).1) ∨
       (Gf.sealed key ln lb (Gf.unturned key ln ls).1 ≠ ls ∧ e = .returned (.tuple #[.slice none 0 0, .int .i64 20]))) := by
  obtain ⟨an, cn, rfl, hcn, hn3⟩ := hn
  obtain ⟨ab, cb, rfl, hcb, hb3⟩ := hb
  obtain ⟨ap, cp0, rfl, hcp, hp3⟩ := hp
  have hn : Bts (· < w.heap.size) w (.slice an ln.length cn) ln := ⟨an, cn, rfl, hcn, hn3⟩
  have hb : Bts (· < w.heap.size) w (.slice ab lb.length cb) lb := ⟨ab, cb, rfl, hcb, hb3⟩
  have hp : Bts (· < w.heap.size) w (.slice ap ls.length cp0) ls := ⟨ap, cp0, rfl, hcp, hp3⟩
  obtain ⟨pb, po0, rfl, hpS, hpr⟩ : ∃ b o, ap = some ⟨b, o, none⟩ ∧ b < w.heap.size ∧ w.rangeAt b o (ls.map B) := by
    rcases hp3 with rfl | h
    · simp at hls1
    · exact h
  clear hn3 hb3
  have lTK0 : (ls.take (ls.length - 16)).length = ls.length - 16 := by rw [List.length_take]; omega
  have hin0 : Bts (· < w.heap.size) w (.slice (some ⟨pb, po0, none⟩) (ls.length - 16) cp0) (ls.take (ls.length - 16)) := by
    refine ⟨_, _, by rw [lTK0], by omega, ?_⟩
    by_cases h0 : ls.length - 16 = 0
    · left; apply List.eq_nil_of_length_eq_zero; omega
    · right
      refine ⟨pb, po0, rfl, hpS, fun j u hu => hpr j u ?_⟩
      rw [List.map_take, List.getElem?_take] at hu
      split at hu
      · exact hu
      · cases hu
  clear hpr hpS
  have hbad := fun w => bad_any an ln.length cn ab lb.length cb ((ls.length : Int) - 16) (by unfold maxLen; omega) (by unfold maxLen; omega) w
  have hb0 : Gf.badE ln.length lb.length ((ls.length : Int) - 16) = 0 := by unfold Gf.badE; rw [if_neg (by omega), if_neg (by omega)]
  rw [hb0] at hbad
  clear hb0
  obtain ⟨S1, hS1⟩ : ∃ S1, (Gf.unturned key ln ls).1 = S1 := ⟨_, rfl⟩
  have lS1 : S1.length = ls.length - 16 := by rw [← hS1]; unfold Gf.unturned; rw [(Gf.turnFrom_len _ _ _ _ _ _ (Gf.begin_len _ _)).1, lTK0]
  have HR0 : Box' ([] ++ (Gf.turnFrom (Gf.decrypt key) key (Gf.star key) 1 (Gf.begin key ln) (ls.take (ls.length - 16))).1 = S1) := ⟨hS1⟩
  rw [hS1]
  clear hS1
  have lBG := Gf.begin_len key ln
  obtain ⟨N, hN⟩ : ∃ N, w.heap.size = N := ⟨_, rfl⟩
  rw [hN] at hn hb hp hin0 ⊢
  obtain ⟨SLd, hSLd⟩ : ∃ SLd, Gf.sealed key ln lb S1 = SLd := ⟨_, rfl⟩
  have hSeal : ∀ (v1 : Value) (w3 : World), Below N w w3 → N ≤ w3.heap.size → Bts (· < w3.heap.size) w3 v1 S1 → Calls Tryd.prog 36 #[.agg (ag key), .slice an ln.length cn, .slice ab lb.length cb, v1] w3 fun e w' => ∃ v', e = .returned (.tuple #[v', .int .i64 0]) ∧ Own w3.heap.size w' v' SLd ∧ Below w3.heap.size w3 w' := fun v1 w3 h1 h2 h3 => by
    rw [← hSLd]
    exact refSeal_ok key hkey _ _ v1 ln lb S1 hn1 hn2 hlb (by omega) w3 (hn.keep fun b hbb => ⟨by omega, h1.block b hbb⟩) (hb.keep fun b hbb => ⟨by omega, h1.block b hbb⟩) h3
  have hSame : ∀ (v1 : Value) (w3 : World), Bts (· < w3.heap.size) w3 v1 SLd → Below N w w3 → Calls Tryd.prog 15 #[v1, .slice (some ⟨pb, po0, none⟩) ls.length cp0] w3 fun e w' => e = .returned (.bool (decide (SLd = ls))) ∧ w' = w3 := fun v1 w3 h1 h2 =>
    refSame_any _ (· < N) _ _ SLd ls w3 h1 (hp.up fun b hbb => h2.block b hbb)
  rw [hSLd]
  have HSeal := Box'.mk hSeal
  have HSame := Box'.mk hSame
  clear hSLd hSeal hSame
  obtain ⟨Z, zs, zz⟩ : ∃ Z : Array Value, Z.size = 209 ∧ (Tryd.prog.info? 110).map (fun i => (i.zero, i.size)) = some (some (.agg Z), 209) := ⟨_, els_size _ _ _ _ (List.length_replicate) rfl rfl, Tryd.zero110⟩
  have ZZ := Box'.mk zz
  clear zz
  have b0 : Below N w (w.alloc (.cells (ag key) 23)) := by rw [← hN]; exact (Below.refl _ _).alloc (Nat.le_refl _) _
  have r0 : Row (w.alloc (.cells (ag key) 23)) N 23 (ag key) := by rw [← hN]; exact Row.new _ _ _
  have z0 : (w.alloc (.cells (ag key) 23)).heap.size = N + 1 := by simp [hN]
  go_enter Tryd.func42, Tryd.ntmps42
  go_wp2_with (first
    | (go_at_call 51; refine (hbad _).mono ?_; rintro e w1 ⟨rfl, rfl⟩)
    | (refine wpList_load_row rfl 23 (.tmp 4) rfl _ rfl _ _ r0 _ Tryd.underlying23 rfl 16 Tryd.info23 (by rw [ag_size]; exact hkey) ?_)
    | fail)
  refine (newElls_any key hkey _).mono ?_
  rintro e w1 ⟨sb, rfl, t1, hb1⟩
  have bl1 : Below N w w1 := b0.trans (hb1.mono (by omega))
  have k1 : Row w1 N 23 (ag key) := r0.below hb1 r0.lt
  have hz1 := bl1.size
  have rc : ∀ {w3 : World} {b : Nat}, Row w3 b 110 (elk key sb) → _ := fun {w3} {b} h => elk_range (w := w3) (b := b) h
  have lCP := cipk_size key sb
  have en : ∀ (b : List UInt8), b.length = 16 → ∀ w3, Row w3 sb 118 (ag Gf.sbox) → Calls Tryd.prog 57 #[.agg (cip (.pointer (some ⟨sb, 0, none⟩)) (Gf.keys Gf.sbox key)), .agg (ag b)] w3 fun e w' => e = .returned (.agg (ag (Gf.encrypt key b))) ∧ Below w3.heap.size w3 w' := fun b hb w3 h => elk_enc key b hb h
  generalize cip (.pointer (some ⟨sb, 0, none⟩)) (Gf.keys Gf.sbox key) = CP at *
  have RC := Box'.mk @rc
  have EC := Box'.mk en
  clear rc en hb1 b0 r0 z0
  have le := elk_size key sb
  have oe := elk_one key sb
  have q54 : Room (w1.alloc (.cells Z 110)) w1.heap.size 110 209 := Room.new _ _ _ _ zs
  have ba2 : Below w1.heap.size w1 (w1.alloc (.cells (elk key sb) 110)) := (Below.refl _ _).alloc (Nat.le_refl _) _
  have e2 : Row (w1.alloc (.cells (elk key sb) 110)) w1.heap.size 110 (elk key sb) := Row.new _ _ _
  have t2 := t1.below ba2 t1.lt
  have k2 := k1.below ba2 k1.lt
  have bl2 : Below N w (w1.alloc (.cells (elk key sb) 110)) := bl1.trans (ba2.mono (by omega))
  clear t1 ba2 bl1 k1
  generalize hEL : elk key sb = EL at *
  have HEL := Box'.mk hEL
  clear hEL
  go_wp2_with (first
    | (refine wpList_alloc_row rfl 110 rfl _ _ ZZ.out ?_)
    | (refine wpList_store_row rfl 110 (.tmp 11) (.tmp 34) rfl _ rfl _ rfl _ _ q54 Tryd.info110 le oe ?_; rw [World.setRow_alloc_new])
    | (refine wpList_load_row rfl 110 (.tmp 11) rfl _ rfl _ _ e2 _ Tryd.underlying110 rfl 209 Tryd.info110 le ?_)
    | fail)
  obtain rfl := HEL.out
  clear HEL le oe
  refine (refBegin_any (· < N) key _ ln hn1 hn2 _ (hn.up fun b hb => bl2.block b hb) sb t2).mono ?_
  rintro e w3 ⟨rfl, hb3⟩
  generalize hBG : Gf.begin key ln = BG at *
  clear hBG q54
  generalize hne : w1.heap.size = ne at *
  clear hne
  have e3 := e2.below hb3 e2.lt
  have t3 := t2.below hb3 t2.lt
  have k3 := k2.below hb3 k2.lt
  have bl3 : Below N w w3 := bl2.trans (hb3.mono (by have := bl2.size; omega))
  have hz3 := bl3.size
  rw [hN] at hz3
  have hkN := k3.lt
  clear e2 t2 bl2 hb3 k2
  have qz : Room (w3.alloc (.cells (ag (Gf.zeros 16)) 23)) w3.heap.size 23 16 := Room.new _ _ _ _ rfl
  have sE : En key sb N ne w3.heap.size N w (w3.alloc (.cells (ag BG) 23)) BG key := by
    have ba : Below w3.heap.size w3 (w3.alloc (.cells (ag BG) 23)) := (Below.refl _ _).alloc (Nat.le_refl _) _
    exact ⟨e3.below ba e3.lt, t3.below ba t3.lt, Row.new _ _ _, k3.below ba k3.lt, bl3.trans (ba.mono hz3), hz3, Nat.le_refl _, by omega⟩
  have em : (ls.length : Int) - 16 = ((ls.length - 16 : Nat) : Int) := by omega
  have hm0 : ls.length - 16 ≤ cp0 := by omega
  generalize hmm : ls.length - 16 = mm at *
  go_wp2_with (first
    | (refine wpList_alloc_row rfl 23 rfl _ _ Tryd.zero23 ?_)
    | (refine wpList_store_row rfl 23 (.tmp 12) (.tmp 37) rfl _ rfl _ rfl _ _ qz Tryd.info23 (by rw [ag_size]; exact lBG) (ag_one _) ?_; rw [World.setRow_alloc_new])
    | fail)
  have hBp : Bts (· < N) (w3.alloc (.cells (ag BG) 23)) (.slice (some ⟨pb, po0, none⟩) mm cp0) (ls.take mm) := hin0.up fun b hb => sE.bl.block b hb
  have oN : Own N (w3.alloc (.cells (ag BG) 23)) (.slice none 0 0) [] := Own.nil _ _
  generalize w3.alloc (.cells (ag BG) 23) = W5 at *
  generalize w3.heap.size = po at *
  clear qz e3 t3 bl3 hz3 k3 hin0 hb hn hp hbad em
  go_loopw [13, 14, 15] (fun t ou j wr => ∃ (i : Nat) (l' o out : List UInt8), 0 < i ∧ 16 * i + l'.length ≤ 65552 ∧ out.length + l'.length = mm ∧ j = .int .i64 (i : Int) ∧ Bts (· < N) wr t l' ∧ Own N wr ou out ∧ o.length = 16 ∧ En key sb N ne po N w wr o key ∧ Box' (out ++ (Gf.turnFrom (Gf.decrypt key) key (Gf.star key) i o l').1 = S1)) (fun t _ _ _ => sliceLen t)
  case atStart => exact ⟨1, ls.take mm, _, [], by omega, by omega, by simp; omega, rfl, hBp, oN, lBG, sE, HR0⟩
  case round =>
    clear hBp oN sE HR0
    obtain ⟨i, l', o, out, hi0, hi1, hlen, rfl, hB1, hOw, lo, hE, HR⟩ := hrel
    obtain ⟨a, c, rfl, hcl, h3⟩ := hB1
    obtain ⟨n, hn⟩ : ∃ n, l'.length = n := ⟨_, rfl⟩
    by_cases h16 : 16 ≤ n
    · rcases h3 with rfl | ⟨b, oo, rfl, hbN, hr⟩
      · simp at hn; omega
      have hfirst : Bts (· < N) wr (.slice (some ⟨b, oo, none⟩) 16 c) (l'.take 16) := Bts.first (by omega) hcl hbN hr
      have hrest0 : Bts (· < N) wr (rest16 b oo l'.length c) (l'.drop 16) := Bts.rest (by omega) hcl hbN hr
      have lTK : (l'.take 16).length = 16 := by rw [List.length_take]; omega
      have lDR : (l'.drop 16).length = n - 16 := by rw [List.length_drop]; omega
      have hAt := fun w => refAt_any key sb i hi0 (by omega) w
      have lLL := Gf.ell_len (Gf.star key) (Gf.star_len key) (2 + Gf.ntz i)
      have hst := HR.out
      rw [Gf.turnFrom_eq, dif_pos (by omega)] at hst
      generalize Gf.ell (Gf.star key) (2 + Gf.ntz i) = LL at *
      have hP1 := fun w => refPlus_any o LL lo lLL w
      have lo2 := Gf.bxor_len o LL
      generalize Gf.bxor o LL = o2 at *
      generalize l'.take 16 = TK at *
      have hP2 := fun w => refPlus_any TK o2 lTK lo2 w
      have lp1 := Gf.bxor_len TK o2
      generalize Gf.bxor TK o2 = p1 at *
      have hD1 := fun w => refDecrypt_any key p1 hkey lp1 w
      have le1 := Gf.decrypt_len key p1
      generalize Gf.decrypt key p1 = e1 at *
      have hP3 := fun w => refPlus_any e1 o2 le1 lo2 w
      have lx1 := Gf.bxor_len e1 o2
      generalize Gf.bxor e1 o2 = x1 at *
      have HR2 : Box' (out ++ x1 ++ (Gf.turnFrom (Gf.decrypt key) key (Gf.star key) (i + 1) o2 (l'.drop 16)).1 = S1) := ⟨by rw [List.append_assoc]; exact hst⟩
      rw [hn] at hcl hrest0 hi1 hlen
      rw [hn]
      clear hst hr HR
      go_upto_region 13 with (fail)
      refine wp_region_grow 5 (by kernel_rfl) (by kernel_rfl) (fun a b => Below a.heap.size a b) (fun w3 => En key sb N ne po N w w3 o key ∧ Own N w3 u14 out) (fun k w1 v => match k with
        | 0 => v = .agg (ag o)
        | 1 => v = .agg (elk key sb)
        | 2 => v = .int .i64 (i : Int)
        | 3 => v = .agg (ag LL)
        | 4 => v = .agg (ag o2)
        | _ => True) ?_ ?_ ?_ ?_ ?_
      · rintro a b hb ⟨c1, c2⟩
        exact ⟨c1.below hb, c2.below hb⟩
      · intro k v w1 w2 hC1 hb h
        match k, h with
        | 0, h => exact h
        | 1, h => exact h
        | 2, h => exact h
        | 3, h => exact h
        | 4, h => exact h
        | k + 5, h => trivial
      · exact ⟨hE.drew, hOw.drew⟩
      · refine ⟨?_, ?_, ?_, ?_, ?_, trivial⟩
        · intro f w1 hC hd KK hK
          simp only [List.take_succ_cons, List.take_zero, setAll, List.setIfInBounds_toArray, List.set_cons_succ, List.set_cons_zero, Nat.zero_add, Nat.reduceAdd] at hK ⊢
          refine wp_load_row 23 _ rfl _ rfl _ _ (hC.1.ro) _ Tryd.underlying23 rfl 16 Tryd.info23 (by rw [ag_size]; exact lo) ?_
          exact hK _ _ rfl (Below.refl _ _)
        · intro f w1 hC hd KK hK
          simp only [List.take_succ_cons, List.take_zero, setAll, List.setIfInBounds_toArray, List.set_cons_succ, List.set_cons_zero, Nat.zero_add, Nat.reduceAdd] at hK ⊢
          refine wp_load_row 110 _ rfl _ rfl _ _ (hC.1.el) _ Tryd.underlying110 rfl 209 Tryd.info110 (elk_size _ _) ?_
          exact hK _ _ rfl (Below.refl _ _)
        · intro f w1 hC hd KK hK
          simp only [List.take_succ_cons, List.take_zero, setAll, List.setIfInBounds_toArray, List.set_cons_succ, List.set_cons_zero, Nat.zero_add, Nat.reduceAdd] at hK ⊢
          refine wp_of_quiet rfl ?_
          go_big_quiet_step (fail)
          exact wpQuiet_nil (hK _ _ rfl (Below.refl _ _))
        · intro f w1 hC hd KK hK
          have g1 : f 1 = _ := hd 1 rfl
          have g2 : f 2 = _ := hd 2 rfl
          simp only [List.take_succ_cons, List.take_zero, setAll, List.setIfInBounds_toArray, List.set_cons_succ, List.set_cons_zero, Nat.zero_add, Nat.reduceAdd, g1, g2] at hK ⊢
          exact wp_call 56 #[.agg (elk key sb), .int .i64 (i : Int)] (by simp [go_sem]) _ _ (hAt _) (fun w' hb => hK _ _ rfl hb)
        · intro f w1 hC hd KK hK
          have g0 : f 0 = _ := hd 0 rfl
          have g3 : f 3 = _ := hd 3 rfl
          simp only [List.take_succ_cons, List.take_zero, setAll, List.setIfInBounds_toArray, List.set_cons_succ, List.set_cons_zero, Nat.zero_add, Nat.reduceAdd, g0, g3] at hK ⊢
          exact wp_call 55 #[.agg (ag o), .agg (ag LL)] (by simp [go_sem]) _ _ (hP1 _) (fun w' hb => hK _ _ rfl hb)
      · intro f w1 hC hv
        have g0 : f 0 = _ := hv 0 (by decide)
        have g1 : f 1 = _ := hv 1 (by decide)
        have g2 : f 2 = _ := hv 2 (by decide)
        have g3 : f 3 = _ := hv 3 (by decide)
        have g4 : f 4 = _ := hv 4 (by decide)
        simp only [List.take_succ_cons, List.take_zero, List.drop_succ_cons, List.drop_zero, setAll, List.setIfInBounds_toArray, List.set_cons_succ, List.set_cons_zero, Nat.zero_add, Nat.reduceAdd, g0, g1, g2, g3, g4]
        clear g0 g1 g2 g3 g4 hv
        obtain ⟨c1, c2⟩ := hC
        have sQ := c1.setO o2
        have hro := c1.ro.room (n := 16) (by rw [ag_size]; exact lo)
        have o12 := c2.setRow hro (by decide) (ag o2)
        have hF : ∀ w3, Below N w w3 → Bts (· < N) w3 (.slice (some ⟨b, oo, none⟩) 16 c) TK := fun w3 h3 => Bts.bel hfirst hE.bl h3
        clear c1 c2
        go_upto_region 14 with (first
          | (refine wpList_store_row rfl 23 (.tmp 12) (.tmp 52) rfl _ rfl _ rfl _ _ hro Tryd.info23 (by rw [ag_size]; exact lo2) (ag_one _) ?_)
          | fail)
        clear hro
        generalize w1.setRow po (ag o2) = wQ at *
        obtain ⟨Q0, hQ0⟩ : ∃ Q0, Q0 = wQ.heap.size := ⟨_, rfl⟩
        have hq1 := sQ.ro.lt
        have hq2 := sQ.rd.lt
        have hNq := sQ.n1
        rw [← hQ0] at hq1 hq2
        have HQ0 := Box'.mk hQ0
        clear hQ0
        refine wp_region_grow 10 (by kernel_rfl) (by kernel_rfl) (fun a b => Below a.heap.size a b) (fun w3 => En key sb N ne po N w w3 o2 key ∧ Own N w3 u14 out ∧ Q0 ≤ w3.heap.size) (fun k w1 v => match k with
          | 0 => v = .agg (ag key)
          | 1 => v = .slice (some ⟨b, oo, none⟩) n c
          | 2 => v = .slice (some ⟨b, oo, none⟩) 16 c
          | 3 => v = .agg (ag TK)
          | 4 => v = .agg (ag o2)
          | 5 => v = .agg (ag p1)
          | 6 => v = .agg (ag e1)
          | 7 => v = .agg (ag o2)
          | 8 => v = .agg (ag x1)
          | 9 => ∃ q, v = .pointer (some ⟨q, 0, none⟩) ∧ Room w1 q 23 16 ∧ Q0 ≤ q
          | _ => True) ?_ ?_ ?_ ?_ ?_
        · rintro a b hb ⟨c1, c2, c3⟩
          exact ⟨c1.below hb, c2.below hb, by have := hb.size; omega⟩
        · intro k v w1 w2 hC1 hb h
          match k, h with
          | 0, h => exact h
          | 1, h => exact h
          | 2, h => exact h
          | 3, h => exact h
          | 4, h => exact h
          | 5, h => exact h
          | 6, h => exact h
          | 7, h => exact h
          | 8, h => exact h
          | 9, ⟨q, e, r, hq⟩ => exact ⟨q, e, r.below hb (r.elim fun _ h => h.1.lt), hq⟩
          | k + 10, h => trivial
        · exact ⟨sQ.drew, o12.drew, by rw [HQ0.out]; exact Nat.le_refl _⟩
        · refine ⟨?_, ?_, ?_, ?_, ?_, ?_, ?_, ?_, ?_, ?_, trivial⟩
          · intro f w1 hC hd KK hK
            simp only [List.take_succ_cons, List.take_zero, setAll, List.setIfInBounds_toArray, List.set_cons_succ, List.set_cons_zero, Nat.zero_add, Nat.reduceAdd] at hK ⊢
            refine wp_load_row 23 _ rfl _ rfl _ _ (hC.1.rd) _ Tryd.underlying23 rfl 16 Tryd.info23 (by rw [ag_size]; exact hkey) ?_
            exact hK _ _ rfl (Below.refl _ _)
          · intro f w1 hC hd KK hK
            simp only [List.take_succ_cons, List.take_zero, setAll, List.setIfInBounds_toArray, List.set_cons_succ, List.set_cons_zero, Nat.zero_add, Nat.reduceAdd] at hK ⊢
            refine wp_of_quiet rfl ?_
            go_big_quiet_step (fail)
            exact wpQuiet_nil (hK _ _ rfl (Below.refl _ _))
          · intro f w1 hC hd KK hK
            have g1 : f 1 = _ := hd 1 rfl
            simp only [List.take_succ_cons, List.take_zero, setAll, List.setIfInBounds_toArray, List.set_cons_succ, List.set_cons_zero, Nat.zero_add, Nat.reduceAdd, g1] at hK ⊢
            refine wp_of_quiet rfl ?_
            go_big_quiet_step (fail)
            exact wpQuiet_nil (hK _ _ rfl (Below.refl _ _))
          · intro f w1 hC hd KK hK
            have g2 : f 2 = _ := hd 2 rfl
            simp only [List.take_succ_cons, List.take_zero, setAll, List.setIfInBounds_toArray, List.set_cons_succ, List.set_cons_zero, Nat.zero_add, Nat.reduceAdd, g2] at hK ⊢
            exact wp_call 54 #[.slice (some ⟨b, oo, none⟩) 16 c] (by simp [go_sem]) _ _ (refBlock_any _ _ TK lTK _ (hF _ hC.1.bl)) (fun w' hb => hK _ _ rfl hb)
          · intro f w1 hC hd KK hK
            simp only [List.take_succ_cons, List.take_zero, setAll, List.setIfInBounds_toArray, List.set_cons_succ, List.set_cons_zero, Nat.zero_add, Nat.reduceAdd] at hK ⊢
            refine wp_load_row 23 _ rfl _ rfl _ _ (hC.1.ro) _ Tryd.underlying23 rfl 16 Tryd.info23 (by rw [ag_size]; exact lo2) ?_
            exact hK _ _ rfl (Below.refl _ _)
          · intro f w1 hC hd KK hK
            have g3 : f 3 = _ := hd 3 rfl
            have g4 : f 4 = _ := hd 4 rfl
            simp only [List.take_succ_cons, List.take_zero, setAll, List.setIfInBounds_toArray, List.set_cons_succ, List.set_cons_zero, Nat.zero_add, Nat.reduceAdd, g3, g4] at hK ⊢
            exact wp_call 55 #[.agg (ag TK), .agg (ag o2)] (by simp [go_sem]) _ _ (hP2 _) (fun w' hb => hK _ _ rfl hb)
          · intro f w1 hC hd KK hK
            have g0 : f 0 = _ := hd 0 rfl
            have g5 : f 5 = _ := hd 5 rfl
            simp only [List.take_succ_cons, List.take_zero, setAll, List.setIfInBounds_toArray, List.set_cons_succ, List.set_cons_zero, Nat.zero_add, Nat.reduceAdd, g0, g5] at hK ⊢
            exact wp_call 62 #[.agg (ag key), .agg (ag p1)] (by simp [go_sem]) _ _ (hD1 _) (fun w' hb => hK _ _ rfl hb)
          · intro f w1 hC hd KK hK
            simp only [List.take_succ_cons, List.take_zero, setAll, List.setIfInBounds_toArray, List.set_cons_succ, List.set_cons_zero, Nat.zero_add, Nat.reduceAdd] at hK ⊢
            refine wp_load_row 23 _ rfl _ rfl _ _ (hC.1.ro) _ Tryd.underlying23 rfl 16 Tryd.info23 (by rw [ag_size]; exact lo2) ?_
            exact hK _ _ rfl (Below.refl _ _)
          · intro f w1 hC hd KK hK
            have g6 : f 6 = _ := hd 6 rfl
            have g7 : f 7 = _ := hd 7 rfl
            simp only [List.take_succ_cons, List.take_zero, setAll, List.setIfInBounds_toArray, List.set_cons_succ, List.set_cons_zero, Nat.zero_add, Nat.reduceAdd, g6, g7] at hK ⊢
            exact wp_call 55 #[.agg (ag e1), .agg (ag o2)] (by simp [go_sem]) _ _ (hP3 _) (fun w' hb => hK _ _ rfl hb)
          · intro f w1 hC hd KK hK
            simp only [List.take_succ_cons, List.take_zero, setAll, List.setIfInBounds_toArray, List.set_cons_succ, List.set_cons_zero, Nat.zero_add, Nat.reduceAdd] at hK ⊢
            exact wp_alloc_row 23 rfl _ _ Tryd.zero23 (hK _ _ ⟨_, rfl, Room.new _ _ _ _ rfl, hC.2.2⟩ ((Below.refl _ _).alloc (Nat.le_refl _) _))
        · intro f w1 hC hv
          have g0 : f 0 = _ := hv 0 (by decide)
          have g1 : f 1 = _ := hv 1 (by decide)
          have g2 : f 2 = _ := hv 2 (by decide)
          have g3 : f 3 = _ := hv 3 (by decide)
          have g4 : f 4 = _ := hv 4 (by decide)
          have g5 : f 5 = _ := hv 5 (by decide)
          have g6 : f 6 = _ := hv 6 (by decide)
          have g7 : f 7 = _ := hv 7 (by decide)
          have g8 : f 8 = _ := hv 8 (by decide)
          obtain ⟨q8, g9, k8, hq8⟩ := hv 9 (by decide)
          simp only [List.take_succ_cons, List.take_zero, List.drop_succ_cons, List.drop_zero, setAll, List.setIfInBounds_toArray, List.set_cons_succ, List.set_cons_zero, Nat.zero_add, Nat.reduceAdd, g0, g1, g2, g3, g4, g5, g6, g7, g8, g9]
          clear g0 g1 g2 g3 g4 g5 g6 g7 g8 g9 hv
          obtain ⟨c1, c2, c4⟩ := hC
          have s14 := c1.setP k8 (by omega) (by omega) (by omega) (ag x1)
          have o14 := c2.setRow k8 (by decide) (ag x1)
          have r14 := k8.setRow (ag x1)
          have hxc : ∀ j u, (x1.map B)[j]? = some u → (w1.setRow q8 (ag x1)).cell? ((⟨q8, 0, none⟩ : Addr).add j) = some u := fun j u hu => by
            rw [Addr.add_mid, Nat.zero_add, r14.cell]; simpa [ag] using hu
          have hNs14 := s14.size
          go_upto_region 15 with (first
            | (refine wpList_store_row rfl 23 (.tmp 16) (.tmp 61) rfl _ rfl _ rfl _ _ k8 Tryd.info23 (by rw [ag_size]; exact lx1) (ag_one _) ?_)
            | fail)
          go_upto_region 16 with (first
            | (refine wpList_append_bytes rfl (.tmp 62) (.tmp 63) rfl N hNs14 u14 out rfl o14 ⟨q8, 0, none⟩ 16 16 x1 rfl lx1 hxc (by omega) (fun v15 w15 ho15 ha15 => ?_))
            | fail)
          have s15 := s14.apd ha15
          have hF15 := Bts.bel hrest0 hE.bl s15.bl
          clear s14 o14 r14 hxc c1 c2 k8 ha15
          by_cases hc16 : c = 16
          · have hv : rest16 b oo n c = .slice (some ⟨b, oo, none⟩) (n - 16) 0 := by unfold rest16; rw [if_pos hc16, hc16]
            rw [hv] at hF15
            have hn16 : n = 16 := by omega
            subst hc16 hn16
            go_wp2_with fail
            exact ⟨⟨i + 1, l'.drop 16, o2, out ++ x1, by omega, by omega, by rw [List.length_append]; omega, by go_num, hF15, ho15, lo2, s15, HR2⟩, by simp [sliceLen]⟩
          · have hv : rest16 b oo n c = .slice (some ⟨b, oo + 16, none⟩) (n - 16) (c - 16) := by unfold rest16; rw [if_neg hc16]
            rw [hv] at hF15
            go_wp2_with fail
            exact ⟨⟨i + 1, l'.drop 16, o2, out ++ x1, by omega, by omega, by rw [List.length_append]; omega, by go_num, hF15, ho15, lo2, s15, HR2⟩, by simp [sliceLen]; omega⟩
    · by_cases hpos : 0 < n
      · rcases h3 with rfl | ⟨b, oo, rfl, hbN, hr⟩
        · simp at hn; omega
        have hcell : ∀ k, k < n → ∀ w3, Below N w w3 → w3.cell? ⟨b, oo + k, none⟩ = some (.int .u8 ((l'.getD k 0).toNat : Int)) := fun k hk w3 h3 => by
          rw [World.cell?_of_block (w := wr) (by show w3.heap[b]? = wr.heap[b]?; rw [h3.block b hbN, hE.bl.block b hbN])]
          exact hr k _ (by simp [show k < l'.length by omega]; rfl)
        have HCELL := Box'.mk hcell
        have hst := HR.out
        rw [Gf.turnFrom_eq, dif_neg (by omega), if_pos (by omega)] at hst
        dsimp only at hst
        have lS := Gf.star_len key
        have e0 : Gf.ell (Gf.star key) 0 = Gf.star key := rfl
        rw [e0] at hst
        have RS1 : Box' (∀ {w3 : World}, Row w3 ne 110 (elk key sb) → w3.rangeAt ne 177 ((Gf.star key).map B)) := ⟨fun h => (RC.out h).2.1⟩
        have hP1 := fun w => refPlus_any o (Gf.star key) lo lS w
        have lo2 := Gf.bxor_len o (Gf.star key)
        generalize hSK : Gf.star key = SK at *
        generalize Gf.bxor o SK = o2 at *
        have hE1 := EC.out o2 lo2
        have lPD := Gf.encrypt_len key o2
        generalize Gf.encrypt key o2 = PD at *
        rw [hn] at hcl hi1 hlen hst
        rw [hn]
        have HS := Box'.mk hst
        clear hst HR e0 hcell hSK
        go_upto_region 18 with (fail)
        have sQ := hE
        obtain ⟨wQ, hwQ⟩ : ∃ wQ, wQ = wr := ⟨_, rfl⟩
        rw [← hwQ] at sQ hOw ⊢
        clear hwQ
        obtain ⟨Q0, hQ0⟩ : ∃ Q0, Q0 = wQ.heap.size := ⟨_, rfl⟩
        have hq1 := sQ.ro.lt
        have hq2 := sQ.rd.lt
        have hNq := sQ.n1
        rw [← hQ0] at hq1 hq2
        have HQ0 := Box'.mk hQ0
        clear hQ0
        refine wp_region_grow 8 (by kernel_rfl) (by kernel_rfl) (fun a b => Below a.heap.size a b) (fun w3 => En key sb N ne po N w w3 o key ∧ Own N w3 u14 out ∧ Q0 ≤ w3.heap.size) (fun k w1 v => match k with
          | 0 => v = .pointer (some ⟨ne, 0, none⟩)
          | 1 => v = .agg CP
          | 2 => v = .agg (ag o)
          | 3 => v = .pointer (some ⟨ne, 177, none⟩)
          | 4 => v = .agg (ag SK)
          | 5 => v = .agg (ag o2)
          | 6 => v = .agg (ag PD)
          | 7 => ∃ q, v = .pointer (some ⟨q, 0, none⟩) ∧ Room w1 q 23 16 ∧ Q0 ≤ q
          | _ => True) ?_ ?_ ?_ ?_ ?_
        · rintro a b hb ⟨c1, c2, c3⟩
          exact ⟨c1.below hb, c2.below hb, by have := hb.size; omega⟩
        · intro k v w1 w2 hC1 hb h
          match k, h with
          | 0, h => exact h
          | 1, h => exact h
          | 2, h => exact h
          | 3, h => exact h
          | 4, h => exact h
          | 5, h => exact h
          | 6, h => exact h
          | 7, ⟨q, e, r, hq⟩ => exact ⟨q, e, r.below hb (r.elim fun _ h => h.1.lt), hq⟩
          | k + 8, h => trivial
        · exact ⟨sQ.drew, hOw.drew, by rw [HQ0.out]; exact Nat.le_refl _⟩
        · refine ⟨?_, ?_, ?_, ?_, ?_, ?_, ?_, ?_, trivial⟩
          · intro f w1 hC hd KK hK
            simp only [List.take_succ_cons, List.take_zero, setAll, List.setIfInBounds_toArray, List.set_cons_succ, List.set_cons_zero, Nat.zero_add, Nat.reduceAdd] at hK ⊢
            refine wp_of_quiet rfl ?_
            go_big_quiet_step (fail)
            exact wpQuiet_nil (hK _ _ rfl (Below.refl _ _))
          · intro f w1 hC hd KK hK
            have g0 : f 0 = _ := hd 0 rfl
            simp only [List.take_succ_cons, List.take_zero, setAll, List.setIfInBounds_toArray, List.set_cons_succ, List.set_cons_zero, Nat.zero_add, Nat.reduceAdd, g0] at hK ⊢
            refine _root_.Go.wp_load_mid 108 _ rfl _ _ rfl CP.toList _ (RC.out hC.1.el).1 Tryd.underlying108 rfl (by rw [Tryd.info108, Array.length_toList, lCP]) ?_
            rw [Array.toArray_toList]
            exact hK _ _ rfl (Below.refl _ _)
          · intro f w1 hC hd KK hK
            simp only [List.take_succ_cons, List.take_zero, setAll, List.setIfInBounds_toArray, List.set_cons_succ, List.set_cons_zero, Nat.zero_add, Nat.reduceAdd] at hK ⊢
            refine wp_load_row 23 _ rfl _ rfl _ _ (hC.1.ro) _ Tryd.underlying23 rfl 16 Tryd.info23 (by rw [ag_size]; exact lo) ?_
            exact hK _ _ rfl (Below.refl _ _)
          · intro f w1 hC hd KK hK
            simp only [List.take_succ_cons, List.take_zero, setAll, List.setIfInBounds_toArray, List.set_cons_succ, List.set_cons_zero, Nat.zero_add, Nat.reduceAdd] at hK ⊢
            refine wp_of_quiet rfl ?_
            go_big_quiet_step (fail)
            exact wpQuiet_nil (hK _ _ rfl (Below.refl _ _))
          · intro f w1 hC hd KK hK
            have g3 : f 3 = _ := hd 3 rfl
            simp only [List.take_succ_cons, List.take_zero, setAll, List.setIfInBounds_toArray, List.set_cons_succ, List.set_cons_zero, Nat.zero_add, Nat.reduceAdd, g3] at hK ⊢
            refine _root_.Go.wp_load_mid 23 _ rfl _ _ rfl (SK.map B) _ (RS1.out hC.1.el) Tryd.underlying23 rfl (by rw [Tryd.info23, List.length_map, lS]) ?_
            exact hK _ _ rfl (Below.refl _ _)
          · intro f w1 hC hd KK hK
            have g2 : f 2 = _ := hd 2 rfl
            have g4 : f 4 = _ := hd 4 rfl
            simp only [List.take_succ_cons, List.take_zero, setAll, List.setIfInBounds_toArray, List.set_cons_succ, List.set_cons_zero, Nat.zero_add, Nat.reduceAdd, g2, g4] at hK ⊢
            exact wp_call 55 #[.agg (ag o), .agg (ag SK)] (by simp [go_sem]) _ _ (hP1 _) (fun w' hb => hK _ _ rfl hb)
          · intro f w1 hC hd KK hK
            have g1 : f 1 = _ := hd 1 rfl
            have g5 : f 5 = _ := hd 5 rfl
            simp only [List.take_succ_cons, List.take_zero, setAll, List.setIfInBounds_toArray, List.set_cons_succ, List.set_cons_zero, Nat.zero_add, Nat.reduceAdd, g1, g5] at hK ⊢
            exact wp_call 57 #[.agg CP, .agg (ag o2)] (by simp [go_sem]) _ _ (hE1 _ hC.1.tb) (fun w' hb => hK _ _ rfl hb)
          · intro f w1 hC hd KK hK
            simp only [List.take_succ_cons, List.take_zero, setAll, List.setIfInBounds_toArray, List.set_cons_succ, List.set_cons_zero, Nat.zero_add, Nat.reduceAdd] at hK ⊢
            exact wp_alloc_row 23 rfl _ _ Tryd.zero23 (hK _ _ ⟨_, rfl, Room.new _ _ _ _ rfl, hC.2.2⟩ ((Below.refl _ _).alloc (Nat.le_refl _) _))
        · intro f w1 hC hv
          have g0 : f 0 = _ := hv 0 (by decide)
          have g1 : f 1 = _ := hv 1 (by decide)
          have g2 : f 2 = _ := hv 2 (by decide)
          have g3 : f 3 = _ := hv 3 (by decide)
          have g4 : f 4 = _ := hv 4 (by decide)
          have g5 : f 5 = _ := hv 5 (by decide)
          have g6 : f 6 = _ := hv 6 (by decide)
          obtain ⟨q8, g7, k8, hq8⟩ := hv 7 (by decide)
          simp only [List.take_succ_cons, List.take_zero, List.drop_succ_cons, List.drop_zero, setAll, List.setIfInBounds_toArray, List.set_cons_succ, List.set_cons_zero, Nat.zero_add, Nat.reduceAdd, g0, g1, g2, g3, g4, g5, g6, g7]
          clear g0 g1 g2 g3 g4 g5 g6 g7 hv
          obtain ⟨c1, c2, c4⟩ := hC
          have s18 := c1.setP k8 (by omega) (by omega) (by omega) (ag PD)
          have o18 := c2.setRow k8 (by decide) (ag PD)
          have r18 := k8.setRow (ag PD)
          go_upto_region 20 with (first
            | (refine wpList_store_row rfl 23 (.tmp 17) (.tmp 76) rfl _ rfl _ rfl _ _ k8 Tryd.info23 (by rw [ag_size]; exact lPD) (ag_one _) ?_)
            | fail)
          clear k8 c1 c2 c4
          generalize w1.setRow q8 (ag PD) = w11 at *
          obtain ⟨pq, hpq⟩ : ∃ pq, pq = q8 := ⟨_, rfl⟩
          rw [← hpq] at r18 ⊢
          clear hpq
          go_loopw [14, 18] (fun t j wr => ∃ kc : Nat, kc ≤ n ∧ j = .int .i64 (kc : Int) ∧ Own N wr t (out ++ Gf.padded l' PD kc) ∧ En key sb N ne po N w wr o key ∧ Row wr pq 23 (ag PD)) (fun _ j _ => n - (intOf j).toNat)
          case atStart => exact ⟨0, by omega, rfl, by rw [show Gf.padded l' PD 0 = [] from rfl, List.append_nil]; exact o18, s18, r18⟩
          case round =>
            clear o18 s18 r18
            obtain ⟨kc, hk, rfl, gO, gE, gP⟩ := hrel
            have lPk : (Gf.padded l' PD kc).length = kc := by simp [Gf.padded]
            by_cases hkn : kc < n
            · obtain ⟨xb, hxb⟩ : ∃ xb, l'.getD kc 0 = xb := ⟨_, rfl⟩
              obtain ⟨yb, hyb⟩ : ∃ yb, PD.getD kc 0 = yb := ⟨_, rfl⟩
              have hCX := HCELL.out kc hkn
              rw [hxb] at hCX
              have hCX := Box'.mk hCX
              have MK : Box' (out ++ Gf.padded l' PD kc ++ [Gf.bx xb yb] = out ++ Gf.padded l' PD (kc + 1)) := ⟨by rw [List.append_assoc]; congr 1; rw [← hxb, ← hyb]; simp [Gf.padded, List.range_succ]⟩
              have xx := xor_bx xb yb
              have hxl := xb.toNat_lt
              have hyl := yb.toNat_lt
              go_upto_region 22 with (fail)
              refine wp_region_grow 10 (by kernel_rfl) (by kernel_rfl) (fun a b => Below a.heap.size a b) (fun w3 => En key sb N ne po N w w3 o key ∧ Own N w3 u14 (out ++ Gf.padded l' PD kc) ∧ Row w3 pq 23 (ag PD)) (fun k w1 v => match k with
                | 0 => v = u14
                | 1 => v = .slice (some ⟨b, oo, none⟩) n c
                | 2 => v = .int .i64 (kc : Int)
                | 3 => v = .pointer (some ⟨b, oo + kc, none⟩)
                | 4 => v = .int .u8 (xb.toNat : Int)
                | 5 => v = .int .i64 (kc : Int)
                | 6 => v = .pointer (some ⟨pq, kc, none⟩)
                | 7 => v = .int .u8 (yb.toNat : Int)
                | 8 => v = .int .u8 ((Gf.bx xb yb).toNat : Int)
                | 9 => ∃ q, v = .slice (some ⟨q, 0, none⟩) 1 1 ∧ Row w1 q 5 (ag [Gf.bx xb yb])
                | _ => True) ?_ ?_ ?_ ?_ ?_
              · rintro a b hb ⟨c1, c2, c3⟩
                exact ⟨c1.below hb, c2.below hb, c3.below hb c3.lt⟩
              · intro k v w1 w2 hC1 hb h
                match k, h with
                | 0, h => exact h
                | 1, h => exact h
                | 2, h => exact h
                | 3, h => exact h
                | 4, h => exact h
                | 5, h => exact h
                | 6, h => exact h
                | 7, h => exact h
                | 8, h => exact h
                | 9, ⟨q, e, r⟩ => exact ⟨q, e, r.below hb r.lt⟩
                | k + 10, h => trivial
              · exact ⟨gE.drew, gO.drew, gP.drew⟩
              · refine ⟨?_, ?_, ?_, ?_, ?_, ?_, ?_, ?_, ?_, ?_, trivial⟩
                · intro f w1 hC hd KK hK
                  simp only [List.take_succ_cons, List.take_zero, setAll, List.setIfInBounds_toArray, List.set_cons_succ, List.set_cons_zero, Nat.zero_add, Nat.reduceAdd] at hK ⊢
                  refine wp_of_quiet rfl ?_
                  go_big_quiet_step (fail)
                  exact wpQuiet_nil (hK _ _ rfl (Below.refl _ _))
                · intro f w1 hC hd KK hK
                  simp only [List.take_succ_cons, List.take_zero, setAll, List.setIfInBounds_toArray, List.set_cons_succ, List.set_cons_zero, Nat.zero_add, Nat.reduceAdd] at hK ⊢
                  refine wp_of_quiet rfl ?_
                  go_big_quiet_step (fail)
                  exact wpQuiet_nil (hK _ _ rfl (Below.refl _ _))
                · intro f w1 hC hd KK hK
                  simp only [List.take_succ_cons, List.take_zero, setAll, List.setIfInBounds_toArray, List.set_cons_succ, List.set_cons_zero, Nat.zero_add, Nat.reduceAdd] at hK ⊢
                  refine wp_of_quiet rfl ?_
                  go_big_quiet_step (fail)
                  exact wpQuiet_nil (hK _ _ rfl (Below.refl _ _))
                · intro f w1 hC hd KK hK
                  have g1 : f 1 = _ := hd 1 rfl
                  have g2 : f 2 = _ := hd 2 rfl
                  simp only [List.take_succ_cons, List.take_zero, setAll, List.setIfInBounds_toArray, List.set_cons_succ, List.set_cons_zero, Nat.zero_add, Nat.reduceAdd, g1, g2] at hK ⊢
                  refine wp_of_quiet rfl ?_
                  go_big_quiet_step (fail)
                  exact wpQuiet_nil (hK _ _ rfl (Below.refl _ _))
                · intro f w1 hC hd KK hK
                  have hcx : w1.cell? ⟨b, oo + kc, none⟩ = some (.int .u8 (xb.toNat : Int)) := by
                    have h1 := hCX.out w1 hC.1.bl
                    exact h1
                  have g3 : f 3 = _ := hd 3 rfl
                  simp only [List.take_succ_cons, List.take_zero, setAll, List.setIfInBounds_toArray, List.set_cons_succ, List.set_cons_zero, Nat.zero_add, Nat.reduceAdd, g3] at hK ⊢
                  refine wp_of_quiet rfl ?_
                  go_big_quiet_step (fail)
                  exact wpQuiet_nil (hK _ _ rfl (Below.refl _ _))
                · intro f w1 hC hd KK hK
                  simp only [List.take_succ_cons, List.take_zero, setAll, List.setIfInBounds_toArray, List.set_cons_succ, List.set_cons_zero, Nat.zero_add, Nat.reduceAdd] at hK ⊢
                  refine wp_of_quiet rfl ?_
                  go_big_quiet_step (fail)
                  exact wpQuiet_nil (hK _ _ rfl (Below.refl _ _))
                · intro f w1 hC hd KK hK
                  have g5 : f 5 = _ := hd 5 rfl
                  simp only [List.take_succ_cons, List.take_zero, setAll, List.setIfInBounds_toArray, List.set_cons_succ, List.set_cons_zero, Nat.zero_add, Nat.reduceAdd, g5] at hK ⊢
                  refine wp_of_quiet rfl ?_
                  go_big_quiet_step (fail)
                  exact wpQuiet_nil (hK _ _ rfl (Below.refl _ _))
                · intro f w1 hC hd KK hK
                  have hcy : w1.cell? ⟨pq, kc, none⟩ = some (.int .u8 (yb.toNat : Int)) := cell_form (hC.2.2.byte (k := kc) (by omega)) hyb
                  have g6 : f 6 = _ := hd 6 rfl
                  simp only [List.take_succ_cons, List.take_zero, setAll, List.setIfInBounds_toArray, List.set_cons_succ, List.set_cons_zero, Nat.zero_add, Nat.reduceAdd, g6] at hK ⊢
                  refine wp_of_quiet rfl ?_
                  go_big_quiet_step (fail)
                  exact wpQuiet_nil (hK _ _ rfl (Below.refl _ _))
                · intro f w1 hC hd KK hK
                  have g4 : f 4 = _ := hd 4 rfl
                  have g7 : f 7 = _ := hd 7 rfl
                  simp only [List.take_succ_cons, List.take_zero, setAll, List.setIfInBounds_toArray, List.set_cons_succ, List.set_cons_zero, Nat.zero_add, Nat.reduceAdd, g4, g7] at hK ⊢
                  refine wp_of_quiet rfl ?_
                  go_big_quiet_step (fail)
                  exact wpQuiet_nil (hK _ _ rfl (Below.refl _ _))
                · intro f w1 hC hd KK hK
                  have g8 : f 8 = _ := hd 8 rfl
                  simp only [List.take_succ_cons, List.take_zero, setAll, List.setIfInBounds_toArray, List.set_cons_succ, List.set_cons_zero, Nat.zero_add, Nat.reduceAdd, g8] at hK ⊢
                  exact wp_build1 _ rfl _ rfl (hK _ _ ⟨_, rfl, Row.new _ _ _⟩ ((Below.refl _ _).alloc (Nat.le_refl _) _))
              · intro f w1 hC hv
                have g0 : f 0 = _ := hv 0 (by decide)
                have g1 : f 1 = _ := hv 1 (by decide)
                have g2 : f 2 = _ := hv 2 (by decide)
                have g3 : f 3 = _ := hv 3 (by decide)
                have g4 : f 4 = _ := hv 4 (by decide)
                have g5 : f 5 = _ := hv 5 (by decide)
                have g6 : f 6 = _ := hv 6 (by decide)
                have g7 : f 7 = _ := hv 7 (by decide)
                have g8 : f 8 = _ := hv 8 (by decide)
                obtain ⟨q9, g9, r9⟩ := hv 9 (by decide)
                simp only [List.take_succ_cons, List.take_zero, List.drop_succ_cons, List.drop_zero, setAll, List.setIfInBounds_toArray, List.set_cons_succ, List.set_cons_zero, Nat.zero_add, Nat.reduceAdd, g0, g1, g2, g3, g4, g5, g6, g7, g8, g9]
                clear g0 g1 g2 g3 g4 g5 g6 g7 g8 g9 hv
                obtain ⟨c1, c2, c3⟩ := hC
                have hnc : ∀ j u, ([Gf.bx xb yb].map B)[j]? = some u → w1.cell? ((⟨q9, 0, none⟩ : Addr).add j) = some u := fun j u hu => by
                  rw [Addr.add_mid, Nat.zero_add, r9.cell]; simpa [ag] using hu
                have hNs := c1.size
                go_wp2_with (first
                  | (refine wpList_append_bytes rfl (.tmp 83) (.tmp 92) rfl N hNs u14 (out ++ Gf.padded l' PD kc) rfl c2 ⟨q9, 0, none⟩ 1 1 [Gf.bx xb yb] rfl rfl hnc (by rw [List.length_append, lPk]; simp; omega) (fun v8 w8 ho8 ha8 => ?_))
                  | fail)
                rw [MK.out] at ho8
                exact ⟨⟨kc + 1, by omega, by go_num, ho8, c1.apd ha8, ha8.rows _ _ _ (by decide) c3⟩, by simp [intOf]; omega⟩
            · obtain rfl : n = kc := by omega
              rw [HS.out] at gO
              have hEr := gE
              have hOr := gO
              have hsz := hEr.size
              go_wp2_with (first
                | (refine wpList_load_row rfl 23 (.tmp 4) rfl _ rfl _ _ hEr.rd _ Tryd.underlying23 rfl 16 Tryd.info23 (by rw [ag_size]; exact hkey) ?_)
                | fail)
              refine (HSeal.out _ _ hEr.bl hsz hOr.bts).mono ?_
              rintro e wS ⟨vS, rfl, hOS, hbS⟩
              have hEs := hEr.bl.trans (hbS.mono hsz)
              have hOp := hOr.below hbS
              have hsm := HSame.out _ _ hOS.bts hEs
              clear hEr hOr hbS hOS
              cases hdec : decide (SLd = ls) with
              | true =>
                rw [hdec] at hsm
                go_wp2_with (first | (go_at_call 15; refine hsm.mono ?_; rintro e wT ⟨rfl, rfl⟩) | fail)
                go_ret2
                exact ⟨hEs, .inl ⟨of_decide_eq_true hdec, _, rfl, hOp⟩⟩
              | false =>
                rw [hdec] at hsm
                go_wp2_with (first | (go_at_call 15; refine hsm.mono ?_; rintro e wT ⟨rfl, rfl⟩) | fail)
                go_ret2
                exact ⟨hEs, .inr ⟨of_decide_eq_false hdec, rfl⟩⟩
      · have hst := HR.out
        rw [Gf.turnFrom_eq, dif_neg (by omega), if_neg (by omega)] at hst
        have hn0 : n = 0 := by omega
        subst hn0
        rw [hn]
        rw [List.append_nil] at hst
        rw [hst] at hOw
        clear h3 HR hst
        have hEr := hE
        have hOr := hOw
        have hsz := hEr.size
        go_wp2_with (first
          | (refine wpList_load_row rfl 23 (.tmp 4) rfl _ rfl _ _ hEr.rd _ Tryd.underlying23 rfl 16 Tryd.info23 (by rw [ag_size]; exact hkey) ?_)
          | fail)
        refine (HSeal.out _ _ hEr.bl hsz hOr.bts).mono ?_
        rintro e wS ⟨vS, rfl, hOS, hbS⟩
        have hEs := hEr.bl.trans (hbS.mono hsz)
        have hOp := hOr.below hbS
        have hsm := HSame.out _ _ hOS.bts hEs
        clear hEr hOr hbS hOS
        cases hdec : decide (SLd = ls) with
        | true =>
          rw [hdec] at hsm
          go_wp2_with (first | (go_at_call 15; refine hsm.mono ?_; rintro e wT ⟨rfl, rfl⟩) | fail)
          go_ret2
          exact ⟨hEs, .inl ⟨of_decide_eq_true hdec, _, rfl, hOp⟩⟩
        | false =>
          rw [hdec] at hsm
          go_wp2_with (first | (go_at_call 15; refine hsm.mono ?_; rintro e wT ⟨rfl, rfl⟩) | fail)
          go_ret2
          exact ⟨hEs, .inr ⟨of_decide_eq_false hdec, rfl⟩⟩
end Go.Proofs.YthcokaffbgbanaaDoor

/- The walk of OcbOpens. -/
namespace Go.Proofs.YthcokaffbgbanaaDoor
open Go.RowKit Go.BigFrame

set_option maxRecDepth 100000 in
theorem Gf.badE_eq (n b : Nat) (s : Int) : Gf.badE n b s = Gf.fault n b s := rfl
set_option maxHeartbeats 1000000 in
theorem refOpen_bad (key : List UInt8) (an : Option Addr) (n cn : Nat) (ab : Option Addr) (b cb : Nat) (ap : Option Addr) (p cp : Nat) (hn : n ≤ maxLen) (hb : b ≤ maxLen) (hp : p ≤ maxLen) (w : World) (hf : Gf.fault n b ((p : Int) - 16) ≠ 0) :
    Calls Tryd.prog 42 #[.agg (ag key), .slice an n cn, .slice ab b cb, .slice ap p cp] w fun e w' => e = .returned (.tuple #[.slice none 0 0, .int .i64 (Gf.fault n b ((p : Int) - 16))]) ∧ Below w.heap.size w w' := by
  have hfa := fun w => bad_any an n cn ab b cb ((p : Int) - 16) hn hb w
  simp only [Gf.badE_eq] at hfa
  generalize Gf.fault n b ((p : Int) - 16) = c at *
  unfold maxLen at hn hb hp
  have hc : (c == 0) = false := by rw [beq_eq_false_iff_ne]; exact hf
  go_enter Tryd.func42, Tryd.ntmps42
  go_wp2_with (first | (go_at_call 51; refine (hfa _).mono ?_; rintro e w1 ⟨rfl, rfl⟩) | fail)
  go_ret2
  exact ⟨rfl, (Below.refl _ _).alloc (Nat.le_refl _) _⟩
set_option maxHeartbeats 1000000 in
theorem refOpen_short (key : List UInt8) (an : Option Addr) (n cn : Nat) (ab : Option Addr) (b cb : Nat) (ap : Option Addr) (p cp : Nat) (hn : n ≤ maxLen) (hb : b ≤ maxLen) (hp : p < 16) (w : World) (hf : Gf.fault n b ((p : Int) - 16) = 0) :
    Calls Tryd.prog 42 #[.agg (ag key), .slice an n cn, .slice ab b cb, .slice ap p cp] w fun e w' => e = .returned (.tuple #[.slice none 0 0, .int .i64 7]) ∧ Below w.heap.size w w' := by
  have hfa := fun w => bad_any an n cn ab b cb ((p : Int) - 16) hn hb w
  simp only [Gf.badE_eq] at hfa
  rw [hf] at hfa
  clear hf
  unfold maxLen at hn hb
  have i1 : (p : Int) < 16 := by omega
  go_enter Tryd.func42, Tryd.ntmps42
  go_wp2_with (first | (go_at_call 51; refine (hfa _).mono ?_; rintro e w1 ⟨rfl, rfl⟩) | fail)
  go_ret2
  exact ⟨rfl, (Below.refl _ _).alloc (Nat.le_refl _) _⟩

/-- What opens, and with which error. -/
def Gf.opE (key ln lb ls : List UInt8) : Int := if Gf.fault ln.length lb.length ((ls.length : Int) - 16) = 0 then (if ls.length < 16 then 7 else if Gf.openTag key ln lb ls = ls.drop (ls.length - 16) then 0 else 20) else Gf.fault ln.length lb.length ((ls.length : Int) - 16)
def Gf.opL (key ln lb ls : List UInt8) : List UInt8 := if Gf.opE key ln lb ls = 0 then (Gf.unturned key ln ls).1 else []
set_option maxRecDepth 100000 in
theorem fault_ok {n b : Nat} {s : Int} (h : Gf.fault n b s = 0) : 0 < n ∧ n ≤ 15 ∧ b ≤ 65536 ∧ s ≤ 65536 := by
  unfold Gf.fault at h
  by_cases h1 : n < 1 ∨ 15 < n
  · rw [if_pos h1] at h; omega
  · rw [if_neg h1] at h
    by_cases h2 : 65536 < s ∨ 65536 < b
    · rw [if_pos h2] at h; omega
    · omega
set_option maxRecDepth 100000 in
theorem nilBts (w : World) : Bts (· < w.heap.size) w (.slice none 0 0) [] := ⟨none, 0, rfl, Nat.le_refl _, .inl rfl⟩
/-- The tag fits just if the bytes are the sealing of what they stand for. -/
theorem Gf.fits (key ln lb ls : List UInt8) (h16 : 16 ≤ ls.length) : Gf.openTag key ln lb ls = ls.drop (ls.length - 16) ↔ Gf.sealed key ln lb (Gf.unturned key ln ls).1 = ls := by
  constructor
  · exact Gf.seal_opened key ln lb ls
  · intro h
    have h1 := (Gf.open_sealed key ln lb (Gf.unturned key ln ls).1).2
    have h2 := Gf.sealed_len key ln lb (Gf.unturned key ln ls).1
    rw [h] at h1 h2
    rw [h1]
    congr 1
    omega
set_option maxRecDepth 100000 in
theorem open_un (key : List UInt8) (hkey : key.length = 16) (vn vb vs : Value) (ln lb ls : List UInt8) (mn : ln.length ≤ maxLen) (mb : lb.length ≤ maxLen) (ms : ls.length ≤ maxLen) (w : World) (ht : Tab w)
    (hn : Bts (· < w.heap.size) w vn ln) (hb : Bts (· < w.heap.size) w vb lb) (hs : Bts (· < w.heap.size) w vs ls) :
    Calls Tryd.prog 40 #[.agg (ag key), vn, vb, vs] w fun e w' => ∃ u, e = .returned (.tuple #[u, .int .i64 (Gf.opE key ln lb ls)]) ∧ Bts (· < w'.heap.size) w' u (Gf.opL key ln lb ls) ∧ Below w.heap.size w w' := by
  have hnc := hn
  have hbc := hb
  have hsc := hs
  obtain ⟨an, cn, rfl, _, _⟩ := hnc
  obtain ⟨ab, cb, rfl, _, _⟩ := hbc
  obtain ⟨as0, cs, rfl, _, _⟩ := hsc
  by_cases hf : Gf.fault ln.length lb.length ((ls.length : Int) - 16) = 0
  · obtain ⟨h1, h2, h3, h4⟩ := fault_ok hf
    by_cases h16 : ls.length < 16
    · have e1 : Gf.opE key ln lb ls = 7 := by unfold Gf.opE; rw [if_pos hf, if_pos h16]
      have e2 : Gf.opL key ln lb ls = [] := by unfold Gf.opL; rw [e1]; rfl
      rw [e1, e2]
      exact (open_short key an _ cn ab _ cb as0 _ cs mn mb h16 w hf).mono fun e w' h => ⟨_, h.1, nilBts _, h.2⟩
    · refine (open_ok key hkey _ _ _ ln lb ls h1 h2 h3 (by omega) (by omega) w ht hn hb hs).mono ?_
      rintro e w' ⟨hbl, ha, hz⟩
      by_cases hd : Gf.openTag key ln lb ls = ls.drop (ls.length - 16)
      · have e1 : Gf.opE key ln lb ls = 0 := by unfold Gf.opE; rw [if_pos hf, if_neg h16, if_pos hd]
        have e2 : Gf.opL key ln lb ls = (Gf.unturned key ln ls).1 := by unfold Gf.opL; rw [if_pos e1]
        rw [e1, e2]
        obtain ⟨g, rfl, hbu, hg⟩ := ha hd
        have lP : (Gf.unturned key ln ls).1.length = ls.length - 16 := by
          have h5 := Gf.sealed_len key ln lb (Gf.unturned key ln ls).1
          rw [Gf.seal_opened key ln lb ls hd] at h5
          omega
        refine ⟨_, rfl, ?_, hbl⟩
        have := hbu.bts (S := (· < w'.heap.size)) ((World.ownsRow.lt hbu g rfl).2) (by omega)
        rw [lP] at this
        exact this
      · have e1 : Gf.opE key ln lb ls = 20 := by unfold Gf.opE; rw [if_pos hf, if_neg h16, if_neg hd]
        have e2 : Gf.opL key ln lb ls = [] := by unfold Gf.opL; rw [e1]; rfl
        rw [e1, e2]
        exact ⟨_, hz hd, nilBts _, hbl⟩
  · have e1 : Gf.opE key ln lb ls = Gf.fault ln.length lb.length ((ls.length : Int) - 16) := by unfold Gf.opE; rw [if_neg hf]
    have e2 : Gf.opL key ln lb ls = [] := by unfold Gf.opL; rw [if_neg (by rw [e1]; exact hf)]
    rw [e1, e2]
    exact (open_bad key an _ cn ab _ cb as0 _ cs mn mb ms w hf).mono fun e w' h => ⟨_, h.1, nilBts _, h.2⟩
set_option maxRecDepth 100000 in
theorem refOpen_un (key : List UInt8) (hkey : key.length = 16) (vn vb vs : Value) (ln lb ls : List UInt8) (mn : ln.length ≤ maxLen) (mb : lb.length ≤ maxLen) (ms : ls.length ≤ maxLen) (w : World)
    (hn : Bts (· < w.heap.size) w vn ln) (hb : Bts (· < w.heap.size) w vb lb) (hs : Bts (· < w.heap.size) w vs ls) :
    Calls Tryd.prog 42 #[.agg (ag key), vn, vb, vs] w fun e w' => ∃ u, e = .returned (.tuple #[u, .int .i64 (Gf.opE key ln lb ls)]) ∧ Bts (· < w'.heap.size) w' u (Gf.opL key ln lb ls) ∧ Below w.heap.size w w' := by
  have hnc := hn
  have hbc := hb
  have hsc := hs
  obtain ⟨an, cn, rfl, _, _⟩ := hnc
  obtain ⟨ab, cb, rfl, _, _⟩ := hbc
  obtain ⟨as0, cs, rfl, _, _⟩ := hsc
  by_cases hf : Gf.fault ln.length lb.length ((ls.length : Int) - 16) = 0
  · obtain ⟨h1, h2, h3, h4⟩ := fault_ok hf
    by_cases h16 : ls.length < 16
    · have e1 : Gf.opE key ln lb ls = 7 := by unfold Gf.opE; rw [if_pos hf, if_pos h16]
      have e2 : Gf.opL key ln lb ls = [] := by unfold Gf.opL; rw [e1]; rfl
      rw [e1, e2]
      exact (refOpen_short key an _ cn ab _ cb as0 _ cs mn mb h16 w hf).mono fun e w' h => ⟨_, h.1, nilBts _, h.2⟩
    · refine (refOpen_ok key hkey _ _ _ ln lb ls h1 h2 h3 (by omega) (by omega) w hn hb hs).mono ?_
      rintro e w' ⟨hbl, ⟨hd0, v', rfl, hO⟩ | ⟨hd0, rfl⟩⟩
      · have hd := (Gf.fits key ln lb ls (by omega)).2 hd0
        have e1 : Gf.opE key ln lb ls = 0 := by unfold Gf.opE; rw [if_pos hf, if_neg h16, if_pos hd]
        have e2 : Gf.opL key ln lb ls = (Gf.unturned key ln ls).1 := by unfold Gf.opL; rw [if_pos e1]
        rw [e1, e2]
        exact ⟨_, rfl, hO.bts, hbl⟩
      · have hd : ¬ Gf.openTag key ln lb ls = ls.drop (ls.length - 16) := fun h => hd0 ((Gf.fits key ln lb ls (by omega)).1 h)
        have e1 : Gf.opE key ln lb ls = 20 := by unfold Gf.opE; rw [if_pos hf, if_neg h16, if_neg hd]
        have e2 : Gf.opL key ln lb ls = [] := by unfold Gf.opL; rw [e1]; rfl
        rw [e1, e2]
        exact ⟨_, rfl, nilBts _, hbl⟩
  · have e1 : Gf.opE key ln lb ls = Gf.fault ln.length lb.length ((ls.length : Int) - 16) := by unfold Gf.opE; rw [if_neg hf]
    have e2 : Gf.opL key ln lb ls = [] := by unfold Gf.opL; rw [if_neg (by rw [e1]; exact hf)]
    rw [e1, e2]
    exact (refOpen_bad key an _ cn ab _ cb as0 _ cs mn mb ms w hf).mono fun e w' h => ⟨_, h.1, nilBts _, h.2⟩

end Go.Proofs.YthcokaffbgbanaaDoor
