/- The walk of the reference's Cipher.Encrypt. -/
import Derived.Test.YtmolhljgmaoflaaDoorCn
namespace Go.Proofs.YtmolhljgmaoflaaDoor
open Go.RowKit Go.BigFrame

theorem cip_cell0 (a : Value) (K : List UInt8) : (cip a K)[0]? = some a := by
  rw [cip, Array.getElem?_append_left (by simp)]; rfl
theorem cip_range {w : World} {b : Nat} {t : TypeId} {a : Value} {K : List UInt8} (h : Row w b t (cip a K)) (o n : Nat) : w.rangeAt b (1 + o) (((K.drop o).take n).map B) := fun j v hv => by
  rw [h.cell, cip, Array.getElem?_append_right (by simp; omega)]
  simp only [List.getElem?_map, List.getElem?_take, List.getElem?_drop] at hv
  split at hv
  · have e : 1 + o + j - (#[a] : Array Value).size = o + j := by simp; omega
    rw [e]; simpa [ag] using hv
  · simp at hv
theorem wpList_load_cip {P : Program} {ops : Array Oper} {rest : List Oper} {op : Oper} {a : Act} {w : World} {Q : Exit → Act → World → Prop} (hgd : op.guard = none) (ty : TypeId) (x : Operand) (ho : op.op = .load ty x) (b o : Nat) (hx : a.eval x = .pointer (some ⟨b, 1 + o, none⟩))
    (t : TypeId) (v : Value) (l : List UInt8) (hr : Row w b t (cip v l)) (d : TypeDesc) (hu : P.underlying ty = some d) (hd : d.isRow = true) (n : Nat) (hi : (P.info? ty).map (·.size) = some n) (hn : o + n ≤ l.length)
    (h : wpList P ops Q rest (a.put op.dst (.agg (ag ((l.drop o).take n)))) w) : wpList P ops Q (op :: rest) a w :=
  wpList_load_mid hgd ty x ho b (1 + o) hx _ d (cip_range hr o n) hu hd (by rw [hi]; simp; omega) h
theorem quiet_load_cip {P : Program} {C : World → Prop} {K : Act → Prop} {op : Oper} {a : Act} (ty : TypeId) (x : Operand) (ho : op.op = .load ty x) (b o : Nat) (hx : a.eval x = .pointer (some ⟨b, 1 + o, none⟩))
    (t : TypeId) (v : Value) (l : List UInt8) (hr : ∀ w, C w → Row w b t (cip v l)) (d : TypeDesc) (hu : P.underlying ty = some d) (hd : d.isRow = true) (n : Nat) (hi : (P.info? ty).map (·.size) = some n) (hn : o + n ≤ l.length)
    (h : K (a.put op.dst (.agg (ag ((l.drop o).take n))))) : op.quiet P a C K :=
  ⟨_, fun w hw => by
    have hrun := run_loadAt_mid (P := P) w b (1 + o) ty _ d (cip_range (hr w hw) o n) hu hd (by rw [hi]; simp; omega)
    unfold Oper.quietAt execOp
    simp only [ho, hx, Sem.run_bind, hrun, Result.andThen_ok]
    exact ⟨rfl, rfl⟩, h⟩

/-- What stands while a block goes through the reference's rounds. -/
structure EnvC (N sb : Nat) (T K : List UInt8) (w0 w : World) : Prop where
  cph : Row w N 52 (cip (.pointer (some ⟨sb, 0, none⟩)) K)
  res : Room w (N + 1 + 1) 23 16
  tab : Row w sb 66 (ag T)
  bel : Below N w0 w
theorem EnvC.below {N sb : Nat} {T K : List UInt8} {w0 w w' : World} (h : EnvC N sb T K w0 w) (hb : Below w.heap.size w w') : EnvC N sb T K w0 w' :=
  ⟨h.cph.below hb h.cph.lt, h.res.below hb (h.res.elim fun _ h => h.1.lt), h.tab.below hb h.tab.lt, h.bel.trans (hb.mono (by have := h.cph.lt; omega))⟩
theorem EnvC.store {N sb : Nat} {T K : List UInt8} {w0 w : World} (h : EnvC N sb T K w0 w) (p : Nat) (c : Array Value) (h1 : N ≤ p) (h2 : p ≠ N) (h3 : p ≠ N + 1 + 1) (h4 : p ≠ sb) : EnvC N sb T K w0 (w.setRow p c) :=
  ⟨h.cph.setRowOther _ _ (Ne.symm h2), h.res.setRowOther _ _ (Ne.symm h3), h.tab.setRowOther _ _ (Ne.symm h4), below_setRow h.bel h1 _⟩
theorem EnvC.setCell {N sb : Nat} {T K : List UInt8} {w0 w : World} (h : EnvC N sb T K w0 w) (p : Nat) (k : Nat) (v : Value) (h1 : N ≤ p) (h2 : p ≠ N) (h3 : p ≠ N + 1 + 1) (h4 : p ≠ sb) : EnvC N sb T K w0 (w.setCell ⟨p, k, none⟩ v) :=
  ⟨h.cph.setOther _ _ (Ne.symm h2), h.res.setOther _ _ (Ne.symm h3), h.tab.setOther _ _ (Ne.symm h4), h.bel.setCell h1 _⟩
theorem EnvC.drew {N sb : Nat} {T K : List UInt8} {w0 w : World} (h : EnvC N sb T K w0 w) : EnvC N sb T K w0 w.drew := ⟨h.cph, h.res, h.tab, h.bel.drew⟩
theorem EnvC.alloc {N sb : Nat} {T K : List UInt8} {w0 w : World} (h : EnvC N sb T K w0 w) (o : Obj) : EnvC N sb T K w0 (w.alloc o) := ⟨h.cph.alloc _, h.res.alloc _, h.tab.alloc _, h.bel.alloc (by have := h.cph.lt; omega) _⟩

def sh (T s : List UInt8) (i : Nat) : UInt8 := Gf.look T (s.getD ((i + 4 * (i % 4)) % 16) 0)
theorem sh_turn (T s : List UInt8) : (List.range 16).map (sh T s) = Gf.turn (Gf.subst T s) 1 := by
  unfold Gf.turn
  apply List.map_congr_left
  intro i _
  unfold sh Gf.subst
  have h : (i + 4 * (i % 4) * 1) % 16 < 16 := by omega
  rw [Nat.mul_one] at *
  simp [h]


theorem EnvC.belowq {N sb q : Nat} {T K : List UInt8} {w0 w w' : World} (h : EnvC N sb T K w0 w) (h1 : N + 1 + 1 < q) (h2 : sb < q) (hb : Below q w w') : EnvC N sb T K w0 w' :=
  ⟨h.cph.below hb (by omega), h.res.below hb h1, h.tab.below hb h2, h.bel.trans (hb.mono (by omega))⟩
def regOf (n : Nat) : Code → Option Code
  | .region m o b => if m = n then some (.region m o b) else none
  | .block _ c => regOf n c
  | .seq a b => match regOf n a with
    | some c => some c
    | none => regOf n b
  | .loop c => regOf n c
  | .scope c => regOf n c
  | .cond _ a b => match regOf n a with
    | some c => some c
    | none => regOf n b
  | _ => none
set_option maxRecDepth 1000000 in
set_option maxHeartbeats 4000000 in
theorem rows30_any (T K s : List UInt8) (hT : T.length = 256) (hl : s.length = 16) (N p sb : Nat) (hN : N + 1 < p) (u0 u1 u4 u5 u8 u9 u10 u11 u12 u13 u14 u15 u16 u17 u18 u19 u20 u21 u22 u23 u24 u25 u26 u27 u28 u29 u30 u31 u32 u33 u34 u35 u36 u37 u38 u39 u40 u41 u42 u43 u44 u45 u46 u47 u48 u49 u50 u51 u52 u53 u54 u55 u56 u57 u58 u59 u60 u61 u62 u63 u64 u65 u66 u67 u68 u69 u70 u71 u72 u73 u74 u75 u76 u77 u78 u79 u80 u81 u82 u83 u84 u85 u86 u87 u88 u89 u90 u91 u92 u93 u94 u95 u96 u97 u98 u99 u100 u101 u102 u103 : Value) (w : World) (r0 : Row w N 52 (cip (.pointer (some ⟨sb, 0, none⟩)) K)) (r1 : Row w (N + 1) 23 (ag s)) (rt : Row w sb 66 (ag T)) (hsp : sb < p) (gp : Row w p 23 (ag (Gf.zeros 16))) :
    Code.wp Tryd.prog ((Tryd.f31.body.bind (inBlock 2)).getD .skip) (fun e a' w' => e = .exit 2 ∧ (∃ v7 v8 v9 v22 v23 v24 v25 v26 v27 v28 v29 v30 v31 v32 v33 v34 v35 v36 v37 v38 v39 v40 v41 v42 v43 v44 v45 : Value, a' = ⟨List.toArray (u0 :: u1 :: .pointer (some ⟨N, 0, none⟩) :: .pointer (some ⟨N + 1, 0, none⟩) :: u4 :: u5 :: .pointer (some ⟨p, 0, none⟩) :: v7 :: v8 :: v9 :: u10 :: u11 :: u12 :: u13 :: u14 :: u15 :: u16 :: u17 :: u18 :: u19 :: u20 :: u21 :: v22 :: v23 :: v24 :: v25 :: v26 :: v27 :: v28 :: v29 :: v30 :: v31 :: v32 :: v33 :: v34 :: v35 :: v36 :: v37 :: v38 :: v39 :: v40 :: v41 :: v42 :: v43 :: v44 :: v45 :: u46 :: u47 :: u48 :: u49 :: u50 :: u51 :: u52 :: u53 :: u54 :: u55 :: u56 :: u57 :: u58 :: u59 :: u60 :: u61 :: u62 :: u63 :: u64 :: u65 :: u66 :: u67 :: u68 :: u69 :: u70 :: u71 :: u72 :: u73 :: u74 :: u75 :: u76 :: u77 :: u78 :: u79 :: u80 :: u81 :: u82 :: u83 :: u84 :: u85 :: u86 :: u87 :: u88 :: u89 :: u90 :: u91 :: u92 :: u93 :: u94 :: u95 :: u96 :: u97 :: u98 :: u99 :: u100 :: u101 :: u102 :: u103 :: []), []⟩) ∧ Row w' p 23 (ag (Gf.turn (Gf.subst T s) 1)) ∧ Below p w w') ⟨List.toArray (u0 :: u1 :: .pointer (some ⟨N, 0, none⟩) :: .pointer (some ⟨N + 1, 0, none⟩) :: u4 :: u5 :: .pointer (some ⟨p, 0, none⟩) :: .int .i64 0 :: u8 :: u9 :: u10 :: u11 :: u12 :: u13 :: u14 :: u15 :: u16 :: u17 :: u18 :: u19 :: u20 :: u21 :: u22 :: u23 :: u24 :: u25 :: u26 :: u27 :: u28 :: u29 :: u30 :: u31 :: u32 :: u33 :: u34 :: u35 :: u36 :: u37 :: u38 :: u39 :: u40 :: u41 :: u42 :: u43 :: u44 :: u45 :: u46 :: u47 :: u48 :: u49 :: u50 :: u51 :: u52 :: u53 :: u54 :: u55 :: u56 :: u57 :: u58 :: u59 :: u60 :: u61 :: u62 :: u63 :: u64 :: u65 :: u66 :: u67 :: u68 :: u69 :: u70 :: u71 :: u72 :: u73 :: u74 :: u75 :: u76 :: u77 :: u78 :: u79 :: u80 :: u81 :: u82 :: u83 :: u84 :: u85 :: u86 :: u87 :: u88 :: u89 :: u90 :: u91 :: u92 :: u93 :: u94 :: u95 :: u96 :: u97 :: u98 :: u99 :: u100 :: u101 :: u102 :: u103 :: []), []⟩ w := by
  conv => arg 2; whnf
  have HF : Hid (Gf.fill (Gf.zeros 16) (sh T s) 16 = Gf.turn (Gf.subst T s) 1) := (Gf.fill_full (Gf.zeros 16) _ 16 rfl).trans (sh_turn T s)
  generalize Gf.turn (Gf.subst T s) 1 = res at *
  go_loopw [7] (fun i wr' => ∃ k : Nat, k ≤ 16 ∧ i = .int .i64 k ∧ Row wr' p 23 (ag (Gf.fill (Gf.zeros 16) (sh T s) k)) ∧ Below p w wr') (fun i _ => 16 - (intOf i).toNat)
  case atStart => exact ⟨0, by omega, rfl, gp, Below.refl _ _⟩
  case round =>
    obtain ⟨k, hk, rfl, fp, fv⟩ := hrel
    have f1 := r1.below fv hN
    have f0 := r0.below fv (by omega)
    have ft := rt.below fv hsp
    clear r1 r0 rt gp
    by_cases hk16 : k < 16
    · obtain ⟨x, hx⟩ : ∃ x, s.getD ((k + 4 * (k % 4)) % 16) 0 = x := ⟨_, rfl⟩
      have HE : Hid (Gf.fill (Gf.zeros 16) (sh T s) (k + 1) = (Gf.fill (Gf.zeros 16) (sh T s) k).set k (T.getD x.toNat 0)) := by
        show _ = _
        rw [← hx]; rfl
      obtain ⟨r, hr⟩ : ∃ r, k % 4 = r := ⟨_, rfl⟩
      obtain ⟨c, hc⟩ : ∃ c, k / 4 = c := ⟨_, rfl⟩
      obtain ⟨c', hc'⟩ : ∃ c', (c + r) % 4 = c' := ⟨_, rfl⟩
      have i1 : (k : Int) % 4 = (r : Int) := by omega
      have i2 : (k : Int) / 4 = (c : Int) := by omega
      have i3 : ((c : Int) + (r : Int)) % 4 = (c' : Int) := by omega
      have i4 : r < 4 := by omega
      have i5 : c < 4 := by omega
      have i6 : c' < 4 := by omega
      have cx : wr.cell? ⟨N + 1, 4 * c' + r, none⟩ = some (.int .u8 (x.toNat : Int)) := by
        have e : 4 * c' + r = (k + 4 * (k % 4)) % 16 := by omega
        rw [e]; exact cell_form (f1.byte (by rw [hl]; omega)) hx
      have hxl : x.toNat < 256 := x.toNat_lt
      have ct := ft.byte (k := x.toNat) (by rw [hT]; exact hxl)
      have cp := fp.byte (k := k) (by rw [Gf.fill_len]; exact hk16)
      have fz := fp.frozen k
      have c0 : wr.cell? ⟨N, 0, none⟩ = some (.pointer (some ⟨sb, 0, none⟩)) := by rw [f0.cell]; exact cip_cell0 _ _
      clear hx hr hc hc' HF
      generalize T.getD x.toNat 0 = y at *
      go_wp2
      refine wp_region_tail 15 (by kernel_rfl) (by kernel_rfl) ?_
      simp only [List.take_succ_cons, List.take_zero, List.drop_succ_cons, List.drop_zero]
      repeat (go_big_quiet_step (fail))
      refine wpQuiet_nil ?_
      go_wp2
      refine ⟨⟨k + 1, by omega, by go_num, ?_, ?_⟩, by simp [intOf]; omega⟩
      · rw [HE.out]; exact (fp.setByte k _).drew
      · exact (fv.setCell (Nat.le_refl _) _).drew
    · have hk' : k = 16 := by omega
      subst hk'
      rw [HF.out] at fp
      go_wp2
      exact ⟨trivial, ⟨_, _, _, _, _, _, _, _, _, _, _, _, _, _, _, _, _, _, _, _, _, _, _, _, _, _, _, rfl⟩, fp, fv⟩
set_option maxRecDepth 1000000 in
set_option maxHeartbeats 4000000 in
theorem tail30_any (T K s2 : List UInt8) (hK : K.length = 176) (l2 : s2.length = 16) (N p sb j : Nat) (hj : j < 10) (w0 : World) (hsb0 : sb < N) (u0 u1 u4 u7 u8 u9 u10 u11 u12 u13 u14 u15 u16 u17 u18 u19 u20 u21 u22 u23 u24 u25 u26 u27 u28 u29 u30 u31 u32 u33 u34 u35 u36 u37 u38 u39 u40 u41 u42 u43 u44 u45 u46 u47 u48 u49 u50 u51 u52 u53 u54 u55 u56 u57 u58 u59 u60 u61 u62 u63 u64 u65 u66 u67 u68 u69 u70 u71 u72 u73 u74 u75 u76 u77 u78 u79 u80 u81 u82 u83 u84 u85 u86 u87 u88 u89 u90 u91 u92 u93 u94 u95 u96 u97 u98 u99 u100 u101 u102 u103 : Value) (w : World) (y2 : Row w p 23 (ag s2)) (ya : Room w (N + 1) 23 16) (yv : EnvC N sb T K w0 w) :
    Code.wp Tryd.prog ((Tryd.f31.body.bind (regOf 21)).getD .skip) (fun e a' w' => e = .normal ∧ (∃ v97 v98 v99 v100 v101 v102 : Value, a' = ⟨List.toArray (u0 :: u1 :: .pointer (some ⟨N, 0, none⟩) :: .pointer (some ⟨N + 1, 0, none⟩) :: u4 :: .int .i64 ((j : Int) + 1) :: .pointer (some ⟨p, 0, none⟩) :: u7 :: u8 :: u9 :: u10 :: u11 :: u12 :: u13 :: u14 :: u15 :: u16 :: u17 :: u18 :: u19 :: u20 :: u21 :: u22 :: u23 :: u24 :: u25 :: u26 :: u27 :: u28 :: u29 :: u30 :: u31 :: u32 :: u33 :: u34 :: u35 :: u36 :: u37 :: u38 :: u39 :: u40 :: u41 :: u42 :: u43 :: u44 :: u45 :: u46 :: u47 :: u48 :: u49 :: u50 :: u51 :: u52 :: u53 :: u54 :: u55 :: u56 :: u57 :: u58 :: u59 :: u60 :: u61 :: u62 :: u63 :: u64 :: u65 :: u66 :: u67 :: u68 :: u69 :: u70 :: u71 :: u72 :: u73 :: u74 :: u75 :: u76 :: u77 :: u78 :: u79 :: u80 :: u81 :: u82 :: u83 :: u84 :: u85 :: u86 :: u87 :: u88 :: u89 :: u90 :: u91 :: u92 :: u93 :: u94 :: u95 :: u96 :: v97 :: v98 :: v99 :: v100 :: v101 :: v102 :: u103 :: []), []⟩) ∧ Row w' (N + 1) 23 (ag (Gf.bxor s2 (Gf.rk K (j + 1)))) ∧ EnvC N sb T K w0 w') ⟨List.toArray (u0 :: u1 :: .pointer (some ⟨N, 0, none⟩) :: .pointer (some ⟨N + 1, 0, none⟩) :: u4 :: .int .i64 ((j : Int) + 1) :: .pointer (some ⟨p, 0, none⟩) :: u7 :: u8 :: u9 :: u10 :: u11 :: u12 :: u13 :: u14 :: u15 :: u16 :: u17 :: u18 :: u19 :: u20 :: u21 :: u22 :: u23 :: u24 :: u25 :: u26 :: u27 :: u28 :: u29 :: u30 :: u31 :: u32 :: u33 :: u34 :: u35 :: u36 :: u37 :: u38 :: u39 :: u40 :: u41 :: u42 :: u43 :: u44 :: u45 :: u46 :: u47 :: u48 :: u49 :: u50 :: u51 :: u52 :: u53 :: u54 :: u55 :: u56 :: u57 :: u58 :: u59 :: u60 :: u61 :: u62 :: u63 :: u64 :: u65 :: u66 :: u67 :: u68 :: u69 :: u70 :: u71 :: u72 :: u73 :: u74 :: u75 :: u76 :: u77 :: u78 :: u79 :: u80 :: u81 :: u82 :: u83 :: u84 :: u85 :: u86 :: u87 :: u88 :: u89 :: u90 :: u91 :: u92 :: u93 :: u94 :: u95 :: u96 :: u97 :: u98 :: u99 :: u100 :: u101 :: u102 :: u103 :: []), []⟩ w := by
  conv => arg 2; whnf
  refine wp_region_tail 5 (by kernel_rfl) (by kernel_rfl) ?_
  simp only [List.take_succ_cons, List.take_zero, List.drop_succ_cons, List.drop_zero]
  go_big_quiet_want
  refine quiet_load_row 23 _ rfl _ rfl _ _ (fun w' hw' => by rw [hw']; exact y2) _ Tryd.underlying23 rfl 16 Tryd.info23 (by rw [ag_size]; exact l2) ?_
  go_big_quiet_on
  simp only [Act.put, List.setIfInBounds_toArray, List.set_cons_succ, List.set_cons_zero]
  repeat (go_big_quiet_step (fail))
  go_big_quiet_want
  refine quiet_load_cip 23 _ rfl _ ((j + 1) * 16) (by exact rfl) _ _ _ (fun w' hw' => by rw [hw']; exact yv.cph) _ Tryd.underlying23 rfl 16 Tryd.info23 (by rw [hK]; omega) ?_
  go_big_quiet_on
  simp only [Act.put, List.setIfInBounds_toArray, List.set_cons_succ, List.set_cons_zero]
  refine wpQuiet_nil ?_
  go_wp2_with fail
  refine (refAgainst_any s2 (Gf.rk K (j + 1)) l2 (Gf.rk_len _ _ hK (by omega)) _).mono ?_
  rintro e w9 ⟨rfl, hb9⟩
  have y9 := yv.drew.below hb9
  have p9 : Room w9 (N + 1) 23 16 := ya.drew.below hb9 (ya.elim fun _ h => h.1.lt)
  have l9 := Gf.bxor_len s2 (Gf.rk K (j + 1))
  have y10 := y9.store (N + 1) (ag (Gf.bxor s2 (Gf.rk K (j + 1)))) (by omega) (by omega) (by omega) (by omega)
  have z10 := p9.setRow (ag (Gf.bxor s2 (Gf.rk K (j + 1))))
  clear hb9 yv ya y2
  generalize Gf.bxor s2 (Gf.rk K (j + 1)) = s3 at *
  go_wp2_with (refine wpList_store_row rfl 23 _ _ rfl _ rfl _ rfl _ _ p9 Tryd.info23 (by rw [ag_size]; exact l9) (ag_one _) ?_)
set_option maxRecDepth 100000 in
set_option maxHeartbeats 2000000 in
theorem cipher_any (T K b : List UInt8) (hT : T.length = 256) (hK : K.length = 176) (hb : b.length = 16) (w : World) (sb : Nat) (hsb : Row w sb 66 (ag T)) :
    Calls Tryd.prog 31 #[.agg (cip (.pointer (some ⟨sb, 0, none⟩)) K), .agg (ag b)] w fun e w' => e = .returned (.agg (ag (Gf.encTo T K b 10))) ∧ Below w.heap.size w w' := by
  have hlt0 := hsb.lt
  obtain ⟨res, hres⟩ : ∃ res, Gf.encTo T K b 10 = res := ⟨_, rfl⟩
  rw [hres]
  have HRS := show Hid _ from hres
  clear hres
  go_enter Tryd.func31, Tryd.ntmps31
  have r0 : Row (((w.alloc (.cells (cip (.pointer (some ⟨sb, 0, none⟩)) K) 52)).alloc (.cells (ag b) 23)).alloc (.cells (ag (Gf.zeros 16)) 23)) w.heap.size 52 (cip (.pointer (some ⟨sb, 0, none⟩)) K) := ((Row.new _ _ _).alloc _).alloc _
  have r1 : Row (((w.alloc (.cells (cip (.pointer (some ⟨sb, 0, none⟩)) K) 52)).alloc (.cells (ag b) 23)).alloc (.cells (ag (Gf.zeros 16)) 23)) (w.heap.size + 1) 23 (ag b) := (Row.made _ _ _ _ _ rfl (by simp)).alloc _
  go_wp2_with (first
    | (refine wpList_load_row rfl 23 (.tmp 3) rfl _ rfl _ _ r1 _ Tryd.underlying23 rfl 16 Tryd.info23 (by rw [ag_size]; exact hb) ?_)
    | (refine wpList_load_cip rfl 23 (.tmp 15) rfl _ 0 rfl _ _ _ r0 _ Tryd.underlying23 rfl 16 Tryd.info23 (by rw [hK]; omega) ?_)
    | fail)
  refine (refAgainst_any b (List.take 16 K) hb (by rw [List.length_take, hK]; rfl) _).mono ?_
  rintro e w1 ⟨rfl, hb1⟩
  have hbl1 : Below w.heap.size w w1 := ((((Below.refl _ _).alloc (Nat.le_refl _) _).alloc (by simp) _).alloc (by simp; omega) _).trans (hb1.mono (by simp; omega))
  have hv1 : EnvC w.heap.size sb T K w w1 := ⟨Row.below (((Row.new _ _ _).alloc _).alloc _) hb1 (by simp; omega), Room.below (Room.made _ _ _ _ _ rfl (by simp)) hb1 (by simp), hsb.below hbl1 hlt0, hbl1⟩
  have p1 : Room w1 (w.heap.size + 1) 23 16 := (Row.below ((Row.made _ _ _ _ _ rfl (by simp)).alloc _) hb1 (by simp) : Row w1 (w.heap.size + 1) 23 (ag b)).room (by rw [ag_size]; exact hb)
  have hz1 : w.heap.size + 1 + 1 < w1.heap.size := hv1.res.elim fun _ h => h.1.lt
  have l0 := Gf.bxor_len b (List.take 16 K)
  have H0 : Hid (Gf.bxor b (List.take 16 K) = Gf.encTo T K b 0) := rfl
  have hv2 := hv1.store (w.heap.size + 1) (ag (Gf.bxor b (List.take 16 K))) (by omega) (by omega) (by omega) (by omega)
  have q1 := p1.setRow (ag (Gf.bxor b (List.take 16 K)))
  clear hb1 hbl1 r0 r1 hv1
  generalize Gf.bxor b (List.take 16 K) = s0 at *
  go_wp2_with (refine wpList_store_row rfl 23 _ _ rfl _ rfl _ rfl _ _ p1 Tryd.info23 (by rw [ag_size]; exact l0) (ag_one _) ?_)
  go_loopw [5] (fun i wr => ∃ (j : Nat) (s : List UInt8), j ≤ 10 ∧ Hid (s = Gf.encTo T K b j) ∧ s.length = 16 ∧ i = .int .i64 ((j : Int) + 1) ∧ Row wr (w.heap.size + 1) 23 (ag s) ∧ EnvC w.heap.size sb T K w wr) (fun i _ => 11 - (intOf i).toNat)
  case atStart => exact ⟨0, s0, by omega, H0, l0, rfl, q1, hv2⟩
  case round =>
    clear p1 q1 hv2 H0 l0 hz1
    obtain ⟨j, s, hj, hs, hl, rfl, h1, hv⟩ := hrel
    by_cases hlt : j < 10
    · have hp : w.heap.size + 1 + 1 < wr.heap.size := hv.res.elim fun _ h => h.1.lt
      have HF : Hid (Gf.fill (Gf.zeros 16) (sh T s) 16 = Gf.turn (Gf.subst T s) 1) := (Gf.fill_full (Gf.zeros 16) _ 16 rfl).trans (sh_turn T s)
      go_wp2
      have g1 : Row (wr.alloc (.cells (ag (Gf.zeros 16)) 23)) (w.heap.size + 1) 23 (ag s) := h1.alloc _
      have gv : EnvC w.heap.size sb T K w (wr.alloc (.cells (ag (Gf.zeros 16)) 23)) := hv.alloc _
      have gp : Row (wr.alloc (.cells (ag (Gf.zeros 16)) 23)) wr.heap.size 23 (ag (Gf.zeros 16)) := Row.new _ _ _
      have hpsb : ¬ wr.heap.size = sb := by have := hv.tab.lt; omega
      generalize wr.heap.size = p at *
      refine wp_mono (rows30_any T K s hT hl w.heap.size p sb (by omega) _ _ _ _ _ _ _ _ _ _ _ _ _ _ _ _ _ _ _ _ _ _ _ _ _ _ _ _ _ _ _ _ _ _ _ _ _ _ _ _ _ _ _ _ _ _ _ _ _ _ _ _ _ _ _ _ _ _ _ _ _ _ _ _ _ _ _ _ _ _ _ _ _ _ _ _ _ _ _ _ _ _ _ _ _ _ _ _ _ _ _ _ _ _ _ _ _ _ _ _ _ gv.cph g1 gv.tab (by omega) gp) ?_
      rintro e a' wa ⟨rfl, ⟨v7, v8, v9, v22, v23, v24, v25, v26, v27, v28, v29, v30, v31, v32, v33, v34, v35, v36, v37, v38, v39, v40, v41, v42, v43, v44, v45, rfl⟩, fp, fb⟩
      have f1 := g1.below fb (by omega)
      have fv := gv.belowq hp (by omega) fb
      clear g1 gv gp h1 hv fb HF
      have lt := Gf.turn_len (Gf.subst T s) 1
      by_cases h9 : j < 9
      · have hE : Hid (Gf.encTo T K b (j + 1) = Gf.bxor (Gf.mixL (Gf.turn (Gf.subst T s) 1)) (Gf.rk K (j + 1))) := by
          have e := hs.out
          show _ = _
          have h9' : j + 1 < 10 := by omega
          rw [e]; simp only [Gf.encTo, h9', if_true]
        have HM : Hid ((List.range 16).map (rmix (Gf.turn (Gf.subst T s) 1)) = Gf.mixL (Gf.turn (Gf.subst T s) 1)) := rmix_mix _ lt
        generalize Gf.turn (Gf.subst T s) 1 = s1 at *
        have hq : p < wa.heap.size := fp.lt
        simp only [Exit.inBlock, if_true, Exit.then]
        go_wp2
        have gq : Row (wa.alloc (.cells (ag (Gf.zeros 16)) 23)) wa.heap.size 23 (ag (Gf.zeros 16)) := Row.new _ _ _
        have g1 : Room (wa.alloc (.cells (ag (Gf.zeros 16)) 23)) (w.heap.size + 1) 23 16 := (f1.alloc _).room (by rw [ag_size]; exact hl)
        have gp : Row (wa.alloc (.cells (ag (Gf.zeros 16)) 23)) p 23 (ag s1) := fp.alloc _
        have gv : EnvC w.heap.size sb T K w (wa.alloc (.cells (ag (Gf.zeros 16)) 23)) := fv.alloc _
        clear f1 fp fv
        generalize wa.heap.size = q at *
        refine wp_mono (nest30_any s1 lt p q hq _ _ _ _ _ _ _ _ _ _ _ _ _ _ _ _ _ _ _ _ _ _ _ _ _ _ _ _ _ _ _ _ _ _ _ _ _ _ _ _ _ _ _ _ _ _ _ _ _ _ _ _ _ _ _ _ _ _ _ _ _ _ _ _ _ _ _ _ _ _ _ _ _ _ _ _ _ _ _ _ _ _ _ _ _ _ _ _ _ _ _ _ _ _ _ _ _ _ _ _ _ _ gp gq) ?_
        rintro e a' wb ⟨rfl, ⟨v11, v12, v48, v49, v50, v51, v52, v53, v54, v55, v56, v57, v58, v59, v60, v61, v62, v63, v64, v65, v66, v67, v68, v69, v70, v71, v72, v73, v74, v75, v76, v77, v78, v79, v80, v81, v82, v83, v84, v85, v86, v87, v88, v89, v90, v91, v92, v93, v94, v95, rfl⟩, bq, bb⟩
        have b1 := g1.below bb (by omega)
        have bp := gp.below bb hq
        have bv := gv.belowq (by omega) (by omega) bb
        have lm : (Gf.mixL s1).length = 16 := by rw [Gf.mixL_len]; exact lt
        rw [HM.out] at bq
        clear g1 gp gq gv bb HM
        generalize Gf.mixL s1 = s2 at *
        have ya := b1.setRowOther p (ag s2) (by omega)
        have y2 := bp.setRow (ag s2)
        have yv := bv.store p (ag s2) (by omega) (by omega) (by omega) hpsb
        simp only [Exit.inBlock, if_true, Exit.then]
        go_wp2_with (first
          | (refine wpList_load_row rfl 23 _ rfl _ rfl _ _ bq _ Tryd.underlying23 rfl 16 Tryd.info23 (by rw [ag_size]; exact lm) ?_)
          | (refine wpList_store_row rfl 23 _ _ rfl _ rfl _ rfl _ _ (bp.room (by rw [ag_size]; exact lt)) Tryd.info23 (by rw [ag_size]; exact lm) (ag_one _) ?_)
          | fail)
        refine wp_mono (tail30_any T K s2 hK lm w.heap.size p sb j hlt w hlt0 _ _ _ _ _ _ _ _ _ _ _ _ _ _ _ _ _ _ _ _ _ _ _ _ _ _ _ _ _ _ _ _ _ _ _ _ _ _ _ _ _ _ _ _ _ _ _ _ _ _ _ _ _ _ _ _ _ _ _ _ _ _ _ _ _ _ _ _ _ _ _ _ _ _ _ _ _ _ _ _ _ _ _ _ _ _ _ _ _ _ _ _ _ _ _ _ _ _ _ _ _ y2 ya yv) ?_
        rintro e a' wc ⟨rfl, ⟨v97, v98, v99, v100, v101, v102, rfl⟩, z10, y10⟩
        have l9 := Gf.bxor_len s2 (Gf.rk K (j + 1))
        clear b1 bp bq bv ya y2 yv
        simp only [Exit.inBlock, Exit.then]
        go_wp2
        go_roundw
        case rel => exact ⟨j + 1, _, by omega, hE.out.symm, l9, by go_num, z10, y10⟩
        case measure => simp [intOf]; omega
      · have hE : Hid (Gf.encTo T K b (j + 1) = Gf.bxor (Gf.turn (Gf.subst T s) 1) (Gf.rk K (j + 1))) := by
          have e := hs.out
          show _ = _
          have h9' : ¬ j + 1 < 10 := by omega
          rw [e]; simp only [Gf.encTo, h9', if_false]
        generalize Gf.turn (Gf.subst T s) 1 = s1 at *
        have g1 : Room wa (w.heap.size + 1) 23 16 := f1.room (by rw [ag_size]; exact hl)
        simp only [Exit.inBlock, if_true, Exit.then]
        go_wp2
        refine wp_mono (tail30_any T K s1 hK lt w.heap.size p sb j hlt w hlt0 _ _ _ _ _ _ _ _ _ _ _ _ _ _ _ _ _ _ _ _ _ _ _ _ _ _ _ _ _ _ _ _ _ _ _ _ _ _ _ _ _ _ _ _ _ _ _ _ _ _ _ _ _ _ _ _ _ _ _ _ _ _ _ _ _ _ _ _ _ _ _ _ _ _ _ _ _ _ _ _ _ _ _ _ _ _ _ _ _ _ _ _ _ _ _ _ _ _ _ _ _ fp g1 fv) ?_
        rintro e a' wc ⟨rfl, ⟨v97, v98, v99, v100, v101, v102, rfl⟩, z10, y10⟩
        have l9 := Gf.bxor_len s1 (Gf.rk K (j + 1))
        clear f1 fp fv g1
        simp only [Exit.inBlock, Exit.then]
        go_wp2
        go_roundw
        case rel => exact ⟨j + 1, _, by omega, hE.out.symm, l9, by go_num, z10, y10⟩
        case measure => simp [intOf]; omega
    · have hj10 : j = 10 := by omega
      have hR : s = res := by rw [← HRS.out, hs.out, hj10]
      clear hs hj10
      subst hR
      go_wp2_with (first
        | (refine wpList_load_row rfl 23 _ rfl _ rfl _ _ h1 _ Tryd.underlying23 rfl 16 Tryd.info23 (by rw [ag_size]; exact hl) ?_)
        | (refine wpList_store_row rfl 23 _ _ rfl _ rfl _ rfl _ _ hv.res Tryd.info23 (by rw [ag_size]; exact hl) (ag_one _) ?_))
      exact bodyPost_ret (results_row rfl _ _ rfl _ _ (hv.res.setRow _) _ Tryd.underlying23 rfl 16 Tryd.info23 (by rw [ag_size]; exact hl)) rfl ⟨rfl, below_setRow hv.bel (by omega) _⟩
end Go.Proofs.YtmolhljgmaoflaaDoor
