/- The walk of the reference's Cipher.Encrypt. -/
import Derived.Test.YthcokaffbgbanaaDoorXg
import Derived.Test.YthcokaffbgbanaaDoorXf
import Derived.Test.YthcokaffbgbanaaDoorXb
import Derived.Test.YthcokaffbgbanaaDoorXe
import Derived.Deep.Cut
namespace Go.Proofs.YthcokaffbgbanaaDoor
open Go.RowKit Go.BigFrame

theorem cip_cell0 (a : Value) (K : List UInt8) : (cip a K)[0]? = some a := by
  rw [cip, Array.getElem?_append_left (by simp)]; rfl
theorem cip_range {w : World} {b : Nat} {t : TypeId} {a : Value} {K : List UInt8} (h : Row w b t (cip a K)) (o n : Nat) : w.rangeAt b (1 + o) (((K.drop o).take n).map B) := fun j v hv => by
  rw [h.cell, cip, Array.getElem?_append_right (by simp; omega)]
  simp only [List.getElem?_map, List.getElem?_take, List.getElem?_drop] at hv
  split at hv
  · have e : 1 + o + j - (#[a] : Array Value).size = o + j := by simp; omega
    rw [e]; simpa [ag] using hv
  · simp at hv
theorem wpList_load_cip {P : Program} {ops : Array Oper} {rest : List Oper} {op : Oper} {a : Act} {w : World} {Q : Exit → Act → World → Prop} (hgd : op.guard = none) (ty : TypeId) (x : Operand) (ho : op.op = .load ty x) (b o : Nat) (hx : a.eval x = .pointer (some ⟨b, 1 + o, none⟩))
    (t : TypeId) (v : Value) (l : List UInt8) (hr : Row w b t (cip v l)) (d : TypeDesc) (hu : P.underlying ty = some d) (hd : d.isRow = true) (n : Nat) (hi : (P.info? ty).map (·.size) = some n) (hn : o + n ≤ l.length)
    (h : wpList P ops Q rest (a.put op.dst (.agg (ag ((l.drop o).take n)))) w) : wpList P ops Q (op :: rest) a w :=
  wpList_load_mid hgd ty x ho b (1 + o) hx _ d (cip_range hr o n) hu hd (by rw [hi]; simp; omega) h
theorem quiet_load_cip {P : Program} {C : World → Prop} {K : Act → Prop} {op : Oper} {a : Act} (ty : TypeId) (x : Operand) (ho : op.op = .load ty x) (b o : Nat) (hx : a.eval x = .pointer (some ⟨b, 1 + o, none⟩))
    (t : TypeId) (v : Value) (l : List UInt8) (hr : ∀ w, C w → Row w b t (cip v l)) (d : TypeDesc) (hu : P.underlying ty = some d) (hd : d.isRow = true) (n : Nat) (hi : (P.info? ty).map (·.size) = some n) (hn : o + n ≤ l.length)
    (h : K (a.put op.dst (.agg (ag ((l.drop o).take n))))) : op.quiet P a C K :=
  ⟨_, fun w hw => by
    have hrun := run_loadAt_mid (P := P) w b (1 + o) ty _ d (cip_range (hr w hw) o n) hu hd (by rw [hi]; simp; omega)
    unfold Oper.quietAt execOp
    simp only [ho, hx, Sem.run_bind, hrun, Result.andThen_ok]
    exact ⟨rfl, rfl⟩, h⟩

/-- What stands while a block goes through the reference's rounds. -/
structure EnvC (N sb : Nat) (T K : List UInt8) (w0 w : World) : Prop where
  cph : Row w N 108 (cip (.pointer (some ⟨sb, 0, none⟩)) K)
  res : Room w (N + 1 + 1) 23 16
  tab : Row w sb 118 (ag T)
  bel : Below N w0 w
theorem EnvC.below {N sb : Nat} {T K : List UInt8} {w0 w w' : World} (h : EnvC N sb T K w0 w) (hb : Below w.heap.size w w') : EnvC N sb T K w0 w' :=
  ⟨h.cph.below hb h.cph.lt, h.res.below hb (h.res.elim fun _ h => h.1.lt), h.tab.below hb h.tab.lt, h.bel.trans (hb.mono (by have := h.cph.lt; omega))⟩
theorem EnvC.store {N sb : Nat} {T K : List UInt8} {w0 w : World} (h : EnvC N sb T K w0 w) (p : Nat) (c : Array Value) (h1 : N ≤ p) (h2 : p ≠ N) (h3 : p ≠ N + 1 + 1) (h4 : p ≠ sb) : EnvC N sb T K w0 (w.setRow p c) :=
  ⟨h.cph.setRowOther _ _ (Ne.symm h2), h.res.setRowOther _ _ (Ne.symm h3), h.tab.setRowOther _ _ (Ne.symm h4), below_setRow h.bel h1 _⟩
theorem EnvC.setCell {N sb : Nat} {T K : List UInt8} {w0 w : World} (h : EnvC N sb T K w0 w) (p : Nat) (k : Nat) (v : Value) (h1 : N ≤ p) (h2 : p ≠ N) (h3 : p ≠ N + 1 + 1) (h4 : p ≠ sb) : EnvC N sb T K w0 (w.setCell ⟨p, k, none⟩ v) :=
  ⟨h.cph.setOther _ _ (Ne.symm h2), h.res.setOther _ _ (Ne.symm h3), h.tab.setOther _ _ (Ne.symm h4), h.bel.setCell h1 _⟩
theorem EnvC.drew {N sb : Nat} {T K : List UInt8} {w0 w : World} (h : EnvC N sb T K w0 w) : EnvC N sb T K w0 w.drew := ⟨h.cph, h.res, h.tab, h.bel.drew⟩
theorem EnvC.alloc {N sb : Nat} {T K : List UInt8} {w0 w : World} (h : EnvC N sb T K w0 w) (o : Obj) : EnvC N sb T K w0 (w.alloc o) := ⟨h.cph.alloc _, h.res.alloc _, h.tab.alloc _, h.bel.alloc (by have := h.cph.lt; omega) _⟩

def sh (T s : List UInt8) (i : Nat) : UInt8 := Gf.look T (s.getD ((i + 4 * (i % 4)) % 16) 0)
theorem sh_turn (T s : List UInt8) : (List.range 16).map (sh T s) = Gf.turn (Gf.subst T s) 1 := by
  unfold Gf.turn
  apply List.map_congr_left
  intro i _
  unfold sh Gf.subst
  have h : (i + 4 * (i % 4) * 1) % 16 < 16 := by omega
  rw [Nat.mul_one] at *
  simp [h]


theorem EnvC.belowq {N sb q : Nat} {T K : List UInt8} {w0 w w' : World} (h : EnvC N sb T K w0 w) (h1 : N + 1 + 1 < q) (h2 : sb < q) (hb : Below q w w') : EnvC N sb T K w0 w' :=
  ⟨h.cph.below hb (by omega), h.res.below hb h1, h.tab.below hb h2, h.bel.trans (hb.mono (by omega))⟩
def regOf (n : Nat) : Code → Option Code
  | .region m o b => if m = n then some (.region m o b) else none
  | .block _ c => regOf n c
  | .seq a b => match regOf n a with
    | some c => some c
    | none => regOf n b
  | .loop c => regOf n c
  | .scope c => regOf n c
  | .cond _ a b => match regOf n a with
    | some c => some c
    | none => regOf n b
  | _ => none
set_option maxRecDepth 1000000 in
set_option maxHeartbeats 4000000 in
theorem rows30_any (T K s : List UInt8) (hT : T.length = 256) (hl : s.length = 16) (N p sb : Nat) (hN : N + 1 < p) (u0 u1 u4 u5 u8 u9 u10 u11 u12 u13 u14 u15 u16 u17 u18 u19 u20 u21 u22 u23 u24 u25 u26 u27 u28 u29 u30 u31 u32 u33 u34 u35 u36 u37 u38 u39 u40 u41 u42 u43 u44 u45 u46 u47 u48 u49 u50 u51 u52 u53 u54 u55 u56 u57 u58 u59 u60 u61 u62 u63 u64 u65 u66 u67 u68 u69 u70 u71 u72 u73 u74 u75 u76 u77 u78 u79 u80 u81 u82 u83 u84 u85 u86 u87 u88 u89 u90 u91 u92 u93 u94 u95 u96 u97 u98 u99 u100 u101 u102 u103 : Value) (w : World) (r0 : Row w N 108 (cip (.pointer (some ⟨sb, 0, none⟩)) K)) (r1 : Row w (N + 1) 23 (ag s)) (rt : Row w sb 118 (ag T)) (hsp : sb < p) (gp : Row w p 23 (ag (Gf.zeros 16))) :
    Code.wp Tryd.prog ((Tryd.f57.body.bind (inBlock 2)).getD .skip) (fun e a' w' => e = .exit 2 ∧ (∃ v7 v8 v9 v22 v23 v24 v25 v26 v27 v28 v29 v30 v31 v32 v33 v34 v35 v36 v37 v38 v39 v40 v41 v42 v43 v44 v45 : Value, a' = ⟨List.toArray (u0 :: u1 :: .pointer (some ⟨N, 0, none⟩) :: .pointer (some ⟨N + 1, 0, none⟩) :: u4 :: u5 :: .pointer (some ⟨p, 0, none⟩) :: v7 :: v8 :: v9 :: u10 :: u11 :: u12 :: u13 :: u14 :: u15 :: u16 :: u17 :: u18 :: u19 :: u20 :: u21 :: v22 :: v23 :: v24 :: v25 :: v26 :: v27 :: v28 :: v29 :: v30 :: v31 :: v32 :: v33 :: v34 :: v35 :: v36 :: v37 :: v38 :: v39 :: v40 :: v41 :: v42 :: v43 :: v44 :: v45 :: u46 :: u47 :: u48 :: u49 :: u50 :: u51 :: u52 :: u53 :: u54 :: u55 :: u56 :: u57 :: u58 :: u59 :: u60 :: u61 :: u62 :: u63 :: u64 :: u65 :: u66 :: u67 :: u68 :: u69 :: u70 :: u71 :: u72 :: u73 :: u74 :: u75 :: u76 :: u77 :: u78 :: u79 :: u80 :: u81 :: u82 :: u83 :: u84 :: u85 :: u86 :: u87 :: u88 :: u89 :: u90 :: u91 :: u92 :: u93 :: u94 :: u95 :: u96 :: u97 :: u98 :: u99 :: u100 :: u101 :: u102 :: u103 :: []), []⟩) ∧ Row w' p 23 (ag (Gf.turn (Gf.subst T s) 1)) ∧ Below p w w') ⟨List.toArray (u0 :: u1 :: .pointer (some ⟨N, 0, none⟩) :: .pointer (some ⟨N + 1, 0, none⟩) :: u4 :: u5 :: .pointer (some ⟨p, 0, none⟩) :: .int .i64 0 :: u8 :: u9 :: u10 :: u11 :: u12 :: u13 :: u14 :: u15 :: u16 :: u17 :: u18 :: u19 :: u20 :: u21 :: u22 :: u23 :: u24 :: u25 :: u26 :: u27 :: u28 :: u29 :: u30 :: u31 :: u32 :: u33 :: u34 :: u35 :: u36 :: u37 :: u38 :: u39 :: u40 :: u41 :: u42 :: u43 :: u44 :: u45 :: u46 :: u47 :: u48 :: u49 :: u50 :: u51 :: u52 :: u53 :: u54 :: u55 :: u56 :: u57 :: u58 :: u59 :: u60 :: u61 :: u62 :: u63 :: u64 :: u65 :: u66 :: u67 :: u68 :: u69 :: u70 :: u71 :: u72 :: u73 :: u74 :: u75 :: u76 :: u77 :: u78 :: u79 :: u80 :: u81 :: u82 :: u83 :: u84 :: u85 :: u86 :: u87 :: u88 :: u89 :: u90 :: u91 :: u92 :: u93 :: u94 :: u95 :: u96 :: u97 :: u98 :: u99 :: u100 :: u101 :: u102 :: u103 :: []), []⟩ w := by
  conv => arg 2; whnf
  have HF : Hid (Gf.fill (Gf.zeros 16) (sh T s) 16 = Gf.turn (Gf.subst T s) 1) := (Gf.fill_full (Gf.zeros 16) _ 16 rfl).trans (sh_turn T s)
  generalize Gf.turn (Gf.subst T s) 1 = res at *
  go_loopw [7] (fun i wr' => ∃ k : Nat, k ≤ 16 ∧ i = .int .i64 k ∧ Row wr' p 23 (ag (Gf.fill (Gf.zeros 16) (sh T s) k)) ∧ Below p w wr') (fun i _ => 16 - (intOf i).toNat)
  case atStart => exact ⟨0, by omega, rfl, gp, Below.refl _ _⟩
  case round =>
    obtain ⟨k, hk, rfl, fp, fv⟩ := hrel
    have f1 := r1.below fv hN
    have f0 := r0.below fv (by omega)
    have ft := rt.below fv hsp
    clear r1 r0 rt gp
    by_cases hk16 : k < 16
    · obtain ⟨x, hx⟩ : ∃ x, s.getD ((k + 4 * (k % 4)) % 16) 0 = x := ⟨_, rfl⟩
      have HE : Hid (Gf.fill (Gf.zeros 16) (sh T s) (k + 1) = (Gf.fill (Gf.zeros 16) (sh T s) k).set k (T.getD x.toNat 0)) := by
        show _ = _
        rw [← hx]; rfl
      obtain ⟨r, hr⟩ : ∃ r, k % 4 = r := ⟨_, rfl⟩
      obtain ⟨c, hc⟩ : ∃ c, k / 4 = c := ⟨_, rfl⟩
      obtain ⟨c', hc'⟩ : ∃ c', (c + r) % 4 = c' := ⟨_, rfl⟩
      have i1 : (k : Int) % 4 = (r : Int) := by omega
      have i2 : (k : Int) / 4 = (c : Int) := by omega
      have i3 : ((c : Int) + (r : Int)) % 4 = (c' : Int) := by omega
      have i4 : r < 4 := by omega
      have i5 : c < 4 := by omega
      have i6 : c' < 4 := by omega
      have cx : wr.cell? ⟨N + 1, 4 * c' + r, none⟩ = some (.int .u8 (x.toNat : Int)) := by
        have e : 4 * c' + r = (k + 4 * (k % 4)) % 16 := by omega
        rw [e]; exact cell_form (f1.byte (by rw [hl]; omega)) hx
      have hxl : x.toNat < 256 := x.toNat_lt
      have ct := ft.byte (k := x.toNat) (by rw [hT]; exact hxl)
      have cp := fp.byte (k := k) (by rw [Gf.fill_len]; exact hk16)
      have fz := fp.frozen k
      have c0 : wr.cell? ⟨N, 0, none⟩ = some (.pointer (some ⟨sb, 0, none⟩)) := by rw [f0.cell]; exact cip_cell0 _ _
      clear hx hr hc hc' HF
      generalize T.getD x.toNat 0 = y at *
      go_wp2
      refine wp_region_tail 15 (by kernel_rfl) (by kernel_rfl) ?_
      simp only [List.take_succ_cons, List.take_zero, List.drop_succ_cons, List.drop_zero]
      repeat (go_big_quiet_step (fail))
      refine wpQuiet_nil ?_
      go_wp2
      refine ⟨⟨k + 1, by omega, by go_num, ?_, ?_⟩, by simp [intOf]; omega⟩
      · rw [HE.out]; exact (fp.setByte k _).drew
      · exact (fv.setCell (Nat.le_refl _) _).drew
    · have hk' : k = 16 := by omega
      subst hk'
      rw [HF.out] at fp
      go_wp2
      exact ⟨trivial, ⟨_, _, _, _, _, _, _, _, _, _, _, _, _, _, _, _, _, _, _, _, _, _, _, _, _, _, _, rfl⟩, fp, fv⟩
set_option maxRecDepth 1000000 in
set_option maxHeartbeats 4000000 in
theorem tail30_any (T K s2 : List UInt8) (hK : K.length = 176) (l2 : s2.length = 16) (N p sb j : Nat) (hj : j < 10) (w0 : World) (hsb0 : sb < N) (u0 u1 u4 u7 u8 u9 u10 u11 u12 u13 u14 u15 u16 u17 u18 u19 u20 u21 u22 u23 u24 u25 u26 u27 u28 u29 u30 u31 u32 u33 u34 u35 u36 u37 u38 u39 u40 u41 u42 u43 u44 u45 u46 u47 u48 u49 u50 u51 u52 u53 u54 u55 u56 u57 u58 u59 u60 u61 u62 u63 u64 u65 u66 u67 u68 u69 u70 u71 u72 u73 u74 u75 u76 u77 u78 u79 u80 u81 u82 u83 u84 u85 u86 u87 u88 u89 u90 u91 u92 u93 u94 u95 u96 u97 u98 u99 u100 u101 u102 u103 : Value) (w : World) (y2 : Row w p 23 (ag s2)) (ya : Room w (N + 1) 23 16) (yv : EnvC N sb T K w0 w) :
    Code.wp Tryd.prog ((Tryd.f57.body.bind (regOf 21)).getD .skip) (fun e a' w' => e = .normal ∧ (∃ v97 v98 v99 v100 v101 v102 : Value, a' = ⟨List.toArray (u0 :: u1 :: .pointer (some ⟨N, 0, none⟩) :: .pointer (some ⟨N + 1, 0, none⟩) :: u4 :: .int .i64 ((j : Int) + 1) :: .pointer (some ⟨p, 0, none⟩) :: u7 :: u8 :: u9 :: u10 :: u11 :: u12 :: u13 :: u14 :: u15 :: u16 :: u17 :: u18 :: u19 :: u20 :: u21 :: u22 :: u23 :: u24 :: u25 :: u26 :: u27 :: u28 :: u29 :: u30 :: u31 :: u32 :: u33 :: u34 :: u35 :: u36 :: u37 :: u38 :: u39 :: u40 :: u41 :: u42 :: u43 :: u44 :: u45 :: u46 :: u47 :: u48 :: u49 :: u50 :: u51 :: u52 :: u53 :: u54 :: u55 :: u56 :: u57 :: u58 :: u59 :: u60 :: u61 :: u62 :: u63 :: u64 :: u65 :: u66 :: u67 :: u68 :: u69 :: u70 :: u71 :: u72 :: u73 :: u74 :: u75 :: u76 :: u77 :: u78 :: u79 :: u80 :: u81 :: u82 :: u83 :: u84 :: u85 :: u86 :: u87 :: u88 :: u89 :: u90 :: u91 :: u92 :: u93 :: u94 :: u95 :: u96 :: v97 :: v98 :: v99 :: v100 :: v101 :: v102 :: u103 :: []), []⟩) ∧ Row w' (N + 1) 23 (ag (Gf.bxor s2 (Gf.rk K (j + 1)))) ∧ EnvC N sb T K w0 w') ⟨List.toArray (u0 :: u1 :: .pointer (some ⟨N, 0, none⟩) :: .pointer (some ⟨N + 1, 0, none⟩) :: u4 :: .int .i64 ((j : Int) + 1) :: .pointer (some ⟨p, 0, none⟩) :: u7 :: u8 :: u9 :: u10 :: u11 :: u12 :: u13 :: u14 :: u15 :: u16 :: u17 :: u18 :: u19 :: u20 :: u21 :: u22 :: u23 :: u24 :: u25 :: u26 :: u27 :: u28 :: u29 :: u30 :: u31 :: u32 :: u33 :: u34 :: u35 :: u36 :: u37 :: u38 :: u39 :: u40 :: u41 :: u42 :: u43 :: u44 :: u45 :: u46 :: u47 :: u48 :: u49 :: u50 :: u51 :: u52 :: u53 :: u54 :: u55 :: u56 :: u57 :: u58 :: u59 :: u60 :: u61 :: u62 :: u63 :: u64 :: u65 :: u66 :: u67 :: u68 :: u69 :: u70 :: u71 :: u72 :: u73 :: u74 :: u75 :: u76 :: u77 :: u78 :: u79 :: u80 :: u81 :: u82 :: u83 :: u84 :: u85 :: u86 :: u87 :: u88 :: u89 :: u90 :: u91 :: u92 :: u93 :: u94 :: u95 :: u96 :: u97 :: u98 :: u99 :: u100 :: u101 :: u102 :: u103 :: []), []⟩ w := by
  conv => arg 2; whnf
  refine wp_region_tail 5 (by kernel_rfl) (by kernel_rfl) ?_
  simp only [List.take_succ_cons, List.take_zero, List.drop_succ_cons, List.drop_zero]
  go_big_quiet_want
  refine quiet_load_row 23 _ rfl _ rfl _ _ (fun w' hw' => by rw [hw']; exact y2) _ Tryd.underlying23 rfl 16 Tryd.info23 (by rw [ag_size]; exact l2) ?_
  go_big_quiet_on
  simp only [Act.put, List.setIfInBounds_toArray, List.set_cons_succ, List.set_cons_zero]
  repeat (go_big_quiet_step (fail))
  go_big_quiet_want
  refine quiet_load_cip 23 _ rfl _ ((j + 1) * 16) (by exact rfl) _ _ _ (fun w' hw' => by rw [hw']; exact yv.cph) _ Tryd.underlying23 rfl 16 Tryd.info23 (by rw [hK]; omega) ?_
  go_big_quiet_on
  simp only [Act.put, List.setIfInBounds_toArray, List.set_cons_succ, List.set_cons_zero]
  refine wpQuiet_nil ?_
  go_wp2_with fail
  refine (refAgainst_any s2 (Gf.rk K (j + 1)) l2 (Gf.rk_len _ _ hK (by omega)) _).mono ?_
  rintro e w9 ⟨rfl, hb9⟩
  have y9 := yv.drew.below hb9
  have p9 : Room w9 (N + 1) 23 16 := ya.drew.below hb9 (ya.elim fun _ h => h.1.lt)
  have l9 := Gf.bxor_len s2 (Gf.rk K (j + 1))
  have y10 := y9.store (N + 1) (ag (Gf.bxor s2 (Gf.rk K (j + 1)))) (by omega) (by omega) (by omega) (by omega)
  have z10 := p9.setRow (ag (Gf.bxor s2 (Gf.rk K (j + 1))))
  clear hb9 yv ya y2
  generalize Gf.bxor s2 (Gf.rk K (j + 1)) = s3 at *
  go_wp2_with (refine wpList_store_row rfl 23 _ _ rfl _ rfl _ rfl _ _ p9 Tryd.info23 (by rw [ag_size]; exact l9) (ag_one _) ?_)
set_option maxRecDepth 100000 in
set_option maxHeartbeats 2000000 in
theorem cipher_any (T K b : List UInt8) (hT : T.length = 256) (hK : K.length = 176) (hb : b.length = 16) (w : World) (sb : Nat) (hsb : Row w sb 118 (ag T)) :
    Calls Tryd.prog 57 #[.agg (cip (.pointer (some ⟨sb, 0, none⟩)) K), .agg (ag b)] w fun e w' => e = .returned (.agg (ag (Gf.encTo T K b 10))) ∧ Below w.heap.size w w' := by
  have hlt0 := hsb.lt
  obtain ⟨res, hres⟩ : ∃ res, Gf.encTo T K b 10 = res := ⟨_, rfl⟩
  rw [hres]
  have HRS := show Hid _ from hres
  clear hres
  go_enter Tryd.func57, Tryd.ntmps57
  have r0 : Row (((w.alloc (.cells (cip (.pointer (some ⟨sb, 0, none⟩)) K) 108)).alloc (.cells (ag b) 23)).alloc (.cells (ag (Gf.zeros 16)) 23)) w.heap.size 108 (cip (.pointer (some ⟨sb, 0, none⟩)) K) := ((Row.new _ _ _).alloc _).alloc _
  have r1 : Row (((w.alloc (.cells (cip (.pointer (some ⟨sb, 0, none⟩)) K) 108)).alloc (.cells (ag b) 23)).alloc (.cells (ag (Gf.zeros 16)) 23)) (w.heap.size + 1) 23 (ag b) := (Row.made _ _ _ _ _ rfl (by simp)).alloc _
  go_wp2_with (first
    | (refine wpList_load_row rfl 23 (.tmp 3) rfl _ rfl _ _ r1 _ Tryd.underlying23 rfl 16 Tryd.info23 (by rw [ag_size]; exact hb) ?_)
    | (refine wpList_load_cip rfl 23 (.tmp 15) rfl _ 0 rfl _ _ _ r0 _ Tryd.underlying23 rfl 16 Tryd.info23 (by rw [hK]; omega) ?_)
    | fail)
  refine (refAgainst_any b (List.take 16 K) hb (by rw [List.length_take, hK]; rfl) _).mono ?_
  rintro e w1 ⟨rfl, hb1⟩
  have hbl1 : Below w.heap.size w w1 := ((((Below.refl _ _).alloc (Nat.le_refl _) _).alloc (by simp) _).alloc (by simp; omega) _).trans (hb1.mono (by simp; omega))
  have hv1 : EnvC w.heap.size sb T K w w1 := ⟨Row.below (((Row.new _ _ _).alloc _).alloc _) hb1 (by simp; omega), Room.below (Room.made _ _ _ _ _ rfl (by simp)) hb1 (by simp), hsb.below hbl1 hlt0, hbl1⟩
  have p1 : Room w1 (w.heap.size + 1) 23 16 := (Row.below ((Row.made _ _ _ _ _ rfl (by simp)).alloc _) hb1 (by simp) : Row w1 (w.heap.size + 1) 23 (ag b)).room (by rw [ag_size]; exact hb)
  have hz1 : w.heap.size + 1 + 1 < w1.heap.size := hv1.res.elim fun _ h => h.1.lt
  have l0 := Gf.bxor_len b (List.take 16 K)
  have H0 : Hid (Gf.bxor b (List.take 16 K) = Gf.encTo T K b 0) := rfl
  have hv2 := hv1.store (w.heap.size + 1) (ag (Gf.bxor b (List.take 16 K))) (by omega) (by omega) (by omega) (by omega)
  have q1 := p1.setRow (ag (Gf.bxor b (List.take 16 K)))
  clear hb1 hbl1 r0 r1 hv1
  generalize Gf.bxor b (List.take 16 K) = s0 at *
  go_wp2_with (refine wpList_store_row rfl 23 _ _ rfl _ rfl _ rfl _ _ p1 Tryd.info23 (by rw [ag_size]; exact l0) (ag_one _) ?_)
  go_loopw [5] (fun i wr => ∃ (j : Nat) (s : List UInt8), j ≤ 10 ∧ Hid (s = Gf.encTo T K b j) ∧ s.length = 16 ∧ i = .int .i64 ((j : Int) + 1) ∧ Row wr (w.heap.size + 1) 23 (ag s) ∧ EnvC w.heap.size sb T K w wr) (fun i _ => 11 - (intOf i).toNat)
  case atStart => exact ⟨0, s0, by omega, H0, l0, rfl, q1, hv2⟩
  case round =>
    clear p1 q1 hv2 H0 l0 hz1
    obtain ⟨j, s, hj, hs, hl, rfl, h1, hv⟩ := hrel
    by_cases hlt : j < 10
    · have hp : w.heap.size + 1 + 1 < wr.heap.size := hv.res.elim fun _ h => h.1.lt
      have HF : Hid (Gf.fill (Gf.zeros 16) (sh T s) 16 = Gf.turn (Gf.subst T s) 1) := (Gf.fill_full (Gf.zeros 16) _ 16 rfl).trans (sh_turn T s)
      go_wp2
      have g1 : Row (wr.alloc (.cells (ag (Gf.zeros 16)) 23)) (w.heap.size + 1) 23 (ag s) := h1.alloc _
      have gv : EnvC w.heap.size sb T K w (wr.alloc (.cells (ag (Gf.zeros 16)) 23)) := hv.alloc _
      have gp : Row (wr.alloc (.cells (ag (Gf.zeros 16)) 23)) wr.heap.size 23 (ag (Gf.zeros 16)) := Row.new _ _ _
      have hpsb : ¬ wr.heap.size = sb := by have := hv.tab.lt; omega
      generalize wr.heap.size = p at *
      refine wp_mono (rows30_any T K s hT hl w.heap.size p sb (by omega) _ _ _ _ _ _ _ _ _ _ _ _ _ _ _ _ _ _ _ _ _ _ _ _ _ _ _ _ _ _ _ _ _ _ _ _ _ _ _ _ _ _ _ _ _ _ _ _ _ _ _ _ _ _ _ _ _ _ _ _ _ _ _ _ _ _ _ _ _ _ _ _ _ _ _ _ _ _ _ _ _ _ _ _ _ _ _ _ _ _ _ _ _ _ _ _ _ _ _ _ _ gv.cph g1 gv.tab (by omega) gp) ?_
      rintro e a' wa ⟨rfl, ⟨v7, v8, v9, v22, v23, v24, v25, v26, v27, v28, v29, v30, v31, v32, v33, v34, v35, v36, v37, v38, v39, v40, v41, v42, v43, v44, v45, rfl⟩, fp, fb⟩
      have f1 := g1.below fb (by omega)
      have fv := gv.belowq hp (by omega) fb
      clear g1 gv gp h1 hv fb HF
      have lt := Gf.turn_len (Gf.subst T s) 1
      by_cases h9 : j < 9
      · have hE : Hid (Gf.encTo T K b (j + 1) = Gf.bxor (Gf.mixL (Gf.turn (Gf.subst T s) 1)) (Gf.rk K (j + 1))) := by
          have e := hs.out
          show _ = _
          have h9' : j + 1 < 10 := by omega
          rw [e]; simp only [Gf.encTo, h9', if_true]
        have HM : Hid ((List.range 16).map (rmix (Gf.turn (Gf.subst T s) 1)) = Gf.mixL (Gf.turn (Gf.subst T s) 1)) := rmix_mix _ lt
        generalize Gf.turn (Gf.subst T s) 1 = s1 at *
        have hq : p < wa.heap.size := fp.lt
        simp only [Exit.inBlock, if_true, Exit.then]
        go_wp2
        have gq : Row (wa.alloc (.cells (ag (Gf.zeros 16)) 23)) wa.heap.size 23 (ag (Gf.zeros 16)) := Row.new _ _ _
        have g1 : Room (wa.alloc (.cells (ag (Gf.zeros 16)) 23)) (w.heap.size + 1) 23 16 := (f1.alloc _).room (by rw [ag_size]; exact hl)
        have gp : Row (wa.alloc (.cells (ag (Gf.zeros 16)) 23)) p 23 (ag s1) := fp.alloc _
        have gv : EnvC w.heap.size sb T K w (wa.alloc (.cells (ag (Gf.zeros 16)) 23)) := fv.alloc _
        clear f1 fp fv
        generalize wa.heap.size = q at *
        refine wp_mono (nest30_any s1 lt p q hq _ _ _ _ _ _ _ _ _ _ _ _ _ _ _ _ _ _ _ _ _ _ _ _ _ _ _ _ _ _ _ _ _ _ _ _ _ _ _ _ _ _ _ _ _ _ _ _ _ _ _ _ _ _ _ _ _ _ _ _ _ _ _ _ _ _ _ _ _ _ _ _ _ _ _ _ _ _ _ _ _ _ _ _ _ _ _ _ _ _ _ _ _ _ _ _ _ _ _ _ _ _ gp gq) ?_
        rintro e a' wb ⟨rfl, ⟨v11, v12, v48, v49, v50, v51, v52, v53, v54, v55, v56, v57, v58, v59, v60, v61, v62, v63, v64, v65, v66, v67, v68, v69, v70, v71, v72, v73, v74, v75, v76, v77, v78, v79, v80, v81, v82, v83, v84, v85, v86, v87, v88, v89, v90, v91, v92, v93, v94, v95, rfl⟩, bq, bb⟩
        have b1 := g1.below bb (by omega)
        have bp := gp.below bb hq
        have bv := gv.belowq (by omega) (by omega) bb
        have lm : (Gf.mixL s1).length = 16 := by rw [Gf.mixL_len]; exact lt
        rw [HM.out] at bq
        clear g1 gp gq gv bb HM
        generalize Gf.mixL s1 = s2 at *
        have ya := b1.setRowOther p (ag s2) (by omega)
        have y2 := bp.setRow (ag s2)
        have yv := bv.store p (ag s2) (by omega) (by omega) (by omega) hpsb
        simp only [Exit.inBlock, if_true, Exit.then]
        go_wp2_with (first
          | (refine wpList_load_row rfl 23 _ rfl _ rfl _ _ bq _ Tryd.underlying23 rfl 16 Tryd.info23 (by rw [ag_size]; exact lm) ?_)
          | (refine wpList_store_row rfl 23 _ _ rfl _ rfl _ rfl _ _ (bp.room (by rw [ag_size]; exact lt)) Tryd.info23 (by rw [ag_size]; exact lm) (ag_one _) ?_)
          | fail)
        refine wp_mono (tail30_any T K s2 hK lm w.heap.size p sb j hlt w hlt0 _ _ _ _ _ _ _ _ _ _ _ _ _ _ _ _ _ _ _ _ _ _ _ _ _ _ _ _ _ _ _ _ _ _ _ _ _ _ _ _ _ _ _ _ _ _ _ _ _ _ _ _ _ _ _ _ _ _ _ _ _ _ _ _ _ _ _ _ _ _ _ _ _ _ _ _ _ _ _ _ _ _ _ _ _ _ _ _ _ _ _ _ _ _ _ _ _ _ _ _ _ y2 ya yv) ?_
        rintro e a' wc ⟨rfl, ⟨v97, v98, v99, v100, v101, v102, rfl⟩, z10, y10⟩
        have l9 := Gf.bxor_len s2 (Gf.rk K (j + 1))
        clear b1 bp bq bv ya y2 yv
        simp only [Exit.inBlock, Exit.then]
        go_wp2
        go_roundw
        case rel => exact ⟨j + 1, _, by omega, hE.out.symm, l9, by go_num, z10, y10⟩
        case measure => simp [intOf]; omega
      · have hE : Hid (Gf.encTo T K b (j + 1) = Gf.bxor (Gf.turn (Gf.subst T s) 1) (Gf.rk K (j + 1))) := by
          have e := hs.out
          show _ = _
          have h9' : ¬ j + 1 < 10 := by omega
          rw [e]; simp only [Gf.encTo, h9', if_false]
        generalize Gf.turn (Gf.subst T s) 1 = s1 at *
        have g1 : Room wa (w.heap.size + 1) 23 16 := f1.room (by rw [ag_size]; exact hl)
        simp only [Exit.inBlock, if_true, Exit.then]
        go_wp2
        refine wp_mono (tail30_any T K s1 hK lt w.heap.size p sb j hlt w hlt0 _ _ _ _ _ _ _ _ _ _ _ _ _ _ _ _ _ _ _ _ _ _ _ _ _ _ _ _ _ _ _ _ _ _ _ _ _ _ _ _ _ _ _ _ _ _ _ _ _ _ _ _ _ _ _ _ _ _ _ _ _ _ _ _ _ _ _ _ _ _ _ _ _ _ _ _ _ _ _ _ _ _ _ _ _ _ _ _ _ _ _ _ _ _ _ _ _ _ _ _ _ fp g1 fv) ?_
        rintro e a' wc ⟨rfl, ⟨v97, v98, v99, v100, v101, v102, rfl⟩, z10, y10⟩
        have l9 := Gf.bxor_len s1 (Gf.rk K (j + 1))
        clear f1 fp fv g1
        simp only [Exit.inBlock, Exit.then]
        go_wp2
        go_roundw
        case rel => exact ⟨j + 1, _, by omega, hE.out.symm, l9, by go_num, z10, y10⟩
        case measure => simp [intOf]; omega
    · have hj10 : j = 10 := by omega
      have hR : s = res := by rw [← HRS.out, hs.out, hj10]
      clear hs hj10
      subst hR
      go_wp2_with (first
        | (refine wpList_load_row rfl 23 _ rfl _ rfl _ _ h1 _ Tryd.underlying23 rfl 16 Tryd.info23 (by rw [ag_size]; exact hl) ?_)
        | (refine wpList_store_row rfl 23 _ _ rfl _ rfl _ rfl _ _ hv.res Tryd.info23 (by rw [ag_size]; exact hl) (ag_one _) ?_))
      exact bodyPost_ret (results_row rfl _ _ rfl _ _ (hv.res.setRow _) _ Tryd.underlying23 rfl 16 Tryd.info23 (by rw [ag_size]; exact hl)) rfl ⟨rfl, below_setRow hv.bel (by omega) _⟩
end Go.Proofs.YthcokaffbgbanaaDoor

/- The reference's cipher with its L's: how it lies in memory, how it is built. -/
namespace Go.Proofs.YthcokaffbgbanaaDoor
open Go.RowKit Go.BigFrame

def els (a : Value) (K s c : List UInt8) : Array Value := cip a K ++ ag s ++ ag c
set_option maxRecDepth 100000 in
theorem els_size (a : Value) (K s c : List UInt8) (hK : K.length = 176) (hs : s.length = 16) (hc : c.length = 16) : (els a K s c).size = 209 := by
  rw [els, Array.size_append, Array.size_append, cip_size, ag_size, ag_size, hK, hs, hc]
set_option maxRecDepth 100000 in
theorem els_get (a : Value) (K s c : List UInt8) (hK : K.length = 176) (hs : s.length = 16) (j : Nat) : (els a K s c)[j]? = if j < 177 then (cip a K)[j]? else if j < 193 then (ag s)[j - 177]? else (ag c)[j - 193]? := by
  have h1 : (cip a K).size = 177 := by rw [cip_size, hK]
  have h2 : (ag s).size = 16 := by rw [ag_size, hs]
  unfold els
  by_cases a1 : j < 177
  · rw [if_pos a1, Array.getElem?_append_left (by rw [Array.size_append]; omega), Array.getElem?_append_left (by omega)]
  · rw [if_neg a1]
    by_cases a2 : j < 193
    · rw [if_pos a2, Array.getElem?_append_left (by rw [Array.size_append]; omega), Array.getElem?_append_right (by omega), h1]
    · rw [if_neg a2, Array.getElem?_append_right (by rw [Array.size_append]; omega), Array.size_append, h1, h2]
set_option maxRecDepth 100000 in
theorem els_one (a : Option Addr) (K s c : List UInt8) : (els (.pointer a) K s c).all (·.oneCell') = true := by
  rw [Array.all_eq_true_iff_forall_mem]; intro v hv
  simp only [els, Array.mem_append] at hv
  rcases hv with (hv | hv) | hv
  · exact Array.all_eq_true_iff_forall_mem.1 (cip_one a K) v hv
  · exact Array.all_eq_true_iff_forall_mem.1 (ag_one s) v hv
  · exact Array.all_eq_true_iff_forall_mem.1 (ag_one c) v hv
set_option maxRecDepth 100000 in
theorem Tryd.zero110 : (Tryd.prog.info? 110).map (fun i => (i.zero, i.size)) = some (some (.agg (els (.pointer none) (Gf.zeros 176) (Gf.zeros 16) (Gf.zeros 16))), 209) := by kernel_rfl
set_option maxRecDepth 100000 in
theorem Tryd.info110 : (Tryd.prog.info? 110).map (·.size) = some 209 := by kernel_rfl

set_option maxRecDepth 100000 in
theorem fold_ag (off : Nat) (c z : Array Value) (j : Nat) : (Array.foldl (fun cs (x : Value × Nat) => cs.setIfInBounds (off + x.snd) x.fst) z c.zipIdx)[j]? = if off ≤ j ∧ j < off + c.size ∧ j < z.size then c[j - off]? else z[j]? := by
  obtain ⟨l⟩ := c
  have e : Array.foldl (fun cs (x : Value × Nat) => cs.setIfInBounds (off + x.snd) x.fst) z (⟨l⟩ : Array Value).zipIdx = (l.zipIdx 0).foldl (fun cs (p : Value × Nat) => cs.setIfInBounds (off + p.2) p.1) z := by simp
  rw [e, fold_get]
  simp
set_option maxRecDepth 100000 in
theorem fold_size (off : Nat) (c z : Array Value) : (Array.foldl (fun cs (x : Value × Nat) => cs.setIfInBounds (off + x.snd) x.fst) z c.zipIdx).size = z.size := by
  obtain ⟨l⟩ := c
  have e : Array.foldl (fun cs (x : Value × Nat) => cs.setIfInBounds (off + x.snd) x.fst) z (⟨l⟩ : Array Value).zipIdx = (l.zipIdx 0).foldl (fun cs (p : Value × Nat) => cs.setIfInBounds (off + p.2) p.1) z := by simp
  rw [e]
  clear e
  generalize l.zipIdx 0 = q
  induction q generalizing z with
  | nil => rfl
  | cons x q ih => rw [List.foldl_cons, ih]; simp
set_option maxRecDepth 100000 in
theorem run_build54 (w : World) (a : Value) (K s c : List UInt8) (hK : K.length = 176) (hs : s.length = 16) (hc : c.length = 16) :
    (Instr.build 110 #[(0, .agg (cip a K)), (1, .agg (ag s)), (2, .agg (ag c))]).run Tryd.prog w = .ok (.agg (els a K s c)) w := by
  have hz := (zero_of_info Tryd.zero110).1
  have s52 : ∀ w, (sizeOf 108).run Tryd.prog w = .ok 177 w := fun w => run_sizeOf w 108 177 Tryd.info108
  have s23 : ∀ w, (sizeOf 23).run Tryd.prog w = .ok 16 w := fun w => run_sizeOf w 23 16 Tryd.info23
  have hcs : (cip a K).size = 177 := by rw [cip_size, hK]
  have hss : (ag s).size = 16 := by rw [ag_size, hs]
  have hcc : (ag c).size = 16 := by rw [ag_size, hc]
  have hzs : (els (.pointer none) (Gf.zeros 176) (Gf.zeros 16) (Gf.zeros 16)).size = 209 := els_size _ _ _ _ (List.length_replicate) rfl rfl
  have hf : Instr.fill (fun x => ([(0, 177), (177, 16), (193, 16)] : List (Nat × Nat))[x]?) (Value.agg (els (.pointer none) (Gf.zeros 176) (Gf.zeros 16) (Gf.zeros 16))).cells [(0, Value.agg (cip a K)), (1, Value.agg (ag s)), (2, Value.agg (ag c))] = some (els a K s c) := by
    simp only [Instr.fill, Value.cells, List.getElem?_cons_zero, List.getElem?_cons_succ, hcs, hss, hcc, hzs]
    simp only [fold_size, hzs]
    rw [if_neg (by decide), if_neg (by decide), if_neg (by decide)]
    refine congrArg some ?_
    apply Array.ext_getElem?
    intro j
    simp only [fold_ag, fold_size, hzs, hcs, hss, hcc]
    simp only [Nat.zero_add, Nat.reduceAdd, Nat.sub_zero]
    rw [els_get a K s c hK hs]
    by_cases h1 : j < 177
    · rw [if_neg (by omega), if_neg (by omega), if_pos (by omega), if_pos h1]
    · by_cases h2 : j < 193
      · rw [if_neg (by omega), if_pos (by omega), if_neg h1, if_pos h2]
      · rw [if_neg h1, if_neg h2]
        by_cases h3 : j < 209
        · rw [if_pos (by omega)]
        · rw [if_neg (by omega), if_neg (by omega), if_neg (by omega), Array.getElem?_eq_none (by omega), Array.getElem?_eq_none (by omega)]
  unfold Instr.build
  simp only [Sem.run_bind, hz, Result.andThen_ok, run_underlying Tryd.underlying110]
  simp [s52, s23, hf]
end Go.Proofs.YthcokaffbgbanaaDoor

/- The walks of the reference's newElls and at. -/
namespace Go.Proofs.YthcokaffbgbanaaDoor
open Go.RowKit Go.BigFrame

set_option maxRecDepth 100000 in
theorem wp_run {P : Program} {op : Oper} {a : Act} {w : World} {K : Act → World → Prop} {Q : Exit → Act → World → Prop} (v : Value) (hrun : (execOp a.eval op).run P w = .ok (.value v) w) (h : K (a.put op.dst v) w) : op.wp P a w K Q := by
  unfold Oper.wp; rw [hrun]; exact h

/-- The cipher of a key with its L's. -/
def elk (key : List UInt8) (sb : Nat) : Array Value := els (.pointer (some ⟨sb, 0, none⟩)) (Gf.keys Gf.sbox key) (Gf.star key) (Gf.dblk (Gf.star key))
set_option maxRecDepth 100000 in
theorem Gf.star_len (key : List UInt8) : (Gf.star key).length = 16 := Gf.encrypt_len _ _
set_option maxRecDepth 100000 in
theorem elk_size (key : List UInt8) (sb : Nat) : (elk key sb).size = 209 := els_size _ _ _ _ (Gf.keys_len _ _) (Gf.star_len _) (Gf.dblk_len _)
set_option maxRecDepth 100000 in
theorem elk_one (key : List UInt8) (sb : Nat) : (elk key sb).all (·.oneCell') = true := els_one _ _ _ _

set_option maxRecDepth 100000 in
set_option maxHeartbeats 2000000 in
theorem newElls_any (key : List UInt8) (hkey : key.length = 16) (w : World) :
    Calls Tryd.prog 52 #[.agg (ag key)] w fun e w' => ∃ sb, e = .returned (.agg (elk key sb)) ∧ Row w' sb 118 (ag Gf.sbox) ∧ Below w.heap.size w w' := by
  have hE : ∀ w sb, Row w sb 118 (ag Gf.sbox) → Calls Tryd.prog 57 #[.agg (cip (.pointer (some ⟨sb, 0, none⟩)) (Gf.keys Gf.sbox key)), .agg (ag (Gf.zeros 16))] w fun e w' => e = .returned (.agg (ag (Gf.star key))) ∧ Below w.heap.size w w' :=
    fun w sb h => cipher_any Gf.sbox (Gf.keys Gf.sbox key) (Gf.zeros 16) Gf.sbox_len (Gf.keys_len _ _) rfl w sb h
  have hN := new_any key hkey
  have lK := Gf.keys_len Gf.sbox key
  have lS := Gf.star_len key
  have hD := fun w => refDouble_any (Gf.star key) lS w
  have lC := Gf.dblk_len (Gf.star key)
  have hB := fun w a => run_build54 w a (Gf.keys Gf.sbox key) (Gf.star key) (Gf.dblk (Gf.star key)) lK lS lC
  have hel : ∀ sb, elk key sb = els (.pointer (some ⟨sb, 0, none⟩)) (Gf.keys Gf.sbox key) (Gf.star key) (Gf.dblk (Gf.star key)) := fun _ => rfl
  have HEL := Box'.mk hel
  have HB := Box'.mk hB
  clear hel hB
  generalize Gf.keys Gf.sbox key = K at *
  generalize Gf.dblk (Gf.star key) = C at *
  generalize Gf.star key = S at *
  generalize Gf.sbox = T at *
  have z209 : (els (.pointer none) (Gf.zeros 176) (Gf.zeros 16) (Gf.zeros 16)).size = 209 := els_size _ _ _ _ (List.length_replicate) rfl rfl
  generalize hZ : els (.pointer none) (Gf.zeros 176) (Gf.zeros 16) (Gf.zeros 16) = Z at *
  have HZ := Box'.mk hZ
  clear hZ
  have zz := Tryd.zero110
  rw [HZ.out] at zz
  have ZZ := Box'.mk zz
  clear zz
  go_enter Tryd.func52, Tryd.ntmps52
  have r0 : Row ((w.alloc (.cells (ag key) 23)).alloc (.cells Z 110)) w.heap.size 23 (ag key) := (Row.new _ _ _).alloc _
  have q0 : Room ((w.alloc (.cells (ag key) 23)).alloc (.cells Z 110)) (w.heap.size + 1) 110 209 := Room.made _ _ _ _ _ z209 (by simp)
  have b0 : Below w.heap.size w ((w.alloc (.cells (ag key) 23)).alloc (.cells Z 110)) := ((Below.refl _ _).alloc (Nat.le_refl _) _).alloc (by simp) _
  go_wp2_with (first
    | (refine wpList_alloc_row rfl 110 rfl _ _ ZZ.out ?_)
    | (refine wpList_load_row rfl 23 (.tmp 1) rfl _ rfl _ _ r0 _ Tryd.underlying23 rfl 16 Tryd.info23 (by rw [ag_size]; exact hkey) ?_)
    | fail)
  refine (hN _).mono ?_
  rintro e w1 ⟨sb, rfl, t1, hb1⟩
  have q1 : Room w1 (w.heap.size + 1) 110 209 := q0.below hb1 (q0.elim fun _ h => h.1.lt)
  have b1 : Below w.heap.size w w1 := b0.trans (hb1.mono (by simp; omega))
  clear hb1 q0 b0 r0 hN
  have hz1 := q1.elim fun _ h => h.1.lt
  have st := t1.lt
  have z52 : (cip (.pointer none) (Gf.zeros 176)).size = 177 := by rw [cip_size]; show (List.replicate 176 (0 : UInt8)).length + 1 = 177; rw [List.length_replicate]
  generalize hZ2 : cip (.pointer none) (Gf.zeros 176) = Z2 at *
  have zz2 := Tryd.zero108
  rw [hZ2] at zz2
  have ZZ2 := Box'.mk zz2
  clear zz2 hZ2
  have q2 : Room (w1.alloc (.cells Z2 108)) w1.heap.size 108 177 := Room.new _ _ _ _ z52
  have lcip : (cip (.pointer (some ⟨sb, 0, none⟩)) K).size = 177 := by rw [cip_size, lK]
  have ocip := cip_one (some ⟨sb, 0, none⟩) K
  generalize hcip : cip (.pointer (some ⟨sb, 0, none⟩)) K = cp at *
  have r2 : Row ((w1.alloc (.cells Z2 108)).setRow w1.heap.size cp) w1.heap.size 108 cp := q2.setRow cp
  have t2 : Row ((w1.alloc (.cells Z2 108)).setRow w1.heap.size cp) sb 118 (ag T) := (t1.alloc _).setRowOther _ _ (by omega)
  have q3 : Room ((w1.alloc (.cells Z2 108)).setRow w1.heap.size cp) (w.heap.size + 1) 110 209 := (q1.alloc _).setRowOther _ _ (by omega)
  have b2 : Below w.heap.size w ((w1.alloc (.cells Z2 108)).setRow w1.heap.size cp) := below_setRow (b1.alloc b1.size _) b1.size _
  have hz2 : ((w1.alloc (.cells Z2 108)).setRow w1.heap.size cp).heap.size = w1.heap.size + 1 := by simp [World.setRow]
  have HE : Box' (∀ w, Row w sb 118 (ag T) → Calls Tryd.prog 57 #[.agg cp, .agg (ag (Gf.zeros 16))] w fun e w' => e = .returned (.agg (ag S)) ∧ Below w.heap.size w w') := ⟨fun w h => by rw [← hcip]; exact hE w sb h⟩
  have HB2 : Box' (∀ w, (Instr.build 110 #[(0, .agg cp), (1, .agg (ag S)), (2, .agg (ag C))]).run Tryd.prog w = .ok (.agg (elk key sb)) w) := ⟨fun w => by rw [HEL.out, ← hcip]; exact HB.out w _⟩
  have le := elk_size key sb
  have oe := elk_one key sb
  generalize hEL : elk key sb = EL at *
  have HELq := Box'.mk hEL
  clear hE hcip HEL HB hEL
  go_wp2_with (first
    | (refine wpList_alloc_row rfl 108 rfl _ _ ZZ2.out ?_)
    | (refine wpList_store_row rfl 108 (.tmp 3) (.tmp 6) rfl _ rfl _ rfl _ _ q2 Tryd.info108 lcip ocip ?_)
    | (refine wpList_load_row rfl 108 (.tmp 3) rfl _ rfl _ _ r2 _ Tryd.underlying108 rfl 177 Tryd.info108 lcip ?_)
    | fail)
  refine (HE.out _ t2).mono ?_
  rintro e w2 ⟨rfl, hb2⟩
  have r4 : Row w2 w1.heap.size 108 cp := r2.below hb2 r2.lt
  have t4 : Row w2 sb 118 (ag T) := t2.below hb2 t2.lt
  have q6 : Room w2 (w.heap.size + 1) 110 209 := q3.below hb2 (q3.elim fun _ h => h.1.lt)
  have b4 : Below w.heap.size w w2 := b2.trans (hb2.mono b2.size)
  have hz3 := hb2.size
  have hst : sb < w2.heap.size := t4.lt
  have hp2 := r4.lt
  have hN2 := q6.elim fun _ h => h.1.lt
  have hne : sb ≠ w.heap.size + 1 := by
    intro h
    obtain ⟨c, h1, _⟩ := q6
    rw [← h] at h1
    have e : some (Obj.cells c 110 (0, 0)) = some (.cells (ag T) 118 (0, 0)) := h1.symm.trans t4
    injection e with e
    injection e with _ e
    exact absurd e (by decide)
  have qz : Room (w2.alloc (.cells (ag (Gf.zeros 16)) 23)) w2.heap.size 23 16 := Room.new _ _ _ _ rfl
  have q5 : Row ((w2.alloc (.cells (ag (Gf.zeros 16)) 23)).setRow w2.heap.size (ag S)) w2.heap.size 23 (ag S) := qz.setRow _
  have r3 : Row ((w2.alloc (.cells (ag (Gf.zeros 16)) 23)).setRow w2.heap.size (ag S)) w1.heap.size 108 cp := (r4.alloc _).setRowOther _ _ (by omega)
  have t3 : Row ((w2.alloc (.cells (ag (Gf.zeros 16)) 23)).setRow w2.heap.size (ag S)) sb 118 (ag T) := (t4.alloc _).setRowOther _ _ (by omega)
  have q4 : Room ((w2.alloc (.cells (ag (Gf.zeros 16)) 23)).setRow w2.heap.size (ag S)) (w.heap.size + 1) 110 209 := (q6.alloc _).setRowOther _ _ (by omega)
  have b3 : Below w.heap.size w ((w2.alloc (.cells (ag (Gf.zeros 16)) 23)).setRow w2.heap.size (ag S)) := below_setRow (b4.alloc b4.size _) b4.size _
  clear hb2 r2 t2 q3 b2 q2 hz2 HE t1 q1 b1 r4 t4 q6 b4
  go_upto_region 3 with (first
    | (refine wpList_alloc_row rfl 23 rfl _ _ Tryd.zero23 ?_)
    | (refine wpList_store_row rfl 23 (.tmp 4) (.tmp 9) rfl _ rfl _ rfl _ _ qz Tryd.info23 (by rw [ag_size]; exact lS) (ag_one _) ?_)
    | fail)
  refine wp_region_grow 5 (by kernel_rfl) (by kernel_rfl) (fun a b => Below a.heap.size a b) (fun w3 => Row w3 w1.heap.size 108 cp ∧ Row w3 w2.heap.size 23 (ag S) ∧ Room w3 (w.heap.size + 1) 110 209 ∧ Row w3 sb 118 (ag T) ∧ Below w.heap.size w w3) (fun k w1 v => match k with
    | 0 => v = .agg cp
    | 1 => v = .agg (ag S)
    | 2 => v = .agg (ag S)
    | 3 => v = .agg (ag C)
    | 4 => v = .agg EL
    | _ => True) ?_ ?_ ?_ ?_ ?_
  · rintro a b hb ⟨c1, c2, c3, c4, c5⟩
    exact ⟨c1.below hb c1.lt, c2.below hb c2.lt, c3.below hb (c3.elim fun _ h => h.1.lt), c4.below hb c4.lt, c5.trans (hb.mono c5.size)⟩
  · intro k v w1 w2 hC1 hb h
    match k, h with
    | 0, h => exact h
    | 1, h => exact h
    | 2, h => exact h
    | 3, h => exact h
    | 4, h => exact h
    | k + 5, h => trivial
  · exact ⟨r3.drew, q5.drew, q4.drew, t3.drew, b3.drew⟩
  · refine ⟨?_, ?_, ?_, ?_, ?_, trivial⟩
    · intro f w1 hC hd KK hK
      simp only [List.take_succ_cons, List.take_zero, setAll, List.setIfInBounds_toArray, List.set_cons_succ, List.set_cons_zero, Nat.zero_add, Nat.reduceAdd] at hK ⊢
      refine wp_load_row 108 _ rfl _ rfl _ _ hC.1 _ Tryd.underlying108 rfl 177 Tryd.info108 lcip ?_
      exact hK _ _ rfl (Below.refl _ _)
    · intro f w1 hC hd KK hK
      simp only [List.take_succ_cons, List.take_zero, setAll, List.setIfInBounds_toArray, List.set_cons_succ, List.set_cons_zero, Nat.zero_add, Nat.reduceAdd] at hK ⊢
      refine wp_load_row 23 _ rfl _ rfl _ _ (hC.2.1) _ Tryd.underlying23 rfl 16 Tryd.info23 (by rw [ag_size]; exact lS) ?_
      exact hK _ _ rfl (Below.refl _ _)
    · intro f w1 hC hd KK hK
      simp only [List.take_succ_cons, List.take_zero, setAll, List.setIfInBounds_toArray, List.set_cons_succ, List.set_cons_zero, Nat.zero_add, Nat.reduceAdd] at hK ⊢
      refine wp_load_row 23 _ rfl _ rfl _ _ (hC.2.1) _ Tryd.underlying23 rfl 16 Tryd.info23 (by rw [ag_size]; exact lS) ?_
      exact hK _ _ rfl (Below.refl _ _)
    · intro f w1 hC hd KK hK
      have g2 : f 2 = _ := hd 2 rfl
      simp only [List.take_succ_cons, List.take_zero, setAll, List.setIfInBounds_toArray, List.set_cons_succ, List.set_cons_zero, Nat.zero_add, Nat.reduceAdd, g2] at hK ⊢
      exact wp_call 79 #[.agg (ag S)] (by simp [go_sem]) _ _ (hD _) (fun w' hb => hK _ _ rfl hb)
    · intro f w1 hC hd KK hK
      have g0 : f 0 = _ := hd 0 rfl
      have g1 : f 1 = _ := hd 1 rfl
      have g3 : f 3 = _ := hd 3 rfl
      simp only [List.take_succ_cons, List.take_zero, setAll, List.setIfInBounds_toArray, List.set_cons_succ, List.set_cons_zero, Nat.zero_add, Nat.reduceAdd, g0, g1, g3] at hK ⊢
      exact wp_run _ (build_op 110 _ #[(0, .agg cp), (1, .agg (ag S)), (2, .agg (ag C))] rfl (by simp [Act.eval]) _ _ (HB2.out _)) (hK _ _ rfl (Below.refl _ _))
  · intro f w1 hC hv
    have g0 : f 0 = _ := hv 0 (by decide)
    have g1 : f 1 = _ := hv 1 (by decide)
    have g2 : f 2 = _ := hv 2 (by decide)
    have g3 : f 3 = _ := hv 3 (by decide)
    have g4 : f 4 = _ := hv 4 (by decide)
    simp only [List.take_succ_cons, List.take_zero, List.drop_succ_cons, List.drop_zero, setAll, List.setIfInBounds_toArray, List.set_cons_succ, List.set_cons_zero, Nat.zero_add, Nat.reduceAdd, g0, g1, g2, g3, g4]
    clear g0 g1 g2 g3 g4 hv
    obtain ⟨c1, c2, c3, c4, c5⟩ := hC
    go_wp2_with (first
      | (refine wpList_store_row rfl 110 (.tmp 2) (.tmp 14) rfl _ rfl _ rfl _ _ c3 Tryd.info110 le oe ?_)
      | fail)
    exact bodyPost_ret (results_row rfl _ _ rfl _ _ (c3.setRow _) _ Tryd.underlying110 rfl 209 Tryd.info110 le) rfl ⟨sb, by rw [HELq.out], c4.setRowOther _ _ (by omega), below_setRow c5 (by omega) _⟩
end Go.Proofs.YthcokaffbgbanaaDoor

/- How often a number can be halved: what the library's table tells is so. -/
namespace Go.Proofs.YthcokaffbgbanaaDoor
set_option maxRecDepth 100000 in
theorem ntz_all : ∀ k, k < 13 → ∀ a, a < 17 → ∀ b, b < 256 → (a * 256 + b) % 2 = 1 → (a * 256 + b) * 2 ^ k < 4200 → Gf.ntz ((a * 256 + b) * 2 ^ k) = k := by decide +kernel
set_option maxRecDepth 100000 in
theorem ntz_pow (m k : Nat) (h : m % 2 = 1) (h2 : m * 2 ^ k < 4200) : Gf.ntz (m * 2 ^ k) = k := by
  have h3 : 0 < m := by omega
  have h4 : k < 13 := by
    rcases Nat.lt_or_ge k 13 with h | h
    · exact h
    · have : 2 ^ 13 ≤ 2 ^ k := Nat.pow_le_pow_right (by decide) h
      have : 1 * 2 ^ k ≤ m * 2 ^ k := Nat.mul_le_mul_right _ h3
      omega
  have h5 : m < 4200 := by
    have : m * 1 ≤ m * 2 ^ k := Nat.mul_le_mul_left _ (Nat.one_le_two_pow)
    omega
  have h6 : m / 256 * 256 + m % 256 = m := by omega
  have := ntz_all k h4 (m / 256) (by omega) (m % 256) (by omega)
  rw [h6] at this
  exact this h h2

end Go.Proofs.YthcokaffbgbanaaDoor

/- The walk of the reference's at. -/
namespace Go.Proofs.YthcokaffbgbanaaDoor
open Go.RowKit Go.BigFrame

set_option maxRecDepth 100000 in
theorem elk_range {w : World} {b sb : Nat} {t : TypeId} {key : List UInt8} (h : Row w b t (elk key sb)) :
    w.rangeAt b 0 (cip (.pointer (some ⟨sb, 0, none⟩)) (Gf.keys Gf.sbox key)).toList ∧ w.rangeAt b 177 ((Gf.star key).map B) ∧ w.rangeAt b 193 ((Gf.dblk (Gf.star key)).map B) := by
  have lK := Gf.keys_len Gf.sbox key
  have lS := Gf.star_len key
  have lD := Gf.dblk_len (Gf.star key)
  have hg := els_get (.pointer (some ⟨sb, 0, none⟩)) (Gf.keys Gf.sbox key) (Gf.star key) (Gf.dblk (Gf.star key)) lK lS
  have h' : ∀ k, w.cell? ⟨b, k, none⟩ = (els (.pointer (some ⟨sb, 0, none⟩)) (Gf.keys Gf.sbox key) (Gf.star key) (Gf.dblk (Gf.star key)))[k]? := fun k => h.cell k
  refine ⟨fun j v hv => ?_, fun j v hv => ?_, fun j v hv => ?_⟩
  · have hj : j < 177 := by
      have := (List.getElem?_eq_some_iff.1 hv).1
      rw [Array.length_toList, cip_size, lK] at this; exact this
    rw [Nat.zero_add, h', hg, if_pos hj, ← Array.getElem?_toList]; exact hv
  · have hj : j < 16 := by
      have := (List.getElem?_eq_some_iff.1 hv).1
      rw [List.length_map, lS] at this; exact this
    rw [h', hg, if_neg (by omega), if_pos (by omega), Nat.add_sub_cancel_left, ag]
    simpa using hv
  · rw [h', hg, if_neg (by omega), if_neg (by omega), Nat.add_sub_cancel_left, ag]
    simpa using hv

set_option maxRecDepth 100000 in
set_option maxHeartbeats 2000000 in
theorem refAt_any (key : List UInt8) (sb i : Nat) (h0 : 0 < i) (h1 : i < 4200) (w : World) :
    Calls Tryd.prog 56 #[.agg (elk key sb), .int .i64 (i : Int)] w fun e w' => e = .returned (.agg (ag (Gf.ell (Gf.star key) (2 + Gf.ntz i)))) ∧ Below w.heap.size w w' := by
  have hrng := (elk_range (Row.new w 110 (elk key sb))).2.2
  have lD := Gf.dblk_len (Gf.star key)
  have lL := Gf.ell_len (Gf.star key) (Gf.star_len key)
  have hD := fun k w => refDouble_any (Gf.ell (Gf.star key) k) (lL k) w
  have L1 : Box' (Gf.ell (Gf.star key) 1 = Gf.dblk (Gf.star key)) := ⟨rfl⟩
  have LS : Box' (∀ k, Gf.dblk (Gf.ell (Gf.star key) k) = Gf.ell (Gf.star key) (k + 1)) := ⟨fun _ => rfl⟩
  have NP := Box'.mk (ntz_pow)
  generalize hz : Gf.ntz i = z at *
  have HZ := Box'.mk hz
  clear hz
  rw [← L1.out] at hrng lD
  generalize Gf.star key = l0 at *
  have hel := elk_size key sb
  generalize elk key sb = EL at *
  have hr2 : ((w.alloc (.cells EL 110)).alloc (.cells (ag (Gf.zeros 16)) 23)).rangeAt w.heap.size 193 ((Gf.ell l0 1).map B) := range_below hrng ((Below.refl _ _).alloc (Nat.le_refl _) _) (by simp)
  have q0 : Room ((w.alloc (.cells EL 110)).alloc (.cells (ag (Gf.zeros 16)) 23)) (w.heap.size + 1) 23 16 := Room.made _ _ _ _ _ rfl (by simp)
  have b0 : Below w.heap.size w ((w.alloc (.cells EL 110)).alloc (.cells (ag (Gf.zeros 16)) 23)) := ((Below.refl _ _).alloc (Nat.le_refl _) _).alloc (by simp) _
  have D1 := hD 1
  rw [LS.out 1] at D1
  have hDD : ∀ k w, Calls Tryd.prog 79 #[.agg (ag (Gf.ell l0 k))] w fun e w' => e = .returned (.agg (ag (Gf.ell l0 (k + 1)))) ∧ Below w.heap.size w w' := fun k w => by rw [← LS.out k]; exact hD k w
  have HDD := Box'.mk hDD
  clear hrng hD L1 LS hDD
  go_enter Tryd.func56, Tryd.ntmps56
  go_wp2_with (first
    | (refine wpList_alloc_row rfl 23 rfl _ _ Tryd.zero23 ?_)
    | (refine wpList_load_mid rfl 23 (.tmp 6) rfl w.heap.size 193 rfl _ _ hr2 Tryd.underlying23 rfl (by rw [Tryd.info23, List.length_map, lD]) ?_)
    | fail)
  refine (D1 _).mono ?_
  rintro e w1 ⟨rfl, hb1⟩
  have q1 : Room w1 (w.heap.size + 1) 23 16 := q0.below hb1 (q0.elim fun _ h => h.1.lt)
  have b1 : Below w.heap.size w w1 := b0.trans (hb1.mono (by simp; omega))
  have hz1 := q1.elim fun _ h => h.1.lt
  have qz : Room (w1.alloc (.cells (ag (Gf.zeros 16)) 23)) w1.heap.size 23 16 := Room.new _ _ _ _ rfl
  have r2 : Row ((w1.alloc (.cells (ag (Gf.zeros 16)) 23)).setRow w1.heap.size (ag (Gf.ell l0 2))) w1.heap.size 23 (ag (Gf.ell l0 2)) := qz.setRow _
  have q2 : Room ((w1.alloc (.cells (ag (Gf.zeros 16)) 23)).setRow w1.heap.size (ag (Gf.ell l0 2))) (w.heap.size + 1) 23 16 := (q1.alloc _).setRowOther _ _ (by omega)
  have b2 : Below w.heap.size w ((w1.alloc (.cells (ag (Gf.zeros 16)) 23)).setRow w1.heap.size (ag (Gf.ell l0 2))) := below_setRow (b1.alloc b1.size _) b1.size _
  have hpp : w1.heap.size ≠ w.heap.size + 1 := by omega
  have hpq : w.heap.size ≤ w1.heap.size := by omega
  clear hb1 q0 b0 hr2 q1 b1 D1 hel
  go_wp2_with (first
    | (refine wpList_alloc_row rfl 23 rfl _ _ Tryd.zero23 ?_)
    | (refine wpList_store_row rfl 23 (.tmp 5) (.tmp 8) rfl _ rfl _ rfl _ _ qz Tryd.info23 (by rw [ag_size]; exact lL 2) (ag_one _) ?_)
    | fail)
  simp only [Act.put, List.setIfInBounds_toArray, List.set_cons_succ, List.set_cons_zero]
  generalize w1.heap.size = p at *
  go_loopw [1] (fun t wr => ∃ m k : Nat, 0 < m ∧ m < 4200 ∧ t = .int .i64 (m : Int) ∧ Box' (i = m * 2 ^ k) ∧ Row wr p 23 (ag (Gf.ell l0 (2 + k))) ∧ Room wr (w.heap.size + 1) 23 16 ∧ Below w.heap.size w wr) (fun t _ => (intOf t).toNat)
  case atStart => exact ⟨i, 0, h0, h1, rfl, ⟨by simp⟩, r2, q2, b2⟩
  case round =>
    obtain ⟨m, k, hm0, hm1, rfl, HI, r3, q3, b3⟩ := hrel
    by_cases hev : m % 2 = 0
    · have i1 : ((m : Int) % 2 == 0) = true := by rw [beq_iff_eq]; omega
      go_wp2_with (first
        | (refine wpList_load_row rfl 23 (.tmp 5) rfl _ rfl _ _ r3 _ Tryd.underlying23 rfl 16 Tryd.info23 (by rw [ag_size]; exact lL _) ?_)
        | fail)
      refine (HDD.out (2 + k) _).mono ?_
      rintro e w4 ⟨rfl, hb4⟩
      have r4 : Room w4 p 23 16 := (r3.below hb4 r3.lt).room (by rw [ag_size]; exact lL _)
      have q4 := q3.below hb4 (q3.elim fun _ h => h.1.lt)
      have b4 : Below w.heap.size w w4 := b3.trans (hb4.mono b3.size)
      clear hb4 r3 q3 b3
      go_wp2_with (first
        | (refine wpList_store_row rfl 23 (.tmp 5) (.tmp 13) rfl _ rfl _ rfl _ _ r4 Tryd.info23 (by rw [ag_size]; exact lL _) (ag_one _) ?_)
        | fail)
      have hm2 : (m : Int) / 2 = ((m / 2 : Nat) : Int) := by omega
      rw [hm2]
      refine ⟨⟨m / 2, k + 1, by omega, by omega, rfl, ⟨?_⟩, r4.setRow _, q4.setRowOther _ _ (by omega), below_setRow b4 hpq _⟩, by simp [intOf]; omega⟩
      rw [HI.out, Nat.pow_succ, Nat.mul_comm (2 ^ k) 2, ← Nat.mul_assoc]
      congr 1
      omega
    · have i1 : ((m : Int) % 2 == 0) = false := by rw [beq_eq_false_iff_ne]; omega
      obtain rfl : z = k := by rw [← HZ.out, HI.out]; exact NP.out m k (by omega) (by rw [← HI.out]; exact h1)
      go_wp2_with (first
        | (refine wpList_load_row rfl 23 (.tmp 5) rfl _ rfl _ _ r3 _ Tryd.underlying23 rfl 16 Tryd.info23 (by rw [ag_size]; exact lL _) ?_)
        | (refine wpList_store_row rfl 23 (.tmp 4) (.tmp 16) rfl _ rfl _ rfl _ _ q3 Tryd.info23 (by rw [ag_size]; exact lL _) (ag_one _) ?_)
        | fail)
      exact bodyPost_ret (results_row rfl _ _ rfl _ _ (q3.setRow _) _ Tryd.underlying23 rfl 16 Tryd.info23 (by rw [ag_size]; exact lL _)) rfl ⟨rfl, below_setRow b3 (by omega) _⟩
end Go.Proofs.YthcokaffbgbanaaDoor
