/- A character is put: the parts that are made in an open order. -/
import Derived.Test.YtlekleeckcdcgaaGreatYc
import Derived.Test.YtlekleeckcdcgaaGreatYh
namespace Go.Proofs.YtlekleeckcdcgaaGreat
open Go.RowKit Go.BigFrame
set_option linter.unusedVariables false
set_option linter.unusedSimpArgs false
set_option maxHeartbeats 8000000
set_option maxRecDepth 100000
/-- The region of a number in a code. -/
def regOf' (n : Nat) : Code → Option Code
 | .region m o b => if m = n then some (.region m o b) else none
 | .block _ c => regOf' n c
 | .seq a b => match regOf' n a with
  | some c => some c
  | none => regOf' n b
 | .loop c => regOf' n c
 | .scope c => regOf' n c
 | .cond _ a b => match regOf' n a with
  | some c => some c
  | none => regOf' n b
 | _ => none
/-- What stands behind the first part of a code. -/
def seqR : Code → Code
 | .seq _ b => b
 | c => c
def miF (a b : Int) : Int := if b < a then b else a
def pdF (y : Sn) (b : Bool) : Sn := { y with cur := { y.cur with pend := b } }
/-- What stands while cells are made (c) and written (m). -/
structure WrJ (w0 : World) (N p : Nat) (y : Sn) (vg vt vm vl : Value) (r1 r2 c m : Nat) (l : List Cl) (D : Nat → Bool) (f : Nat → Value) (wa : World) : Prop where
 d : D m = true → D r1 = true ∧ D r2 = true ∧ D c = true
 e : D c = true → D r2 = true
 a : D m = false → Below w0.heap.size w0 wa
 k : D c = true → D m = false → Cls wa.heap.size wa (f c) l
 z : D m = true → Bd N wa p y vg vt vm vl ∧ Below N w0 wa
theorem WrJ.begin (w0 : World) (N p : Nat) (y : Sn) (vg vt vm vl : Value) (r1 r2 c m : Nat) (l : List Cl) (f : Nat → Value) : WrJ w0 N p y vg vt vm vl r1 r2 c m l (fun _ => false) f w0.drew :=
 ⟨nofun, nofun, fun _ => bR.drew, nofun, nofun⟩
theorem WrJ.idle {w0 : World} {N p : Nat} {y : Sn} {vg vt vm vl : Value} {r1 r2 c m : Nat} {l : List Cl} {D : Nat → Bool} {f : Nat → Value} {wa : World} (j : WrJ w0 N p y vg vt vm vl r1 r2 c m l D f wa) (i : Nat) (hi : i = r1 ∨ i = r2 ∨ i = c) (hD : D i = false) : D m = false := by
 cases h : D m with
 | false => rfl
 | true =>
  obtain ⟨a1, a2, a3⟩ := j.d h
  rcases hi with rfl | rfl | rfl
  ·rw [hD] at a1; cases a1
  ·rw [hD] at a2; cases a2
  ·rw [hD] at a3; cases a3
theorem WrJ.be {w0 : World} {N p : Nat} {y : Sn} {vg vt vm vl : Value} {r1 r2 c m : Nat} {l : List Cl} {D : Nat → Bool} {f : Nat → Value} {wa : World} (j : WrJ w0 N p y vg vt vm vl r1 r2 c m l D f wa) (i : Nat) (hi : i = r1 ∨ i = r2 ∨ i = c) (hD : D i = false) : Below w0.heap.size w0 wa := j.a (j.idle i hi hD)
theorem updB_up {D : Nat → Bool} {k i : Nat} (h : D i = true) : updB D k i = true := by
 unfold updB
 split
 ·rfl
 ·exact h
theorem WrJ.other {w0 : World} {N p : Nat} {y : Sn} {vg vt vm vl : Value} {r1 r2 c m : Nat} {l : List Cl} {D : Nat → Bool} {f : Nat → Value} {wa : World} (j : WrJ w0 N p y vg vt vm vl r1 r2 c m l D f wa) (k : Nat) (v : Value) (h0 : k ≠ c) (h1 : k ≠ m) : WrJ w0 N p y vg vt vm vl r1 r2 c m l (updB D k) (upd f k v) wa := by
 have h0 : ¬ c = k := fun e => h0 e.symm
 have h3 : ¬ m = k := fun e => h1 e.symm
 obtain ⟨a0, a1, a2, a3, a4⟩ := j
 refine ⟨fun h => ?_, fun h => ?_, ?_, ?_, ?_⟩
 ·simp only [updB, if_neg h3] at h
  obtain ⟨q1, q2, q3⟩ := a0 h
  exact ⟨updB_up q1, updB_up q2, updB_up q3⟩
 ·simp only [updB, if_neg h0] at h
  exact updB_up (a1 h)
 ·simp only [updB, if_neg h3]; exact a2
 ·simp only [updB, upd, if_neg h0, if_neg h3]; exact a3
 ·simp only [updB, if_neg h3]; exact a4
theorem WrJ.oc {w0 : World} {N p : Nat} {y : Sn} {vg vt vm vl : Value} {r1 r2 c m : Nat} {l : List Cl} {D : Nat → Bool} {f : Nat → Value} {wa : World} (j : WrJ w0 N p y vg vt vm vl r1 r2 c m l D f wa) (h1 : c ≠ m) (hD : D c = false) (h2 : D r2 = true) (v : Value) (w2 : World) (hb : Below wa.heap.size wa w2) (hv : Cls w2.heap.size w2 v l) : WrJ w0 N p y vg vt vm vl r1 r2 c m l (updB D c) (upd f c v) w2 := by
 have q := j.idle c (.inr (.inr rfl)) hD
 have h3 : ¬ m = c := fun e => h1 e.symm
 have b := j.a q
 refine ⟨fun h => ?_, fun _ => updB_up h2, fun _ => b.trans (hb.mono b.size), fun _ _ => by simpa [upd] using hv, fun h => ?_⟩
 ·simp only [updB, if_neg h3] at h; rw [q] at h; cases h
 ·simp only [updB, if_neg h3] at h; rw [q] at h; cases h
theorem WrJ.om {w0 : World} {N p : Nat} {y : Sn} {vg vt vm vl : Value} {r1 r2 c m : Nat} {l : List Cl} {D : Nat → Bool} {f : Nat → Value} {wa : World} (j : WrJ w0 N p y vg vt vm vl r1 r2 c m l D f wa) (h1 : c ≠ m) (hD : D m = false) (q1 : D r1 = true) (q3 : D c = true) (v : Value) (w2 : World) (hb : Bd N w2 p y vg vt vm vl) (ht : Below N w0 w2) : WrJ w0 N p y vg vt vm vl r1 r2 c m l (updB D m) (upd f m v) w2 := by
 refine ⟨fun _ => ⟨updB_up q1, updB_up (j.e q3), updB_up q3⟩, fun h => ?_, fun h => ?_, fun _ h => ?_, fun _ => ⟨hb, ht⟩⟩
 ·exact updB_up (j.e q3)
 ·simp [updB] at h
 ·simp [updB] at h
theorem put_few (c : Int) (s : St) : (putF c s).length ≤ 1000000 := by
 unfold putF
 split
 ·simp
 ·split <;> simp
theorem put_mayC (c : Int) (s : St) (hs : mayS s = true) : (putF c s).all mayC = true := List.all_eq_true.2 fun x hx => gd_mayC (gd_put c s hs x hx)
theorem put_r8 (N : Nat) (w : World) (p : Nat) (y : Sn) (vg vt vm vl : Value) (h : Bd N w p y vg vt vm vl) (m : Mm y) (hG : mayG y.g.co y.g.ro y.g.c = true) (hS : mayS y.cur.st = true) (c w0 : Int) (u3 u4 u5 u6 u7 u8 u9 u10 u11 u12 u13 u14 u15 u16 u17 u18 u19 u20 u21 u22 u23 u24 u25 u26 u27 u28 u29 u30 u31 u32 u33 u34 u35 u36 u37 u38 u39 u40 u41 u42 u43 u44 u45 u46 u47 u48 u49 u50 u51 u52 u53 u54 u55 u56 u57 u58 u59 u60 u61 u62 u63 u64 u65 u66 u67 u68 u69 u70 u71 u72 u73 u74 u75 u76 u77 u78 u79 u80 u81 u82 u83 u84 u85 u86 u87 u88 u89 : Value) (df : List Deferred) (Q : Exit → Act → World → Prop) (hQ : ∀ (z10 z11 : Value) (wz : World), Bd N wz p (wtF y y.cur.col (putF c y.cur.st)) vg vt vm vl ∧ Below N w wz → wpList Tryz.prog #[] Q [] ⟨List.toArray ((.pointer (some ⟨p, 0, none⟩)) :: (.int .i32 c) :: (.int .i64 w0) :: u3 :: u4 :: u5 :: u6 :: u7 :: u8 :: u9 :: u10 :: u11 :: u12 :: u13 :: u14 :: u15 :: u16 :: u17 :: u18 :: u19 :: u20 :: u21 :: u22 :: u23 :: u24 :: u25 :: u26 :: u27 :: u28 :: u29 :: u30 :: u31 :: u32 :: u33 :: u34 :: u35 :: u36 :: u37 :: u38 :: u39 :: u40 :: u41 :: u42 :: u43 :: u44 :: u45 :: u46 :: u47 :: u48 :: u49 :: u50 :: u51 :: u52 :: u53 :: (.pointer (some ⟨p, 0, none⟩)) :: (.pointer (some ⟨p, 0, none⟩)) :: (.pointer (some ⟨p, 0, none⟩)) :: (.pointer (some ⟨p, 4, none⟩)) :: (.int .i64 y.cur.col) :: (.int .i32 c) :: (.pointer (some ⟨p, 0, none⟩)) :: (.pointer (some ⟨p, 0, none⟩)) :: (.pointer (some ⟨p, 6, none⟩)) :: (.agg (sA y.cur.st)) :: z10 :: z11 :: u66 :: u67 :: u68 :: u69 :: u70 :: u71 :: u72 :: u73 :: u74 :: u75 :: u76 :: u77 :: u78 :: u79 :: u80 :: u81 :: u82 :: u83 :: u84 :: u85 :: u86 :: u87 :: u88 :: u89 :: []), df⟩ wz) :
  Code.wp Tryz.prog ((Tryz.f128.body.bind (regOf' 8)).getD .skip) Q ⟨List.toArray ((.pointer (some ⟨p, 0, none⟩)) :: (.int .i32 c) :: (.int .i64 w0) :: u3 :: u4 :: u5 :: u6 :: u7 :: u8 :: u9 :: u10 :: u11 :: u12 :: u13 :: u14 :: u15 :: u16 :: u17 :: u18 :: u19 :: u20 :: u21 :: u22 :: u23 :: u24 :: u25 :: u26 :: u27 :: u28 :: u29 :: u30 :: u31 :: u32 :: u33 :: u34 :: u35 :: u36 :: u37 :: u38 :: u39 :: u40 :: u41 :: u42 :: u43 :: u44 :: u45 :: u46 :: u47 :: u48 :: u49 :: u50 :: u51 :: u52 :: u53 :: u54 :: u55 :: u56 :: u57 :: u58 :: u59 :: u60 :: u61 :: u62 :: u63 :: u64 :: u65 :: u66 :: u67 :: u68 :: u69 :: u70 :: u71 :: u72 :: u73 :: u74 :: u75 :: u76 :: u77 :: u78 :: u79 :: u80 :: u81 :: u82 :: u83 :: u84 :: u85 :: u86 :: u87 :: u88 :: u89 :: []), df⟩ w := by
 conv => arg 2; whnf
 have I26 : Box' ((Tryz.prog.info? 26).map (·.size) = some (sA y.cur.st).toList.length) := ⟨by kernel_rfl⟩
 refine wp_region_walk 12 (by kernel_rfl) (by kernel_rfl) (fun D f wa => (WrJ w N p (wtF y y.cur.col (putF c y.cur.st)) vg vt vm vl 4 9 10 11 (putF c y.cur.st) D f wa) ∧ ∀ i, D i = true → (fun kc => kc == 10 || kc == 11) i = false → f i = (fun kc => match kc with
   | 0 => .pointer (some ⟨p, 0, none⟩)
   | 1 => .pointer (some ⟨p, 0, none⟩)
   | 2 => .pointer (some ⟨p, 0, none⟩)
   | 3 => .pointer (some ⟨p, 4, none⟩)
   | 4 => .int .i64 y.cur.col
   | 5 => .int .i32 c
   | 6 => .pointer (some ⟨p, 0, none⟩)
   | 7 => .pointer (some ⟨p, 0, none⟩)
   | 8 => .pointer (some ⟨p, 6, none⟩)
   | 9 => .agg (sA y.cur.st)
   | _ => undef) i) ?_ ?_ ?_
 ·exact fun f => ⟨WrJ.begin _ _ _ _ _ _ _ _ _ _ _ _ _ _, fun i h => by cases h⟩
 ·refine ⟨?a0, ?a1, ?a2, ?a3, ?a4, ?a5, ?a6, ?a7, ?a8, ?a9, ?a10, ?a11, trivial⟩
  all_goals intro D f wq hJ hD hd KK hK
  all_goals have G := fun j h h2 => hJ.2 j (hd j h) h2
  all_goals simp (disch := decide +kernel) only [tkS, tkZ, setAll, siB, stS, stZ, Nat.zero_add, Nat.reduceAdd, G] at hK ⊢
  case a4 =>
   have cx : wq.cell? ⟨p, 4, none⟩ = some (.int .i64 y.cur.col) := (h.below (hJ.1.be 4 (.inl rfl) hD)).box.cell 4
   (refine wp_of_quiet rfl ?_; go_big_quiet_step (fail); exact wpQuiet_nil (hK _ _ ⟨(hJ.1.other 4 _ (by decide) (by decide)), vals_upd hJ.2 (.inr rfl)⟩))
  case a9 =>
   exact wp_mid 26 (.tmp 62) rfl p 6 (sA y.cur.st) _ Tryz.underlying26 rfl I26.out rfl (sn_style (h.below (hJ.1.be 9 (.inr (.inl rfl)) hD)).box) (hK _ _ ⟨(hJ.1.other 9 _ (by decide) (by decide)), vals_upd hJ.2 (.inr rfl)⟩)
  case a10 =>
   refine wp_callR 170 #[.int .i32 c, .agg (sA y.cur.st)] (by simp [go_sem]) _ ((put_any c y.cur.st wq)) ?_
   rintro v w'' ⟨hcl, hb⟩
   exact hK _ _ ⟨hJ.1.oc (by decide) hD (hd 9 (by kernel_rfl)) v w'' hb hcl, vals_upd hJ.2 (.inl rfl)⟩
  case a11 =>
   have hbe := hJ.1.a hD
   have hcl := hJ.1.k (hd 10 (by kernel_rfl)) hD
   have e10 : ∃ v, f 10 = v := ⟨_, rfl⟩
   obtain ⟨v10, e10⟩ := e10
   rw [e10] at hcl
   simp only [e10] at hK ⊢
   refine wp_callR 167 #[.pointer (some ⟨p, 0, none⟩), .int .i64 y.cur.col, v10] (by simp [go_sem]) (fun _ w'' => Bd N w'' p (wtF y y.cur.col (putF c y.cur.st)) vg vt vm vl ∧ Below N wq w'') ?_ ?_
   ·refine (bWrite_any N wq p y vg vt vm vl (h.below hbe) m hG hS y.cur.col v10 (putF c y.cur.st) m.l1 m.l2 hcl (put_few c y.cur.st) (put_mayC c y.cur.st hS)).mono ?_
    rintro e w' ⟨⟨v, rfl⟩, k1, k2⟩
    exact ⟨v, rfl, k1, k2⟩
   ·rintro v w'' ⟨k1, k2⟩
    exact hK _ _ ⟨hJ.1.om (by decide) hD (hd 4 (by kernel_rfl)) (hd 10 (by kernel_rfl)) v w'' k1 ((hbe.mono (Nat.le_trans h.hp (Nat.le_of_lt h.lt))).trans k2), vals_upd hJ.2 (.inl rfl)⟩
  all_goals (refine wp_of_quiet rfl ?_; go_big_quiet_step (fail); exact wpQuiet_nil (hK _ _ ⟨(hJ.1.other _ _ (by decide) (by decide)), vals_upd hJ.2 (.inr rfl)⟩))
 ·intro D f wz hD hJ
  have hW := hJ.1
  have P := fun j h h2 => hJ.2 j (hD j h) h2
  have hz := hW.z (hD 11 (by decide))
  clear hJ hD
  simp (disch := decide) only [tkS, tkZ, List.drop_succ_cons, List.drop_zero, setAll, siB, stS, stZ, Nat.zero_add, Nat.reduceAdd, P]
  clear P
  exact hQ _ _ wz (⟨hz.1, hz.2⟩)
theorem put_r9 (N : Nat) (w : World) (p : Nat) (y : Sn) (vg vt vm vl : Value) (h : Bd N w p y vg vt vm vl) (m : Mm y) (c w0 : Int) (hw1 : 1 ≤ w0) (hw2 : w0 ≤ 2) (u3 u4 u5 u6 u7 u8 u9 u10 u11 u12 u13 u14 u15 u16 u17 u18 u19 u20 u21 u22 u23 u24 u25 u26 u27 u28 u29 u30 u31 u32 u33 u34 u35 u36 u37 u38 u39 u40 u41 u42 u43 u44 u45 u46 u47 u48 u49 u50 u51 u52 u53 u54 u55 u56 u57 u58 u59 u60 u61 u62 u63 u64 u65 u66 u67 u68 u69 u70 u71 u72 u73 u74 u75 u76 u77 u78 u79 u80 u81 u82 u83 u84 u85 u86 u87 u88 u89 : Value) (df : List Deferred) (Q : Exit → Act → World → Prop) (hQ : ∀ (wz : World), Bd N wz p (pdF y (decide (y.g.co - 1 < y.cur.col + w0))) vg vt vm vl ∧ Tc p w wz → wpList Tryz.prog #[] Q [] ⟨List.toArray ((.pointer (some ⟨p, 0, none⟩)) :: (.int .i32 c) :: (.int .i64 w0) :: u3 :: u4 :: u5 :: u6 :: u7 :: u8 :: u9 :: u10 :: u11 :: u12 :: u13 :: u14 :: u15 :: u16 :: u17 :: u18 :: u19 :: u20 :: u21 :: u22 :: u23 :: u24 :: u25 :: u26 :: u27 :: u28 :: u29 :: u30 :: u31 :: u32 :: u33 :: u34 :: u35 :: u36 :: u37 :: u38 :: u39 :: u40 :: u41 :: u42 :: u43 :: u44 :: u45 :: u46 :: u47 :: u48 :: u49 :: u50 :: u51 :: u52 :: u53 :: u54 :: u55 :: u56 :: u57 :: u58 :: u59 :: u60 :: u61 :: u62 :: u63 :: u64 :: u65 :: (.pointer (some ⟨p, 0, none⟩)) :: (.pointer (some ⟨p, 0, none⟩)) :: (.pointer (some ⟨p, 0, none⟩)) :: (.pointer (some ⟨p, 4, none⟩)) :: (.int .i64 y.cur.col) :: (.int .i64 w0) :: (.int .i64 (y.cur.col + w0)) :: (.pointer (some ⟨p, 0, none⟩)) :: (.int .i64 (y.g.co - 1)) :: (.bool (decide (y.g.co - 1 < y.cur.col + w0))) :: (.pointer (some ⟨p, 0, none⟩)) :: (.pointer (some ⟨p, 5, none⟩)) :: u78 :: u79 :: u80 :: u81 :: u82 :: u83 :: u84 :: u85 :: u86 :: u87 :: u88 :: u89 :: []), df⟩ wz) :
  Code.wp Tryz.prog ((Tryz.f128.body.bind (regOf' 9)).getD .skip) Q ⟨List.toArray ((.pointer (some ⟨p, 0, none⟩)) :: (.int .i32 c) :: (.int .i64 w0) :: u3 :: u4 :: u5 :: u6 :: u7 :: u8 :: u9 :: u10 :: u11 :: u12 :: u13 :: u14 :: u15 :: u16 :: u17 :: u18 :: u19 :: u20 :: u21 :: u22 :: u23 :: u24 :: u25 :: u26 :: u27 :: u28 :: u29 :: u30 :: u31 :: u32 :: u33 :: u34 :: u35 :: u36 :: u37 :: u38 :: u39 :: u40 :: u41 :: u42 :: u43 :: u44 :: u45 :: u46 :: u47 :: u48 :: u49 :: u50 :: u51 :: u52 :: u53 :: u54 :: u55 :: u56 :: u57 :: u58 :: u59 :: u60 :: u61 :: u62 :: u63 :: u64 :: u65 :: u66 :: u67 :: u68 :: u69 :: u70 :: u71 :: u72 :: u73 :: u74 :: u75 :: u76 :: u77 :: u78 :: u79 :: u80 :: u81 :: u82 :: u83 :: u84 :: u85 :: u86 :: u87 :: u88 :: u89 :: []), df⟩ w := by
 conv => arg 2; whnf
 have l1 := m.l1
 have l2 := m.l2
 have k2 := m.c2
 refine wp_region_walk 13 (by kernel_rfl) (by kernel_rfl) (fun D f wa => (Bd N wa p (bif (D 12) then pdF y (decide (y.g.co - 1 < y.cur.col + w0)) else y) vg vt vm vl ∧ Tc p w wa) ∧ ∀ i, D i = true → (fun kc => kc == 12) i = false → f i = (fun kc => match kc with
   | 0 => .pointer (some ⟨p, 0, none⟩)
   | 1 => .pointer (some ⟨p, 0, none⟩)
   | 2 => .pointer (some ⟨p, 0, none⟩)
   | 3 => .pointer (some ⟨p, 4, none⟩)
   | 4 => .int .i64 y.cur.col
   | 5 => .int .i64 w0
   | 6 => .int .i64 (y.cur.col + w0)
   | 7 => .pointer (some ⟨p, 0, none⟩)
   | 8 => .int .i64 (y.g.co - 1)
   | 9 => .bool (decide (y.g.co - 1 < y.cur.col + w0))
   | 10 => .pointer (some ⟨p, 0, none⟩)
   | 11 => .pointer (some ⟨p, 5, none⟩)
   | _ => undef) i) ?_ ?_ ?_
 ·exact fun f => ⟨⟨h.below (bR.drew), (Tc.refl p w).drew⟩, fun i h => by cases h⟩
 ·refine ⟨?b0, ?b1, ?b2, ?b3, ?b4, ?b5, ?b6, ?b7, ?b8, ?b9, ?b10, ?b11, ?b12, trivial⟩
  all_goals intro D f wq hJ hD hd KK hK
  all_goals have G := fun j h h2 => hJ.2 j (hd j h) h2
  all_goals have cq0 : wq.cell? ⟨p, 4, none⟩ = some (.int .i64 y.cur.col) := by cases hh : D 12 <;> (have hb := hJ.1.1; rw [hh] at hb; exact hb.box.cell 4)
  all_goals simp (disch := decide +kernel) only [tkS, tkZ, setAll, siB, stS, stZ, Nat.zero_add, Nat.reduceAdd, G] at hK ⊢
  case b6 =>
   refine wp_of_quiet rfl ?_
   go_big_quiet_step (fail)
   exact wpQuiet_nil (hK _ _ ⟨hJ.1, vals_upd hJ.2 (.inr rfl)⟩)
  case b8 =>
   refine wp_call 134 #[.pointer (some ⟨p, 0, none⟩)] (by simp [go_sem]) (.int .i64 (y.g.co - 1)) (fun w'' => w'' = wq) ((by cases hh : D 12 <;> (have hb := hJ.1.1; rw [hh] at hb); exact lastCol_any N wq p y vg vt vm vl hb m.c1 m.c2; exact lastCol_any N wq p (pdF y (decide (y.g.co - 1 < y.cur.col + w0))) vg vt vm vl hb m.c1 m.c2)) ?_
   rintro _ rfl
   exact hK _ _ ⟨hJ.1, vals_upd hJ.2 (.inr rfl)⟩
  case b9 =>
   refine wp_of_quiet rfl ?_
   go_big_quiet_step (fail)
   exact wpQuiet_nil (hK _ _ ⟨hJ.1, vals_upd hJ.2 (.inr (by first | rfl | simp))⟩)
  case b12 =>
   have hb := hJ.1.1
   rw [hD] at hb
   refine wp_store4 (.tmp 77) (.tmp 75) rfl p 5 (decide (y.g.co - 1 < y.cur.col + w0)) _ rfl rfl (hb.box.cell 5) (hb.box.frozen 5) (hK _ _ ⟨⟨?_, hJ.1.2.setCell 5 _⟩, vals_upd hJ.2 (.inl rfl)⟩)
   exact hb.setCell _ 5 _ rfl rfl rfl rfl rfl
  all_goals (refine wp_of_quiet rfl ?_; go_big_quiet_step (fail); exact wpQuiet_nil (hK _ _ ⟨hJ.1, vals_upd hJ.2 (.inr rfl)⟩))
 ·intro D f wz hD hJ
  have hW := hJ.1
  rw [hD 12 (by decide)] at hW
  have P := fun j h h2 => hJ.2 j (hD j h) h2
  clear hJ hD
  simp (disch := decide) only [tkS, tkZ, List.drop_succ_cons, List.drop_zero, setAll, siB, stS, stZ, Nat.zero_add, Nat.reduceAdd, P]
  clear P
  exact hQ wz (⟨hW.1, hW.2⟩)
theorem put_r10 (N : Nat) (w : World) (p : Nat) (y : Sn) (vg vt vm vl : Value) (h : Bd N w p y vg vt vm vl) (m : Mm y) (c w0 : Int) (hw1 : 1 ≤ w0) (hw2 : w0 ≤ 2) (u3 u4 u5 u6 u7 u8 u9 u10 u11 u12 u13 u14 u15 u16 u17 u18 u19 u20 u21 u22 u23 u24 u25 u26 u27 u28 u29 u30 u31 u32 u33 u34 u35 u36 u37 u38 u39 u40 u41 u42 u43 u44 u45 u46 u47 u48 u49 u50 u51 u52 u53 u54 u55 u56 u57 u58 u59 u60 u61 u62 u63 u64 u65 u66 u67 u68 u69 u70 u71 u72 u73 u74 u75 u76 u77 u78 u79 u80 u81 u82 u83 u84 u85 u86 u87 u88 u89 : Value) (df : List Deferred) (Q : Exit → Act → World → Prop) (hQ : ∀ (wz : World), Bd N wz p (coS y (miF (y.cur.col + w0) (y.g.co - 1))) vg vt vm vl ∧ Tc p w wz → wpList Tryz.prog #[] Q [] ⟨List.toArray ((.pointer (some ⟨p, 0, none⟩)) :: (.int .i32 c) :: (.int .i64 w0) :: u3 :: u4 :: u5 :: u6 :: u7 :: u8 :: u9 :: u10 :: u11 :: u12 :: u13 :: u14 :: u15 :: u16 :: u17 :: u18 :: u19 :: u20 :: u21 :: u22 :: u23 :: u24 :: u25 :: u26 :: u27 :: u28 :: u29 :: u30 :: u31 :: u32 :: u33 :: u34 :: u35 :: u36 :: u37 :: u38 :: u39 :: u40 :: u41 :: u42 :: u43 :: u44 :: u45 :: u46 :: u47 :: u48 :: u49 :: u50 :: u51 :: u52 :: u53 :: u54 :: u55 :: u56 :: u57 :: u58 :: u59 :: u60 :: u61 :: u62 :: u63 :: u64 :: u65 :: u66 :: u67 :: u68 :: u69 :: u70 :: u71 :: u72 :: u73 :: u74 :: u75 :: u76 :: u77 :: (.pointer (some ⟨p, 0, none⟩)) :: (.pointer (some ⟨p, 0, none⟩)) :: (.pointer (some ⟨p, 0, none⟩)) :: (.pointer (some ⟨p, 4, none⟩)) :: (.int .i64 y.cur.col) :: (.int .i64 w0) :: (.int .i64 (y.cur.col + w0)) :: (.pointer (some ⟨p, 0, none⟩)) :: (.int .i64 (y.g.co - 1)) :: (.int .i64 (miF (y.cur.col + w0) (y.g.co - 1))) :: (.pointer (some ⟨p, 0, none⟩)) :: (.pointer (some ⟨p, 4, none⟩)) :: []), df⟩ wz) :
  Code.wp Tryz.prog ((Tryz.f128.body.bind (regOf' 10)).getD .skip) Q ⟨List.toArray ((.pointer (some ⟨p, 0, none⟩)) :: (.int .i32 c) :: (.int .i64 w0) :: u3 :: u4 :: u5 :: u6 :: u7 :: u8 :: u9 :: u10 :: u11 :: u12 :: u13 :: u14 :: u15 :: u16 :: u17 :: u18 :: u19 :: u20 :: u21 :: u22 :: u23 :: u24 :: u25 :: u26 :: u27 :: u28 :: u29 :: u30 :: u31 :: u32 :: u33 :: u34 :: u35 :: u36 :: u37 :: u38 :: u39 :: u40 :: u41 :: u42 :: u43 :: u44 :: u45 :: u46 :: u47 :: u48 :: u49 :: u50 :: u51 :: u52 :: u53 :: u54 :: u55 :: u56 :: u57 :: u58 :: u59 :: u60 :: u61 :: u62 :: u63 :: u64 :: u65 :: u66 :: u67 :: u68 :: u69 :: u70 :: u71 :: u72 :: u73 :: u74 :: u75 :: u76 :: u77 :: u78 :: u79 :: u80 :: u81 :: u82 :: u83 :: u84 :: u85 :: u86 :: u87 :: u88 :: u89 :: []), df⟩ w := by
 conv => arg 2; whnf
 have l1 := m.l1
 have l2 := m.l2
 have k2 := m.c2
 refine wp_region_walk 13 (by kernel_rfl) (by kernel_rfl) (fun D f wa => ((Bd N wa p (bif (D 12) then coS y (miF (y.cur.col + w0) (y.g.co - 1)) else y) vg vt vm vl ∧ Tc p w wa) ∧ (D 12 = true → D 4 = true)) ∧ ∀ i, D i = true → (fun kc => kc == 12) i = false → f i = (fun kc => match kc with
   | 0 => .pointer (some ⟨p, 0, none⟩)
   | 1 => .pointer (some ⟨p, 0, none⟩)
   | 2 => .pointer (some ⟨p, 0, none⟩)
   | 3 => .pointer (some ⟨p, 4, none⟩)
   | 4 => .int .i64 y.cur.col
   | 5 => .int .i64 w0
   | 6 => .int .i64 (y.cur.col + w0)
   | 7 => .pointer (some ⟨p, 0, none⟩)
   | 8 => .int .i64 (y.g.co - 1)
   | 9 => .int .i64 (miF (y.cur.col + w0) (y.g.co - 1))
   | 10 => .pointer (some ⟨p, 0, none⟩)
   | 11 => .pointer (some ⟨p, 4, none⟩)
   | _ => undef) i) ?_ ?_ ?_
 ·exact fun f => ⟨⟨⟨h.below (bR.drew), (Tc.refl p w).drew⟩, fun h => by cases h⟩, fun i h => by cases h⟩
 ·refine ⟨?c0, ?c1, ?c2, ?c3, ?c4, ?c5, ?c6, ?c7, ?c8, ?c9, ?c10, ?c11, ?c12, trivial⟩
  all_goals intro D f wq hJ hD hd KK hK
  all_goals have G := fun j h h2 => hJ.2 j (hd j h) h2
  all_goals simp (disch := decide +kernel) only [tkS, tkZ, setAll, siB, stS, stZ, Nat.zero_add, Nat.reduceAdd, G] at hK ⊢
  case c4 =>
   have hn : D 12 = false := by
    cases hh : D 12 with
    | false => rfl
    | true => exact absurd (hJ.1.2 hh) (by rw [hD]; decide)
   have hb := hJ.1.1.1
   rw [hn] at hb
   have cx : wq.cell? ⟨p, 4, none⟩ = some (.int .i64 y.cur.col) := hb.box.cell 4
   refine wp_of_quiet rfl ?_
   go_big_quiet_step (fail)
   exact wpQuiet_nil (hK _ _ ⟨⟨hJ.1.1, fun _ => rfl⟩, vals_upd hJ.2 (.inr rfl)⟩)
  case c6 =>
   refine wp_of_quiet rfl ?_
   go_big_quiet_step (fail)
   exact wpQuiet_nil (hK _ _ ⟨hJ.1, vals_upd hJ.2 (.inr rfl)⟩)
  case c8 =>
   refine wp_call 134 #[.pointer (some ⟨p, 0, none⟩)] (by simp [go_sem]) (.int .i64 (y.g.co - 1)) (fun w'' => w'' = wq) ((by cases hh : D 12 <;> (have hb := hJ.1.1.1; rw [hh] at hb); exact lastCol_any N wq p y vg vt vm vl hb m.c1 m.c2; exact lastCol_any N wq p (coS y (miF (y.cur.col + w0) (y.g.co - 1))) vg vt vm vl hb m.c1 m.c2)) ?_
   rintro _ rfl
   exact hK _ _ ⟨hJ.1, vals_upd hJ.2 (.inr rfl)⟩
  case c9 =>
   exact wp_val (.int .i64 (miF (y.cur.col + w0) (y.g.co - 1))) (by simp [go_sem, miF]) (hK _ _ ⟨hJ.1, vals_upd hJ.2 (.inr rfl)⟩)
  case c12 =>
   have hb := hJ.1.1.1
   rw [hD] at hb
   refine wp_store3 (.tmp 89) (.tmp 87) rfl p 4 (miF (y.cur.col + w0) (y.g.co - 1)) _ rfl rfl (hb.box.cell 4) (hb.box.frozen 4) (hK _ _ ⟨⟨⟨?_, hJ.1.1.2.setCell 4 _⟩, fun _ => hd 4 (by kernel_rfl)⟩, vals_upd hJ.2 (.inl rfl)⟩)
   exact hb.setCell _ 4 _ rfl rfl rfl rfl rfl
  all_goals (refine wp_of_quiet rfl ?_; go_big_quiet_step (fail); exact wpQuiet_nil (hK _ _ ⟨hJ.1, vals_upd hJ.2 (.inr rfl)⟩))
 ·intro D f wz hD hJ
  have hW := hJ.1
  rw [hD 12 (by decide)] at hW
  have P := fun j h h2 => hJ.2 j (hD j h) h2
  clear hJ hD
  simp (disch := decide) only [tkS, tkZ, List.drop_succ_cons, List.drop_zero, setAll, siB, stS, stZ, Nat.zero_add, Nat.reduceAdd, P]
  clear P
  exact hQ wz (⟨hW.1.1, hW.1.2⟩)
end Go.Proofs.YtlekleeckcdcgaaGreat
