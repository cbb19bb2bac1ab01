/- A screen is resized: the parts that are made in an open order. -/
import Derived.Test.YtlekleeckcdcgaaGreatYg
import Derived.Test.YtlekleeckcdcgaaGreatYj
import Derived.Test.YtlekleeckcdcgaaGreatYo
namespace Go.Proofs.YtlekleeckcdcgaaGreat
open Go.RowKit Go.BigFrame
set_option linter.unusedVariables false
set_option linter.unusedSimpArgs false
set_option maxHeartbeats 8000000
set_option maxRecDepth 100000
def r4S (y : Sn) (R C : Int) (b1 b2 : Bool) : Sn := { y with cur := { y.cur with row := bif b1 then R else y.cur.row, col := bif b2 then C else y.cur.col } }
def r5S (y : Sn) (R C : Int) (b1 b2 : Bool) : Sn := { y with sv := { y.sv with row := bif b1 then R else y.sv.row, col := bif b2 then C else y.sv.col } }
structure Mz (x : Sn) : Prop where
 c1 : 0 < x.g.co
 c2 : x.g.co ≤ 512
 r1 : 0 < x.g.ro
 r2 : x.g.ro ≤ 512
theorem rz_r4 (N : Nat) (w : World) (p : Nat) (y : Sn) (vg vt vm vl : Value) (h : Bd N w p y vg vt vm vl) (m : Mz y) (u1 u2 u3 u4 u5 u6 u7 u8 u9 u10 u11 u12 u13 u14 u15 u16 u17 u18 u19 u20 u21 u22 u23 u24 u25 u26 u27 u28 u29 u30 u31 u32 u33 u34 u35 u36 u37 u38 u39 u40 u41 u42 u43 u44 u45 u46 u47 u48 u49 u50 u51 u52 u53 u54 u55 u56 u57 u58 u59 u60 u61 u62 u63 u64 u65 u66 u67 u68 u69 u70 u71 u72 u73 u74 u75 u76 u77 u78 u79 u80 u81 u82 u83 u84 u85 u86 u87 u88 u89 u90 u91 u92 u93 u94 u95 : Value) (df : List Deferred) (Q : Exit → Act → World → Prop) (hQ : ∀ (wz : World), (Bd N wz p (r4S y (miF y.cur.row (y.g.ro - 1)) (miF y.cur.col (y.g.co - 1)) true true) vg vt vm vl ∧ Tc p w wz) → wpList Tryz.prog #[] Q [] ⟨List.toArray ((.pointer (some ⟨p, 0, none⟩)) :: u1 :: u2 :: u3 :: u4 :: u5 :: u6 :: u7 :: u8 :: u9 :: u10 :: u11 :: u12 :: u13 :: u14 :: u15 :: u16 :: u17 :: u18 :: u19 :: u20 :: u21 :: u22 :: u23 :: u24 :: u25 :: u26 :: u27 :: u28 :: u29 :: u30 :: (.pointer (some ⟨p, 0, none⟩)) :: (.pointer (some ⟨p, 0, none⟩)) :: (.pointer (some ⟨p, 0, none⟩)) :: (.pointer (some ⟨p, 0, none⟩)) :: (.pointer (some ⟨p, 3, none⟩)) :: (.int .i64 y.cur.row) :: (.pointer (some ⟨p, 0, none⟩)) :: (.int .i64 (y.g.ro - 1)) :: (.int .i64 (miF y.cur.row (y.g.ro - 1))) :: (.pointer (some ⟨p, 0, none⟩)) :: (.pointer (some ⟨p, 0, none⟩)) :: (.pointer (some ⟨p, 4, none⟩)) :: (.int .i64 y.cur.col) :: (.pointer (some ⟨p, 0, none⟩)) :: (.int .i64 (y.g.co - 1)) :: (.int .i64 (miF y.cur.col (y.g.co - 1))) :: (.pointer (some ⟨p, 0, none⟩)) :: (.pointer (some ⟨p, 3, none⟩)) :: (.pointer (some ⟨p, 0, none⟩)) :: (.pointer (some ⟨p, 4, none⟩)) :: u51 :: u52 :: u53 :: u54 :: u55 :: u56 :: u57 :: u58 :: u59 :: u60 :: u61 :: u62 :: u63 :: u64 :: u65 :: u66 :: u67 :: u68 :: u69 :: u70 :: u71 :: u72 :: u73 :: u74 :: u75 :: u76 :: u77 :: u78 :: u79 :: u80 :: u81 :: u82 :: u83 :: u84 :: u85 :: u86 :: u87 :: u88 :: u89 :: u90 :: u91 :: u92 :: u93 :: u94 :: u95 :: []), df⟩ wz) :
  Code.wp Tryz.prog ((Tryz.f99.body.bind (regOf' 4)).getD .skip) Q ⟨List.toArray ((.pointer (some ⟨p, 0, none⟩)) :: u1 :: u2 :: u3 :: u4 :: u5 :: u6 :: u7 :: u8 :: u9 :: u10 :: u11 :: u12 :: u13 :: u14 :: u15 :: u16 :: u17 :: u18 :: u19 :: u20 :: u21 :: u22 :: u23 :: u24 :: u25 :: u26 :: u27 :: u28 :: u29 :: u30 :: u31 :: u32 :: u33 :: u34 :: u35 :: u36 :: u37 :: u38 :: u39 :: u40 :: u41 :: u42 :: u43 :: u44 :: u45 :: u46 :: u47 :: u48 :: u49 :: u50 :: u51 :: u52 :: u53 :: u54 :: u55 :: u56 :: u57 :: u58 :: u59 :: u60 :: u61 :: u62 :: u63 :: u64 :: u65 :: u66 :: u67 :: u68 :: u69 :: u70 :: u71 :: u72 :: u73 :: u74 :: u75 :: u76 :: u77 :: u78 :: u79 :: u80 :: u81 :: u82 :: u83 :: u84 :: u85 :: u86 :: u87 :: u88 :: u89 :: u90 :: u91 :: u92 :: u93 :: u94 :: u95 :: []), df⟩ w := by
 conv => arg 2; whnf
 refine wp_region_walk 22 (by kernel_rfl) (by kernel_rfl) (fun D f wa => ((Bd N wa p (r4S y (miF y.cur.row (y.g.ro - 1)) (miF y.cur.col (y.g.co - 1)) (D 18) (D 21)) vg vt vm vl ∧ Tc p w wa) ∧ (D 18 = true → D 5 = true) ∧ (D 21 = true → D 12 = true)) ∧ ∀ i, D i = true → (fun kc => kc == 18 || kc == 21) i = false → f i = (fun kc => match kc with
   | 0 => .pointer (some ⟨p, 0, none⟩)
   | 1 => .pointer (some ⟨p, 0, none⟩)
   | 2 => .pointer (some ⟨p, 0, none⟩)
   | 3 => .pointer (some ⟨p, 0, none⟩)
   | 4 => .pointer (some ⟨p, 3, none⟩)
   | 5 => .int .i64 y.cur.row
   | 6 => .pointer (some ⟨p, 0, none⟩)
   | 7 => .int .i64 (y.g.ro - 1)
   | 8 => .int .i64 (miF y.cur.row (y.g.ro - 1))
   | 9 => .pointer (some ⟨p, 0, none⟩)
   | 10 => .pointer (some ⟨p, 0, none⟩)
   | 11 => .pointer (some ⟨p, 4, none⟩)
   | 12 => .int .i64 y.cur.col
   | 13 => .pointer (some ⟨p, 0, none⟩)
   | 14 => .int .i64 (y.g.co - 1)
   | 15 => .int .i64 (miF y.cur.col (y.g.co - 1))
   | 16 => .pointer (some ⟨p, 0, none⟩)
   | 17 => .pointer (some ⟨p, 3, none⟩)
   | 19 => .pointer (some ⟨p, 0, none⟩)
   | 20 => .pointer (some ⟨p, 4, none⟩)
   | _ => undef) i) ?_ ?_ ?_
 ·exact fun f => ⟨⟨⟨h.below (bR.drew), (Tc.refl p w).drew⟩, (fun h => by cases h), (fun h => by cases h)⟩, fun i h => by cases h⟩
 ·refine ⟨?a0, ?a1, ?a2, ?a3, ?a4, ?a5, ?a6, ?a7, ?a8, ?a9, ?a10, ?a11, ?a12, ?a13, ?a14, ?a15, ?a16, ?a17, ?a18, ?a19, ?a20, ?a21, trivial⟩
  all_goals intro D f wq hJ hD hd KK hK
  all_goals have G := fun j h h2 => hJ.2 j (hd j h) h2
  all_goals simp (disch := decide +kernel) only [tkS, tkZ, setAll, siB, stS, stZ, Nat.zero_add, Nat.reduceAdd, G] at hK ⊢
  case a5 =>
   have hn : D 18 = false := by
    cases hh : D 18 with
    | false => rfl
    | true => exact absurd (hJ.1.2.1 hh) (by rw [hD]; decide)
   have hb := hJ.1.1.1
   rw [hn] at hb
   have cx : wq.cell? ⟨p, 3, none⟩ = some (.int .i64 y.cur.row) := hb.box.cell 3
   refine wp_of_quiet rfl ?_
   go_big_quiet_step (fail)
   exact wpQuiet_nil (hK _ _ ⟨⟨hJ.1.1, fun _ => rfl, hJ.1.2.2⟩, vals_upd hJ.2 (.inr rfl)⟩)
  case a7 =>
   refine wp_call 132 #[.pointer (some ⟨p, 0, none⟩)] (by simp [go_sem]) (.int .i64 (y.g.ro - 1)) (fun w'' => w'' = wq) (lastRow_any N wq p (r4S y (miF y.cur.row (y.g.ro - 1)) (miF y.cur.col (y.g.co - 1)) (D 18) (D 21)) vg vt vm vl hJ.1.1.1 m.r1 m.r2) ?_
   rintro _ rfl
   exact hK _ _ ⟨hJ.1, vals_upd hJ.2 (.inr rfl)⟩
  case a8 =>
   exact wp_val (.int .i64 (miF y.cur.row (y.g.ro - 1))) (by simp [go_sem, miF]) (hK _ _ ⟨hJ.1, vals_upd hJ.2 (.inr rfl)⟩)
  case a12 =>
   have hn : D 21 = false := by
    cases hh : D 21 with
    | false => rfl
    | true => exact absurd (hJ.1.2.2 hh) (by rw [hD]; decide)
   have hb := hJ.1.1.1
   rw [hn] at hb
   have cx : wq.cell? ⟨p, 4, none⟩ = some (.int .i64 y.cur.col) := hb.box.cell 4
   refine wp_of_quiet rfl ?_
   go_big_quiet_step (fail)
   exact wpQuiet_nil (hK _ _ ⟨⟨hJ.1.1, hJ.1.2.1, fun _ => rfl⟩, vals_upd hJ.2 (.inr rfl)⟩)
  case a14 =>
   refine wp_call 134 #[.pointer (some ⟨p, 0, none⟩)] (by simp [go_sem]) (.int .i64 (y.g.co - 1)) (fun w'' => w'' = wq) (lastCol_any N wq p (r4S y (miF y.cur.row (y.g.ro - 1)) (miF y.cur.col (y.g.co - 1)) (D 18) (D 21)) vg vt vm vl hJ.1.1.1 m.c1 m.c2) ?_
   rintro _ rfl
   exact hK _ _ ⟨hJ.1, vals_upd hJ.2 (.inr rfl)⟩
  case a15 =>
   exact wp_val (.int .i64 (miF y.cur.col (y.g.co - 1))) (by simp [go_sem, miF]) (hK _ _ ⟨hJ.1, vals_upd hJ.2 (.inr rfl)⟩)
  case a18 =>
   have hb := hJ.1.1.1
   rw [hD] at hb
   refine wp_store3 (.tmp 48) (.tmp 39) rfl p 3 (miF y.cur.row (y.g.ro - 1)) _ rfl rfl (hb.box.cell 3) (hb.box.frozen 3) (hK _ _ ⟨⟨⟨?_, hJ.1.1.2.setCell 3 _⟩, fun _ => hd 5 (by kernel_rfl), hJ.1.2.2⟩, vals_upd hJ.2 (.inl rfl)⟩)
   exact hb.setCell _ 3 _ rfl rfl rfl rfl rfl
  case a21 =>
   have hb := hJ.1.1.1
   rw [hD] at hb
   refine wp_store3 (.tmp 50) (.tmp 46) rfl p 4 (miF y.cur.col (y.g.co - 1)) _ rfl rfl (hb.box.cell 4) (hb.box.frozen 4) (hK _ _ ⟨⟨⟨?_, hJ.1.1.2.setCell 4 _⟩, hJ.1.2.1, fun _ => hd 12 (by kernel_rfl)⟩, vals_upd hJ.2 (.inl rfl)⟩)
   exact hb.setCell _ 4 _ rfl rfl rfl rfl rfl
  all_goals (refine wp_of_quiet rfl ?_; go_big_quiet_step (fail); exact wpQuiet_nil (hK _ _ ⟨hJ.1, vals_upd hJ.2 (.inr rfl)⟩))
 ·intro D f wz hD hJ
  have hW := hJ.1
  rw [hD 18 (by decide)] at hW
  rw [hD 21 (by decide)] at hW
  have P := fun j h h2 => hJ.2 j (hD j h) h2
  clear hJ hD
  simp (disch := decide) only [tkS, tkZ, List.drop_succ_cons, List.drop_zero, setAll, siB, stS, stZ, Nat.zero_add, Nat.reduceAdd, P]
  clear P
  exact hQ wz (⟨hW.1.1, hW.1.2⟩)
theorem rz_r5 (N : Nat) (w : World) (p : Nat) (y : Sn) (vg vt vm vl : Value) (h : Bd N w p y vg vt vm vl) (m : Mz y) (u1 u2 u3 u4 u5 u6 u7 u8 u9 u10 u11 u12 u13 u14 u15 u16 u17 u18 u19 u20 u21 u22 u23 u24 u25 u26 u27 u28 u29 u30 u31 u32 u33 u34 u35 u36 u37 u38 u39 u40 u41 u42 u43 u44 u45 u46 u47 u48 u49 u50 u51 u52 u53 u54 u55 u56 u57 u58 u59 u60 u61 u62 u63 u64 u65 u66 u67 u68 u69 u70 u71 u72 u73 u74 u75 u76 u77 u78 u79 u80 u81 u82 u83 u84 u85 u86 u87 u88 u89 u90 u91 u92 u93 u94 u95 : Value) (df : List Deferred) (Q : Exit → Act → World → Prop) (hQ : ∀ (wz : World), (Bd N wz p (r5S y (miF y.sv.row (y.g.ro - 1)) (miF y.sv.col (y.g.co - 1)) true true) vg vt vm vl ∧ Tc p w wz) → wpList Tryz.prog #[] Q [] ⟨List.toArray ((.pointer (some ⟨p, 0, none⟩)) :: u1 :: u2 :: u3 :: u4 :: u5 :: u6 :: u7 :: u8 :: u9 :: u10 :: u11 :: u12 :: u13 :: u14 :: u15 :: u16 :: u17 :: u18 :: u19 :: u20 :: u21 :: u22 :: u23 :: u24 :: u25 :: u26 :: u27 :: u28 :: u29 :: u30 :: u31 :: u32 :: u33 :: u34 :: u35 :: u36 :: u37 :: u38 :: u39 :: u40 :: u41 :: u42 :: u43 :: u44 :: u45 :: u46 :: u47 :: u48 :: u49 :: u50 :: (.pointer (some ⟨p, 0, none⟩)) :: (.pointer (some ⟨p, 0, none⟩)) :: (.pointer (some ⟨p, 0, none⟩)) :: (.pointer (some ⟨p, 0, none⟩)) :: (.pointer (some ⟨p, 25, none⟩)) :: (.pointer (some ⟨p, 25, none⟩)) :: (.int .i64 y.sv.row) :: (.pointer (some ⟨p, 0, none⟩)) :: (.int .i64 (y.g.ro - 1)) :: (.int .i64 (miF y.sv.row (y.g.ro - 1))) :: (.pointer (some ⟨p, 0, none⟩)) :: (.pointer (some ⟨p, 0, none⟩)) :: (.pointer (some ⟨p, 25, none⟩)) :: (.pointer (some ⟨p, 26, none⟩)) :: (.int .i64 y.sv.col) :: (.pointer (some ⟨p, 0, none⟩)) :: (.int .i64 (y.g.co - 1)) :: (.int .i64 (miF y.sv.col (y.g.co - 1))) :: (.pointer (some ⟨p, 0, none⟩)) :: (.pointer (some ⟨p, 25, none⟩)) :: (.pointer (some ⟨p, 25, none⟩)) :: (.pointer (some ⟨p, 0, none⟩)) :: (.pointer (some ⟨p, 25, none⟩)) :: (.pointer (some ⟨p, 26, none⟩)) :: u75 :: u76 :: u77 :: u78 :: u79 :: u80 :: u81 :: u82 :: u83 :: u84 :: u85 :: u86 :: u87 :: u88 :: u89 :: u90 :: u91 :: u92 :: u93 :: u94 :: u95 :: []), df⟩ wz) :
  Code.wp Tryz.prog ((Tryz.f99.body.bind (regOf' 5)).getD .skip) Q ⟨List.toArray ((.pointer (some ⟨p, 0, none⟩)) :: u1 :: u2 :: u3 :: u4 :: u5 :: u6 :: u7 :: u8 :: u9 :: u10 :: u11 :: u12 :: u13 :: u14 :: u15 :: u16 :: u17 :: u18 :: u19 :: u20 :: u21 :: u22 :: u23 :: u24 :: u25 :: u26 :: u27 :: u28 :: u29 :: u30 :: u31 :: u32 :: u33 :: u34 :: u35 :: u36 :: u37 :: u38 :: u39 :: u40 :: u41 :: u42 :: u43 :: u44 :: u45 :: u46 :: u47 :: u48 :: u49 :: u50 :: u51 :: u52 :: u53 :: u54 :: u55 :: u56 :: u57 :: u58 :: u59 :: u60 :: u61 :: u62 :: u63 :: u64 :: u65 :: u66 :: u67 :: u68 :: u69 :: u70 :: u71 :: u72 :: u73 :: u74 :: u75 :: u76 :: u77 :: u78 :: u79 :: u80 :: u81 :: u82 :: u83 :: u84 :: u85 :: u86 :: u87 :: u88 :: u89 :: u90 :: u91 :: u92 :: u93 :: u94 :: u95 :: []), df⟩ w := by
 conv => arg 2; whnf
 refine wp_region_walk 26 (by kernel_rfl) (by kernel_rfl) (fun D f wa => ((Bd N wa p (r5S y (miF y.sv.row (y.g.ro - 1)) (miF y.sv.col (y.g.co - 1)) (D 21) (D 25)) vg vt vm vl ∧ Tc p w wa) ∧ (D 21 = true → D 6 = true) ∧ (D 25 = true → D 14 = true)) ∧ ∀ i, D i = true → (fun kc => kc == 21 || kc == 25) i = false → f i = (fun kc => match kc with
   | 0 => .pointer (some ⟨p, 0, none⟩)
   | 1 => .pointer (some ⟨p, 0, none⟩)
   | 2 => .pointer (some ⟨p, 0, none⟩)
   | 3 => .pointer (some ⟨p, 0, none⟩)
   | 4 => .pointer (some ⟨p, 25, none⟩)
   | 5 => .pointer (some ⟨p, 25, none⟩)
   | 6 => .int .i64 y.sv.row
   | 7 => .pointer (some ⟨p, 0, none⟩)
   | 8 => .int .i64 (y.g.ro - 1)
   | 9 => .int .i64 (miF y.sv.row (y.g.ro - 1))
   | 10 => .pointer (some ⟨p, 0, none⟩)
   | 11 => .pointer (some ⟨p, 0, none⟩)
   | 12 => .pointer (some ⟨p, 25, none⟩)
   | 13 => .pointer (some ⟨p, 26, none⟩)
   | 14 => .int .i64 y.sv.col
   | 15 => .pointer (some ⟨p, 0, none⟩)
   | 16 => .int .i64 (y.g.co - 1)
   | 17 => .int .i64 (miF y.sv.col (y.g.co - 1))
   | 18 => .pointer (some ⟨p, 0, none⟩)
   | 19 => .pointer (some ⟨p, 25, none⟩)
   | 20 => .pointer (some ⟨p, 25, none⟩)
   | 22 => .pointer (some ⟨p, 0, none⟩)
   | 23 => .pointer (some ⟨p, 25, none⟩)
   | 24 => .pointer (some ⟨p, 26, none⟩)
   | _ => undef) i) ?_ ?_ ?_
 ·exact fun f => ⟨⟨⟨h.below (bR.drew), (Tc.refl p w).drew⟩, (fun h => by cases h), (fun h => by cases h)⟩, fun i h => by cases h⟩
 ·refine ⟨?b0, ?b1, ?b2, ?b3, ?b4, ?b5, ?b6, ?b7, ?b8, ?b9, ?b10, ?b11, ?b12, ?b13, ?b14, ?b15, ?b16, ?b17, ?b18, ?b19, ?b20, ?b21, ?b22, ?b23, ?b24, ?b25, trivial⟩
  all_goals intro D f wq hJ hD hd KK hK
  all_goals have G := fun j h h2 => hJ.2 j (hd j h) h2
  all_goals simp (disch := decide +kernel) only [tkS, tkZ, setAll, siB, stS, stZ, Nat.zero_add, Nat.reduceAdd, G] at hK ⊢
  case b6 =>
   have hn : D 21 = false := by
    cases hh : D 21 with
    | false => rfl
    | true => exact absurd (hJ.1.2.1 hh) (by rw [hD]; decide)
   have hb := hJ.1.1.1
   rw [hn] at hb
   have cx : wq.cell? ⟨p, 25, none⟩ = some (.int .i64 y.sv.row) := hb.box.cell 25
   refine wp_of_quiet rfl ?_
   go_big_quiet_step (fail)
   exact wpQuiet_nil (hK _ _ ⟨⟨hJ.1.1, fun _ => rfl, hJ.1.2.2⟩, vals_upd hJ.2 (.inr rfl)⟩)
  case b8 =>
   refine wp_call 132 #[.pointer (some ⟨p, 0, none⟩)] (by simp [go_sem]) (.int .i64 (y.g.ro - 1)) (fun w'' => w'' = wq) (lastRow_any N wq p (r5S y (miF y.sv.row (y.g.ro - 1)) (miF y.sv.col (y.g.co - 1)) (D 21) (D 25)) vg vt vm vl hJ.1.1.1 m.r1 m.r2) ?_
   rintro _ rfl
   exact hK _ _ ⟨hJ.1, vals_upd hJ.2 (.inr rfl)⟩
  case b9 =>
   exact wp_val (.int .i64 (miF y.sv.row (y.g.ro - 1))) (by simp [go_sem, miF]) (hK _ _ ⟨hJ.1, vals_upd hJ.2 (.inr rfl)⟩)
  case b14 =>
   have hn : D 25 = false := by
    cases hh : D 25 with
    | false => rfl
    | true => exact absurd (hJ.1.2.2 hh) (by rw [hD]; decide)
   have hb := hJ.1.1.1
   rw [hn] at hb
   have cx : wq.cell? ⟨p, 26, none⟩ = some (.int .i64 y.sv.col) := hb.box.cell 26
   refine wp_of_quiet rfl ?_
   go_big_quiet_step (fail)
   exact wpQuiet_nil (hK _ _ ⟨⟨hJ.1.1, hJ.1.2.1, fun _ => rfl⟩, vals_upd hJ.2 (.inr rfl)⟩)
  case b16 =>
   refine wp_call 134 #[.pointer (some ⟨p, 0, none⟩)] (by simp [go_sem]) (.int .i64 (y.g.co - 1)) (fun w'' => w'' = wq) (lastCol_any N wq p (r5S y (miF y.sv.row (y.g.ro - 1)) (miF y.sv.col (y.g.co - 1)) (D 21) (D 25)) vg vt vm vl hJ.1.1.1 m.c1 m.c2) ?_
   rintro _ rfl
   exact hK _ _ ⟨hJ.1, vals_upd hJ.2 (.inr rfl)⟩
  case b17 =>
   exact wp_val (.int .i64 (miF y.sv.col (y.g.co - 1))) (by simp [go_sem, miF]) (hK _ _ ⟨hJ.1, vals_upd hJ.2 (.inr rfl)⟩)
  case b21 =>
   have hb := hJ.1.1.1
   rw [hD] at hb
   refine wp_store3 (.tmp 71) (.tmp 60) rfl p 25 (miF y.sv.row (y.g.ro - 1)) _ rfl rfl (hb.box.cell 25) (hb.box.frozen 25) (hK _ _ ⟨⟨⟨?_, hJ.1.1.2.setCell 25 _⟩, fun _ => hd 6 (by kernel_rfl), hJ.1.2.2⟩, vals_upd hJ.2 (.inl rfl)⟩)
   exact hb.setCell _ 25 _ rfl rfl rfl rfl rfl
  case b25 =>
   have hb := hJ.1.1.1
   rw [hD] at hb
   refine wp_store3 (.tmp 74) (.tmp 68) rfl p 26 (miF y.sv.col (y.g.co - 1)) _ rfl rfl (hb.box.cell 26) (hb.box.frozen 26) (hK _ _ ⟨⟨⟨?_, hJ.1.1.2.setCell 26 _⟩, hJ.1.2.1, fun _ => hd 14 (by kernel_rfl)⟩, vals_upd hJ.2 (.inl rfl)⟩)
   exact hb.setCell _ 26 _ rfl rfl rfl rfl rfl
  all_goals (refine wp_of_quiet rfl ?_; go_big_quiet_step (fail); exact wpQuiet_nil (hK _ _ ⟨hJ.1, vals_upd hJ.2 (.inr rfl)⟩))
 ·intro D f wz hD hJ
  have hW := hJ.1
  rw [hD 21 (by decide)] at hW
  rw [hD 25 (by decide)] at hW
  have P := fun j h h2 => hJ.2 j (hD j h) h2
  clear hJ hD
  simp (disch := decide) only [tkS, tkZ, List.drop_succ_cons, List.drop_zero, setAll, siB, stS, stZ, Nat.zero_add, Nat.reduceAdd, P]
  clear P
  exact hQ wz (⟨hW.1.1, hW.1.2⟩)
/-- The board when its main grid is a new one. -/
theorem mn_bd {N : Nat} {w1 wb : World} {p : Nat} {x : Sn} {vg vt vm vl : Value} (h : Bd N w1 p x vg vt vm vl) (hb : Below w1.heap.size w1 wb) (g n : Nat) (hg : w1.heap.size ≤ g) (y : Sn) (hr : RC (wb.setRow p (snA y vg vt (.slice (some ⟨g, 0, none⟩) n n) vl)) g y.mn.c []) (hn : y.mn.c.length = n) (hn2 : n ≤ 1000000) (e2 : y.g.c = x.g.c) (e3 : y.tabs = x.tabs) (e4 : y.title = x.title) :
  Bd N (wb.setRow p (snA y vg vt (.slice (some ⟨g, 0, none⟩) n n) vl)) p y vg vt (.slice (some ⟨g, 0, none⟩) n n) vl := by
 have R2 := h.box.below hb h.box.lt
 have O3 := (h.own.below hb).setRow p 116 (snA y vg vt (.slice (some ⟨g, 0, none⟩) n n) vl) (R2.room (n := 44) rfl) (by decide) (by decide) (by decide)
 have hNw : N ≤ w1.heap.size := Nat.le_trans h.hp (Nat.le_of_lt h.lt)
 refine ⟨R2.setRow _, h.hp, by rw [e2]; exact O3.g, ?_, ?_, by rw [e3]; exact O3.t, by rw [e4]; exact O3.l⟩
 ·have := RC.own hr (show N ≤ g by omega) (by omega)
  rw [hn] at this
  exact this
 ·intro b h1 h2
  simp only [Value.ownBlock, Option.some.injEq] at h2
  have := (OwnC.lt h.own.g b h1).2
  omega
theorem rz_r3 (N : Nat) (w : World) (p q3 : Nat) (y : Sn) (vg vt vm vl : Value) (h : Bd N w p y vg vt vm vl) (cols rows n : Nat) (gv : Value) (h3 : Row w q3 24 (gA (cols : Int) (rows : Int) gv)) (l : List Cl) (hl : l.length = n) (hn : n ≤ 1000000) (HC0 : ∀ wa, Below w.heap.size w wa → Calls Tryz.prog 97 #[.agg (gA y.mn.co y.mn.ro vm), .int .i64 (cols : Int), .int .i64 (rows : Int), .agg (sA y.cur.st)] wa fun e w' => ∃ v, e = .returned v ∧ ∃ g, v = gOk (cols : Int) (rows : Int) (.slice (some ⟨g, 0, none⟩) n n) ∧ wa.heap.size ≤ g ∧ RC w' g l [] ∧ Below wa.heap.size wa w') (u1 u2 u4 u5 u6 u7 u8 u9 u10 u11 u12 u13 u14 u15 u16 u17 u18 u19 u20 u21 u22 u23 u24 u25 u26 u27 u28 u29 u30 u31 u32 u33 u34 u35 u36 u37 u38 u39 u40 u41 u42 u43 u44 u45 u46 u47 u48 u49 u50 u51 u52 u53 u54 u55 u56 u57 u58 u59 u60 u61 u62 u63 u64 u65 u66 u67 u68 u69 u70 u71 u72 u73 u74 u75 u76 u77 u78 u79 u80 u81 u82 u83 u84 u85 u86 u87 u88 u89 u90 u91 u92 u93 u94 u95 : Value) (df : List Deferred) (Q : Exit → Act → World → Prop) (hQ : ∀ (z13 z14 z15 : Value) (wz : World), (∃ vm', Bd N wz p { y with mn := ⟨(cols : Int), (rows : Int), l⟩ } vg vt vm' vl ∧ Tc p w wz) → wpList Tryz.prog #[] Q [] ⟨List.toArray ((.pointer (some ⟨p, 0, none⟩)) :: u1 :: u2 :: (.pointer (some ⟨q3, 0, none⟩)) :: u4 :: u5 :: u6 :: u7 :: u8 :: u9 :: u10 :: u11 :: z14 :: (.pointer (some ⟨p, 0, none⟩)) :: (.pointer (some ⟨p, 0, none⟩)) :: (.pointer (some ⟨p, 0, none⟩)) :: (.pointer (some ⟨p, 40, none⟩)) :: (.agg (gA y.mn.co y.mn.ro vm)) :: (.pointer (some ⟨q3, 0, none⟩)) :: (.int .i64 (cols : Int)) :: (.pointer (some ⟨q3, 1, none⟩)) :: (.int .i64 (rows : Int)) :: (.pointer (some ⟨p, 0, none⟩)) :: (.pointer (some ⟨p, 0, none⟩)) :: (.pointer (some ⟨p, 6, none⟩)) :: (.agg (sA y.cur.st)) :: z13 :: z15 :: (.int .i64 0) :: (.pointer (some ⟨p, 0, none⟩)) :: (.pointer (some ⟨p, 40, none⟩)) :: u31 :: u32 :: u33 :: u34 :: u35 :: u36 :: u37 :: u38 :: u39 :: u40 :: u41 :: u42 :: u43 :: u44 :: u45 :: u46 :: u47 :: u48 :: u49 :: u50 :: u51 :: u52 :: u53 :: u54 :: u55 :: u56 :: u57 :: u58 :: u59 :: u60 :: u61 :: u62 :: u63 :: u64 :: u65 :: u66 :: u67 :: u68 :: u69 :: u70 :: u71 :: u72 :: u73 :: u74 :: u75 :: u76 :: u77 :: u78 :: u79 :: u80 :: u81 :: u82 :: u83 :: u84 :: u85 :: u86 :: u87 :: u88 :: u89 :: u90 :: u91 :: u92 :: u93 :: u94 :: u95 :: []), df⟩ wz) :
  Code.wp Tryz.prog ((Tryz.f99.body.bind (regOf' 3)).getD .skip) Q ⟨List.toArray ((.pointer (some ⟨p, 0, none⟩)) :: u1 :: u2 :: (.pointer (some ⟨q3, 0, none⟩)) :: u4 :: u5 :: u6 :: u7 :: u8 :: u9 :: u10 :: u11 :: u12 :: u13 :: u14 :: u15 :: u16 :: u17 :: u18 :: u19 :: u20 :: u21 :: u22 :: u23 :: u24 :: u25 :: u26 :: u27 :: u28 :: u29 :: u30 :: u31 :: u32 :: u33 :: u34 :: u35 :: u36 :: u37 :: u38 :: u39 :: u40 :: u41 :: u42 :: u43 :: u44 :: u45 :: u46 :: u47 :: u48 :: u49 :: u50 :: u51 :: u52 :: u53 :: u54 :: u55 :: u56 :: u57 :: u58 :: u59 :: u60 :: u61 :: u62 :: u63 :: u64 :: u65 :: u66 :: u67 :: u68 :: u69 :: u70 :: u71 :: u72 :: u73 :: u74 :: u75 :: u76 :: u77 :: u78 :: u79 :: u80 :: u81 :: u82 :: u83 :: u84 :: u85 :: u86 :: u87 :: u88 :: u89 :: u90 :: u91 :: u92 :: u93 :: u94 :: u95 :: []), df⟩ w := by
 conv => arg 2; whnf
 have I26 : Box' ((Tryz.prog.info? 26).map (·.size) = some (sA y.cur.st).toList.length) := ⟨by kernel_rfl⟩
 have HC := Box'.mk HC0
 have HP := Box'.mk h.lt
 refine wp_region_walk 20 (by kernel_rfl) (by kernel_rfl) (fun D f wa => (StJ w 13 19 p (fun g => snA { y with mn := ⟨(cols : Int), (rows : Int), l⟩ } vg vt (.slice (some ⟨g, 0, none⟩) n n) vl) (cols : Int) (rows : Int) n l D f wa) ∧ ∀ i, D i = true → (fun kc => kc == 13 || kc == 14 || kc == 15 || kc == 19) i = false → f i = (fun kc => match kc with
   | 0 => .pointer (some ⟨p, 0, none⟩)
   | 1 => .pointer (some ⟨p, 0, none⟩)
   | 2 => .pointer (some ⟨p, 0, none⟩)
   | 3 => .pointer (some ⟨p, 40, none⟩)
   | 4 => .agg (gA y.mn.co y.mn.ro vm)
   | 5 => .pointer (some ⟨q3, 0, none⟩)
   | 6 => .int .i64 (cols : Int)
   | 7 => .pointer (some ⟨q3, 1, none⟩)
   | 8 => .int .i64 (rows : Int)
   | 9 => .pointer (some ⟨p, 0, none⟩)
   | 10 => .pointer (some ⟨p, 0, none⟩)
   | 11 => .pointer (some ⟨p, 6, none⟩)
   | 12 => .agg (sA y.cur.st)
   | 16 => .int .i64 0
   | 17 => .pointer (some ⟨p, 0, none⟩)
   | 18 => .pointer (some ⟨p, 40, none⟩)
   | _ => undef) i) ?_ ?_ ?_
 ·exact fun f => ⟨StJ.begin _ _ _ _ _ _ _ _ _ _, fun i h => by cases h⟩
 ·refine ⟨?c0, ?c1, ?c2, ?c3, ?c4, ?c5, ?c6, ?c7, ?c8, ?c9, ?c10, ?c11, ?c12, ?c13, ?c14, ?c15, ?c16, ?c17, ?c18, ?c19, trivial⟩
  all_goals intro D f wq hJ hD hd KK hK
  all_goals have G := fun j h h2 => hJ.2 j (hd j h) h2
  all_goals simp (disch := decide +kernel) only [tkS, tkZ, setAll, siB, stS, stZ, Nat.zero_add, Nat.reduceAdd, G] at hK ⊢
  case c4 =>
   exact wp_load_gridM (.tmp 16) rfl p 40 y.mn.co y.mn.ro vm rfl (sn_main (h.below (hJ.1.be 4 (by decide) hD)).box) (hK _ _ ⟨(hJ.1.other 4 _ (by decide) (by decide) (by decide) (by decide)), vals_upd hJ.2 (.inr rfl)⟩)
  case c6 =>
   have cx : wq.cell? ⟨q3, 0, none⟩ = some (.int .i64 (cols : Int)) := (h3.below (hJ.1.be 6 (by decide) hD) h3.lt).cell 0
   (refine wp_of_quiet rfl ?_; go_big_quiet_step (fail); exact wpQuiet_nil (hK _ _ ⟨(hJ.1.other 6 _ (by decide) (by decide) (by decide) (by decide)), vals_upd hJ.2 (.inr rfl)⟩))
  case c8 =>
   have cx : wq.cell? ⟨q3, 1, none⟩ = some (.int .i64 (rows : Int)) := (h3.below (hJ.1.be 8 (by decide) hD) h3.lt).cell 1
   (refine wp_of_quiet rfl ?_; go_big_quiet_step (fail); exact wpQuiet_nil (hK _ _ ⟨(hJ.1.other 8 _ (by decide) (by decide) (by decide) (by decide)), vals_upd hJ.2 (.inr rfl)⟩))
  case c12 =>
   exact wp_mid 26 (.tmp 24) rfl p 6 (sA y.cur.st) _ Tryz.underlying26 rfl I26.out rfl (sn_style (h.below (hJ.1.be 12 (by decide) hD)).box) (hK _ _ ⟨(hJ.1.other 12 _ (by decide) (by decide) (by decide) (by decide)), vals_upd hJ.2 (.inr rfl)⟩)
  case c13 =>
   refine wp_callR 97 #[.agg (gA y.mn.co y.mn.ro vm), .int .i64 (cols : Int), .int .i64 (rows : Int), .agg (sA y.cur.st)] (by simp [go_sem]) _ (HC.out wq (hJ.1.be 13 (by decide) hD)) ?_
   rintro v w'' ⟨g, rfl, hg, hrc, hb⟩
   exact hK _ _ ⟨hJ.1.o0 (by decide) hD g w'' hb hg hrc, vals_upd hJ.2 (.inl rfl)⟩
  case c14 =>
   exact wp_val (f 13) (by simp [go_sem]) (hK _ _ ⟨hJ.1.o1 (by decide) hD (hd 13 (by kernel_rfl)), vals_upd hJ.2 (.inl rfl)⟩)
  case c15 =>
   obtain ⟨d0, e1⟩ := hJ.1.k1 (hd 14 (by kernel_rfl))
   obtain ⟨g, e0, hg, hrc⟩ := hJ.1.k0 d0
   have e1 : f 14 = gOk (cols : Int) (rows : Int) (.slice (some ⟨g, 0, none⟩) n n) := e1.trans e0
   simp only [e1] at hK ⊢
   exact wp_val (.agg (gA (cols : Int) (rows : Int) (.slice (some ⟨g, 0, none⟩) n n))) (by simp [go_sem, gOk]) (hK _ _ ⟨hJ.1.o2 (by decide) hD d0 g e0, vals_upd hJ.2 (.inl rfl)⟩)
  case c16 =>
   obtain ⟨d0, e1⟩ := hJ.1.k1 (hd 14 (by kernel_rfl))
   obtain ⟨g, e0, hg, hrc⟩ := hJ.1.k0 d0
   have e1 : f 14 = gOk (cols : Int) (rows : Int) (.slice (some ⟨g, 0, none⟩) n n) := e1.trans e0
   simp only [e1] at hK ⊢
   exact wp_val (.int .i64 0) (by simp [go_sem, gOk]) (hK _ _ ⟨(hJ.1.other 16 _ (by decide) (by decide) (by decide) (by decide)), vals_upd hJ.2 (.inr rfl)⟩)
  case c19 =>
   obtain ⟨d0, g, e0, e2⟩ := hJ.1.k2 (hd 15 (by kernel_rfl))
   have e2 : f 15 = .agg (gA (cols : Int) (rows : Int) (.slice (some ⟨g, 0, none⟩) n n)) := e2
   have hall : ∀ jj, jj < 16 → D jj = true := by
    intro jj hj
    rcases (show jj = 0 ∨ jj = 1 ∨ jj = 2 ∨ jj = 3 ∨ jj = 4 ∨ jj = 5 ∨ jj = 6 ∨ jj = 7 ∨ jj = 8 ∨ jj = 9 ∨ jj = 10 ∨ jj = 11 ∨ jj = 12 ∨ jj = 13 ∨ jj = 14 ∨ jj = 15 by omega) with rfl | rfl | rfl | rfl | rfl | rfl | rfl | rfl | rfl | rfl | rfl | rfl | rfl | rfl | rfl | rfl <;> exact hd _ (by kernel_rfl)
   have hbe := hJ.1.a hD
   simp only [e2] at hK ⊢
   exact wp_store_part 24 (.tmp 30) (.tmp 27) rfl p 116 40 (snA y vg vt vm vl) (gA (cols : Int) (rows : Int) (.slice (some ⟨g, 0, none⟩) n n)) (snA { y with mn := ⟨(cols : Int), (rows : Int), l⟩ } vg vt (.slice (some ⟨g, 0, none⟩) n n) vl) rfl rfl (h.below hbe).box s24g (show 40 + 3 ≤ 44 by omega) (gA_one _ _ _ _ _) rfl (hK _ _ ⟨hJ.1.om (by decide) hD hall HP.out g e0 _, vals_upd hJ.2 (.inl rfl)⟩)
  all_goals (refine wp_of_quiet rfl ?_; go_big_quiet_step (fail); exact wpQuiet_nil (hK _ _ ⟨(hJ.1.other _ _ (by decide) (by decide) (by decide) (by decide)), vals_upd hJ.2 (.inr rfl)⟩))
 ·intro D f wz hD hJ
  have hW := hJ.1
  have P := fun j h h2 => hJ.2 j (hD j h) h2
  obtain ⟨wb, g, e0, e1, e2, hg, hbb, hrc, hw⟩ := hW.fin (by decide) hD
  have e0 : f 13 = _ := e0
  have e1 : f 14 = _ := e1
  have e2 : f 15 = _ := e2
  have HBB := Box'.mk hbb
  have HRC := Box'.mk hrc
  have HWZ := Box'.mk hw
  have HG := Box'.mk hg
  clear hW hrc hw hbb hg
  have hz : ∃ vm', Bd N wz p { y with mn := ⟨(cols : Int), (rows : Int), l⟩ } vg vt vm' vl ∧ Tc p w wz := by
   have hr := HRC.out
   have hw := HWZ.out
   subst hw
   exact ⟨_, mn_bd h HBB.out g n HG.out { y with mn := ⟨(cols : Int), (rows : Int), l⟩ } hr hl hn rfl rfl rfl, (Tc.of HBB.out).setRow _⟩
  clear hJ hD
  simp (disch := decide) only [tkS, tkZ, List.drop_succ_cons, List.drop_zero, setAll, siB, stS, stZ, Nat.zero_add, Nat.reduceAdd, P, e0, e1, e2]
  clear P e0 e1 e2
  exact hQ _ _ _ wz (hz)
end Go.Proofs.YtlekleeckcdcgaaGreat
