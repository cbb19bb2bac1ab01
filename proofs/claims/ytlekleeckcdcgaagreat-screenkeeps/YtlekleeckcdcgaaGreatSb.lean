/- Blank, Mark, May. -/
import Derived.Test.YtlekleeckcdcgaaGreatEq
import Derived.Test.YtlekleeckcdcgaaGreatCa
namespace Go.Proofs.YtlekleeckcdcgaaGreat
open Go.RowKit Go.BigFrame
set_option linter.unusedVariables false
set_option linter.unusedSimpArgs false
set_option maxRecDepth 100000
set_option maxHeartbeats 4000000
theorem size21 (w : World) : (sizeOf 21).run Tryz.prog w = .ok 1 w := by
 have := s21
 cases hq : Tryz.prog.info? 21 with
 | none => simp [hq] at this
 | some i => simp [hq] at this; simp [sizeOf, typeInfo, hq, this]
theorem run_part21 (w : World) (c : Array Value) (i : Nat) (v : Value) (hc : c[i]? = some v) : (part 21 c i).run Tryz.prog w = .ok v w := by
 simp [part, isAgg, underlying, Tryz.underlying21, hc]
def bl (s : St) : Cl := ⟨32, 0, 0, 0, 1, { pl with bg := s.bg }⟩
/-- A cell that may be. -/
def gd (x : Cl) : Prop := mayS x.st = true ∧ ((x.wd = 0 ∧ x = hf x.st) ∨ ((x.wd = 1 ∨ x.wd = 2) ∧ ofF x.ch = (x.wd : Int) ∧ ∃ j, Mj j x.m0 x.m1 x.m2))
theorem of_32 : ofF 32 = 1 := by decide +kernel
theorem gd_put (c : Int) (s : St) (h : mayS s = true) : ∀ x ∈ putF c s, gd x := by
 intro x hx
 unfold putF at hx
 split at hx
 ·rename_i h1
  simp only [List.mem_singleton] at hx
  subst hx
  exact ⟨h, .inr ⟨.inl rfl, h1, 0, .inl ⟨rfl, rfl, rfl, rfl⟩⟩⟩
 ·split at hx
  ·rename_i h1 h2
   simp only [List.mem_cons, List.not_mem_nil, or_false] at hx
   rcases hx with rfl | rfl
   ·exact ⟨h, .inr ⟨.inr rfl, h2, 0, .inl ⟨rfl, rfl, rfl, rfl⟩⟩⟩
   ·exact ⟨h, .inl ⟨rfl, rfl⟩⟩
  ·simp at hx
theorem results13 (tmps : Array Value) (b : Nat) (hx : tmps.getD 2 undef = .pointer (some ⟨b, 0, none⟩)) (w : World) (c : Array Value) (hr : Row w b 56 c) (hn : c.size = 15) : (results Tryz.f179 tmps).run Tryz.prog w = .ok (.agg c) w :=
 results_row (p := 2) (ty := 56) rfl tmps b hx 56 c hr _ Tryz.underlying56 rfl 15 s26 hn
theorem one15 (x : Cl) : (cA x).all (·.oneCell') = true := by simp [cA, Value.oneCell']
theorem blank_any (s : St) (w : World) : Calls Tryz.prog 179 #[.agg (sA s)] w fun e w' => e = .returned (.agg (cA (bl s))) ∧ Below w.heap.size w w' := by
 have RS : Box' (Row ((w.alloc (.cells (sA s) 26)).alloc (.cells #[.int .i32 0, .int .i32 0, .int .i32 0, .int .i32 0, .int .u8 0, .int .i64 0, .int .i64 0, .bool false, .bool false, .bool false, .bool false, .bool false, .bool false, .bool false, .bool false] 56)) w.heap.size 26 (sA s)) := ⟨(Row.new _ _ _).alloc _⟩
 have RM : Box' (Room ((w.alloc (.cells (sA s) 26)).alloc (.cells #[.int .i32 0, .int .i32 0, .int .i32 0, .int .i32 0, .int .u8 0, .int .i64 0, .int .i64 0, .bool false, .bool false, .bool false, .bool false, .bool false, .bool false, .bool false, .bool false] 56)) (w.heap.size + 1) 56 15) := ⟨Room.made _ _ _ _ _ rfl (by simp)⟩
 have BB : Box' (Below w.heap.size w ((w.alloc (.cells (sA s) 26)).alloc (.cells #[.int .i32 0, .int .i32 0, .int .i32 0, .int .i32 0, .int .u8 0, .int .i64 0, .int .i64 0, .bool false, .bool false, .bool false, .bool false, .bool false, .bool false, .bool false, .bool false] 56))) := ⟨((Below.refl w.heap.size w).alloc (Nat.le_refl _) _).alloc (by simp) _⟩
 have PL := Box'.mk (plain_any ((w.alloc (.cells (sA s) 26)).alloc (.cells #[.int .i32 0, .int .i32 0, .int .i32 0, .int .i32 0, .int .u8 0, .int .i64 0, .int .i64 0, .bool false, .bool false, .bool false, .bool false, .bool false, .bool false, .bool false, .bool false] 56)))
 rw [lit_p] at PL
 have S26 := Box'.mk s26
 have O : Box' ((#[.int .i32 32, .int .i32 0, .int .i32 0, .int .i32 0, .int .u8 1, .int .i64 (-1), .int .i64 s.bg, .bool false, .bool false, .bool false, .bool false, .bool false, .bool false, .bool false, .bool false] : Array Value).all (·.oneCell') = true) := ⟨one15 (bl s)⟩
 go_enter Tryz.func179, Tryz.ntmps179
 go_wp2_with fail
 generalize ((w.alloc (.cells (sA s) 26)).alloc (.cells #[.int .i32 0, .int .i32 0, .int .i32 0, .int .i32 0, .int .u8 0, .int .i64 0, .int .i64 0, .bool false, .bool false, .bool false, .bool false, .bool false, .bool false, .bool false, .bool false] 56)) = w1 at *
 refine PL.out.mono ?_
 rintro e w2 ⟨rfl, hb2⟩
 have R2 := Box'.mk (RS.out.below hb2 RS.out.lt)
 have M2 := Box'.mk (RM.out.below hb2 (by obtain ⟨c, h, _⟩ := RM.out; exact h.lt))
 have B2 := Box'.mk (BB.out.trans (hb2.mono BB.out.size))
 have hlt := R2.out.lt
 have R3 := Box'.mk (R2.out.alloc (.cells #[.int .i64 (-1), .int .i64 (-1), .bool false, .bool false, .bool false, .bool false, .bool false, .bool false, .bool false, .bool false] 26))
 have RP := Box'.mk (Row.new w2 26 #[.int .i64 (-1), .int .i64 (-1), .bool false, .bool false, .bool false, .bool false, .bool false, .bool false, .bool false, .bool false])
 have M3 := Box'.mk (M2.out.alloc (.cells #[.int .i64 (-1), .int .i64 (-1), .bool false, .bool false, .bool false, .bool false, .bool false, .bool false, .bool false, .bool false] 26))
 have hl2 : w.heap.size + 1 < w2.heap.size := by obtain ⟨c, h, _⟩ := M2.out; exact h.lt
 have B3 := Box'.mk (B2.out.alloc B2.out.size (.cells #[.int .i64 (-1), .int .i64 (-1), .bool false, .bool false, .bool false, .bool false, .bool false, .bool false, .bool false, .bool false] 26))
 clear hb2 RS RM BB PL M2 B2 R2
 go_upto_region 2 with (fail)
 generalize (w2.alloc (.cells #[.int .i64 (-1), .int .i64 (-1), .bool false, .bool false, .bool false, .bool false, .bool false, .bool false, .bool false, .bool false] 26)) = w3 at *
 generalize w2.heap.size = g at *
 have c1 : w3.cell? ⟨w.heap.size, 1, none⟩ = some (.int .i64 s.bg) := R3.out.cell 1
 have d1 : w3.cell? ⟨g, 1, none⟩ = some (.int .i64 (-1)) := RP.out.cell 1
 have f1 := RP.out.frozen 1
 have RQ : Box' (Row (w3.setCell ⟨g, 1, none⟩ (.int .i64 s.bg)) g 26 #[.int .i64 (-1), .int .i64 s.bg, .bool false, .bool false, .bool false, .bool false, .bool false, .bool false, .bool false, .bool false]) := ⟨RP.out.setCell 1 _⟩
 have M4 : Box' (Room (w3.setCell ⟨g, 1, none⟩ (.int .i64 s.bg)) (w.heap.size + 1) 56 15) := ⟨M3.out.setOther _ _ (by show w.heap.size + 1 ≠ g; omega)⟩
 have B4 : Box' (Below w.heap.size w (w3.setCell ⟨g, 1, none⟩ (.int .i64 s.bg))) := ⟨B3.out.setCell (by show w.heap.size ≤ g; omega) _⟩
 have S24 := Box'.mk s24
 have U24 := Box'.mk Tryz.underlying26
 clear R3 RP M3 B3 hlt
 go_wp2_with (first
  | (refine wpList_load_row rfl 26 (.tmp 3) rfl g rfl 26 #[.int .i64 (-1), .int .i64 s.bg, .bool false, .bool false, .bool false, .bool false, .bool false, .bool false, .bool false, .bool false] RQ.out _ U24.out rfl 10 S24.out rfl ?_)
  | (refine wpList_store_row rfl 56 (.tmp 2) (.tmp 9) rfl (w.heap.size + 1) rfl #[.int .i32 32, .int .i32 0, .int .i32 0, .int .i32 0, .int .u8 1, .int .i64 (-1), .int .i64 s.bg, .bool false, .bool false, .bool false, .bool false, .bool false, .bool false, .bool false, .bool false] rfl 56 15 M4.out S26.out rfl O.out ?_))
 exact bodyPost_ret (results13 _ (w.heap.size + 1) rfl _ _ (M4.out.setRow _) rfl) rfl ⟨rfl, below_setRow B4.out (by omega) _⟩
theorem may_no (x : Cl) (h : mayS x.st = false) (w : World) : Calls Tryz.prog 112 #[.agg (cA x)] w fun e w' => e = .returned (.bool false) ∧ Below w.heap.size w w' := by
 have MS := Box'.mk (mayStyle_any x.st)
 rw [h] at MS
 have RX := Box'.mk (Row.new w 56 (cA x))
 have BB := Box'.mk ((Below.refl w.heap.size w).alloc (Nat.le_refl _) (.cells (cA x) 56))
 go_enter Tryz.func112, Tryz.ntmps112
 go_upto_region 1 with (fail)
 generalize w.alloc (.cells (cA x) 56) = w1 at *
 obtain ⟨c0, c1, c2, c3, c4, c5, c6, c7, c8, c9, c10, c11, c12, c13, c14⟩ := RX.out.c15
 clear RX h
 go_wp2_with fail
 refine (MS.out _).mono ?_
 rintro e w2 ⟨rfl, hb2⟩
 have B2 := Box'.mk (BB.out.trans (hb2.mono BB.out.size))
 clear hb2 BB MS
 go_wp2_with fail
 go_ret
 exact ⟨rfl, B2.out⟩
end Go.Proofs.YtlekleeckcdcgaaGreat
