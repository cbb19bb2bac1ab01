/- anchored. -/
import Derived.Test.YtnlladjkajmpoaaA
import Derived.Test.YtnlladjkajmpoaaX
namespace Go.Proofs.Ytnlladjkajmpoaa
open Go.RowKit Go.BigFrame
set_option linter.unusedVariables false
set_option linter.unusedSimpArgs false

def sa : St := ⟨1, -1, true, false, false, false, false, false, false, false⟩
def sb : St := ⟨200, -1, true, false, false, true, false, false, false, false⟩
theorem anc1 : apF pl [1, 31] = sa := by
  rw [apF, if_neg (by simp), apG_step _ _ (by simp), show stp pl [1, 31] = (⟨-1, -1, true, false, false, false, false, false, false, false⟩, 1) by rfl]
  rw [show List.drop 1 [(1 : Int), 31] = [31] from rfl, apG_step _ _ (by simp), show stp ⟨-1, -1, true, false, false, false, false, false, false, false⟩ [31] = (sa, 1) by rfl]
  rw [show List.drop 1 [(31 : Int)] = [] from rfl, apG_nil]
theorem anc2 : apF sa [38, 5, 200, 4] = sb := by
  rw [apF, if_neg (by simp), apG_step _ _ (by simp), show stp sa [38, 5, 200, 4] = (⟨200, -1, true, false, false, false, false, false, false, false⟩, 3) by rfl]
  rw [show List.drop 3 [(38 : Int), 5, 200, 4] = [4] from rfl, apG_step _ _ (by simp), show stp ⟨200, -1, true, false, false, false, false, false, false, false⟩ [4] = (sb, 1) by rfl]
  rw [show List.drop 1 [(4 : Int)] = [] from rfl, apG_nil]
theorem anc3 : ofF 20013 = 2 := by decide +kernel
theorem Row.is {w : World} {g : Nat} {t : TypeId} {l : List Int} {n : Nat} (h : Row w g t (l.map fun x => Value.int .i64 x).toArray) (hn : l.length = n) : Is w.heap.size w (.slice (some ⟨g, 0, none⟩) n n) l :=
  ⟨_, _, by rw [hn], by omega, .inr ⟨g, 0, rfl, h.lt, fun k hk => by
    rw [Nat.zero_add, h.cell]
    simp [hk]⟩⟩
theorem lit_a : sA sa = #[.int .i64 1, .int .i64 (-1), .bool true, .bool false, .bool false, .bool false, .bool false, .bool false, .bool false, .bool false] := rfl
theorem lit_b : sA sb = #[.int .i64 200, .int .i64 (-1), .bool true, .bool false, .bool false, .bool true, .bool false, .bool false, .bool false, .bool false] := rfl
theorem lit_p : sA pl = #[.int .i64 (-1), .int .i64 (-1), .bool false, .bool false, .bool false, .bool false, .bool false, .bool false, .bool false, .bool false] := rfl
set_option maxRecDepth 100000 in
set_option maxHeartbeats 4000000 in
theorem anch_any (w : World) : Calls Try.prog 17 #[] w fun e w' => e = .returned (.bool true) ∧ Below w.heap.size w w' := by
  have PL := Box'.mk (plain_any w)
  have S24 := Box'.mk s24
  have U24 := Box'.mk Try.underlying24
  go_enter Try.func17, Try.ntmps17
  go_wp2_with fail
  refine PL.out.mono ?_
  rintro e w1 ⟨rfl, hb1⟩
  have B1 := Box'.mk (hb1.alloc hb1.size (.cells #[.int .i64 1, .int .i64 31] 3))
  have A1 := Box'.mk (apply_any pl _ [1, 31] (by decide) _ ((Row.new w1 3 #[.int .i64 1, .int .i64 31]).is (l := [1, 31]) rfl))
  rw [anc1, lit_a] at A1
  clear hb1 PL
  go_wp2_with fail
  refine A1.out.mono ?_
  rintro e w2 ⟨rfl, hb2⟩
  have B2 := Box'.mk (B1.out.trans (hb2.mono B1.out.size))
  clear hb2 B1 A1
  have R2 := Box'.mk ((Row.new w2 24 #[.int .i64 1, .int .i64 (-1), .bool true, .bool false, .bool false, .bool false, .bool false, .bool false, .bool false, .bool false]).alloc (.cells #[.int .i64 38, .int .i64 5, .int .i64 200, .int .i64 4] 3))
  have B3 := Box'.mk ((B2.out.alloc B2.out.size (.cells #[.int .i64 1, .int .i64 (-1), .bool true, .bool false, .bool false, .bool false, .bool false, .bool false, .bool false, .bool false] 24)).alloc (by have := B2.out.size; simp; omega) (.cells #[.int .i64 38, .int .i64 5, .int .i64 200, .int .i64 4] 3))
  have A2 : Box' (Calls Try.prog 18 #[.agg #[.int .i64 1, .int .i64 (-1), .bool true, .bool false, .bool false, .bool false, .bool false, .bool false, .bool false, .bool false], .slice (some ⟨w2.heap.size + 1, 0, none⟩) 4 4] ((w2.alloc (.cells #[.int .i64 1, .int .i64 (-1), .bool true, .bool false, .bool false, .bool false, .bool false, .bool false, .bool false, .bool false] 24)).alloc (.cells #[.int .i64 38, .int .i64 5, .int .i64 200, .int .i64 4] 3)) fun e w' => e = .returned (.agg #[.int .i64 200, .int .i64 (-1), .bool true, .bool false, .bool false, .bool true, .bool false, .bool false, .bool false, .bool false]) ∧ Below ((w2.alloc (.cells #[.int .i64 1, .int .i64 (-1), .bool true, .bool false, .bool false, .bool false, .bool false, .bool false, .bool false, .bool false] 24)).alloc (.cells #[.int .i64 38, .int .i64 5, .int .i64 200, .int .i64 4] 3)).heap.size ((w2.alloc (.cells #[.int .i64 1, .int .i64 (-1), .bool true, .bool false, .bool false, .bool false, .bool false, .bool false, .bool false, .bool false] 24)).alloc (.cells #[.int .i64 38, .int .i64 5, .int .i64 200, .int .i64 4] 3)) w') := ⟨by
    have h := apply_any sa (.slice (some ⟨w2.heap.size + 1, 0, none⟩) 4 4) [38, 5, 200, 4] (by decide) ((w2.alloc (.cells #[.int .i64 1, .int .i64 (-1), .bool true, .bool false, .bool false, .bool false, .bool false, .bool false, .bool false, .bool false] 24)).alloc (.cells #[.int .i64 38, .int .i64 5, .int .i64 200, .int .i64 4] 3)) (Row.is (t := 3) (l := [38, 5, 200, 4]) (Row.made _ _ _ _ _ rfl (by simp)) rfl)
    rw [anc2, lit_a, lit_b] at h
    exact h⟩
  clear B2
  go_wp2_with fail
  generalize ((w2.alloc (.cells #[.int .i64 1, .int .i64 (-1), .bool true, .bool false, .bool false, .bool false, .bool false, .bool false, .bool false, .bool false] 24)).alloc (.cells #[.int .i64 38, .int .i64 5, .int .i64 200, .int .i64 4] 3)) = w3 at *
  refine A2.out.mono ?_
  rintro e w4 ⟨rfl, hb4⟩
  have B4 := Box'.mk (B3.out.trans (hb4.mono B3.out.size))
  have R4 := Box'.mk (R2.out.below hb4 R2.out.lt)
  clear hb4 A2 B3 R2
  generalize w2.heap.size = g1 at *
  go_wp2_with fail
  have R5 := Box'.mk (R4.out.alloc (.cells #[.int .i64 200, .int .i64 (-1), .bool true, .bool false, .bool false, .bool true, .bool false, .bool false, .bool false, .bool false] 24))
  have R6 := Box'.mk (Row.new w4 24 #[.int .i64 200, .int .i64 (-1), .bool true, .bool false, .bool false, .bool true, .bool false, .bool false, .bool false, .bool false])
  have B5 := Box'.mk (B4.out.alloc B4.out.size (.cells #[.int .i64 200, .int .i64 (-1), .bool true, .bool false, .bool false, .bool true, .bool false, .bool false, .bool false, .bool false] 24))
  have PL := Box'.mk (plain_any (w4.alloc (.cells #[.int .i64 200, .int .i64 (-1), .bool true, .bool false, .bool false, .bool true, .bool false, .bool false, .bool false, .bool false] 24)))
  clear R4 B4
  generalize hw5 : (w4.alloc (.cells #[.int .i64 200, .int .i64 (-1), .bool true, .bool false, .bool false, .bool true, .bool false, .bool false, .bool false, .bool false] 24)) = w5 at *
  generalize w4.heap.size = g2 at *
  clear hw5
  refine PL.out.mono ?_
  rintro e w6 ⟨rfl, hb6⟩
  have P6 := Box'.mk (put_2 20013 pl anc3 w6)
  have R7 := Box'.mk (R5.out.below hb6 R5.out.lt)
  have R8 := Box'.mk (R6.out.below hb6 R6.out.lt)
  have B6 := Box'.mk (B5.out.trans (hb6.mono B5.out.size))
  clear hb6 PL R5 R6 B5
  go_wp2_with fail
  refine P6.out.mono ?_
  rintro e w7 ⟨g3, rfl, hr7, hb7⟩
  have R9 := Box'.mk (R7.out.below hb7 R7.out.lt)
  have Ra := Box'.mk (R8.out.below hb7 R8.out.lt)
  have B7 := Box'.mk (B6.out.trans (hb7.mono B6.out.size))
  have Rb := Box'.mk hr7
  have A3 := Box'.mk (apply_any sa (.slice none 0 0) [] (by decide) w7 ⟨_, _, rfl, Nat.le_refl _, .inl rfl⟩)
  rw [show apF sa [] = pl from rfl, lit_a, lit_p] at A3
  clear hr7 hb7 P6 R7 R8 B6
  have R9_0 : w7.cell? ⟨g1, 0, none⟩ = some (.int .i64 1) := R9.out.cell 0
  have R9_1 : w7.cell? ⟨g1, 1, none⟩ = some (.int .i64 (-1)) := R9.out.cell 1
  have R9_2 : w7.cell? ⟨g1, 2, none⟩ = some (.bool true) := R9.out.cell 2
  have R9_3 : w7.cell? ⟨g1, 3, none⟩ = some (.bool false) := R9.out.cell 3
  have R9_4 : w7.cell? ⟨g1, 4, none⟩ = some (.bool false) := R9.out.cell 4
  have R9_5 : w7.cell? ⟨g1, 5, none⟩ = some (.bool false) := R9.out.cell 5
  have R9_6 : w7.cell? ⟨g1, 6, none⟩ = some (.bool false) := R9.out.cell 6
  have R9_7 : w7.cell? ⟨g1, 7, none⟩ = some (.bool false) := R9.out.cell 7
  have R9_8 : w7.cell? ⟨g1, 8, none⟩ = some (.bool false) := R9.out.cell 8
  have R9_9 : w7.cell? ⟨g1, 9, none⟩ = some (.bool false) := R9.out.cell 9
  go_wp2_with fail
  refine A3.out.mono ?_
  rintro e w8 ⟨rfl, hb8⟩
  have Rc := Box'.mk (Ra.out.below hb8 Ra.out.lt)
  have Rd := Box'.mk (Rb.out.below hb8 Rb.out.lt)
  have B8 := Box'.mk (B7.out.trans (hb8.mono B7.out.size))
  have RP := Box'.mk (refPlain_any w8)
  rw [lit_p] at RP
  clear R9_0 R9_1 R9_2 R9_3 R9_4 R9_5 R9_6 R9_7 R9_8 R9_9 R9 Ra Rb B7 A3 hb8
  go_wp2_with fail
  refine RP.out.mono ?_
  rintro e w9 ⟨rfl, hb9⟩
  have Re := Box'.mk (Rc.out.below hb9 Rc.out.lt)
  have Rf := Box'.mk (Rd.out.below hb9 Rd.out.lt)
  have B9 := Box'.mk (B8.out.trans (hb9.mono B8.out.size))
  clear Rc Rd B8 hb9 RP
  have Re_0 : w9.cell? ⟨g2, 0, none⟩ = some (.int .i64 200) := Re.out.cell 0
  have Re_1 : w9.cell? ⟨g2, 1, none⟩ = some (.int .i64 (-1)) := Re.out.cell 1
  have Re_2 : w9.cell? ⟨g2, 2, none⟩ = some (.bool true) := Re.out.cell 2
  have Re_3 : w9.cell? ⟨g2, 3, none⟩ = some (.bool false) := Re.out.cell 3
  have Re_4 : w9.cell? ⟨g2, 4, none⟩ = some (.bool false) := Re.out.cell 4
  have Re_5 : w9.cell? ⟨g2, 5, none⟩ = some (.bool true) := Re.out.cell 5
  have Re_6 : w9.cell? ⟨g2, 6, none⟩ = some (.bool false) := Re.out.cell 6
  have Re_7 : w9.cell? ⟨g2, 7, none⟩ = some (.bool false) := Re.out.cell 7
  have Re_8 : w9.cell? ⟨g2, 8, none⟩ = some (.bool false) := Re.out.cell 8
  have Re_9 : w9.cell? ⟨g2, 9, none⟩ = some (.bool false) := Re.out.cell 9
  have h19 : w9.cell? ⟨g3, 19, none⟩ = some (.int .u8 0) := Rf.out.cell 19
  clear Re Rf
  go_wp2_with fail
  go_ret
  exact ⟨rfl, B9.out⟩
end Go.Proofs.Ytnlladjkajmpoaa
