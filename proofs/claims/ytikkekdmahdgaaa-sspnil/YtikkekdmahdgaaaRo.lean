/- The walk of SspNil. -/
import Derived.Test.YtikkekdmahdgaaaRn
namespace Go.Proofs.Ytikkekdmahdgaaa
open Go.RowKit Go.BigFrame
set_option linter.unusedSimpArgs false
set_option linter.unusedVariables false

set_option maxRecDepth 100000 in
set_option maxHeartbeats 8000000 in
theorem nil_walk (n : UInt64)
    (H1 : ∀ w, Calls Try.prog 13 #[.pointer none, uV n, .int .i64 1, .int .i64 1] w fun e w' => ∃ (x : Ins) (a : Option Addr) (k c : Nat) (b : Bool), e = .returned (.tuple #[.agg (insA x (.slice a k c)), .bool b, .int .i64 1]) ∧ Below w.heap.size w w')
    (H2 : ∀ w, Calls Try.prog 16 #[.pointer none] w fun e w' => e = .returned (.tuple #[.int .u64 0, .int .u64 0, .int .i64 0]) ∧ Below w.heap.size w w')
    (H3 : ∀ w, Calls Try.prog 20 #[.pointer none, .agg #[.int .u64 0, uV n, .int .u64 0, .int .u64 0, .slice none 0 0]] w fun e w' => ∃ b : Bool, e = .returned (.tuple #[.bool b, .int .i64 1]) ∧ Below w.heap.size w w')
    (H4 : ∀ w, Calls Try.prog 22 #[.pointer none] w fun e w' => e = .returned (.tuple #[.int .u64 0, .agg #[.string ⟨#[]⟩]]) ∧ Below w.heap.size w w')
    (H5 : ∀ w, Calls Try.prog 10 #[.pointer none, .agg #[.string ⟨#[97]⟩]] w fun e w' => e = .returned (.int .i64 1) ∧ Below w.heap.size w w')
    (H6 : ∀ w, Calls Try.prog 11 #[.pointer none, uV n] w fun e w' => e = .returned (.int .i64 1) ∧ Below w.heap.size w w')
    (H7 : ∀ w, Calls Try.prog 23 #[.pointer none] w fun e w' => ∃ a c, e = .returned (.slice a 0 c) ∧ Below w.heap.size w w')
    (HA : ∀ w, Calls Try.prog 17 #[] w fun e w' => e = .returned (.bool true) ∧ Below w.heap.size w w') (w : World) :
    Calls Try.prog 5 #[uV n] w fun e w' => e = .returned (.bool true) ∧ Below w.heap.size w w' := by
  have H2 := Box'.mk H2
  have H3 := Box'.mk H3
  have H4 := Box'.mk H4
  have H5 := Box'.mk H5
  have H6 := Box'.mk H6
  have H7 := Box'.mk H7
  have HA := Box'.mk HA
  have h1 := H1 w
  unfold uV at *
  have hn := n.toNat_lt
  go_enter Try.func5, Try.ntmps5
  go_wp2_with fail
  refine h1.mono ?_
  rintro e w1 ⟨x, a, k, c, b, rfl, hb⟩
  have ba : Below w1.heap.size w1 (w1.alloc (.cells (insA x (.slice a k c)) 41)) := (Below.refl _ _).alloc (Nat.le_refl _) _
  have BB := Box'.mk (hb.trans (ba.mono hb.size))
  have h2 := H2.out (w1.alloc (.cells (insA x (.slice a k c)) 41))
  clear h1 hb ba H1
  unfold insA uV at *
  go_wp2_with fail
  refine h2.mono ?_
  rintro e w2 ⟨rfl, hb⟩
  replace BB := Box'.mk (BB.out.trans (hb.mono BB.out.size))
  have h3 := H3.out w2
  clear h2 hb
  go_wp2_with fail
  refine h3.mono ?_
  rintro e w3 ⟨b3, rfl, hb⟩
  replace BB := Box'.mk (BB.out.trans (hb.mono BB.out.size))
  have h4 := H4.out w3
  clear h3 hb
  go_wp2_with fail
  refine h4.mono ?_
  rintro e w4 ⟨rfl, hb⟩
  replace BB := Box'.mk (BB.out.trans (hb.mono BB.out.size))
  have ba : Below w4.heap.size w4 (w4.alloc (.cells #[.string ⟨#[]⟩] 26)) := (Below.refl _ _).alloc (Nat.le_refl _) _
  have ra := Row.new w4 26 #[.string ⟨#[]⟩]
  replace BB := Box'.mk (BB.out.trans (ba.mono BB.out.size))
  have h5 := H5.out (w4.alloc (.cells #[.string ⟨#[]⟩] 26))
  have RA := Box'.mk ra
  clear h4 hb ba ra
  go_wp2_with fail
  refine h5.mono ?_
  generalize w4.heap.size = bx at *
  rintro e w5 ⟨rfl, hb⟩
  replace BB := Box'.mk (BB.out.trans (hb.mono BB.out.size))
  replace RA := Box'.mk (RA.out.below hb RA.out.lt)
  have h6 := H6.out w5
  clear h5 hb
  go_wp2_with fail
  refine h6.mono ?_
  rintro e w6 ⟨rfl, hb⟩
  replace BB := Box'.mk (BB.out.trans (hb.mono BB.out.size))
  replace RA := Box'.mk (RA.out.below hb RA.out.lt)
  have rx : w6.cell? ⟨bx, 0, none⟩ = some (.string ⟨#[]⟩) := RA.out.cell 0
  have h7 := H7.out w6
  clear h6 hb
  go_wp2_with fail
  refine h7.mono ?_
  rintro e w7 ⟨a7, c7, rfl, hb⟩
  replace BB := Box'.mk (BB.out.trans (hb.mono BB.out.size))
  have h8 := HA.out w7
  clear h7 hb rx
  go_wp2_with fail
  refine h8.mono ?_
  rintro e w8 ⟨rfl, hb⟩
  replace BB := Box'.mk (BB.out.trans (hb.mono BB.out.size))
  clear h8 hb
  go_wp2_with fail
  go_ret
  exact ⟨rfl, BB.out⟩
end Go.Proofs.Ytikkekdmahdgaaa
