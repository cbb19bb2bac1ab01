/- Products of bytes (aes.Times) are those of a field: commutative, associative, distributive over exclusive or, with 1 as unit and no divisors of nought; and one block that the standard fixes is encrypted as it says: for every three bytes, with no condition. -/
import Derived.Test.YtbopfplkgagkiaaRows
import Derived.Test.YtbopfplkgagkiaaH
import Derived.ProofKit
import Derived.OpenShut
namespace Go.Proofs.Ytbopfplkgagkiaa.aesField
open Go.ChangeShapes Go.WideShapes Go.ChangeAt Go.RowKit
set_option linter.unusedVariables false

theorem own : ownKnob Try.prog.godebug = none := by kernel_rfl

theorem byte_of {a : Int} (h : (Lit.int .u8 a).wf = true) : ∃ x : UInt8, a = (x.toNat : Int) := by
  simp only [Lit.wf, Bool.and_eq_true, decide_eq_true_eq] at h
  have h0 : 0 ≤ a := h.1
  have h1 : a ≤ 255 := h.2
  refine ⟨UInt8.ofNat a.toNat, ?_⟩
  rw [UInt8.toNat_ofNat_of_lt' (by show a.toNat < 256; omega)]
  omega

theorem times_bx (a b c : UInt8) : Gf.times a (Gf.bx b c) = Gf.bx (Gf.times a b) (Gf.times a c) := Gf.times_xor a b c
theorem times_unit (a : UInt8) (w : World) : Calls Try.prog 7 #[.int .u8 (a.toNat : Int), .int .u8 1] w fun e w' => e = .returned (.int .u8 (a.toNat : Int)) ∧ w' = w := by
  have h := times_any a 1 w
  rw [Gf.times_one] at h; exact h
theorem eq_nought (x : UInt8) (p : Prop) [Decidable p] (h : x = 0 ↔ p) : ((x.toNat : Int) == 0) = decide p := by
  by_cases hp : p
  · have : x = 0 := h.2 hp
    subst this; simp [hp]
  · have : x ≠ 0 := fun e => hp (h.1 e)
    have h0 : x.toNat ≠ 0 := fun e => this (UInt8.toNat_inj.1 (by simpa using e))
    simp [hp]; omega

set_option maxRecDepth 100000 in
set_option maxHeartbeats 2000000 in
theorem walkB (a b c : UInt8) (w : World) :
    Calls Try.prog 6 #[.int .u8 (a.toNat : Int), .int .u8 (b.toNat : Int), .int .u8 (c.toNat : Int)] w fun e w' => e = .returned (.bool true) ∧ Below w.heap.size w w' := by
  have hx : ∀ x y : UInt8, bits .xor .u8 (x.toNat : Int) (y.toNat : Int) = ((Gf.bx x y).toNat : Int) := xor_bx
  have HT : Hid ((((Gf.times a b).toNat : Int) == 0) = (((a.toNat : Int) == 0) || ((b.toNat : Int) == 0))) := by
    show _ = _
    rw [eq_nought (Gf.times a b) (a = 0 ∨ b = 0) (Gf.times_zero_iff a b), eq_nought a (a = 0) Iff.rfl, eq_nought b (b = 0) Iff.rfl]
    simp
  go_enter Try.func6, Try.ntmps6
  go_wp2_with fail
  refine (times_any a b _).mono ?_
  rintro e w' ⟨rfl, rfl⟩
  go_wp2_with fail
  refine (times_any b a _).mono ?_
  rintro e w' ⟨rfl, rfl⟩
  rw [Gf.times_comm b a]
  go_wp2_with fail
  refine (times_any a b _).mono ?_
  rintro e w' ⟨rfl, rfl⟩
  go_wp2_with fail
  refine (times_any (Gf.times a b) c _).mono ?_
  rintro e w' ⟨rfl, rfl⟩
  rw [Gf.times_assoc]
  go_wp2_with fail
  refine (times_any b c _).mono ?_
  rintro e w' ⟨rfl, rfl⟩
  go_wp2_with fail
  refine (times_any a (Gf.times b c) _).mono ?_
  rintro e w' ⟨rfl, rfl⟩
  go_wp2_with fail
  refine (times_any a (Gf.bx b c) _).mono ?_
  rintro e w' ⟨rfl, rfl⟩
  rw [times_bx]
  go_wp2_with fail
  refine (times_any a b _).mono ?_
  rintro e w' ⟨rfl, rfl⟩
  go_wp2_with fail
  refine (times_any a c _).mono ?_
  rintro e w' ⟨rfl, rfl⟩
  go_wp2_with fail
  refine (times_unit a _).mono ?_
  rintro e w' ⟨rfl, rfl⟩
  go_wp2_with fail
  refine (anchored_any _).mono ?_
  rintro e w1 ⟨rfl, hb1⟩
  go_wp2_with fail
  refine (times_any a b _).mono ?_
  rintro e w' ⟨rfl, rfl⟩
  have H := HT.out
  clear HT
  cases h1 : ((a.toNat : Int) == 0) <;> cases h2 : ((b.toNat : Int) == 0) <;> rw [h1, h2] at H
  all_goals
    simp only [Bool.or_false, Bool.or_true] at H
    go_wp2
    go_ret
    exact ⟨rfl, hb1⟩

/-! ### THE ROW's STEP: WRITTEN OUT: LEAVE IT -/
set_option maxRecDepth 100000 in
theorem lifted (os : Os) (started : os.Started) (H : Type) (enc : TypeId × Value → H) :
    ReturnsInHanded {} Try.checked os 6 .any (Rows.aesFieldSpec.pre6 enc Try.prog Try.f6 Rows.aesFieldRow.domain false) (Rows.aesFieldSpec.post enc Try.prog Try.f6 false true false false) := by
  refine returnsInHanded_of_change (C := Try.checked) own started (by kernel_rfl) Try.func6
    (ChangeSpec.witness6 (enc := enc) (C := Try.checked) false ⟨#[], #[.int .u8 0, .int .u8 0, .int .u8 0], []⟩ 8 (by kernel_rfl) (by kernel_rfl) (by kernel_rfl) (by kernel_rfl)) ?_
  intro W base args ds gs before hval0 hW hcnd _
  have hval : ∀ (j : Nat) t v, Try.f6.params[j]? = some t → args[j]? = some v → Value.okWide Try.prog W .any base t v := hval0
  have hW' := hW
  obtain ⟨p, q, hA0, hV, rfl, hfz, hnd⟩ := hW
  have hA : DataW.TrodAll enc Try.prog W 0 (fun _ => true) true Try.f6.params.toList args.toList ds p := hA0
  rw [Try.params6] at hA hval
  obtain ⟨v0, vs0, d0, ds0, p0, q0, hargs, rfl, rfl, h0, r0⟩ := trodAll_cons hA
  obtain ⟨v1, vs1, d1, ds1, p1, q1, rfl, rfl, rfl, h1, r1⟩ := trodAll_cons r0
  obtain ⟨v2, vs2, d2, ds2, p2, q2, rfl, rfl, rfl, h2, r2⟩ := trodAll_cons r1
  obtain ⟨rfl, rfl, rfl⟩ := trodAll_nil r2
  obtain rfl : args = #[v0, v1, v2] := by cases args; simp_all
  obtain ⟨rfl, rfl⟩ := trodVars_none hV
  obtain ⟨a0, rfl, rfl, rfl, w0⟩ := open_int Try.underlying5 (hval 0 5 v0 rfl rfl) h0
  obtain ⟨a1, rfl, rfl, rfl, w1⟩ := open_int Try.underlying5 (hval 1 5 v1 rfl rfl) h1
  obtain ⟨a2, rfl, rfl, rfl, w2⟩ := open_int Try.underlying5 (hval 2 5 v2 rfl rfl) h2
  clear hA0 hval0
  simp only [List.append_nil] at hW'
  obtain ⟨x0, rfl⟩ := byte_of w0
  obtain ⟨x1, rfl⟩ := byte_of w1
  obtain ⟨x2, rfl⟩ := byte_of w2
  refine (walkB x0 x1 x2 W).mono fun e W' ⟨he, bel⟩ => ?_
  subst he
  exact ⟨_, rfl, _, _, _, [], [], [], hW', trodAll_mk1 (shut_bool Try.underlying4 _), (trodAll_cons_mk (shut_int Try.underlying5 w0) (trodAll_cons_mk (shut_int Try.underlying5 w1) (trodAll_cons_mk (shut_int Try.underlying5 w2) trodAll_mk0))), rfl, bel.frame _, fun h => by cases h⟩

theorem over : Rows.aesFieldRow.holds Try.pinned (OpenSpec.ofChange Rows.aesFieldSpec) :=
  OpenClaim.holds_of_wide 6 Try.f6 rfl rfl rfl rfl rfl rfl rfl ⟨rfl, rfl, rfl, rfl, rfl⟩ rfl rfl rfl rfl rfl (by kernel_rfl) Try.func6 (by kernel_rfl)
    (of_decide_eq_true (by kernel_rfl)) (by unfold Func.isWrapper; first | (rw [if_pos (by decide +kernel)]; kernel_rfl) | (rw [if_neg (by decide +kernel)]; exact ⟨rfl, rfl⟩))
    (fun os started H enc _ => lifted os started H enc)

/-- ████ THE STATEMENT ████ -/
theorem proved : Rows.AesFieldSaid :=
  over
end Go.Proofs.Ytbopfplkgagkiaa.aesField
namespace Go.Proofs.Ytbopfplkgagkiaa
theorem aesField_holds : Rows.AesFieldSaid := aesField.proved
#print axioms aesField_holds
end Go.Proofs.Ytbopfplkgagkiaa
