/- What the document fixes: anchored; the walk of FragmentNil. -/
import Derived.Test.YthmcmdojnnbefaaQe
import Derived.Test.YthmcmdojnnbefaaSa
namespace Go.Proofs.Ythmcmdojnnbefaa
open Go.RowKit Go.BigFrame
set_option linter.unusedVariables false

theorem sp_A : spR 7 2 [1, 2, 3] = ([⟨7, 0, false, [1, 2]⟩, ⟨7, 1, true, [3]⟩], 0) := by rfl
theorem tk_A1 : tkF ⟨0, false, []⟩ ⟨7, 1, true, [3]⟩ = (⟨7, false, [⟨1, true, [3]⟩]⟩, [], false, 0) := by rfl
theorem tk_A2 : tkF ⟨7, false, [⟨1, true, [3]⟩]⟩ ⟨7, 0, false, [1, 2]⟩ = (⟨7, true, []⟩, [1, 2, 3], true, 0) := by rfl
theorem tk_A3 : tkF ⟨7, true, []⟩ ⟨7, 0, false, [1, 2]⟩ = (⟨7, true, []⟩, [], false, 0) := by rfl
theorem OwnQ.bt2 {N jb g : Nat} {w w' : World} {v : Value} {l : List (Prt × Value)} {c : Array Value} (h : OwnQ N w v l) (hj : Row w jb 69 c) {es : Array MapEntry} {cl : Nat} (hg : w.heap[g]? = some (.map es cl)) (hb : Bt2 jb g w w') : OwnQ N w' v l := by
  refine h.same (fun k hk => ?_) fun p hp => (h.own p hp).bt2 hj (by decide) hg hb
  obtain ⟨_, cur, r⟩ := h.lt k hk
  refine hb.block k r.lt (row_ne r hj (by decide)) ?_
  rintro rfl
  unfold Row at r
  rw [r] at hg
  cases hg
/-- The bytes of parts are neither the joiner nor its map. -/
theorem OwnB.apart {N jb g : Nat} {w : World} {v : Value} {d : List UInt8} {c : Array Value} (h : OwnB N w v d) (hj : Row w jb 69 c) {es : Array MapEntry} {cl : Nat} (hg : w.heap[g]? = some (.map es cl)) : Bts (fun b => b < w.heap.size ∧ b ≠ jb ∧ b ≠ g) w v d := by
  rcases h.2 with ⟨e, e0⟩ | ⟨k, cap, cur, e1, e2, e3, e4, e5, e6, e7⟩
  · obtain rfl := List.eq_nil_of_length_eq_zero e0
    exact ⟨none, 0, e, Nat.le_refl _, .inl rfl⟩
  · have r : Row w k 5 cur := e3
    refine ⟨_, cap, e1, e4, .inr ⟨k, 0, rfl, ⟨r.lt, row_ne r hj (by decide), ?_⟩, fun j u hu => ?_⟩⟩
    · rintro rfl
      unfold Row at r
      rw [r] at hg
      cases hg
    · have hj := (List.getElem?_eq_some_iff.1 hu).1
      rw [List.length_map] at hj
      rw [Nat.zero_add, r.cell]
      rw [← e7, List.getElem?_take_of_lt (by omega)] at hu
      simpa using hu

set_option maxRecDepth 100000 in
set_option maxHeartbeats 4000000 in
theorem anchored_any (w : World) : Calls Try.prog 17 #[] w fun e w' => e = .returned (.bool true) ∧ Below w.heap.size w w' := by
  obtain ⟨w0, hw0⟩ : ∃ w0, w0 = w.alloc (.cells (ag [1, 2, 3]) 5) := ⟨_, rfl⟩
  have b0 : Below w.heap.size w w0 := by rw [hw0]; exact (Below.refl _ _).alloc (Nat.le_refl _) _
  have r0 : Row w0 w.heap.size 5 (ag [1, 2, 3]) := by rw [hw0]; exact Row.new _ _ _
  have sp := split_any w0.heap.size w0 _ _ 7 2 (Nat.le_refl _) (r0.inB (n := 3) rfl) (by simp) (by omega)
  rw [sp_A] at sp
  have HB0 := Box'.mk b0
  clear b0 r0
  have hag : (ag [1, 2, 3]) = #[.int .u8 1, .int .u8 2, .int .u8 3] := rfl
  rw [hag] at hw0
  clear hag
  go_enter Try.func17, Try.ntmps17
  go_wp2_with fail
  rw [← hw0]
  clear hw0
  refine sp.mono ?_
  rintro e1 w1 ⟨u1, qs, rfl, q1, hqs, b1⟩
  clear sp
  obtain ⟨⟨p0, v0⟩, ⟨p1, v1⟩, rfl⟩ : ∃ x y, qs = [x, y] := by
    rcases qs with _ | ⟨x, _ | ⟨y, _ | ⟨z, qs⟩⟩⟩
    · simp at hqs
    · simp at hqs
    · exact ⟨_, _, rfl⟩
    · simp at hqs
  simp only [List.map_cons, List.map_nil, List.cons.injEq, and_true] at hqs
  obtain ⟨rfl, rfl⟩ := hqs
  have HQ1 := Box'.mk q1
  obtain ⟨g1, c1, hu1, _⟩ := q1.at (k := 0) (by simp)
  simp only [List.length_cons, List.length_nil] at hu1
  subst hu1
  have HB1 := Box'.mk (HB0.out.trans (b1.mono HB0.out.size))
  clear b1 q1 HB0
  go_wp2_with fail
  refine (new_any w1).mono ?_
  rintro e2 w2 ⟨jb, g, rfl, hj1, hg1, js2, b2⟩
  have HJ2 := Box'.mk js2
  have q2 := HQ1.out.below b2
  have HQ2 := Box'.mk q2
  have HB2 := Box'.mk (HB1.out.trans (b2.mono HB1.out.size))
  obtain ⟨_, _, e, _, rg1⟩ := q2.at (k := 1) (by simp)
  injection e with e1 e2 e3
  injection e1 with e1
  injection e1 with e1
  subst e1
  have HR1 := Box'.mk rg1
  have hNj : w.heap.size ≤ jb := Nat.le_trans HB1.out.size hj1
  have hNg : w.heap.size ≤ g := Nat.le_trans HB1.out.size hg1
  clear b2 q2 js2 HQ1 HB1 e2 e3 rg1
  go_wp2_with (refine wpList_load_mid rfl 25 _ rfl _ _ rfl _ _ HR1.out Try.underlying25 rfl Try.info25 ?_)
  have j2 := HJ2.out
  obtain ⟨es2, cl2, hm2, _⟩ := j2.map
  have T1 := take_any w2 jb g _ _ j2 (JOk.new 0 (by omega) false) ⟨7, 1, true, [3]⟩ (by decide) _ v1 ((HQ2.out.own _ (by simp : ((⟨7, 1, true, [3]⟩ : Prt), v1) ∈ _)).apart j2.row hm2) (fun b hb => hb)
  rw [tk_A1] at T1
  refine T1.mono ?_
  rintro e3 w3 ⟨u3, rfl, o3, ⟨ps3, j3⟩, b3⟩
  have q3 := HQ2.out.bt2 j2.row hm2 b3
  have HB3 : Box' (Below w.heap.size w w3) := ⟨HB2.out.trans (b3.below HB2.out.size hNj hNg)⟩
  obtain ⟨a3, c3, rfl⟩ := o3.slice
  obtain ⟨_, _, e, _, rg0⟩ := q3.at (k := 0) (by simp)
  injection e with e1 e2 e3
  injection e1 with e1
  injection e1 with e1
  subst e1
  have HR3 := Box'.mk rg0
  have HJ3 := Box'.mk j3
  have HQ3 := Box'.mk q3
  clear T1 j2 hm2 q3 b3 HB2 HQ2 HJ2 HR1 e2 e3 rg0 o3 j3
  go_wp2_with (refine wpList_load_mid rfl 25 _ rfl _ _ rfl _ _ HR3.out Try.underlying25 rfl Try.info25 ?_)
  have j3 := HJ3.out
  obtain ⟨es3, cl3, hm3, _⟩ := j3.map
  have T2 := take_any w3 jb g _ _ j3 ⟨by decide, by simp, by simp, by simp⟩ ⟨7, 0, false, [1, 2]⟩ (by decide) _ v0 ((HQ3.out.own _ (by simp : ((⟨7, 0, false, [1, 2]⟩ : Prt), v0) ∈ _)).apart j3.row hm3) (fun b hb => hb)
  rw [tk_A2] at T2
  refine T2.mono ?_
  rintro e4 w4 ⟨u4, rfl, o4, ⟨ps4, j4⟩, b4⟩
  have q4 := HQ3.out.bt2 j3.row hm3 b4
  have HB4 : Box' (Below w.heap.size w w4) := ⟨HB3.out.trans (b4.below HB3.out.size hNj hNg)⟩
  obtain ⟨a4, c4, rfl⟩ := o4.slice
  obtain ⟨_, _, e, _, rg0⟩ := q4.at (k := 0) (by simp)
  injection e with e1 e2 e3
  injection e1 with e1
  injection e1 with e1
  subst e1
  have HR4 := Box'.mk rg0
  have HJ4 := Box'.mk j4
  have HQ4 := Box'.mk q4
  have HO4 := Box'.mk o4
  clear T2 j3 hm3 q4 b4 HB3 HQ3 HJ3 HR3 e2 e3 rg0 o4 j4
  go_wp2_with (refine wpList_load_mid rfl 25 _ rfl _ _ rfl _ _ HR4.out Try.underlying25 rfl Try.info25 ?_)
  have j4 := HJ4.out
  obtain ⟨es4, cl4, hm4, _⟩ := j4.map
  have T3 := take_any w4 jb g _ _ j4 (JOk.new 7 (by omega) true) ⟨7, 0, false, [1, 2]⟩ (by decide) _ v0 ((HQ4.out.own _ (by simp : ((⟨7, 0, false, [1, 2]⟩ : Prt), v0) ∈ _)).apart j4.row hm4) (fun b hb => hb)
  rw [tk_A3] at T3
  refine T3.mono ?_
  rintro e5 w5 ⟨u5, rfl, o5, ⟨ps5, j5⟩, b5⟩
  have o45 := HO4.out.bt2 j4.row (by decide) hm4 b5
  have HB5 : Box' (Below w.heap.size w w5) := ⟨HB4.out.trans (b5.below HB4.out.size hNj hNg)⟩
  obtain ⟨a5, c5, rfl⟩ := o5.slice
  have HO5 := Box'.mk o45
  clear T3 j4 hm4 b5 HB4 HQ4 HJ4 HR4 o5 j5 HO4 o45
  obtain ⟨w6, hw6⟩ : ∃ w6, w6 = w5.alloc (.cells (ag [1, 2, 3]) 5) := ⟨_, rfl⟩
  have b6 : Below w5.heap.size w5 w6 := by rw [hw6]; exact (Below.refl _ _).alloc (Nat.le_refl _) _
  have r6 : Row w6 w5.heap.size 5 (ag [1, 2, 3]) := by rw [hw6]; exact Row.new _ _ _
  have sm := refSame_any _ _ _ _ _ _ w6 (HO5.out.below b6).bts ((r6.inB (n := 3) rfl).bts)
  have HB6 := Box'.mk (HB5.out.trans (b6.mono HB5.out.size))
  have hag : (ag [1, 2, 3]) = #[.int .u8 1, .int .u8 2, .int .u8 3] := rfl
  rw [hag] at hw6
  clear hag b6 r6 HB5 HO5
  simp only [decide_true] at sm
  go_wp2_with fail
  rw [← hw6]
  clear hw6
  refine sm.mono ?_
  rintro e7 w7 ⟨rfl, hww⟩
  rw [hww]
  clear sm hww w7
  go_wp2_with fail
  go_ret
  exact ⟨rfl, HB6.out⟩
end Go.Proofs.Ythmcmdojnnbefaa
