/- CellChanges, walked. -/
import Derived.Test.YtnlladjkajmpoaaCc
import Derived.Test.YtnlladjkajmpoaaZ
import Derived.Test.YtnlladjkajmpoaaB
namespace Go.Proofs.Ytnlladjkajmpoaa
open Go.RowKit Go.BigFrame
set_option linter.unusedVariables false
set_option linter.unusedSimpArgs false

theorem wpList_eqlG {ops : Array Oper} {rest : List Oper} {op : Oper} {a : Act} {w : World} {Q : Exit → Act → World → Prop} (hw : Region.wanted op (yielded ops a.tmps) = true) (ty : TypeId) (x y : Operand) (ho : op.op = .binOp .eql 24 x y ty) (s t : St) (hx : a.eval x = .agg (sA s)) (hy : a.eval y = .agg (sA t)) (r : Bool) (hr : stB s t = r)
    (h : wpList Try.prog ops Q rest (a.put op.dst (.bool r)) w) : wpList Try.prog ops Q (op :: rest) a w := by
  refine wpList_step fun K hK => ?_
  rw [if_pos hw]
  exact wp_val _ (run_eql_op ty x y ho s t hx hy r hr w) (hK _ _ h)
theorem OwnI.at {N : Nat} {w : World} {v : Value} {d : List Int} (h : OwnI N w v d) (hd : 0 < d.length) : ∃ g cap, v = .slice (some ⟨g, 0, none⟩) d.length cap ∧ d.length ≤ cap ∧ g < w.heap.size ∧ ∀ k, k < d.length → w.cell? ⟨g, k, none⟩ = some (.int .i64 (d.getD k 0)) := by
  obtain ⟨g, cap, e, _, hc, hs⟩ := h.seg hd
  exact ⟨g, cap, e, hc, hs.lt, fun k hk => hs.cell hk⟩
set_option maxRecDepth 100000 in
set_option maxHeartbeats 8000000 in
theorem changes_any (a b : St) (w : World) : Calls Try.prog 5 #[.agg (sA a), .agg (sA b)] w fun e w' => e = .returned (.bool true) ∧ Below w.heap.size w w' := by
  have CH := Box'.mk (change_any a b)
  have MA := Box'.mk (refMayStyle_any a)
  have MB := Box'.mk (refMayStyle_any b)
  have AN := Box'.mk anch_any
  have S24 := Box'.mk s24
  have U24 := Box'.mk Try.underlying24
  have LD := chF_len a b
  have IN : Box' (∀ k, k < (chF a b).length → 0 ≤ (chF a b).getD k 0 ∧ (chF a b).getD k 0 ≤ 255) := ⟨fun k hk => chF_in a b _ (by rw [List.getD_eq_getElem?_getD, List.getElem?_eq_getElem hk]; exact List.getElem_mem hk)⟩
  have NO := Box'.mk (chF_none a b)
  have MK := Box'.mk (chF_makes a b)
  have RF : Box' (∀ wd v, Is wd.heap.size wd v (chF a b) → Calls Try.prog 19 #[.agg (sA a), v] wd fun e w' => e = .returned (.agg (sA (apF a (chF a b)))) ∧ Below wd.heap.size wd w') := ⟨fun wd v h => refApply_any a v (chF a b) (by omega) wd h⟩
  have C2 : Box' (CQ w.heap.size w a b ((w.alloc (.cells (sA a) 24)).alloc (.cells (sA b) 24))) := ⟨⟨(Row.new _ _ _).alloc _, Row.made _ _ _ _ _ rfl (by simp), ((Below.refl w.heap.size w).alloc (Nat.le_refl _) _).alloc (by simp) _, by simp⟩⟩
  obtain ⟨D, hD⟩ : ∃ D, chF a b = D := ⟨_, rfl⟩
  rw [hD] at CH LD IN NO MK RF
  clear hD
  go_enter Try.func5, Try.ntmps5
  go_upto_region 1 with (fail)
  generalize ((w.alloc (.cells (sA a) 24)).alloc (.cells (sA b) 24)) = w2 at *
  go_wp2_with (first
    | (refine wpList_load_row rfl 24 (.tmp 2) rfl w.heap.size rfl 24 (sA a) C2.out.ra _ U24.out rfl 10 S24.out rfl ?_)
    | (refine wpList_load_row rfl 24 (.tmp 3) rfl (w.heap.size + 1) rfl 24 (sA b) C2.out.rb _ U24.out rfl 10 S24.out rfl ?_))
  refine (CH.out _).mono ?_
  rintro e w3 ⟨v5, rfl, o5, hb3⟩
  have C3 := Box'.mk (C2.out.below hb3)
  have O5 := Box'.mk o5
  clear o5 hb3 C2
  go_wp2_with (first
    | (refine wpList_load_row rfl 24 (.tmp 2) rfl w.heap.size rfl 24 (sA a) C3.out.ra _ U24.out rfl 10 S24.out rfl ?_)
    | (refine wpList_load_row rfl 24 (.tmp 3) rfl (w.heap.size + 1) rfl 24 (sA b) C3.out.rb _ U24.out rfl 10 S24.out rfl ?_))
  refine (CH.out _).mono ?_
  rintro e w4 ⟨v6, rfl, o6, hb4⟩
  have C4 := Box'.mk (C3.out.below hb4)
  have P5 := Box'.mk (O5.out.below hb4)
  have P6 := Box'.mk o6
  clear o6 hb4 C3 O5 CH
  obtain ⟨a5, c5, e5, hc5⟩ := P5.out.slice
  obtain ⟨a6, c6, e6, hc6⟩ := P6.out.slice
  subst e5 e6
  obtain ⟨n, hn⟩ : ∃ n, D.length = n := ⟨_, rfl⟩
  have HN := Box'.mk hn
  have A5 : Box' (∀ k, k < n → ∃ g, a5 = some ⟨g, 0, none⟩ ∧ g < w4.heap.size ∧ w4.cell? ⟨g, k, none⟩ = some (.int .i64 (D.getD k 0))) := ⟨fun k hk => by
    obtain ⟨g, cap, e, hc, hg, hcl⟩ := P5.out.at (by omega)
    simp only [Value.slice.injEq] at e
    exact ⟨g, e.1, hg, hcl k (by omega)⟩⟩
  have A6 : Box' (∀ k, k < n → ∃ g, a6 = some ⟨g, 0, none⟩ ∧ g < w4.heap.size ∧ w4.cell? ⟨g, k, none⟩ = some (.int .i64 (D.getD k 0))) := ⟨fun k hk => by
    obtain ⟨g, cap, e, hc, hg, hcl⟩ := P6.out.at (by omega)
    simp only [Value.slice.injEq] at e
    exact ⟨g, e.1, hg, hcl k (by omega)⟩⟩
  have I5 := Box'.mk P5.out.is
  rw [hn] at LD IN hc5 hc6 I5 ⊢
  clear hn P5 P6
  have n0 : ((n : Int) != (n : Int)) = false := by simp
  have n1 : decide ((24 : Int) < (n : Int)) = false := decide_eq_false (by omega)
  go_wp2_with fail
  go_loopw [7] (fun i wr => ∃ k : Nat, k ≤ n ∧ i = .int .i64 (k : Int) ∧ Box' (Below w4.heap.size w4 wr)) (fun i _ => n - (intOf i).toNat)
  case atStart => exact ⟨0, by omega, rfl, ⟨Below.refl _ _⟩⟩
  case round =>
    obtain ⟨k, hk, rfl, BB⟩ := hrel
    by_cases hlt : k < n
    case pos =>
      obtain ⟨g5, rfl, hg5, x5⟩ := A5.out k hlt
      obtain ⟨g6, rfl, hg6, x6⟩ := A6.out k hlt
      have bc := (bcell BB.out).1
      rw [← bc _ _ hg5] at x5
      rw [← bc _ _ hg6] at x6
      obtain ⟨i1, i2⟩ := IN.out k hlt
      generalize D.getD k 0 = x at *
      have y1 : (x != x) = false := by simp
      have y2 : decide (x < 0) = false := decide_eq_false (by omega)
      have y3 : decide (255 < x) = false := decide_eq_false (by omega)
      have kn : decide ((k : Int) < (n : Int)) = true := decide_eq_true (by omega)
      clear A5 A6 bc IN RF MK NO AN MA MB I5 i1 i2 C4 hg5 hg6 HN
      go_wp2_with fail
      go_quiet (fail)
      go_wp2_with fail
      exact ⟨⟨k + 1, by omega, by go_num, ⟨Below.drewN BB.out _⟩⟩, by simp [intOf]; omega⟩
    case neg =>
      clear A5 A6 IN
      have C5 := Box'.mk (C4.out.below BB.out)
      have J5 := Box'.mk ((I5.out.below BB.out (Nat.le_refl _)).up BB.out.size)
      clear C4 I5 BB
      by_cases hq : a = b ∨ mayS a = false ∨ mayS b = false
      case pos =>
        obtain rfl := NO.out hq
        obtain rfl : n = 0 := HN.out.symm
        clear MK RF HN NO
        cases va : mayS a with
        | false =>
          go_wp2_with (first
            | (refine wpList_load_row rfl 24 (.tmp 2) rfl w.heap.size rfl 24 (sA a) C5.out.ra _ U24.out rfl 10 S24.out rfl ?_))
          refine (MA.out _).mono ?_
          rintro e w5 ⟨rfl, hb5⟩
          rw [va]
          have C6 := Box'.mk (C5.out.below hb5)
          have J6 := Box'.mk ((J5.out.below hb5 (Nat.le_refl _)).up hb5.size)
          clear hb5 C5 J5
          go_wp2_with fail
          refine (AN.out _).mono ?_
          rintro e w9 ⟨rfl, hb9⟩
          have B9 := Box'.mk (C6.out.be.trans (hb9.mono (by have := C6.out.sz; omega)))
          clear hb9
          go_wp2_with fail
          go_ret
          exact ⟨rfl, B9.out⟩
        | true =>
          cases vb : mayS b with
          | false =>
            go_wp2_with (first
              | (refine wpList_load_row rfl 24 (.tmp 2) rfl w.heap.size rfl 24 (sA a) C5.out.ra _ U24.out rfl 10 S24.out rfl ?_))
            refine (MA.out _).mono ?_
            rintro e w5 ⟨rfl, hb5⟩
            rw [va]
            have C6 := Box'.mk (C5.out.below hb5)
            have J6 := Box'.mk ((J5.out.below hb5 (Nat.le_refl _)).up hb5.size)
            clear hb5 C5 J5
            have cb0 : w5.cell? ⟨(w.heap.size + 1), 0, none⟩ = some (.int .i64 b.fg) := C6.out.rb.cell 0
            have cb1 : w5.cell? ⟨(w.heap.size + 1), 1, none⟩ = some (.int .i64 b.bg) := C6.out.rb.cell 1
            have cb2 : w5.cell? ⟨(w.heap.size + 1), 2, none⟩ = some (.bool b.b1) := C6.out.rb.cell 2
            have cb3 : w5.cell? ⟨(w.heap.size + 1), 3, none⟩ = some (.bool b.b2) := C6.out.rb.cell 3
            have cb4 : w5.cell? ⟨(w.heap.size + 1), 4, none⟩ = some (.bool b.b3) := C6.out.rb.cell 4
            have cb5 : w5.cell? ⟨(w.heap.size + 1), 5, none⟩ = some (.bool b.b4) := C6.out.rb.cell 5
            have cb6 : w5.cell? ⟨(w.heap.size + 1), 6, none⟩ = some (.bool b.b5) := C6.out.rb.cell 6
            have cb7 : w5.cell? ⟨(w.heap.size + 1), 7, none⟩ = some (.bool b.b7) := C6.out.rb.cell 7
            have cb8 : w5.cell? ⟨(w.heap.size + 1), 8, none⟩ = some (.bool b.b8) := C6.out.rb.cell 8
            have cb9 : w5.cell? ⟨(w.heap.size + 1), 9, none⟩ = some (.bool b.b9) := C6.out.rb.cell 9
            go_wp2_with fail
            refine (MB.out _).mono ?_
            rintro e w6 ⟨rfl, hb6⟩
            rw [vb]
            have C7 := Box'.mk (C6.out.below hb6)
            have J7 := Box'.mk ((J6.out.below hb6 (Nat.le_refl _)).up hb6.size)
            clear hb6 C6 J6 cb0 cb1 cb2 cb3 cb4 cb5 cb6 cb7 cb8 cb9
            go_wp2_with fail
            refine (AN.out _).mono ?_
            rintro e w9 ⟨rfl, hb9⟩
            have B9 := Box'.mk (C7.out.be.trans (hb9.mono (by have := C7.out.sz; omega)))
            clear hb9
            go_wp2_with fail
            go_ret
            exact ⟨rfl, B9.out⟩
          | true =>
            have hab : a = b := by rcases hq with h | h | h; exact h; rw [va] at h; cases h; rw [vb] at h; cases h
            have DD : Box' (stB a b = true) := ⟨stB_yes hab⟩
            clear hq hab
            go_wp2_with (first
              | (refine wpList_load_row rfl 24 (.tmp 2) rfl w.heap.size rfl 24 (sA a) C5.out.ra _ U24.out rfl 10 S24.out rfl ?_))
            refine (MA.out _).mono ?_
            rintro e w5 ⟨rfl, hb5⟩
            rw [va]
            have C6 := Box'.mk (C5.out.below hb5)
            have J6 := Box'.mk ((J5.out.below hb5 (Nat.le_refl _)).up hb5.size)
            clear hb5 C5 J5
            have cb0 : w5.cell? ⟨(w.heap.size + 1), 0, none⟩ = some (.int .i64 b.fg) := C6.out.rb.cell 0
            have cb1 : w5.cell? ⟨(w.heap.size + 1), 1, none⟩ = some (.int .i64 b.bg) := C6.out.rb.cell 1
            have cb2 : w5.cell? ⟨(w.heap.size + 1), 2, none⟩ = some (.bool b.b1) := C6.out.rb.cell 2
            have cb3 : w5.cell? ⟨(w.heap.size + 1), 3, none⟩ = some (.bool b.b2) := C6.out.rb.cell 3
            have cb4 : w5.cell? ⟨(w.heap.size + 1), 4, none⟩ = some (.bool b.b3) := C6.out.rb.cell 4
            have cb5 : w5.cell? ⟨(w.heap.size + 1), 5, none⟩ = some (.bool b.b4) := C6.out.rb.cell 5
            have cb6 : w5.cell? ⟨(w.heap.size + 1), 6, none⟩ = some (.bool b.b5) := C6.out.rb.cell 6
            have cb7 : w5.cell? ⟨(w.heap.size + 1), 7, none⟩ = some (.bool b.b7) := C6.out.rb.cell 7
            have cb8 : w5.cell? ⟨(w.heap.size + 1), 8, none⟩ = some (.bool b.b8) := C6.out.rb.cell 8
            have cb9 : w5.cell? ⟨(w.heap.size + 1), 9, none⟩ = some (.bool b.b9) := C6.out.rb.cell 9
            go_wp2_with fail
            refine (MB.out _).mono ?_
            rintro e w6 ⟨rfl, hb6⟩
            rw [vb]
            have C7 := Box'.mk (C6.out.below hb6)
            have J7 := Box'.mk ((J6.out.below hb6 (Nat.le_refl _)).up hb6.size)
            clear hb6 C6 J6 cb0 cb1 cb2 cb3 cb4 cb5 cb6 cb7 cb8 cb9
            have ca0 : w6.cell? ⟨w.heap.size, 0, none⟩ = some (.int .i64 a.fg) := C7.out.ra.cell 0
            have ca1 : w6.cell? ⟨w.heap.size, 1, none⟩ = some (.int .i64 a.bg) := C7.out.ra.cell 1
            have ca2 : w6.cell? ⟨w.heap.size, 2, none⟩ = some (.bool a.b1) := C7.out.ra.cell 2
            have ca3 : w6.cell? ⟨w.heap.size, 3, none⟩ = some (.bool a.b2) := C7.out.ra.cell 3
            have ca4 : w6.cell? ⟨w.heap.size, 4, none⟩ = some (.bool a.b3) := C7.out.ra.cell 4
            have ca5 : w6.cell? ⟨w.heap.size, 5, none⟩ = some (.bool a.b4) := C7.out.ra.cell 5
            have ca6 : w6.cell? ⟨w.heap.size, 6, none⟩ = some (.bool a.b5) := C7.out.ra.cell 6
            have ca7 : w6.cell? ⟨w.heap.size, 7, none⟩ = some (.bool a.b7) := C7.out.ra.cell 7
            have ca8 : w6.cell? ⟨w.heap.size, 8, none⟩ = some (.bool a.b8) := C7.out.ra.cell 8
            have ca9 : w6.cell? ⟨w.heap.size, 9, none⟩ = some (.bool a.b9) := C7.out.ra.cell 9
            have cb0 : w6.cell? ⟨(w.heap.size + 1), 0, none⟩ = some (.int .i64 b.fg) := C7.out.rb.cell 0
            have cb1 : w6.cell? ⟨(w.heap.size + 1), 1, none⟩ = some (.int .i64 b.bg) := C7.out.rb.cell 1
            have cb2 : w6.cell? ⟨(w.heap.size + 1), 2, none⟩ = some (.bool b.b1) := C7.out.rb.cell 2
            have cb3 : w6.cell? ⟨(w.heap.size + 1), 3, none⟩ = some (.bool b.b2) := C7.out.rb.cell 3
            have cb4 : w6.cell? ⟨(w.heap.size + 1), 4, none⟩ = some (.bool b.b3) := C7.out.rb.cell 4
            have cb5 : w6.cell? ⟨(w.heap.size + 1), 5, none⟩ = some (.bool b.b4) := C7.out.rb.cell 5
            have cb6 : w6.cell? ⟨(w.heap.size + 1), 6, none⟩ = some (.bool b.b5) := C7.out.rb.cell 6
            have cb7 : w6.cell? ⟨(w.heap.size + 1), 7, none⟩ = some (.bool b.b7) := C7.out.rb.cell 7
            have cb8 : w6.cell? ⟨(w.heap.size + 1), 8, none⟩ = some (.bool b.b8) := C7.out.rb.cell 8
            have cb9 : w6.cell? ⟨(w.heap.size + 1), 9, none⟩ = some (.bool b.b9) := C7.out.rb.cell 9
            go_upto_region 11 with (first
              | (refine wpList_eqlG rfl 24 (.tmp 62) (.tmp 63) rfl a b rfl rfl true DD.out ?_))
            clear ca0 ca1 ca2 ca3 ca4 ca5 ca6 ca7 ca8 ca9 cb0 cb1 cb2 cb3 cb4 cb5 cb6 cb7 cb8 cb9
            go_wp2_with fail
            refine (AN.out _).mono ?_
            rintro e w9 ⟨rfl, hb9⟩
            have B9 := Box'.mk (C7.out.be.trans (hb9.mono (by have := C7.out.sz; omega)))
            clear hb9
            go_wp2_with fail
            go_ret
            exact ⟨rfl, B9.out⟩
      case neg =>
        obtain ⟨hne, hmk⟩ := MK.out hq
        have hpos : 0 < n := by rw [← HN.out]; exact List.length_pos_iff.2 hne
        rw [hmk] at RF
        clear hmk hne MK NO HN
        have va : mayS a = true := by cases h : mayS a with | true => rfl | false => exact absurd (.inr (.inl h)) hq
        have vb : mayS b = true := by cases h : mayS b with | true => rfl | false => exact absurd (.inr (.inr h)) hq
        have DD : Box' (stB a b = false) := ⟨stB_no (fun h => hq (.inl h))⟩
        clear hq
        go_wp2_with (first
          | (refine wpList_load_row rfl 24 (.tmp 2) rfl w.heap.size rfl 24 (sA a) C5.out.ra _ U24.out rfl 10 S24.out rfl ?_))
        refine (MA.out _).mono ?_
        rintro e w5 ⟨rfl, hb5⟩
        rw [va]
        have C6 := Box'.mk (C5.out.below hb5)
        have J6 := Box'.mk ((J5.out.below hb5 (Nat.le_refl _)).up hb5.size)
        clear hb5 C5 J5
        have cb0 : w5.cell? ⟨(w.heap.size + 1), 0, none⟩ = some (.int .i64 b.fg) := C6.out.rb.cell 0
        have cb1 : w5.cell? ⟨(w.heap.size + 1), 1, none⟩ = some (.int .i64 b.bg) := C6.out.rb.cell 1
        have cb2 : w5.cell? ⟨(w.heap.size + 1), 2, none⟩ = some (.bool b.b1) := C6.out.rb.cell 2
        have cb3 : w5.cell? ⟨(w.heap.size + 1), 3, none⟩ = some (.bool b.b2) := C6.out.rb.cell 3
        have cb4 : w5.cell? ⟨(w.heap.size + 1), 4, none⟩ = some (.bool b.b3) := C6.out.rb.cell 4
        have cb5 : w5.cell? ⟨(w.heap.size + 1), 5, none⟩ = some (.bool b.b4) := C6.out.rb.cell 5
        have cb6 : w5.cell? ⟨(w.heap.size + 1), 6, none⟩ = some (.bool b.b5) := C6.out.rb.cell 6
        have cb7 : w5.cell? ⟨(w.heap.size + 1), 7, none⟩ = some (.bool b.b7) := C6.out.rb.cell 7
        have cb8 : w5.cell? ⟨(w.heap.size + 1), 8, none⟩ = some (.bool b.b8) := C6.out.rb.cell 8
        have cb9 : w5.cell? ⟨(w.heap.size + 1), 9, none⟩ = some (.bool b.b9) := C6.out.rb.cell 9
        go_wp2_with fail
        refine (MB.out _).mono ?_
        rintro e w6 ⟨rfl, hb6⟩
        rw [vb]
        have C7 := Box'.mk (C6.out.below hb6)
        have J7 := Box'.mk ((J6.out.below hb6 (Nat.le_refl _)).up hb6.size)
        clear hb6 C6 J6 cb0 cb1 cb2 cb3 cb4 cb5 cb6 cb7 cb8 cb9
        have ca0 : w6.cell? ⟨w.heap.size, 0, none⟩ = some (.int .i64 a.fg) := C7.out.ra.cell 0
        have ca1 : w6.cell? ⟨w.heap.size, 1, none⟩ = some (.int .i64 a.bg) := C7.out.ra.cell 1
        have ca2 : w6.cell? ⟨w.heap.size, 2, none⟩ = some (.bool a.b1) := C7.out.ra.cell 2
        have ca3 : w6.cell? ⟨w.heap.size, 3, none⟩ = some (.bool a.b2) := C7.out.ra.cell 3
        have ca4 : w6.cell? ⟨w.heap.size, 4, none⟩ = some (.bool a.b3) := C7.out.ra.cell 4
        have ca5 : w6.cell? ⟨w.heap.size, 5, none⟩ = some (.bool a.b4) := C7.out.ra.cell 5
        have ca6 : w6.cell? ⟨w.heap.size, 6, none⟩ = some (.bool a.b5) := C7.out.ra.cell 6
        have ca7 : w6.cell? ⟨w.heap.size, 7, none⟩ = some (.bool a.b7) := C7.out.ra.cell 7
        have ca8 : w6.cell? ⟨w.heap.size, 8, none⟩ = some (.bool a.b8) := C7.out.ra.cell 8
        have ca9 : w6.cell? ⟨w.heap.size, 9, none⟩ = some (.bool a.b9) := C7.out.ra.cell 9
        have cb0 : w6.cell? ⟨(w.heap.size + 1), 0, none⟩ = some (.int .i64 b.fg) := C7.out.rb.cell 0
        have cb1 : w6.cell? ⟨(w.heap.size + 1), 1, none⟩ = some (.int .i64 b.bg) := C7.out.rb.cell 1
        have cb2 : w6.cell? ⟨(w.heap.size + 1), 2, none⟩ = some (.bool b.b1) := C7.out.rb.cell 2
        have cb3 : w6.cell? ⟨(w.heap.size + 1), 3, none⟩ = some (.bool b.b2) := C7.out.rb.cell 3
        have cb4 : w6.cell? ⟨(w.heap.size + 1), 4, none⟩ = some (.bool b.b3) := C7.out.rb.cell 4
        have cb5 : w6.cell? ⟨(w.heap.size + 1), 5, none⟩ = some (.bool b.b4) := C7.out.rb.cell 5
        have cb6 : w6.cell? ⟨(w.heap.size + 1), 6, none⟩ = some (.bool b.b5) := C7.out.rb.cell 6
        have cb7 : w6.cell? ⟨(w.heap.size + 1), 7, none⟩ = some (.bool b.b7) := C7.out.rb.cell 7
        have cb8 : w6.cell? ⟨(w.heap.size + 1), 8, none⟩ = some (.bool b.b8) := C7.out.rb.cell 8
        have cb9 : w6.cell? ⟨(w.heap.size + 1), 9, none⟩ = some (.bool b.b9) := C7.out.rb.cell 9
        go_upto_region 12 with (first
          | (refine wpList_eqlG rfl 24 (.tmp 62) (.tmp 63) rfl a b rfl rfl false DD.out ?_))
        clear ca0 ca1 ca2 ca3 ca4 ca5 ca6 ca7 ca8 ca9 cb0 cb1 cb2 cb3 cb4 cb5 cb6 cb7 cb8 cb9
        have nn : decide ((0 : Int) < (n : Int)) = true := decide_eq_true (by omega)
        clear MA MB va vb DD
        refine wp_region_growg 13 (by kernel_rfl) 85 rfl (by kernel_rfl) (fun wa wb => Below wa.heap.size wa wb) (fun wa => CQ w.heap.size w a b wa ∧ Is wa.heap.size wa (.slice a5 n c5) D) (fun kc wa v => match kc with
          | 0 => v = .bool true
          | 1 => v = .bool true
          | 2 => v = .slice a5 n c5
          | 3 => v = .int .i64 (n : Int)
          | 4 => v = .bool true
          | 5 => v = .bool true
          | 6 => v = .bool true
          | 7 => v = .agg (sA a)
          | 8 => v = .slice a5 n c5
          | 9 => v = .agg (sA b)
          | 10 => v = .agg (sA b)
          | 11 => v = .bool true
          | 12 => v = .bool true
          | _ => True) ?_ ?_ ?_ ?_ ?_ ?_
        · intro i o' j b' hi hg wa v hC hV
          have hlt : i < 13 := by rcases Nat.lt_or_ge i 13 with q | q; exact q; rw [List.getElem?_eq_none (by simpa using q)] at hi; cases hi
          revert hi hg hV
          rcases (show i = 0 ∨ i = 1 ∨ i = 2 ∨ i = 3 ∨ i = 4 ∨ i = 5 ∨ i = 6 ∨ i = 7 ∨ i = 8 ∨ i = 9 ∨ i = 10 ∨ i = 11 ∨ i = 12 by omega) with rfl | rfl | rfl | rfl | rfl | rfl | rfl | rfl | rfl | rfl | rfl | rfl | rfl <;>
            (intro hi hg hV; simp only [List.take_succ_cons, List.getElem?_cons_zero, List.getElem?_cons_succ, Option.some.injEq] at hi; subst hi; first | (cases hg; exact hV) | (cases hg))
        · rintro wa wb hb ⟨q1, q2⟩; exact ⟨q1.below hb, (q2.below hb (Nat.le_refl _)).up hb.size⟩
        · intro kc v wa wb hC1 hb h
          match kc, h with
          | 0, h => exact h
          | 1, h => exact h
          | 2, h => exact h
          | 3, h => exact h
          | 4, h => exact h
          | 5, h => exact h
          | 6, h => exact h
          | 7, h => exact h
          | 8, h => exact h
          | 9, h => exact h
          | 10, h => exact h
          | 11, h => exact h
          | 12, h => exact h
          | kc + 13, h => trivial
        · exact ⟨C7.out.drew, J7.out⟩
        · refine ⟨?_, ?_, ?_, ?_, ?_, ?_, ?_, ?_, ?_, ?_, ?_, ?_, ?_, trivial⟩
          · intro f wq hC hd KK hK
            clear hd
            simp only [List.take_succ_cons, List.take_zero, setAll, List.setIfInBounds_toArray, List.set_cons_succ, List.set_cons_zero, Nat.zero_add, Nat.reduceAdd] at hK ⊢
            exact wp_call 17 #[] (by simp [go_sem]) _ _ (AN.out wq) (fun w' hb => hK _ _ rfl hb)
          · intro f wq hC hd KK hK
            have g0 : f 0 = .bool true := hd 0 (by kernel_rfl)
            clear hd
            simp only [List.take_succ_cons, List.take_zero, setAll, List.setIfInBounds_toArray, List.set_cons_succ, List.set_cons_zero, Nat.zero_add, Nat.reduceAdd, g0] at hK ⊢
            refine wp_of_quiet rfl ?_
            go_big_quiet_step (fail)
            exact wpQuiet_nil (hK _ _ (rfl) (Below.refl _ _))
          · intro f wq hC hd KK hK
            clear hd
            simp only [List.take_succ_cons, List.take_zero, setAll, List.setIfInBounds_toArray, List.set_cons_succ, List.set_cons_zero, Nat.zero_add, Nat.reduceAdd] at hK ⊢
            refine wp_unguard ?_
            refine wp_of_quiet rfl ?_
            go_big_quiet_step (fail)
            exact wpQuiet_nil (hK _ _ (rfl) (Below.refl _ _))
          · intro f wq hC hd KK hK
            have g2 : f 2 = .slice a5 n c5 := hd 2 (by kernel_rfl)
            clear hd
            simp only [List.take_succ_cons, List.take_zero, setAll, List.setIfInBounds_toArray, List.set_cons_succ, List.set_cons_zero, Nat.zero_add, Nat.reduceAdd, g2] at hK ⊢
            refine wp_unguard ?_
            refine wp_of_quiet rfl ?_
            go_big_quiet_step (fail)
            exact wpQuiet_nil (hK _ _ (rfl) (Below.refl _ _))
          · intro f wq hC hd KK hK
            have g3 : f 3 = .int .i64 (n : Int) := hd 3 (by kernel_rfl)
            clear hd
            have hp := nn
            simp only [List.take_succ_cons, List.take_zero, setAll, List.setIfInBounds_toArray, List.set_cons_succ, List.set_cons_zero, Nat.zero_add, Nat.reduceAdd, g3] at hK ⊢
            refine wp_unguard ?_
            refine wp_of_quiet rfl ?_
            go_big_quiet_step (fail)
            exact wpQuiet_nil (hK _ _ (by first | rfl | simp [nn]) (Below.refl _ _))
          · intro f wq hC hd KK hK
            have g1 : f 1 = .bool true := hd 1 (by kernel_rfl)
            have g4 : f 4 = .bool true := hd 4 (by kernel_rfl)
            clear hd
            simp only [List.take_succ_cons, List.take_zero, setAll, List.setIfInBounds_toArray, List.set_cons_succ, List.set_cons_zero, Nat.zero_add, Nat.reduceAdd, g1, g4] at hK ⊢
            refine wp_of_quiet rfl ?_
            go_big_quiet_step (fail)
            exact wpQuiet_nil (hK _ _ (rfl) (Below.refl _ _))
          · intro f wq hC hd KK hK
            have g5 : f 5 = .bool true := hd 5 (by kernel_rfl)
            clear hd
            simp only [List.take_succ_cons, List.take_zero, setAll, List.setIfInBounds_toArray, List.set_cons_succ, List.set_cons_zero, Nat.zero_add, Nat.reduceAdd, g5] at hK ⊢
            refine wp_of_quiet rfl ?_
            go_big_quiet_step (fail)
            exact wpQuiet_nil (hK _ _ (rfl) (Below.refl _ _))
          · intro f wq hC hd KK hK
            clear hd
            have hR : Row wq w.heap.size 24 (sA a) := hC.1.ra
            have c0 : wq.cell? ⟨w.heap.size, 0, none⟩ = some (.int .i64 a.fg) := hR.cell 0
            have c1 : wq.cell? ⟨w.heap.size, 1, none⟩ = some (.int .i64 a.bg) := hR.cell 1
            have c2 : wq.cell? ⟨w.heap.size, 2, none⟩ = some (.bool a.b1) := hR.cell 2
            have c3 : wq.cell? ⟨w.heap.size, 3, none⟩ = some (.bool a.b2) := hR.cell 3
            have c4 : wq.cell? ⟨w.heap.size, 4, none⟩ = some (.bool a.b3) := hR.cell 4
            have c5 : wq.cell? ⟨w.heap.size, 5, none⟩ = some (.bool a.b4) := hR.cell 5
            have c6 : wq.cell? ⟨w.heap.size, 6, none⟩ = some (.bool a.b5) := hR.cell 6
            have c7 : wq.cell? ⟨w.heap.size, 7, none⟩ = some (.bool a.b7) := hR.cell 7
            have c8 : wq.cell? ⟨w.heap.size, 8, none⟩ = some (.bool a.b8) := hR.cell 8
            have c9 : wq.cell? ⟨w.heap.size, 9, none⟩ = some (.bool a.b9) := hR.cell 9
            clear hC hR
            simp only [List.take_succ_cons, List.take_zero, setAll, List.setIfInBounds_toArray, List.set_cons_succ, List.set_cons_zero, Nat.zero_add, Nat.reduceAdd] at hK ⊢
            refine wp_unguard ?_
            refine wp_of_quiet rfl ?_
            go_big_quiet_step (fail)
            exact wpQuiet_nil (hK _ _ (rfl) (Below.refl _ _))
          · intro f wq hC hd KK hK
            clear hd
            simp only [List.take_succ_cons, List.take_zero, setAll, List.setIfInBounds_toArray, List.set_cons_succ, List.set_cons_zero, Nat.zero_add, Nat.reduceAdd] at hK ⊢
            refine wp_unguard ?_
            refine wp_of_quiet rfl ?_
            go_big_quiet_step (fail)
            exact wpQuiet_nil (hK _ _ (rfl) (Below.refl _ _))
          · intro f wq hC hd KK hK
            have g7 : f 7 = .agg (sA a) := hd 7 (by kernel_rfl)
            have g8 : f 8 = .slice a5 n c5 := hd 8 (by kernel_rfl)
            clear hd
            simp only [List.take_succ_cons, List.take_zero, setAll, List.setIfInBounds_toArray, List.set_cons_succ, List.set_cons_zero, Nat.zero_add, Nat.reduceAdd, g7, g8] at hK ⊢
            refine wp_unguard ?_
            exact wp_call 19 #[.agg (sA a), .slice a5 n c5] (by simp [go_sem]) _ _ (RF.out wq _ hC.2) (fun w' hb => hK _ _ rfl hb)
          · intro f wq hC hd KK hK
            clear hd
            have hR : Row wq (w.heap.size + 1) 24 (sA b) := hC.1.rb
            have c0 : wq.cell? ⟨(w.heap.size + 1), 0, none⟩ = some (.int .i64 b.fg) := hR.cell 0
            have c1 : wq.cell? ⟨(w.heap.size + 1), 1, none⟩ = some (.int .i64 b.bg) := hR.cell 1
            have c2 : wq.cell? ⟨(w.heap.size + 1), 2, none⟩ = some (.bool b.b1) := hR.cell 2
            have c3 : wq.cell? ⟨(w.heap.size + 1), 3, none⟩ = some (.bool b.b2) := hR.cell 3
            have c4 : wq.cell? ⟨(w.heap.size + 1), 4, none⟩ = some (.bool b.b3) := hR.cell 4
            have c5 : wq.cell? ⟨(w.heap.size + 1), 5, none⟩ = some (.bool b.b4) := hR.cell 5
            have c6 : wq.cell? ⟨(w.heap.size + 1), 6, none⟩ = some (.bool b.b5) := hR.cell 6
            have c7 : wq.cell? ⟨(w.heap.size + 1), 7, none⟩ = some (.bool b.b7) := hR.cell 7
            have c8 : wq.cell? ⟨(w.heap.size + 1), 8, none⟩ = some (.bool b.b8) := hR.cell 8
            have c9 : wq.cell? ⟨(w.heap.size + 1), 9, none⟩ = some (.bool b.b9) := hR.cell 9
            clear hC hR
            simp only [List.take_succ_cons, List.take_zero, setAll, List.setIfInBounds_toArray, List.set_cons_succ, List.set_cons_zero, Nat.zero_add, Nat.reduceAdd] at hK ⊢
            refine wp_unguard ?_
            refine wp_of_quiet rfl ?_
            go_big_quiet_step (fail)
            exact wpQuiet_nil (hK _ _ (rfl) (Below.refl _ _))
          · intro f wq hC hd KK hK
            have g9 : f 9 = .agg (sA b) := hd 9 (by kernel_rfl)
            have g10 : f 10 = .agg (sA b) := hd 10 (by kernel_rfl)
            clear hd
            simp only [List.take_succ_cons, List.take_zero, setAll, List.setIfInBounds_toArray, List.set_cons_succ, List.set_cons_zero, Nat.zero_add, Nat.reduceAdd, g9, g10] at hK ⊢
            refine wp_unguard ?_
            refine wp_val _ (run_eql_op 24 (.tmp 81) (.tmp 82) rfl b b rfl rfl true (stB_yes rfl) _) ?_
            exact hK _ _ rfl (Below.refl _ _)
          · intro f wq hC hd KK hK
            have g6 : f 6 = .bool true := hd 6 (by kernel_rfl)
            have g11 : f 11 = .bool true := hd 11 (by kernel_rfl)
            clear hd
            simp only [List.take_succ_cons, List.take_zero, setAll, List.setIfInBounds_toArray, List.set_cons_succ, List.set_cons_zero, Nat.zero_add, Nat.reduceAdd, g6, g11] at hK ⊢
            refine wp_of_quiet rfl ?_
            go_big_quiet_step (fail)
            exact wpQuiet_nil (hK _ _ (rfl) (Below.refl _ _))
        · intro f wz hC hv
          have p0 : f 0 = .bool true := hv 0 (by decide)
          have p1 : f 1 = .bool true := hv 1 (by decide)
          have p2 : f 2 = .slice a5 n c5 := hv 2 (by decide)
          have p3 : f 3 = .int .i64 (n : Int) := hv 3 (by decide)
          have p4 : f 4 = .bool true := hv 4 (by decide)
          have p5 : f 5 = .bool true := hv 5 (by decide)
          have p6 : f 6 = .bool true := hv 6 (by decide)
          have p7 : f 7 = .agg (sA a) := hv 7 (by decide)
          have p8 : f 8 = .slice a5 n c5 := hv 8 (by decide)
          have p9 : f 9 = .agg (sA b) := hv 9 (by decide)
          have p10 : f 10 = .agg (sA b) := hv 10 (by decide)
          have p11 : f 11 = .bool true := hv 11 (by decide)
          have p12 : f 12 = .bool true := hv 12 (by decide)
          simp only [List.take_succ_cons, List.take_zero, List.drop_succ_cons, List.drop_zero, setAll, List.setIfInBounds_toArray, List.set_cons_succ, List.set_cons_zero, Nat.zero_add, Nat.reduceAdd, p0, p1, p2, p3, p4, p5, p6, p7, p8, p9, p10, p11, p12]
          clear hv p0 p1 p2 p3 p4 p5 p6 p7 p8 p9 p10 p11 p12
          have B9 := Box'.mk hC.1.be
          clear hC AN RF
          go_wp2_with fail
          go_ret
          exact ⟨rfl, B9.out⟩
end Go.Proofs.Ytnlladjkajmpoaa
