/- Apply. -/
import Derived.Test.YtnlladjkajmpoaaW
namespace Go.Proofs.Ytnlladjkajmpoaa
open Go.RowKit Go.BigFrame
set_option linter.unusedVariables false
set_option linter.unusedSimpArgs false

def lenOf : Value → Nat
  | .slice _ n _ => n
  | _ => 0
theorem results18 (tmps : Array Value) (b : Nat) (hx : tmps.getD 4 undef = .pointer (some ⟨b, 0, none⟩)) (w : World) (c : Array Value) (hr : Row w b 24 c) (hn : c.size = 10) : (results Try.f18 tmps).run Try.prog w = .ok (.agg c) w :=
  results_row (p := 4) (ty := 24) rfl tmps b hx 24 c hr _ Try.underlying24 rfl 10 s24 hn
def s0 : St := ⟨0, 0, false, false, false, false, false, false, false, false⟩
set_option maxHeartbeats 4000000 in
theorem apply_any (s : St) (v : Value) (l : List Int) (hl : l.length ≤ 140737488355328) (w : World) (h : Is w.heap.size w v l) :
    Calls Try.prog 18 #[.agg (sA s), v] w fun e w' => e = .returned (.agg (sA (apF s l))) ∧ Below w.heap.size w w' := by
  have H := Box'.mk h
  have S24 := Box'.mk s24
  have S49 := Box'.mk s49
  have RS : Box' (Row ((w.alloc (.cells (sA s) 24)).alloc (.cells (sA s0) 24)) w.heap.size 24 (sA s)) := ⟨(Row.new _ _ _).alloc _⟩
  have RM : Box' (Room ((w.alloc (.cells (sA s) 24)).alloc (.cells (sA s0) 24)) (w.heap.size + 1) 24 10) := ⟨Room.made _ _ _ _ _ rfl (by simp)⟩
  have BB : Box' (Below w.heap.size w ((w.alloc (.cells (sA s) 24)).alloc (.cells (sA s0) 24))) := ⟨((Below.refl w.heap.size w).alloc (Nat.le_refl _) _).alloc (by simp) _⟩
  have SZ : Box' (w.heap.size + 2 ≤ ((w.alloc (.cells (sA s) 24)).alloc (.cells (sA s0) 24)).heap.size) := ⟨by simp⟩
  have U24 := Box'.mk Try.underlying24
  obtain ⟨a, cp, rfl, hcp, -⟩ := h
  by_cases h0 : l = []
  · subst h0
    clear hcp hl
    have O := Box'.mk (one10 pl)
    have E : Box' (apF s [] = pl) := ⟨rfl⟩
    simp only [List.length_nil]
    go_enter Try.func18, Try.ntmps18
    go_wp2_with fail
    have PL := Box'.mk (plain_any ((w.alloc (.cells (sA s) 24)).alloc (.cells (sA s0) 24)))
    refine PL.out.mono ?_
    rintro e w1 ⟨rfl, hb1⟩
    have R1 := Box'.mk (RM.out.below hb1 (Nat.lt_of_lt_of_le (by omega) SZ.out))
    have B1 := Box'.mk (BB.out.trans (hb1.mono BB.out.size))
    clear PL RS RM BB SZ H
    go_wp2_with (first
      | (refine wpList_store_row rfl 24 (.tmp 4) (.tmp 9) rfl (w.heap.size + 1) rfl (sA pl) rfl 24 10 R1.out S24.out rfl O.out ?_))
    exact bodyPost_ret (results18 _ (w.heap.size + 1) rfl _ _ (R1.out.setRow _) rfl) rfl ⟨by rw [E.out], below_setRow B1.out (by omega) _⟩
  · have E : Box' (apF s l = apG s l) := ⟨if_neg h0⟩
    have h0n : 0 < l.length := List.length_pos_iff.2 h0
    have LO := Box'.mk (lookOf_any s ((w.alloc (.cells (sA s) 24)).alloc (.cells (sA s0) 24)))
    have O3 : Box' ((lA s).all (·.oneCell') = true) := ⟨one3 _ _ _⟩
    have SL3 : Box' ((lA s).size = 3) := ⟨rfl⟩
    obtain ⟨n, hn⟩ : ∃ n, l.length = n := ⟨_, rfl⟩
    have HN := Box'.mk hn
    rw [hn] at hl hcp h0n H ⊢
    clear hn h0
    go_enter Try.func18, Try.ntmps18
    go_wp2_with (first
      | (refine wpList_load_row rfl 24 (.tmp 2) rfl w.heap.size rfl 24 (sA s) RS.out _ U24.out rfl 10 S24.out rfl ?_))
    refine LO.out.mono ?_
    rintro e w2 ⟨rfl, hb2⟩
    generalize ((w.alloc (.cells (sA s) 24)).alloc (.cells (sA s0) 24)) = wa at *
    have RM2 := Box'.mk (RM.out.below hb2 (Nat.lt_of_lt_of_le (by omega) SZ.out))
    have BB2 := Box'.mk (BB.out.trans (hb2.mono BB.out.size))
    have SZ2 := Box'.mk (Nat.le_trans SZ.out hb2.size)
    have RG : Box' (Room (w2.alloc (.cells #[.int .i64 0, .int .i64 0, .int .u16 0] 49)) w2.heap.size 49 3) := ⟨Room.new _ _ _ _ rfl⟩
    clear LO RM BB SZ hb2 RS
    go_wp2_with (first
      | (refine wpList_store_row rfl 49 (.tmp 5) (.tmp 11) rfl w2.heap.size rfl (lA s) rfl 49 3 RG.out S49.out SL3.out O3.out ?_))
    have RG3 := Box'.mk (RG.out.setRow (lA s))
    have RM3 := Box'.mk (((RM2.out.alloc (.cells #[.int .i64 0, .int .i64 0, .int .u16 0] 49))).setRowOther w2.heap.size (lA s) (by have := SZ2.out; omega))
    have BB3 : Box' (Below w.heap.size w ((w2.alloc (.cells #[.int .i64 0, .int .i64 0, .int .u16 0] 49)).setRow w2.heap.size (lA s))) := ⟨below_setRow (BB2.out.alloc BB2.out.size _) BB2.out.size _⟩
    have hg : w.heap.size + 2 ≤ w2.heap.size := SZ2.out
    generalize ((w2.alloc (.cells #[.int .i64 0, .int .i64 0, .int .u16 0] 49)).setRow w2.heap.size (lA s)) = w3 at *
    generalize w2.heap.size = g at *
    have H3 := Box'.mk (H.out.below BB3.out (Nat.le_refl _))
    clear RG RM2 BB2 SZ2 H O3 SL3
    simp only [Act.put]
    go_loopw [1] (fun p wr => ∃ s' l', Box' (Is w.heap.size wr p l' ∧ l'.length ≤ 140737488355328 ∧ apG s' l' = apG s l) ∧ Box' (Row wr g 49 (lA s')) ∧ Box' (Room wr (w.heap.size + 1) 24 10) ∧ Box' (Below w.heap.size w wr)) (fun p _ => lenOf p)
    case atStart => exact ⟨s, l, ⟨H3.out, by rw [HN.out]; exact hl, rfl⟩, RG3, RM3, BB3⟩
    case round =>
      obtain ⟨s', l', HL, RG', RM', BB'⟩ := hrel
      clear H3 RG3 RM3 BB3
      obtain ⟨a', c', rfl, hc', -⟩ := HL.out.1
      have hl' := HL.out.2.1
      by_cases h0 : l' = []
      · have EE : Box' (apF s l = s') := ⟨by rw [E.out, ← HL.out.2.2, h0, apG_nil]⟩
        subst h0
        have O := Box'.mk (one10 s')
        have U49 := Box'.mk Try.underlying49
        clear HL hl' E
        simp only [List.length_nil]
        have ST := Box'.mk (style_any s' wr)
        go_wp2_with (first
          | (refine wpList_load_row rfl 49 (.tmp 5) rfl g rfl 49 (lA s') RG'.out _ U49.out rfl 3 S49.out rfl ?_))
        refine ST.out.mono ?_
        rintro e w4 ⟨rfl, hb4⟩
        have R4 := Box'.mk (RM'.out.below hb4 (by obtain ⟨c, h, _⟩ := RM'.out; exact h.lt))
        have B4 := Box'.mk (BB'.out.trans (hb4.mono BB'.out.size))
        clear ST RM' BB' hb4
        go_wp2_with (first
          | (refine wpList_store_row rfl 24 (.tmp 4) (.tmp 20) rfl (w.heap.size + 1) rfl (sA s') rfl 24 10 R4.out S24.out rfl O.out ?_))
        exact bodyPost_ret (results18 _ (w.heap.size + 1) rfl _ _ (R4.out.setRow _) rfl) rfl ⟨by rw [EE.out], below_setRow B4.out (by omega) _⟩
      · have hpos : 0 < l'.length := List.length_pos_iff.2 h0
        have SP := stp_pos s' l'
        have TK := Box'.mk (take_any s' g _ l' h0 hl' wr (HL.out.1.up (by omega)) RG'.out)
        have NX : Box' (apG (stp s' l').1 (l'.drop (stp s' l').2) = apG s l) := ⟨by rw [← HL.out.2.2, apG_step s' l' h0]⟩
        have IB := Box'.mk (HL.out.1.back (k := (stp s' l').2) (by omega))
        have LD : Box' ((l'.drop (stp s' l').2).length ≤ 140737488355328) := ⟨by rw [List.length_drop]; omega⟩
        generalize (stp s' l').2 = z at *
        generalize (stp s' l').1 = s2 at *
        generalize l'.drop z = l2 at *
        generalize l'.length = m at *
        have RB := Box'.mk (run_back a' m c' z (by omega) hc')
        clear HL h0 E RG'
        go_wp2_with fail
        refine TK.out.mono ?_
        rintro e w4 ⟨rfl, hr4, hb4⟩
        have R4 := Box'.mk hr4
        have M4 := Box'.mk (RM'.out.below hb4 (by omega))
        have B4 := Box'.mk (BB'.out.trans (hb4.mono (by omega)))
        have I4 := Box'.mk (IB.out.below (hb4.mono (by omega)) (Nat.le_refl _))
        clear TK RM' BB' IB hr4 hb4
        go_wp2_with (first
          | (refine wpList_slice rfl 35 (.tmp 15) (some (.tmp 17)) none none rfl (.slice (backA a' c' z) (m - z) (c' - z)) ?_ ?_; exact RB.out _))
        exact ⟨⟨s2, l2, ⟨I4.out, LD.out, NX.out⟩, R4, M4, B4⟩, by simp [lenOf]; omega⟩
end Go.Proofs.Ytnlladjkajmpoaa
