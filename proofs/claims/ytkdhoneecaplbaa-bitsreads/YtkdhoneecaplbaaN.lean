/- The walk of BitsBack. -/
import Derived.Test.YtkdhoneecaplbaaK
namespace Go.Proofs.Ytkdhoneecaplbaa
open Go.RowKit Go.BigFrame

theorem may_rev (v : Nat) (s : Nat) (hs : s ≤ 64) : Gf.may (Gf.rev v s, (s : Int)) = true :=
  decide_eq_true ⟨by show (0 : Int) ≤ (s : Int); omega, by show (s : Int) ≤ 64; omega, by show Gf.rev v s < 2 ^ (s : Int).toNat; rw [Int.toNat_natCast]; exact Gf.rev_lt v s⟩

set_option maxRecDepth 100000 in
set_option maxHeartbeats 4000000 in
theorem back_any (v : Value) (l : List (Nat × Int)) (hl : l.length ≤ 140737488355328) (w : World) (h : Prs w.heap.size w v l) :
    Calls Try.prog 5 #[v] w fun e w' => e = .returned (.bool true) ∧ Below w.heap.size w w' := by
  have up : ∀ {W : World}, Below w.heap.size w W → Prs W.heap.size W v l := fun hW => (h.below hW (Nat.le_refl _)).up hW.size
  have h1 := write_any v l hl w h
  have h3 : ∀ {W : World}, Below w.heap.size w W → _ := fun {W} hW => count_any v l hl W (up hW)
  have H3 := Box'.mk @h3
  have ha := fun w => anchored_any w
  clear h3 up
  obtain ⟨a, c, rfl, hc, h64, h4⟩ := h
  rcases Gf.cntE_cases l with ⟨e1, hm, ht⟩ | hbad
  · have eN : Gf.cntN l = (Gf.tot l : Int) := if_pos e1
    rw [e1] at h1 H3
    rw [eN] at H3
    have hcl : ∀ k, k < l.length → ∃ b o, a = some ⟨b, o, none⟩ ∧ b < w.heap.size ∧ w.cell? ⟨b, o + k * 2, none⟩ = some (.int .u64 ((l.getD k (0, 0)).1 : Int)) ∧ w.cell? ⟨b, o + k * 2 + 1, none⟩ = some (.int .i64 (l.getD k (0, 0)).2) ∧ (l.getD k (0, 0)).1 < 18446744073709551616 := by
      intro k hk
      rcases h4 with rfl | ⟨b, o, rfl, h5, h6⟩
      · simp at hk
      exact ⟨b, o, rfl, h5, (h6 k hk).1, (h6 k hk).2, by have := h64 l[k] (List.getElem_mem hk); simpa [hk] using this⟩
    have HCL := Box'.mk hcl
    have TT := Box'.mk (Gf.tot_take l)
    have TL := Box'.mk (Gf.tot_le l)
    have LE : Box' (l.take l.length = l) := ⟨List.take_length⟩
    have MB : Box' (∀ k, k < l.length → Gf.may (l.getD k (0, 0)) = true) := ⟨fun k hk => by
      have := hm l[k] (List.getElem_mem hk)
      simpa [hk] using this⟩
    have VR := Box'.mk (Gf.val_read l hm)
    have hvl := Gf.val_lt l hm
    have hW : Gf.wid l = (Gf.tot l + 7) / 8 := rfl
    have hW3 : Gf.wid l ≤ 65536 := by rw [hW]; omega
    have NB : Box' (Gf.num (Gf.byt (Gf.wid l) (Gf.val l)) = Gf.val l) := ⟨Gf.num_byt _ _ (Nat.lt_of_lt_of_le hvl (by
      rw [show (256 : Nat) = 2 ^ 8 from rfl, ← Nat.pow_mul]; exact Nat.pow_le_pow_right (by decide) (by omega)))⟩
    have HT : Box' (Gf.tot l = Gf.tot l) := ⟨rfl⟩
    generalize hT : Gf.tot l = T at *
    have hWr : ∀ W' u, Wrote w W' l u → ∃ g, u = .slice (some ⟨g, 0, none⟩) (Gf.wid l) (Gf.wid l) ∧ w.heap.size ≤ g ∧ Row W' g 5 (ag (Gf.byt (Gf.wid l) (Gf.val l))) := fun W' u hh => by
      rcases hh with ⟨_, hh⟩ | ⟨hh, _⟩
      · exact hh
      · exact absurd e1 hh
    have HWr := Box'.mk hWr
    generalize hWW : Gf.wid l = W at *
    have lB := Gf.byt_len W (Gf.val l)
    generalize Gf.byt W (Gf.val l) = R at *
    generalize hn : l.length = n at *
    have HW := Box'.mk hW
    have HT2 := Box'.mk hT
    clear hcl h4 h64 hT hWW hn e1 eN hm hW hWr hvl
    go_enter Try.func5, Try.ntmps5
    go_wp2_with fail
    refine h1.mono ?_
    rintro e w1 ⟨u1, rfl, p1, b1⟩
    obtain ⟨g, rfl, hg, r1⟩ := HWr.out _ _ p1
    clear p1 HWr h1
    go_wp2_with fail
    refine (H3.out b1).mono ?_
    rintro e w2 ⟨rfl, b2⟩
    have r2 := r1.below b2 r1.lt
    have bl2 := b1.trans (b2.mono b1.size)
    clear r1 b1 b2 H3
    go_wp2_with fail
    go_loopw [7, 8] (fun t i wr => ∃ k p : Nat, k ≤ n ∧ i = .int .i64 (k : Int) ∧ t = .int .i64 (p : Int) ∧ p ≤ 524288 ∧ Box' (p = Gf.tot (l.take k)) ∧ Row wr g 5 (ag R) ∧ Below w.heap.size w wr) (fun _ i _ => n - (intOf i).toNat)
    case atStart => exact ⟨0, 0, by omega, rfl, rfl, by omega, ⟨by simp [Gf.tot]⟩, r2, bl2⟩
    case round =>
      obtain ⟨k, p, hk, rfl, rfl, hp, HP, r3, hbl⟩ := hrel
      by_cases hlt : k < n
      · obtain ⟨b, o, rfl, hbw, c0, c1, hx64⟩ := HCL.out k hlt
        have TK := Box'.mk (TT.out k hlt)
        have T1 := Box'.mk (TL.out (k + 1))
        have hmay := MB.out k hlt
        have hvr := VR.out k hlt
        obtain ⟨hc0, -⟩ := bcell hbl
        rw [← hc0 _ _ hbw] at c0 c1
        have hbs := hbl.size
        clear hc0
        generalize l.getD k (0, 0) = x at *
        obtain ⟨xv, xs⟩ := x
        simp only at c0 c1 hx64 hvr
        have hxs : 0 ≤ xs ∧ xs ≤ 64 := by unfold Gf.may at hmay; have := of_decide_eq_true hmay; exact ⟨this.1, this.2.1⟩
        have hxl : xv < 2 ^ xs.toNat := by unfold Gf.may at hmay; have := of_decide_eq_true hmay; exact this.2.2
        obtain ⟨s, rfl⟩ : ∃ s : Nat, xs = (s : Int) := ⟨xs.toNat, by omega⟩
        rw [Int.toNat_natCast] at hxl hvr
        have hs : s ≤ 64 := by omega
        have hps : p + s ≤ 8 * W := by
          have h1 := TK.out
          have h2 := T1.out
          have h3 := HP.out
          have h4 := HW.out
          simp only [Int.toNat_natCast] at h1
          omega
        have hE : Gf.rdE R.length (p : Int) (s : Int) = 0 := by
          unfold Gf.rdE
          rw [if_neg (by omega), if_neg (by rw [lB]; omega)]
        have hV : Gf.rdV R (p : Int) (s : Int) = xv := by
          unfold Gf.rdV
          rw [if_pos hE, NB.out, Int.toNat_natCast, Int.toNat_natCast, HP.out, hvr]
        have hrd := read_any _ _ _ (p : Int) (s : Int) (by rw [lB]; omega) wr (r3.bts lB) (by omega)
        rw [hE, hV] at hrd
        have rv1 := fun w => reverse_any xv hx64 (s : Int) w
        have hr64 : Gf.rev xv s < 18446744073709551616 := Nat.lt_of_lt_of_le (Gf.rev_lt xv s) (show 2 ^ s ≤ 2 ^ 64 from Nat.pow_le_pow_right (by decide) hs)
        have rv2 := fun w => reverse_any (Gf.rev xv s) hr64 (s : Int) w
        rw [show revV (xv, (s : Int)) = (Gf.rev xv s, (s : Int)) by unfold revV; rw [if_pos hmay]; simp, show revE (xv, (s : Int)) = 0 by unfold revE; rw [if_pos hmay]] at rv1
        rw [show revV (Gf.rev xv s, (s : Int)) = (xv, (s : Int)) by unfold revV; rw [if_pos (may_rev xv s hs)]; simp [Gf.rev_rev xv s hxl], show revE (Gf.rev xv s, (s : Int)) = 0 by unfold revE; rw [if_pos (may_rev xv s hs)]] at rv2
        generalize Gf.rev xv s = yv at *
        unfold bts2 at rv1 rv2
        clear hE hV hvr hxl hmay hr64 HCL TT TL MB VR
        go_wp2_with (go_at_call 12; refine hrd.mono ?_; rintro e w4 ⟨rfl, rfl⟩)
        refine (rv1 _).mono ?_
        rintro e w5 ⟨rfl, b5⟩
        have bl5 := hbl.trans (b5.mono hbs)
        have hz5 := b5.size
        have r5 := r3.below b5 r3.lt
        have hb4 : b < w4.heap.size := by omega
        have c05 : w5.cell? ⟨b, o + k * 2, none⟩ = some (.int .u64 (xv : Int)) := by rw [b5.cell (p := ⟨b, o + k * 2, none⟩) hb4]; exact c0
        have c15 : w5.cell? ⟨b, o + k * 2 + 1, none⟩ = some (.int .i64 (s : Int)) := by rw [b5.cell (p := ⟨b, o + k * 2 + 1, none⟩) hb4]; exact c1
        have hb5 : b < w5.heap.size := by omega
        clear c0 c1 b5 rv1 hrd r3
        go_wp2_with fail
        refine (rv2 _).mono ?_
        rintro e w6 ⟨rfl, b6⟩
        have hz6 := b6.size
        simp at hz6
        have bl6 : Below w.heap.size w w6 := (bl5.alloc bl5.size _).trans (b6.mono (by simp; omega))
        have r6 : Row w6 g 5 (ag R) := (r5.alloc _).below b6 (by have := r5.lt; simp; omega)
        have c06 : w6.cell? ⟨b, o + k * 2, none⟩ = some (.int .u64 (xv : Int)) := by
          rw [b6.cell (p := ⟨b, o + k * 2, none⟩) (by simp; omega), World.cell?_of_block (Below.heap_alloc _ _ _ hb5)]; exact c05
        have c16 : w6.cell? ⟨b, o + k * 2 + 1, none⟩ = some (.int .i64 (s : Int)) := by
          rw [b6.cell (p := ⟨b, o + k * 2 + 1, none⟩) (by simp; omega), World.cell?_of_block (Below.heap_alloc _ _ _ hb5)]; exact c15
        have hb6 : b < w6.heap.size := by omega
        have r7 := r6.alloc (.cells #[.int .u64 (xv : Int), .int .i64 (s : Int)] 39)
        have bl7 := bl6.alloc (o := .cells #[.int .u64 (xv : Int), .int .i64 (s : Int)] 39) bl6.size
        clear b6 rv2 c05 c15 r5 r6 bl5
        go_wp2_with fail
        go_quiet (fail)
        go_wp2_with fail
        have h1 := TK.out
        have h2 := T1.out
        have h3 := HP.out
        simp only [Int.toNat_natCast] at h1
        refine ⟨⟨k + 1, p + s, by omega, by go_num, by go_num, by omega, ⟨by omega⟩, r7.drewN nq, Below.drewN bl7 nq⟩, by simp [intOf]; omega⟩
      · obtain rfl : k = n := by omega
        have h1 := HP.out
        rw [LE.out, HT2.out] at h1
        subst h1
        have hWp : (W : Int) = ((p : Int) + 7) / 8 := by have := HW.out; omega
        clear HCL TT TL MB VR HW HT
        go_wp2_with (first | (go_at_call 11; refine (ha _).mono ?_; rintro e w6 ⟨rfl, hb6⟩) | fail)
        go_ret
        exact ⟨rfl, hbl.trans (hb6.mono hbl.size)⟩
  · have hne : Gf.cntE l ≠ 0 := by rcases hbad with h | h <;> rw [h.1] <;> decide
    have i0 : (Gf.cntE l == 0) = false := by rw [beq_eq_false_iff_ne]; exact hne
    have hWr : ∀ W' u, Wrote w W' l u → u = .slice none 0 0 := fun W' u hh => by
      rcases hh with ⟨hh, _⟩ | ⟨_, hh⟩
      · exact absurd hh hne
      · exact hh
    have HWr := Box'.mk hWr
    generalize Gf.cntE l = E at *
    clear hbad h4 h64 hne hWr
    go_enter Try.func5, Try.ntmps5
    go_wp2_with fail
    refine h1.mono ?_
    rintro e w1 ⟨u1, rfl, p1, b1⟩
    obtain rfl := HWr.out _ _ p1
    clear p1 HWr h1
    go_wp2_with fail
    refine (H3.out b1).mono ?_
    rintro e w2 ⟨rfl, b2⟩
    have bl2 := b1.trans (b2.mono b1.size)
    clear b1 b2 H3
    go_wp2_with (first | (go_at_call 11; refine (ha _).mono ?_; rintro e w6 ⟨rfl, hb6⟩) | fail)
    go_ret
    exact ⟨rfl, bl2.trans (hb6.mono bl2.size)⟩
end Go.Proofs.Ytkdhoneecaplbaa
